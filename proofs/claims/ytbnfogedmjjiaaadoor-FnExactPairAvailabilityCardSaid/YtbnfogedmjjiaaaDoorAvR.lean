/- The availability of a route and of a pair of routes: contracts of PairAvailability and RouteAvailability, both sides. Condition: the table of math/bits holds what Go's text lays (on impl's side). -/
import Derived.Test.YtbnfogedmjjiaaaDoorAvQ
import Derived.Test.YtbnfogedmjjiaaaDoorAvD
import Derived.Test.YtbnfogedmjjiaaaDoorTwo
import Derived.Test.YtbnfogedmjjiaaaDoorCmp
import Derived.Test.YtbnfogedmjjiaaaDoorSplit6
namespace Go.Proofs.YtbnfogedmjjiaaaDoor
open Go.ChangeShapes Go.WideShapes Go.ChangeAt Go.RowKit

def gP (x y : Nat) (g : Nat) : Bool := decide (g &&& x = 0) || decide (g &&& y = 0)
def paP (ss : List ByteArray) (fs : List Q4) (u : Int) (ds : List Int) (st : Int) (xs : List Int) (st2 : Int) (ys : List Int) : Prop := ouP ss fs u ds ∧ crB ss fs st xs st2 ys = true
noncomputable def paB (ss : List ByteArray) (fs : List Q4) (u : Int) (ds : List Int) (st : Int) (xs : List Int) (st2 : Int) (ys : List Int) : Bool := pb (paP ss fs u ds st xs st2 ys)
noncomputable def paV (ss : List ByteArray) (fs : List Q4) (u : Int) (ds : List Int) (st : Int) (xs : List Int) (st2 : Int) (ys : List Int) : Int := if paB ss fs u ds st xs st2 ys then avS u ds fs (gP (mkN xs) (mkN ys)) else 0
noncomputable def paR (ss : List ByteArray) (fs : List Q4) (u : Int) (ds : List Int) (st : Int) (xs : List Int) (st2 : Int) (ys : List Int) : Value := .tuple #[.int .i64 (paV ss fs u ds st xs st2 ys), .bool (paB ss fs u ds st xs st2 ys)]
theorem pa_no {ss : List ByteArray} {fs : List Q4} {u : Int} {ds : List Int} {st : Int} {xs : List Int} {st2 : Int} {ys : List Int} (h : ¬ paP ss fs u ds st xs st2 ys) : (.tuple #[.int .i64 0, .bool false] : Value) = paR ss fs u ds st xs st2 ys := by
  unfold paR paV; rw [show paB ss fs u ds st xs st2 ys = false from pb_false h]; rfl
theorem pa_yes {ss : List ByteArray} {fs : List Q4} {u : Int} {ds : List Int} {st : Int} {xs : List Int} {st2 : Int} {ys : List Int} (h : paP ss fs u ds st xs st2 ys) : (.tuple #[.int .i64 (avS u ds fs (gP (mkN xs) (mkN ys))), .bool true] : Value) = paR ss fs u ds st xs st2 ys := by
  unfold paR paV; rw [show paB ss fs u ds st xs st2 ys = true from pb_true h]; rfl
theorem cr_bd {ss : List ByteArray} {fs : List Q4} {st st2 : Int} {xs ys : List Int} (h : crB ss fs st xs st2 ys = true) : (∀ k, k < xs.length → 0 ≤ nth xs k ∧ nth xs k < 20) ∧ ∀ k, k < ys.length → 0 ≤ nth ys k ∧ nth ys k < 20 := by
  obtain ⟨hv, h1, h2⟩ := cr_mem h
  exact ⟨mem_bd hv rfl h1, mem_bd hv rfl h2⟩

theorem belAlloc {w u : World} (h : Bel w u) (o : Obj) : Bel w (u.alloc o) := Bel.of ((Bel.out h).alloc (Bel.out h).size o)
theorem belCell {w u : World} (h : Bel w u) (o : Obj) {p : Addr} {v : Value} (hp : p.block < w.heap.size) (hc : u.cell? p = some v) : (u.alloc o).cell? p = some v :=
  (((Below.refl u.heap.size u).alloc (Nat.le_refl _) o).cell (Nat.lt_of_lt_of_le hp (Bel.out h).size)).trans hc
theorem belDrew {w u : World} (h : Bel w u) : Bel w u.drew := Bel.of (Bel.out h).drew
theorem belDrewC {u : World} {p : Addr} {v : Value} (h : u.cell? p = some v) : u.drew.cell? p = some v := h
theorem belStart (w : World) (o : Obj) : Bel w (w.alloc o).drew := Bel.of ((Below.refl w.heap.size w).alloc (Nat.le_refl _) o).drew
theorem belStartCell {w : World} (o : Obj) {p : Addr} {v : Value} (hp : p.block < w.heap.size) (hc : w.cell? p = some v) : (w.alloc o).drew.cell? p = some v :=
  (((Below.refl w.heap.size w).alloc (Nat.le_refl _) o).cell hp).trans hc
theorem belS2 (w : World) (o o' : Obj) : Bel w ((w.alloc o).alloc o').drew := Bel.of (((Below.refl w.heap.size w).alloc (Nat.le_refl _) o).alloc (by simp) o').drew
theorem belS3 (w : World) (o o' : Obj) (b : Nat) (hb : w.heap.size ≤ b) (x : Value) : Bel w (((w.alloc o).alloc o').setCell ⟨b, 0, none⟩ x).drew := Bel.of ((((Below.refl w.heap.size w).alloc (Nat.le_refl _) o).alloc (by simp) o').setCell (p := ⟨b, 0, none⟩) hb x).drew
theorem belS4 (w : World) (o o' : Obj) (b d : Nat) (hb : w.heap.size ≤ b) (hd : w.heap.size ≤ d) (x y : Value) : Bel w ((((w.alloc o).alloc o').setCell ⟨b, 0, none⟩ x).setCell ⟨d, 0, none⟩ y).drew := Bel.of (((((Below.refl w.heap.size w).alloc (Nat.le_refl _) o).alloc (by simp) o').setCell (p := ⟨b, 0, none⟩) hb x).setCell (p := ⟨d, 0, none⟩) hd y).drew
theorem belS5 (w : World) (o : Obj) (b : Nat) (hb : w.heap.size ≤ b) {x : Value} : Bel w ((w.alloc o).setCell ⟨b, 0, none⟩ x).drew := Bel.of (((Below.refl w.heap.size w).alloc (Nat.le_refl _) o).setCell (p := ⟨b, 0, none⟩) hb x).drew
theorem belC {w U : World} (h : Bel w U) {p : Addr} {v : Value} (hp : p.block < w.heap.size) (hc : w.cell? p = some v) : U.cell? p = some v := ((Bel.out h).cell hp).trans hc
theorem belSet1 {w u : World} {b : Nat} (h : Bel w u) (hb : w.heap.size ≤ b) (x : Value) : Bel w (u.setCell ⟨b, 0, none⟩ x) := Bel.of ((Bel.out h).setCell (p := ⟨b, 0, none⟩) hb x)
theorem belSet1C {w u : World} {b : Nat} (hb : w.heap.size ≤ b) {p : Addr} {v : Value} (hp : p.block < w.heap.size) (hc : u.cell? p = some v) (x : Value) : (u.setCell ⟨b, 0, none⟩ x).cell? p = some v := by
  have hne : p.block ≠ b := by omega
  exact (World.cell?_of_block (w := u) (w' := u.setCell ⟨b, 0, none⟩ x) (a := p) (Below.heap_setCell u ⟨b, 0, none⟩ x p.block hne)).trans hc
set_option maxRecDepth 100000 in
set_option maxHeartbeats 2000000 in
theorem goodP_ {w : World} (x y gone b1 b2 : Nat) (hx : x < 2 ^ 20) (hy : y < 2 ^ 20) (hgo : gone < 2 ^ 20) (k1 : w.cell? ⟨b1, 0, none⟩ = some (.int .i64 (x : Int))) (k2 : w.cell? ⟨b2, 0, none⟩ = some (.int .i64 (y : Int))) :
    Calls Tryd.prog 105 #[.int .i64 (gone : Int), .pointer (some ⟨b1, 0, none⟩), .pointer (some ⟨b2, 0, none⟩)] w (RetP (.bool (gP x y gone)) w) := by
  have a1 := and_i64q gone x (by omega) (by omega)
  have a2 := and_i64q gone y (by omega) (by omega)
  have hg : gP x y gone = (decide (gone &&& x = 0) || decide (gone &&& y = 0)) := rfl
  obtain ⟨p, hp⟩ : ∃ p, gone &&& x = p := ⟨_, rfl⟩
  obtain ⟨q, hq⟩ : ∃ q, gone &&& y = q := ⟨_, rfl⟩
  rw [hp] at a1 hg
  rw [hq] at a2 hg
  rw [hg]
  clear hp hq hg hx hy hgo
  by_cases hp0 : p = 0
  case pos =>
    subst hp0
    rw [show (decide ((0 : Nat) = 0) || decide (q = 0)) = true from rfl]
    go_enter Tryd.func105, Tryd.ntmps105
    go_wp2
    go_ret
    exact ⟨rfl, Below.refl _ _⟩
  case neg =>
    have p1 : ((p : Int) == 0) = false := beq_eq_false_iff_ne.2 (by omega)
    rw [decide_eq_false hp0, Bool.false_or]
    by_cases hq0 : q = 0
    case pos =>
      subst hq0
      rw [show decide ((0 : Nat) = 0) = true from rfl]
      clear hp0
      go_enter Tryd.func105, Tryd.ntmps105
      go_wp2
      go_ret
      exact ⟨rfl, Below.refl _ _⟩
    case neg =>
      have q1 : ((q : Int) == 0) = false := beq_eq_false_iff_ne.2 (by omega)
      rw [decide_eq_false hq0]
      clear hp0 hq0
      go_enter Tryd.func105, Tryd.ntmps105
      go_wp2
      go_ret
      exact ⟨rfl, Below.refl _ _⟩
set_option maxRecDepth 100000 in
set_option maxHeartbeats 6000000 in
theorem specPA {g1 g2 n1 n2 c1 c2 : Nat} {ss : List ByteArray} {fs : List Q4} {w : World} (h : NetAt g1 g2 n1 n2 c1 c2 ss fs w) (u : Int) {A : Option Addr} {n c : Nat} {ds : List Int} (hn : ds.length = n) (hr : Rd w w.heap.size A (ds.map (Value.int .i64))) (hx : n ≤ 1048576) (st : Int) {A2 : Option Addr} {m dm : Nat} {xs : List Int} (hm : xs.length = m) (hr2 : Rd w w.heap.size A2 (xs.map (Value.int .i64))) (hx2 : m ≤ 1048576) (st2 : Int) {A3 : Option Addr} {l dl : Nat} {ys : List Int} (hl : ys.length = l) (hr3 : Rd w w.heap.size A3 (ys.map (Value.int .i64))) (hx3 : l ≤ 1048576) :
    Calls Tryd.prog 43 #[.agg #[.slice (some ⟨g1, 0, none⟩) n1 c1, .slice (some ⟨g2, 0, none⟩) n2 c2], .agg #[.int .i64 u, .slice A n c], .agg #[.int .i64 st, .slice A2 m dm], .agg #[.int .i64 st2, .slice A3 l dl]] w (RetP (paR ss fs u ds st xs st2 ys) w) := by
  have HNT := Lib.hid h; have HN := Lib.hid hn; have HR := Lib.hid hr; have HM := Lib.hid hm; have HR2 := Lib.hid hr2; have HLL := Lib.hid hl; have HR3 := Lib.hid hr3
  have HL1 := Lib.hid h.ln1
  obtain ⟨R, hR⟩ : ∃ r, paR ss fs u ds st xs st2 ys = r := ⟨_, rfl⟩
  have HNO : Hid (¬ paP ss fs u ds st xs st2 ys → (.tuple #[.int .i64 0, .bool false] : Value) = R) := Lib.hid (fun e => by rw [← hR]; exact pa_no e)
  have HYES : Hid (paP ss fs u ds st xs st2 ys → (.tuple #[.int .i64 (avS u ds fs (gP (mkN xs) (mkN ys))), .bool true] : Value) = R) := Lib.hid (fun e => by rw [← hR]; exact pa_yes e)
  rw [hR]
  clear h hn hr hm hr2 hl hr3 hR
  go_enter Tryd.func43, Tryd.ntmps43
  go_wp2_with fail
  obtain ⟨W0, hW0⟩ : ∃ W0, ((((w.alloc (Obj.cells #[.slice (some ⟨g1, 0, none⟩) n1 c1, .slice (some ⟨g2, 0, none⟩) n2 c2] 34)).alloc (Obj.cells #[.int .i64 u, .slice A n c] 60)).alloc (Obj.cells #[.int .i64 st, .slice A2 m dm] 62)).alloc (Obj.cells #[.int .i64 st2, .slice A3 l dl] 62)) = W0 := ⟨_, rfl⟩
  have hb0 : Below w.heap.size w W0 := by rw [← hW0]; exact ((((Below.refl _ _).alloc (Nat.le_refl _) _).alloc (by simp) _).alloc (by simp; omega) _).alloc (by simp; omega) _
  have k0_0 : W0.cell? ⟨w.heap.size, 0, none⟩ = some (.slice (some ⟨g1, 0, none⟩) n1 c1) := by rw [← hW0]; simp [go_sem]
  have k0_1 : W0.cell? ⟨w.heap.size, 1, none⟩ = some (.slice (some ⟨g2, 0, none⟩) n2 c2) := by rw [← hW0]; simp [go_sem]
  have k1_0 : W0.cell? ⟨w.heap.size + 1, 0, none⟩ = some (.int .i64 u) := by rw [← hW0]; simp [go_sem]
  have k1_1 : W0.cell? ⟨w.heap.size + 1, 1, none⟩ = some (.slice A n c) := by rw [← hW0]; simp [go_sem]
  have k2_0 : W0.cell? ⟨w.heap.size + 1 + 1, 0, none⟩ = some (.int .i64 st) := by rw [← hW0]; simp [go_sem]
  have k2_1 : W0.cell? ⟨w.heap.size + 1 + 1, 1, none⟩ = some (.slice A2 m dm) := by rw [← hW0]; simp [go_sem]
  have k3_0 : W0.cell? ⟨w.heap.size + 1 + 1 + 1, 0, none⟩ = some (.int .i64 st2) := by rw [← hW0]; simp [go_sem]
  have k3_1 : W0.cell? ⟨w.heap.size + 1 + 1 + 1, 1, none⟩ = some (.slice A3 l dl) := by rw [← hW0]; simp [go_sem]
  have hz0 : w.heap.size + 1 + 1 + 1 < W0.heap.size := by rw [← hW0]; simp
  have HKB : Hid (∀ W, Below W0.heap.size W0 W → W.cell? ⟨w.heap.size, 0, none⟩ = some (.slice (some ⟨g1, 0, none⟩) n1 c1) ∧ W.cell? ⟨w.heap.size, 1, none⟩ = some (.slice (some ⟨g2, 0, none⟩) n2 c2) ∧ W.cell? ⟨w.heap.size + 1, 0, none⟩ = some (.int .i64 u) ∧ W.cell? ⟨w.heap.size + 1, 1, none⟩ = some (.slice A n c) ∧ W.cell? ⟨w.heap.size + 1 + 1, 0, none⟩ = some (.int .i64 st) ∧ W.cell? ⟨w.heap.size + 1 + 1, 1, none⟩ = some (.slice A2 m dm) ∧ W.cell? ⟨w.heap.size + 1 + 1 + 1, 0, none⟩ = some (.int .i64 st2) ∧ W.cell? ⟨w.heap.size + 1 + 1 + 1, 1, none⟩ = some (.slice A3 l dl) ∧ w.heap.size + 1 + 1 + 1 < W.heap.size) := Lib.hid (fun W hW => ⟨(hW.cell (p := ⟨w.heap.size, 0, none⟩) (by show w.heap.size < _; omega)).trans k0_0, (hW.cell (p := ⟨w.heap.size, 1, none⟩) (by show w.heap.size < _; omega)).trans k0_1, (hW.cell (p := ⟨w.heap.size + 1, 0, none⟩) (by show w.heap.size + 1 < _; omega)).trans k1_0, (hW.cell (p := ⟨w.heap.size + 1, 1, none⟩) (by show w.heap.size + 1 < _; omega)).trans k1_1, (hW.cell (p := ⟨w.heap.size + 1 + 1, 0, none⟩) (by show w.heap.size + 1 + 1 < _; omega)).trans k2_0, (hW.cell (p := ⟨w.heap.size + 1 + 1, 1, none⟩) (by show w.heap.size + 1 + 1 < _; omega)).trans k2_1, (hW.cell (p := ⟨w.heap.size + 1 + 1 + 1, 0, none⟩) (by show w.heap.size + 1 + 1 + 1 < _; omega)).trans k3_0, (hW.cell (p := ⟨w.heap.size + 1 + 1 + 1, 1, none⟩) (by show w.heap.size + 1 + 1 + 1 < _; omega)).trans k3_1, Nat.lt_of_lt_of_le hz0 hW.size⟩)
  have HSZ0 : Hid (W0.heap.size = w.heap.size + 1 + 1 + 1 + 1) := Lib.hid (by rw [← hW0]; simp)
  have HB0 := Lib.hid hb0
  rw [hW0]
  clear hW0 hb0 hz0 k0_0 k0_1 k1_0 k1_1 k2_0 k2_1 k3_0 k3_1
  have HW0 := Lib.hid (Below.refl W0.heap.size W0)
  have CV1 := Lib.hid (l16Good_ (c := c) (HNT.out.moved HB0.out) u HN.out (HR.out.moved HB0.out) hx)
  obtain ⟨v, hv⟩ : ∃ v, ouB ss fs u ds = v := ⟨_, rfl⟩
  rw [hv] at CV1
  have HV1 := Lib.hid hv
  clear hv
  refine CV1.out.mono ?_
  rintro e w1 ⟨rfl, hb9⟩
  have HWw1 := Lib.hid (HW0.out.trans (hb9.mono HW0.out.size))
  have HBw1 := Lib.hid (HB0.out.trans (HWw1.out.mono HB0.out.size))
  clear hb9
  obtain ⟨k00, k01, k10, k11, k20, k21, k30, k31, hgz⟩ := HKB.out _ HWw1.out
  cases v
  case false =>
    have HE := Lib.hid (HNO.out (fun hp => by have h9 := HV1.out; unfold ouB at h9; rw [pb_true hp.1] at h9; cases h9))
    clear k00 k01 k10 k11 k20 k21 k30 k31 hgz
    go_wp2
    go_ret2
    exact ⟨ret_tupC HE.out, HBw1.out⟩
  case true =>
  have CV2 := Lib.hid (l4Good_ (c := dm) (HNT.out.moved HBw1.out) st HM.out (HR2.out.moved HBw1.out) hx2)
  obtain ⟨v, hv⟩ : ∃ v, routeB ss fs st xs = v := ⟨_, rfl⟩
  rw [hv] at CV2
  have HV2 := Lib.hid hv
  clear hv
  go_wp2_with fail
  clear k00 k01 k10 k11 k20 k21 k30 k31 hgz
  refine CV2.out.mono ?_
  rintro e w2 ⟨rfl, hb9⟩
  have HWw2 := Lib.hid (HWw1.out.trans (hb9.mono HWw1.out.size))
  have HBw2 := Lib.hid (HB0.out.trans (HWw2.out.mono HB0.out.size))
  clear hb9
  obtain ⟨k00, k01, k10, k11, k20, k21, k30, k31, hgz⟩ := HKB.out _ HWw2.out
  cases v
  case false =>
    have HE := Lib.hid (HNO.out (fun hp => by have h9 := hp.2; unfold crB at h9; rw [HV2.out, Bool.false_and] at h9; cases h9))
    clear k00 k01 k10 k11 k20 k21 k30 k31 hgz
    go_wp2
    go_ret2
    exact ⟨ret_tupC HE.out, HBw2.out⟩
  case true =>
  have CV3 := Lib.hid (l4Good_ (c := dl) (HNT.out.moved HBw2.out) st2 HLL.out (HR3.out.moved HBw2.out) hx3)
  obtain ⟨v, hv⟩ : ∃ v, routeB ss fs st2 ys = v := ⟨_, rfl⟩
  rw [hv] at CV3
  have HV3 := Lib.hid hv
  clear hv
  go_wp2_with fail
  clear k00 k01 k10 k11 k20 k21 k30 k31 hgz
  refine CV3.out.mono ?_
  rintro e w3 ⟨rfl, hb9⟩
  have HWw3 := Lib.hid (HWw2.out.trans (hb9.mono HWw2.out.size))
  have HBw3 := Lib.hid (HB0.out.trans (HWw3.out.mono HB0.out.size))
  clear hb9
  obtain ⟨k00, k01, k10, k11, k20, k21, k30, k31, hgz⟩ := HKB.out _ HWw3.out
  cases v
  case false =>
    have HE := Lib.hid (HNO.out (fun hp => by have h9 := hp.2; unfold crB at h9; rw [HV3.out, Bool.and_false] at h9; cases h9))
    clear k00 k01 k10 k11 k20 k21 k30 k31 hgz
    go_wp2
    go_ret2
    exact ⟨ret_tupC HE.out, HBw3.out⟩
  case true =>
  have HPA : Hid (paP ss fs u ds st xs st2 ys) := Lib.hid ⟨of_pb HV1.out, by unfold crB; rw [HV2.out, HV3.out]; rfl⟩
  have HE := Lib.hid (HYES.out HPA.out)
  obtain ⟨hv, hn14, hgl, hu0, hu20, hdd⟩ := ou_facts HN.out HPA.out.1
  have HBD := Lib.hid (cr_bd HPA.out.2)
  have HGB := Lib.hid (rg_gb hv)
  have HZG : Hid (∀ g ∈ rgL fs, g.length ≤ 1048576) := Lib.hid (fun g hg => by have := rgp_le hg; have := hv.2.1; omega)
  have HAV : Hid (avS u ds fs (gP (mkN xs) (mkN ys)) = avN (fun z => wtN u ds z n) (fun z => gP (mkN xs) (mkN ys) (gnN (rgL fs) z)) (2 ^ n)) := Lib.hid (by unfold avS; rw [HN.out])
  have HBDA : Hid (∀ f : Nat, f < 2 ^ n → 0 ≤ avN (fun z => wtN u ds z n) (fun z => gP (mkN xs) (mkN ys) (gnN (rgL fs) z)) f ∧ 0 ≤ wtN u ds f n ∧ avN (fun z => wtN u ds z n) (fun z => gP (mkN xs) (mkN ys) (gnN (rgL fs) z)) f + wtN u ds f n ≤ 20 ^ 14) := Lib.hid (fun f hf => av_bd hu0 hu20 hdd hn14 _ hf)
  have hP14 : 2 ^ n ≤ 16384 := Nat.pow_le_pow_right (by decide : 0 < 2) hn14
  have hpi : (2 : Int) ^ n = ((2 ^ n : Nat) : Int) := pow_int n
  obtain ⟨P, hP⟩ : ∃ P : Nat, 2 ^ n = P := ⟨_, rfl⟩
  rw [hP] at hpi hP14 HAV HBDA
  rw [HAV.out] at HE
  have HPI2 := Lib.hid hpi
  have HDD := Lib.hid hdd; have HV := Lib.hid hv; have HGN := Lib.hid hgl
  have hx20 : mkN xs < 2 ^ 20 := mk_lt HBD.out.1
  have hy20 : mkN ys < 2 ^ 20 := mk_lt HBD.out.2
  clear hP hpi hdd hv hgl
  go_wp2_with fail
  clear k00 k01 k10 k11 k20 k21 k30 k31 hgz
  refine (l2Groups_ (HNT.out.moved HBw3.out) HV.out).mono ?_
  rintro e w4 ⟨AG, NG, cG, ysG, rfl, HGD, hrw, hb9⟩
  have HRW := Lib.hid hrw
  obtain rfl : NG = n := by have h1 := hrw.len; have h2 := congrArg List.length HGD.out; rw [List.length_map] at h2; rw [HGN.out]; omega
  have HWw4 := Lib.hid (HWw3.out.trans (hb9.mono HWw3.out.size))
  have HBw4 := Lib.hid (HB0.out.trans (HWw4.out.mono HB0.out.size))
  clear hb9
  obtain ⟨k00, k01, k10, k11, k20, k21, k30, k31, hgz⟩ := HKB.out _ HWw4.out
  clear hrw k00 k01 k10 k11 k20 k21 k30 k31 hgz
  have CM1 : Hid (∀ W, Below w.heap.size w W → Calls Tryd.prog 99 #[.slice A2 m dm] W fun e w' => e = .returned (.int .i64 (mkN xs : Nat)) ∧ W = w') := Lib.hid (fun W hW => by
    have h9 := l6Mask_ A2 m dm xs W HM.out hx2 (HR2.out.moved hW) (fun k hk => HBD.out.1 k (by have := HM.out; omega))
    rw [show maskN xs m = mkN xs by unfold mkN; rw [HM.out]] at h9; exact h9)
  have CM2 : Hid (∀ W, Below w.heap.size w W → Calls Tryd.prog 99 #[.slice A3 l dl] W fun e w' => e = .returned (.int .i64 (mkN ys : Nat)) ∧ W = w') := Lib.hid (fun W hW => by
    have h9 := l6Mask_ A3 l dl ys W HLL.out hx3 (HR3.out.moved hW) (fun k hk => HBD.out.2 k (by have := HLL.out; omega))
    rw [show maskN ys l = mkN ys by unfold mkN; rw [HLL.out]] at h9; exact h9)
  obtain ⟨mx, hmx⟩ : ∃ z, mkN xs = z := ⟨_, rfl⟩
  obtain ⟨my, hmy⟩ : ∃ z, mkN ys = z := ⟨_, rfl⟩
  rw [hmx] at CM1 HBDA HE hx20
  rw [hmy] at CM2 HBDA HE hy20
  clear hmx hmy HAV HYES
  have hpi := HPI2.out
  go_wp2
  go_loopw [11, 12] (fun v i wr => ∃ (f : Nat) (S : Int), f ≤ P ∧ i = .int .i64 f ∧ v = .int .i64 S ∧ Hid (avN (fun z => wtN u ds z NG) (fun z => gP mx my (gnN (rgL fs) z)) f = S) ∧ Below w4.heap.size w4 wr) (fun _ i _ => P - (intOf i).toNat)
  case atStart => exact ⟨0, 0, Nat.zero_le _, rfl, rfl, Lib.hid rfl, Below.refl _ _⟩
  case round =>
    obtain ⟨f, S, hf, rfl, rfl, HS, hb⟩ := hrel
    have HBR := Lib.hid hb
    have HBW := Lib.hid (HBw4.out.trans (hb.mono HBw4.out.size))
    have HB0R := Lib.hid (HWw4.out.trans (hb.mono HWw4.out.size))
    clear hb
    by_cases hlt : f < P
    case neg =>
      have hE : (.tuple #[.int .i64 S, .bool true] : Value) = R := by rw [← HS.out, show f = P by omega]; exact HE.out
      have HEE := Lib.hid hE
      have hlt2 : ¬ (f : Int) < P := by omega
      clear hlt hE
      go_wp2
      go_ret2
      exact ⟨ret_tupC HEE.out, HBW.out⟩
    case pos =>
    have hf62 : f < 2 ^ 62 := by omega
    obtain ⟨hS0, hw0, hS1⟩ := HBDA.out f hlt
    rw [HS.out] at hS0 hS1
    have CG := Lib.hid (gone16_ (HRW.out.moved HBR.out) HGD.out hn14 HGB.out HZG.out f hf62)
    have CW : Hid (∀ W, Below w.heap.size w W → Calls Tryd.prog 100 #[.agg #[.int .i64 u, .slice A NG c], .int .i64 (f : Int)] W (RetP (.int .i64 (wtN u ds f NG)) W)) := Lib.hid (fun W hW => l16Weight_ (c := c) u f HN.out (HR.out.moved hW) hn14 hu0 hu20 HDD.out hf62)
    obtain ⟨wt, hwt⟩ : ∃ wt, wtN u ds f NG = wt := ⟨_, rfl⟩
    have HST : Hid (∀ b : Bool, gP mx my (gnN (rgL fs) f) = b → avN (fun z => wtN u ds z NG) (fun z => gP mx my (gnN (rgL fs) z)) (f + 1) = S + (if b then wt else 0)) := Lib.hid (fun b hb => by rw [← HS.out, ← hwt, ← hb]; rfl)
    rw [hwt] at CW hw0 hS1
    have hS2 : S + wt ≤ 1638400000000000000 := hS1
    have hgz20 := gn_lt HGB.out f
    obtain ⟨gz, hgz⟩ : ∃ z, gnN (rgL fs) f = z := ⟨_, rfl⟩
    rw [hgz] at CG HST hgz20
    have HGP : Hid (gP mx my gz = (decide (gz &&& mx = 0) || decide (gz &&& my = 0))) := Lib.hid rfl
    have a1 := and_i64q gz mx (by omega) (by omega)
    have a2 := and_i64q gz my (by omega) (by omega)
    obtain ⟨p, hp⟩ : ∃ p, gz &&& mx = p := ⟨_, rfl⟩
    obtain ⟨q, hq⟩ : ∃ q, gz &&& my = q := ⟨_, rfl⟩
    rw [hp] at a1 HGP
    rw [hq] at a2 HGP
    clear hwt hgz hS1 hp hq
    go_wp2_with fail
    refine CG.out.mono ?_
    rintro e w5 ⟨rfl, hb5⟩
    have HB5 := Lib.hid (HBR.out.trans (hb5.mono HBR.out.size))
    have HB5W := Lib.hid (HBW.out.trans (hb5.mono HBW.out.size))
    have HB50 := Lib.hid (HB0R.out.trans (hb5.mono HB0R.out.size))
    clear hb5
    obtain ⟨k00, k01, k10, k11, k20, k21, k30, k31, hgz⟩ := HKB.out _ HB50.out
    go_wp2_with fail
    refine (CM1.out _ HB5W.out).mono ?_
    rintro e w6 ⟨rfl, rfl⟩
    by_cases hp0 : p = 0
    case pos =>
      have HST2 : Hid (avN (fun z => wtN u ds z NG) (fun z => gP mx my (gnN (rgL fs) z)) (f + 1) = S + wt) := Lib.hid (by rw [HST.out true (by rw [HGP.out, hp0]; rfl)]; rfl)
      subst hp0
      go_wp2_with fail
      clear k00 k01 k10 k11 k20 k21 k30 k31 hgz
      refine (CW.out _ HB5W.out).mono ?_
      rintro e w8 ⟨rfl, hb8⟩
      have HB8 := Lib.hid (HB5.out.trans (hb8.mono HB5.out.size))
      clear hb8
      go_wp2
      go_roundw
      case rel => exact ⟨f + 1, S + wt, by omega, by go_num, by go_num, HST2, HB8.out⟩
      case measure => simp [intOf]; omega
    case neg =>
    have p1 : ((p : Int) == 0) = false := beq_eq_false_iff_ne.2 (by omega)
    go_wp2_with fail
    refine (CM2.out _ HB5W.out).mono ?_
    rintro e w7 ⟨rfl, rfl⟩
    by_cases hq0 : q = 0
    case pos =>
      have HST2 : Hid (avN (fun z => wtN u ds z NG) (fun z => gP mx my (gnN (rgL fs) z)) (f + 1) = S + wt) := Lib.hid (by rw [HST.out true (by rw [HGP.out, hq0, decide_eq_false hp0]; rfl)]; rfl)
      subst hq0
      clear hp0
      go_wp2_with fail
      clear k00 k01 k10 k11 k20 k21 k30 k31 hgz
      refine (CW.out _ HB5W.out).mono ?_
      rintro e w8 ⟨rfl, hb8⟩
      have HB8 := Lib.hid (HB5.out.trans (hb8.mono HB5.out.size))
      clear hb8
      go_wp2
      go_roundw
      case rel => exact ⟨f + 1, S + wt, by omega, by go_num, by go_num, HST2, HB8.out⟩
      case measure => simp [intOf]; omega
    case neg =>
      have HST2 : Hid (avN (fun z => wtN u ds z NG) (fun z => gP mx my (gnN (rgL fs) z)) (f + 1) = S) := Lib.hid (by rw [HST.out false (by rw [HGP.out, decide_eq_false hq0, decide_eq_false hp0]; rfl)]; show S + 0 = S; omega)
      have q1 : ((q : Int) == 0) = false := beq_eq_false_iff_ne.2 (by omega)
      clear hp0 hq0 k00 k01 k10 k11 k20 k21 k30 k31 hgz
      go_wp2
      go_roundw
      case rel => exact ⟨f + 1, S, by omega, by go_num, rfl, HST2, HB5.out⟩
      case measure => simp [intOf]; omega
set_option maxRecDepth 100000 in
set_option maxHeartbeats 6000000 in
theorem implPA {g1 g2 n1 n2 c1 c2 : Nat} {ss : List ByteArray} {fs : List Q4} {w : World} (h : NetAt g1 g2 n1 n2 c1 c2 ss fs w) (u : Int) {A : Option Addr} {n c : Nat} {ds : List Int} (hn : ds.length = n) (hr : Rd w w.heap.size A (ds.map (Value.int .i64))) (hx : n ≤ 1048576) (st : Int) {A2 : Option Addr} {m dm : Nat} {xs : List Int} (hm : xs.length = m) (hr2 : Rd w w.heap.size A2 (xs.map (Value.int .i64))) (hx2 : m ≤ 1048576) (st2 : Int) {A3 : Option Addr} {l dl : Nat} {ys : List Int} (hl : ys.length = l) (hr3 : Rd w w.heap.size A3 (ys.map (Value.int .i64))) (hx3 : l ≤ 1048576) (hTab : Tab w) :
    Calls Tryd.prog 44 #[.agg #[.slice (some ⟨g1, 0, none⟩) n1 c1, .slice (some ⟨g2, 0, none⟩) n2 c2], .agg #[.int .i64 u, .slice A n c], .agg #[.int .i64 st, .slice A2 m dm], .agg #[.int .i64 st2, .slice A3 l dl]] w (RetP (paR ss fs u ds st xs st2 ys) w) := by
  have HTB := Lib.hid hTab
  clear hTab
  have HNT := Lib.hid h; have HN := Lib.hid hn; have HR := Lib.hid hr; have HM := Lib.hid hm; have HR2 := Lib.hid hr2; have HLL := Lib.hid hl; have HR3 := Lib.hid hr3
  have HL1 := Lib.hid h.ln1
  obtain ⟨R, hR⟩ : ∃ r, paR ss fs u ds st xs st2 ys = r := ⟨_, rfl⟩
  have HNO : Hid (¬ paP ss fs u ds st xs st2 ys → (.tuple #[.int .i64 0, .bool false] : Value) = R) := Lib.hid (fun e => by rw [← hR]; exact pa_no e)
  have HYES : Hid (paP ss fs u ds st xs st2 ys → (.tuple #[.int .i64 (avS u ds fs (gP (mkN xs) (mkN ys))), .bool true] : Value) = R) := Lib.hid (fun e => by rw [← hR]; exact pa_yes e)
  rw [hR]
  clear h hn hr hm hr2 hl hr3 hR
  go_enter Tryd.func44, Tryd.ntmps44
  go_wp2_with fail
  obtain ⟨W0, hW0⟩ : ∃ W0, ((((w.alloc (Obj.cells #[.slice (some ⟨g1, 0, none⟩) n1 c1, .slice (some ⟨g2, 0, none⟩) n2 c2] 34)).alloc (Obj.cells #[.int .i64 u, .slice A n c] 60)).alloc (Obj.cells #[.int .i64 st, .slice A2 m dm] 62)).alloc (Obj.cells #[.int .i64 st2, .slice A3 l dl] 62)) = W0 := ⟨_, rfl⟩
  have hb0 : Below w.heap.size w W0 := by rw [← hW0]; exact ((((Below.refl _ _).alloc (Nat.le_refl _) _).alloc (by simp) _).alloc (by simp; omega) _).alloc (by simp; omega) _
  have k0_0 : W0.cell? ⟨w.heap.size, 0, none⟩ = some (.slice (some ⟨g1, 0, none⟩) n1 c1) := by rw [← hW0]; simp [go_sem]
  have k0_1 : W0.cell? ⟨w.heap.size, 1, none⟩ = some (.slice (some ⟨g2, 0, none⟩) n2 c2) := by rw [← hW0]; simp [go_sem]
  have k1_0 : W0.cell? ⟨w.heap.size + 1, 0, none⟩ = some (.int .i64 u) := by rw [← hW0]; simp [go_sem]
  have k1_1 : W0.cell? ⟨w.heap.size + 1, 1, none⟩ = some (.slice A n c) := by rw [← hW0]; simp [go_sem]
  have k2_0 : W0.cell? ⟨w.heap.size + 1 + 1, 0, none⟩ = some (.int .i64 st) := by rw [← hW0]; simp [go_sem]
  have k2_1 : W0.cell? ⟨w.heap.size + 1 + 1, 1, none⟩ = some (.slice A2 m dm) := by rw [← hW0]; simp [go_sem]
  have k3_0 : W0.cell? ⟨w.heap.size + 1 + 1 + 1, 0, none⟩ = some (.int .i64 st2) := by rw [← hW0]; simp [go_sem]
  have k3_1 : W0.cell? ⟨w.heap.size + 1 + 1 + 1, 1, none⟩ = some (.slice A3 l dl) := by rw [← hW0]; simp [go_sem]
  have hz0 : w.heap.size + 1 + 1 + 1 < W0.heap.size := by rw [← hW0]; simp
  have HKB : Hid (∀ W, Below W0.heap.size W0 W → W.cell? ⟨w.heap.size, 0, none⟩ = some (.slice (some ⟨g1, 0, none⟩) n1 c1) ∧ W.cell? ⟨w.heap.size, 1, none⟩ = some (.slice (some ⟨g2, 0, none⟩) n2 c2) ∧ W.cell? ⟨w.heap.size + 1, 0, none⟩ = some (.int .i64 u) ∧ W.cell? ⟨w.heap.size + 1, 1, none⟩ = some (.slice A n c) ∧ W.cell? ⟨w.heap.size + 1 + 1, 0, none⟩ = some (.int .i64 st) ∧ W.cell? ⟨w.heap.size + 1 + 1, 1, none⟩ = some (.slice A2 m dm) ∧ W.cell? ⟨w.heap.size + 1 + 1 + 1, 0, none⟩ = some (.int .i64 st2) ∧ W.cell? ⟨w.heap.size + 1 + 1 + 1, 1, none⟩ = some (.slice A3 l dl) ∧ w.heap.size + 1 + 1 + 1 < W.heap.size) := Lib.hid (fun W hW => ⟨(hW.cell (p := ⟨w.heap.size, 0, none⟩) (by show w.heap.size < _; omega)).trans k0_0, (hW.cell (p := ⟨w.heap.size, 1, none⟩) (by show w.heap.size < _; omega)).trans k0_1, (hW.cell (p := ⟨w.heap.size + 1, 0, none⟩) (by show w.heap.size + 1 < _; omega)).trans k1_0, (hW.cell (p := ⟨w.heap.size + 1, 1, none⟩) (by show w.heap.size + 1 < _; omega)).trans k1_1, (hW.cell (p := ⟨w.heap.size + 1 + 1, 0, none⟩) (by show w.heap.size + 1 + 1 < _; omega)).trans k2_0, (hW.cell (p := ⟨w.heap.size + 1 + 1, 1, none⟩) (by show w.heap.size + 1 + 1 < _; omega)).trans k2_1, (hW.cell (p := ⟨w.heap.size + 1 + 1 + 1, 0, none⟩) (by show w.heap.size + 1 + 1 + 1 < _; omega)).trans k3_0, (hW.cell (p := ⟨w.heap.size + 1 + 1 + 1, 1, none⟩) (by show w.heap.size + 1 + 1 + 1 < _; omega)).trans k3_1, Nat.lt_of_lt_of_le hz0 hW.size⟩)
  have HSZ0 : Hid (W0.heap.size = w.heap.size + 1 + 1 + 1 + 1) := Lib.hid (by rw [← hW0]; simp)
  have HB0 := Lib.hid hb0
  rw [hW0]
  clear hW0 hb0 hz0 k0_0 k0_1 k1_0 k1_1 k2_0 k2_1 k3_0 k3_1
  have hbl := (Below.refl W0.heap.size W0).alloc (Nat.le_refl _) (Obj.cells #[.int .i64 st, .slice A2 m dm, .int .i64 st2, .slice A3 l dl] 62)
  have hb1 := HB0.out.alloc HB0.out.size (Obj.cells #[.int .i64 st, .slice A2 m dm, .int .i64 st2, .slice A3 l dl] 62)
  have CW := Lib.hid (walks_two (c := dm) (c3 := dl) (cr := 2) (HNT.out.moved hb1) st HM.out (HR2.out.moved hb1) hx2 st2 HLL.out (HR3.out.moved hb1) hx3 (rd_four HSZ0.out _ _ _ _ _))
  obtain ⟨W1, hW1⟩ : ∃ W1, W0.alloc (Obj.cells #[.int .i64 st, .slice A2 m dm, .int .i64 st2, .slice A3 l dl] 62) = W1 := ⟨_, rfl⟩
  rw [hW1] at CW hb1 hbl ⊢
  have HW0 := Lib.hid hbl
  clear hW1 hb1 hbl
  refine CW.out.mono ?_
  rintro e w1 ⟨hb9, h2⟩
  have HWw1 := Lib.hid (HW0.out.trans (hb9.mono HW0.out.size))
  have HBw1 := Lib.hid (HB0.out.trans (HWw1.out.mono HB0.out.size))
  clear hb9
  obtain ⟨k00, k01, k10, k11, k20, k21, k30, k31, hgz⟩ := HKB.out _ HWw1.out
  rcases h2 with ⟨hcr, rfl⟩ | ⟨gw, ga, gb, va, vb, hcr, _, _, rfl, _, _, _, _, _, _⟩
  · have HE := Lib.hid (HNO.out (fun hp => by have h9 := hp.2; rw [hcr] at h9; cases h9))
    clear hcr k00 k01 k10 k11 k20 k21 k30 k31 hgz
    go_wp2
    go_ret2
    exact ⟨ret_tupC HE.out, HBw1.out⟩
  have HCR := Lib.hid hcr
  clear hcr
  have CV2 := Lib.hid (implVO (c := c) (HNT.out.moved HBw1.out) u HN.out (HR.out.moved HBw1.out) hx)
  obtain ⟨v, hv⟩ : ∃ v, ouB ss fs u ds = v := ⟨_, rfl⟩
  rw [hv] at CV2
  have HV2 := Lib.hid hv
  clear hv
  go_wp2_with fail
  clear k00 k01 k10 k11 k20 k21 k30 k31 hgz
  refine CV2.out.mono ?_
  rintro e w2 ⟨rfl, hb9⟩
  have HWw2 := Lib.hid (HWw1.out.trans (hb9.mono HWw1.out.size))
  have HBw2 := Lib.hid (HB0.out.trans (HWw2.out.mono HB0.out.size))
  clear hb9
  obtain ⟨k00, k01, k10, k11, k20, k21, k30, k31, hgz⟩ := HKB.out _ HWw2.out
  cases v
  case false =>
    have HE := Lib.hid (HNO.out (fun hp => by have h9 := HV2.out; unfold ouB at h9; rw [pb_true hp.1] at h9; cases h9))
    clear k00 k01 k10 k11 k20 k21 k30 k31 hgz
    go_wp2
    go_ret2
    exact ⟨ret_tupC HE.out, HBw2.out⟩
  case true =>
  have HPA : Hid (paP ss fs u ds st xs st2 ys) := Lib.hid ⟨of_pb HV2.out, HCR.out⟩
  have HE := Lib.hid (HYES.out HPA.out)
  obtain ⟨hv, hn14, hgl, hu0, hu20, hdd⟩ := ou_facts HN.out HPA.out.1
  have HBD := Lib.hid (cr_bd HCR.out)
  have CM1 : Hid (∀ W, Below w2.heap.size w2 W → Calls Tryd.prog 103 #[.slice A2 m dm] W fun e w' => e = .returned (.int .i64 (mkN xs : Nat)) ∧ W = w') := Lib.hid (fun W hW => by
    have h9 := maskOf_ A2 m dm xs W HM.out hx2 ((HR2.out.moved HBw2.out).moved hW) (fun k hk => HBD.out.1 k (by have := HM.out; omega))
    rw [show maskN xs m = mkN xs by unfold mkN; rw [HM.out]] at h9; exact h9)
  have CM2 : Hid (∀ W, Below w2.heap.size w2 W → Calls Tryd.prog 103 #[.slice A3 l dl] W fun e w' => e = .returned (.int .i64 (mkN ys : Nat)) ∧ W = w') := Lib.hid (fun W hW => by
    have h9 := maskOf_ A3 l dl ys W HLL.out hx3 ((HR3.out.moved HBw2.out).moved hW) (fun k hk => HBD.out.2 k (by have := HLL.out; omega))
    rw [show maskN ys l = mkN ys by unfold mkN; rw [HLL.out]] at h9; exact h9)
  have hx20 : mkN xs < 2 ^ 20 := mk_lt HBD.out.1
  have hy20 : mkN ys < 2 ^ 20 := mk_lt HBD.out.2
  have HAV : Hid (avS u ds fs (gP (mkN xs) (mkN ys)) = avN (fun z => wtN u ds z n) (fun z => gP (mkN xs) (mkN ys) (gnN (rgL fs) z)) (2 ^ n)) := Lib.hid (by unfold avS; rw [HN.out])
  rw [HAV.out] at HE
  obtain ⟨mx, hmx⟩ : ∃ z, mkN xs = z := ⟨_, rfl⟩
  obtain ⟨my, hmy⟩ : ∃ z, mkN ys = z := ⟨_, rfl⟩
  rw [hmx] at CM1 HE hx20
  rw [hmy] at CM2 HE hy20
  have HV := Lib.hid hv; have HDD := Lib.hid hdd; have HGN := Lib.hid hgl
  have hq0 : w.heap.size < w2.heap.size := by omega
  have hq1 : w.heap.size + 1 < w2.heap.size := by omega
  have hq2 : w.heap.size + 1 + 1 < w2.heap.size := by omega
  have hbd : Bel w2 w2.drew := Bel.of (Below.refl _ _).drew
  clear hmx hmy HAV HYES hv hdd hgl
  go_wp2_with fail
  go_upto_region 4 with fail
  go_cut [12, 13] (fun s12 s13 wx => ∃ B1 B2 : Nat, s12 = .pointer (some ⟨B1, 0, none⟩) ∧ s13 = .pointer (some ⟨B2, 0, none⟩) ∧ wx.cell? ⟨B1, 0, none⟩ = some (.int .i64 (mx : Int)) ∧ wx.cell? ⟨B2, 0, none⟩ = some (.int .i64 (my : Int)) ∧ B1 < wx.heap.size ∧ B2 < wx.heap.size ∧ Below w2.heap.size w2 wx)
  case first =>
    go_region_held3 (fun U => U.cell? ⟨w.heap.size + 1 + 1, 1, none⟩ = some (.slice A2 m dm) ∧ U.cell? ⟨w.heap.size + 1 + 1 + 1, 1, none⟩ = some (.slice A3 l dl) ∧ Bel w2 U)
      (first | (go_split_ands; (refine ⟨?_, ?_, ?_⟩ <;> first | assumption | exact belStart _ _ | exact belS2 _ _ _ | exact belS3 _ _ _ _ (by first | exact Nat.le_refl _ | exact Nat.le_succ _) _ | exact belS4 _ _ _ _ _ (by first | exact Nat.le_refl _ | exact Nat.le_succ _) (by first | exact Nat.le_refl _ | exact Nat.le_succ _) _ _ | exact belS5 _ _ _ (by first | exact Nat.le_refl _ | exact Nat.le_succ _) | exact belC (w := w2) (belStart _ _) (by assumption) (by assumption) | exact belC (w := w2) (belS2 _ _ _) (by assumption) (by assumption) | exact belC (w := w2) (belS3 _ _ _ _ (by first | exact Nat.le_refl _ | exact Nat.le_succ _) _) (by assumption) (by assumption) | exact belC (w := w2) (belS4 _ _ _ _ _ (by first | exact Nat.le_refl _ | exact Nat.le_succ _) (by first | exact Nat.le_refl _ | exact Nat.le_succ _) _ _) (by assumption) (by assumption) | exact belC (w := w2) (belS5 _ _ _ (by first | exact Nat.le_refl _ | exact Nat.le_succ _)) (by assumption) (by assumption))) | go_keep)
      (first
        | (go_at_call_of 103 (Value.slice A2 m dm); go_split_ands; refine (CM1.out _ (Bel.out (by assumption))).mono ?_; rintro e u1 ⟨rfl, rfl⟩)
        | (go_at_call_of 103 (Value.slice A3 l dl); go_split_ands; refine (CM2.out _ (Bel.out (by assumption))).mono ?_; rintro e u1 ⟨rfl, rfl⟩))
    all_goals
      go_split_ands
      go_wp2_with fail
      go_meet
      refine ⟨_, _, rfl, rfl, ?_, ?_, ?_, ?_, ?_⟩
      · simp [go_sem]
      · simp [go_sem]
      · first | (simp; done) | (simp; omega)
      · first | (simp; done) | (simp; omega)
      · first | assumption | repeat (first | exact Below.refl _ _ | refine Below.drew ?_ | refine Below.alloc ?_ (by simp) _ | refine Below.setCell ?_ (by simp) _)
  case rest =>
  clear k00 k01 k10 k11 k20 k21 k30 k31 hgz hq0 hq1 hq2 hbd
  revert hcut; generalize wc = w3; intro hcut
  obtain ⟨B1, B2, h0_, h1_, hc1, hc2, hz1, hz2, hb3⟩ := hcut
  subst h0_ h1_
  have HB3 := Lib.hid (HBw2.out.trans (hb3.mono HBw2.out.size))
  have HW3 := Lib.hid (HWw2.out.trans (hb3.mono HWw2.out.size))
  have HGD : Hid (∀ W, Below w3.heap.size w3 W → ∀ z : Nat, z < 2 ^ 20 → Calls Tryd.prog 105 #[.int .i64 (z : Int), .pointer (some ⟨B1, 0, none⟩), .pointer (some ⟨B2, 0, none⟩)] W (RetP (.bool (gP mx my z)) W)) := Lib.hid (fun W hW z hz => goodP_ mx my z B1 B2 hx20 hy20 hz ((hW.cell (p := ⟨_, _, none⟩) hz1).trans hc1) ((hW.cell (p := ⟨_, _, none⟩) hz2).trans hc2))
  have CC := Lib.hid (avlP_ (c := c) (HNT.out.moved HB3.out) HV.out u HN.out (HR.out.moved HB3.out) hn14 HGN.out hu0 hu20 HDD.out B1 B2 (g := gP mx my) HGD (HTB.out.over HB3.out))
  obtain ⟨S, hS⟩ : ∃ S, avN (fun z => wtN u ds z n) (fun z => gP mx my (gnN (rgL fs) z)) (2 ^ n) = S := ⟨_, rfl⟩
  rw [hS] at HE CC
  obtain ⟨k00, k01, k10, k11, k20, k21, k30, k31, hgz⟩ := HKB.out _ HW3.out
  clear hb3 hc1 hc2 hz1 hz2 hS
  go_wp2_with fail
  clear k00 k01 k10 k11 k20 k21 k30 k31 hgz
  refine CC.out.mono ?_
  rintro e w4 ⟨rfl, hb4⟩
  have HB4 := Lib.hid (HB3.out.trans (hb4.mono HB3.out.size))
  clear hb4
  go_wp2
  go_ret2
  exact ⟨ret_tupC HE.out, HB4.out⟩
end Go.Proofs.YtbnfogedmjjiaaaDoor
