/- The availability of a connection and of a network: contracts of ConnectionAvailability and NetworkAvailability, both sides. Condition: the table of math/bits holds what Go's text lays (on impl's side). -/
import Derived.Test.YtbnfogedmjjiaaaDoorAvN
import Derived.Test.YtbnfogedmjjiaaaDoorAvC
import Derived.Test.YtbnfogedmjjiaaaDoorAvS
import Derived.Test.YtbnfogedmjjiaaaDoorEnds
import Derived.Test.YtbnfogedmjjiaaaDoorOutS
import Derived.Test.YtbnfogedmjjiaaaDoorGA
namespace Go.Proofs.YtbnfogedmjjiaaaDoor
open Go.ChangeShapes Go.WideShapes Go.ChangeAt Go.RowKit

def avS (u : Int) (ds : List Int) (fs : List Q4) (g : Nat → Bool) : Int := avN (fun z => wtN u ds z ds.length) (fun z => g (gnN (rgL fs) z)) (2 ^ ds.length)
theorem ou_facts {ss : List ByteArray} {fs : List Q4} {u : Int} {ds : List Int} {n : Nat} (hn : ds.length = n) (h : ouP ss fs u ds) : netP ss fs ∧ n ≤ 14 ∧ n = (rgL fs).length ∧ 0 ≤ u ∧ u ≤ 20 ∧ ∀ j, j < n → 0 ≤ nth ds j ∧ nth ds j ≤ u := by
  subst hn
  obtain ⟨h1, ⟨h2, h3⟩, h4, h5⟩ := h
  exact ⟨h1, by have := rgp_len fs; have := h1.2.1; omega, h4, by omega, h3, h5⟩
def cvP (ss : List ByteArray) (fs : List Q4) (u : Int) (ds : List Int) (x y : Int) : Prop := ouP ss fs u ds ∧ endP ss fs x y
noncomputable def cvB (ss : List ByteArray) (fs : List Q4) (u : Int) (ds : List Int) (x y : Int) : Bool := pb (cvP ss fs u ds x y)
noncomputable def cvV (ss : List ByteArray) (fs : List Q4) (u : Int) (ds : List Int) (x y : Int) : Int := if cvB ss fs u ds x y then avS u ds fs (fun g => pb (Cn fs g x y)) else 0
noncomputable def cvR (ss : List ByteArray) (fs : List Q4) (u : Int) (ds : List Int) (x y : Int) : Value := .tuple #[.int .i64 (cvV ss fs u ds x y), .bool (cvB ss fs u ds x y)]
theorem cv_no {ss : List ByteArray} {fs : List Q4} {u : Int} {ds : List Int} {x y : Int} (h : ¬ cvP ss fs u ds x y) : (.tuple #[.int .i64 0, .bool false] : Value) = cvR ss fs u ds x y := by
  unfold cvR cvV; rw [show cvB ss fs u ds x y = false from pb_false h]; rfl
theorem cv_yes {ss : List ByteArray} {fs : List Q4} {u : Int} {ds : List Int} {x y : Int} (h : cvP ss fs u ds x y) : (.tuple #[.int .i64 (avS u ds fs (fun g => pb (Cn fs g x y))), .bool true] : Value) = cvR ss fs u ds x y := by
  unfold cvR cvV; rw [show cvB ss fs u ds x y = true from pb_true h]; rfl
noncomputable def nvV (ss : List ByteArray) (fs : List Q4) (u : Int) (ds : List Int) : Int := if ouB ss fs u ds then avS u ds fs (fun g => pb (allC ss.length fs g)) else 0
noncomputable def nvR (ss : List ByteArray) (fs : List Q4) (u : Int) (ds : List Int) : Value := .tuple #[.int .i64 (nvV ss fs u ds), .bool (ouB ss fs u ds)]
theorem nv_no {ss : List ByteArray} {fs : List Q4} {u : Int} {ds : List Int} (h : ouB ss fs u ds = false) : (.tuple #[.int .i64 0, .bool false] : Value) = nvR ss fs u ds := by
  unfold nvR nvV; rw [h]; rfl
theorem nv_yes {ss : List ByteArray} {fs : List Q4} {u : Int} {ds : List Int} (h : ouB ss fs u ds = true) : (.tuple #[.int .i64 (avS u ds fs (fun g => pb (allC ss.length fs g))), .bool true] : Value) = nvR ss fs u ds := by
  unfold nvR nvV; rw [h]; rfl

set_option maxRecDepth 100000 in
set_option maxHeartbeats 2000000 in
theorem goodC_ {g1 g2 n1 n2 c1 c2 : Nat} {ss : List ByteArray} {fs : List Q4} {w : World} (h : NetAt g1 g2 n1 n2 c1 c2 ss fs w) (hv : netP ss fs) (x y gone b1 b2 b3 : Nat) (hx : x < n1) (hy : y < n1) (hgo : gone < 2 ^ 20) (k1 : w.cell? ⟨b1, 0, none⟩ = some (.slice (some ⟨g1, 0, none⟩) n1 c1)) (k2 : w.cell? ⟨b1, 1, none⟩ = some (.slice (some ⟨g2, 0, none⟩) n2 c2)) (k3 : w.cell? ⟨b2, 0, none⟩ = some (.int .i64 (x : Int))) (k4 : w.cell? ⟨b3, 0, none⟩ = some (.int .i64 (y : Int))) :
    Calls Tryd.prog 109 #[.int .i64 (gone : Int), .pointer (some ⟨b1, 0, none⟩), .pointer (some ⟨b2, 0, none⟩), .pointer (some ⟨b3, 0, none⟩)] w (RetP (.bool (pb (Cn fs gone (x : Int) (y : Int)))) w) := by
  have CA := Lib.hid (areCon_ h hv x y gone hx hy hgo)
  obtain ⟨b, hb⟩ : ∃ b, pb (Cn fs gone (x : Int) (y : Int)) = b := ⟨_, rfl⟩
  rw [hb] at CA ⊢
  clear h hv hx hy hgo hb
  go_enter Tryd.func109, Tryd.ntmps109
  go_wp2_with fail
  refine CA.out.mono ?_
  rintro e w1 ⟨rfl, hb1⟩
  have HB1 := Lib.hid hb1
  clear hb1 k1 k2 k3 k4
  go_wp2
  go_ret
  exact ⟨rfl, HB1.out⟩

set_option maxRecDepth 100000 in
set_option maxHeartbeats 2000000 in
theorem goodN_ {g1 g2 n1 n2 c1 c2 : Nat} {ss : List ByteArray} {fs : List Q4} {w : World} (h : NetAt g1 g2 n1 n2 c1 c2 ss fs w) (hv : netP ss fs) (gone b1 b2 : Nat) (hgo : gone < 2 ^ 20) (hB1 : b1 < w.heap.size) (hB2 : b2 < w.heap.size) (k1 : w.cell? ⟨b1, 0, none⟩ = some (.slice (some ⟨g1, 0, none⟩) n1 c1)) (k2 : w.cell? ⟨b1, 1, none⟩ = some (.slice (some ⟨g2, 0, none⟩) n2 c2)) (k3 : w.cell? ⟨b2, 0, none⟩ = some (.int .i64 ((2 ^ n1 - 1 : Nat) : Int))) :
    Calls Tryd.prog 111 #[.int .i64 (gone : Int), .pointer (some ⟨b1, 0, none⟩), .pointer (some ⟨b2, 0, none⟩)] w (RetP (.bool (pb (allC n1 fs gone))) w) := by
  have hn2 : 2 ≤ n1 := by have := hv.1; have := h.ln1; omega
  have CA := Lib.hid (fun (W : World) (hb : Below w.heap.size w W) => reach_ (h.moved hb) hv 0 gone (by omega) hgo)
  have HF := rch_full n1 fs gone
  obtain ⟨R, hR⟩ : ∃ R, rchN n1 fs gone ((0 : Nat) : Int) = R := ⟨_, rfl⟩
  have hR2 : rchN n1 fs gone 0 = R := hR
  rw [hR] at CA
  rw [hR2] at HF
  obtain ⟨M, hM⟩ : ∃ M : Nat, 2 ^ n1 - 1 = M := ⟨_, rfl⟩
  rw [hM] at HF k3
  have HFF := Lib.hid HF
  obtain ⟨T, f, x0, hx0, hTT, HST⟩ := above w
  haveI : Nonempty T := ⟨x0⟩
  have s1 : ∀ x, (f x).cell? ⟨b1, 0, none⟩ = some (.slice (some ⟨g1, 0, none⟩) n1 c1) := fun x => ((hTT x).cell (p := ⟨b1, 0, none⟩) hB1).trans k1
  have s2 : ∀ x, (f x).cell? ⟨b1, 1, none⟩ = some (.slice (some ⟨g2, 0, none⟩) n2 c2) := fun x => ((hTT x).cell (p := ⟨b1, 1, none⟩) hB1).trans k2
  have s3 : ∀ x, (f x).cell? ⟨b2, 0, none⟩ = some (.int .i64 (M : Int)) := fun x => ((hTT x).cell (p := ⟨b2, 0, none⟩) hB2).trans k3
  have CX : Hid (∀ x, Calls Tryd.prog 112 #[.agg #[.slice (some ⟨g1, 0, none⟩) n1 c1, .slice (some ⟨g2, 0, none⟩) n2 c2], .int .i64 ((0 : Nat) : Int), .int .i64 (gone : Int)] (f x) (RetP (.int .i64 (R : Int)) (f x))) := Lib.hid (fun x => CA.out _ (hTT x))
  have CX2 : Hid (∀ x, Calls Tryd.prog 112 #[.agg #[.slice (some ⟨g1, 0, none⟩) n1 c1, .slice (some ⟨g2, 0, none⟩) n2 c2], .int .i64 0, .int .i64 (gone : Int)] (f x) (RetP (.int .i64 (R : Int)) (f x))) := CX
  have HTX := Lib.hid hTT
  have HXX := Lib.hid hx0
  clear h hv hgo k1 k2 k3 hR hR2 hM HF CA hTT hx0 hB1 hB2
  by_cases he : R = M
  case pos =>
    rw [show pb (allC n1 fs gone) = true from pb_true (HFF.out.1 he)]
    subst he
    go_enter Tryd.func111, Tryd.ntmps111
    go_wp2_with fail
    refine wp_region_class f (by kernel_rfl) (by kernel_rfl) x0 HXX.out ?_
    repeat (go_big_quiet_step ((go_at_call 112; exact Calls.inClass HST (CX2.out _))))
    refine wpQuiet_nil ?_
    rintro _ ⟨x, rfl⟩
    have HB := Lib.hid (HTX.out x)
    clear s1 s2 s3
    go_wp2
    go_ret
    exact ⟨rfl, HB.out⟩
  case neg =>
    rw [show pb (allC n1 fs gone) = false from pb_false (fun h => he (HFF.out.2 h))]
    have hne : ((R : Int) == (M : Int)) = false := beq_eq_false_iff_ne.2 (by omega)
    clear he
    go_enter Tryd.func111, Tryd.ntmps111
    go_wp2_with fail
    refine wp_region_class f (by kernel_rfl) (by kernel_rfl) x0 HXX.out ?_
    repeat (go_big_quiet_step ((go_at_call 112; exact Calls.inClass HST (CX2.out _))))
    refine wpQuiet_nil ?_
    rintro _ ⟨x, rfl⟩
    have HB := Lib.hid (HTX.out x)
    clear s1 s2 s3
    go_wp2
    go_ret
    exact ⟨rfl, HB.out⟩
set_option maxRecDepth 100000 in
set_option maxHeartbeats 4000000 in
theorem specCV {g1 g2 n1 n2 c1 c2 : Nat} {ss : List ByteArray} {fs : List Q4} {w : World} (h : NetAt g1 g2 n1 n2 c1 c2 ss fs w) (u : Int) {A : Option Addr} {n c : Nat} {ds : List Int} (hn : ds.length = n) (hr : Rd w w.heap.size A (ds.map (Value.int .i64))) (hx : n ≤ 1048576) (x y : Int) :
    Calls Tryd.prog 45 #[.agg #[.slice (some ⟨g1, 0, none⟩) n1 c1, .slice (some ⟨g2, 0, none⟩) n2 c2], .agg #[.int .i64 u, .slice A n c], .int .i64 x, .int .i64 y] w (RetP (cvR ss fs u ds x y) w) := by
  have HNT := Lib.hid h; have HN := Lib.hid hn; have HR := Lib.hid hr
  have HL1 := Lib.hid h.ln1
  have hs1 := h.sm1
  obtain ⟨R, hR⟩ : ∃ r, cvR ss fs u ds x y = r := ⟨_, rfl⟩
  have HNO : Hid (¬ cvP ss fs u ds x y → (.tuple #[.int .i64 0, .bool false] : Value) = R) := Lib.hid (fun e => by rw [← hR]; exact cv_no e)
  have HYES : Hid (cvP ss fs u ds x y → (.tuple #[.int .i64 (avS u ds fs (fun g => pb (Cn fs g x y))), .bool true] : Value) = R) := Lib.hid (fun e => by rw [← hR]; exact cv_yes e)
  rw [hR]
  clear h hn hr hR
  go_enter Tryd.func45, Tryd.ntmps45
  go_wp2_with fail
  obtain ⟨W0, hW0⟩ : ∃ W0, ((w.alloc (Obj.cells #[.slice (some ⟨g1, 0, none⟩) n1 c1, .slice (some ⟨g2, 0, none⟩) n2 c2] 34)).alloc (Obj.cells #[.int .i64 u, .slice A n c] 60)) = W0 := ⟨_, rfl⟩
  have hb0 : Below w.heap.size w W0 := by rw [← hW0]; exact ((Below.refl _ _).alloc (Nat.le_refl _) _).alloc (by simp) _
  have k0_0 : W0.cell? ⟨w.heap.size, 0, none⟩ = some (.slice (some ⟨g1, 0, none⟩) n1 c1) := by rw [← hW0]; simp [go_sem]
  have k0_1 : W0.cell? ⟨w.heap.size, 1, none⟩ = some (.slice (some ⟨g2, 0, none⟩) n2 c2) := by rw [← hW0]; simp [go_sem]
  have k1_0 : W0.cell? ⟨w.heap.size + 1, 0, none⟩ = some (.int .i64 u) := by rw [← hW0]; simp [go_sem]
  have k1_1 : W0.cell? ⟨w.heap.size + 1, 1, none⟩ = some (.slice A n c) := by rw [← hW0]; simp [go_sem]
  have hz0 : w.heap.size + 1 < W0.heap.size := by rw [← hW0]; simp
  have HKB : Hid (∀ W, Below W0.heap.size W0 W → W.cell? ⟨w.heap.size, 0, none⟩ = some (.slice (some ⟨g1, 0, none⟩) n1 c1) ∧ W.cell? ⟨w.heap.size, 1, none⟩ = some (.slice (some ⟨g2, 0, none⟩) n2 c2) ∧ W.cell? ⟨w.heap.size + 1, 0, none⟩ = some (.int .i64 u) ∧ W.cell? ⟨w.heap.size + 1, 1, none⟩ = some (.slice A n c) ∧ w.heap.size + 1 < W.heap.size) := Lib.hid (fun W hW => ⟨(hW.cell (p := ⟨w.heap.size, 0, none⟩) (by show w.heap.size < _; omega)).trans k0_0, (hW.cell (p := ⟨w.heap.size, 1, none⟩) (by show w.heap.size < _; omega)).trans k0_1, (hW.cell (p := ⟨w.heap.size + 1, 0, none⟩) (by show w.heap.size + 1 < _; omega)).trans k1_0, (hW.cell (p := ⟨w.heap.size + 1, 1, none⟩) (by show w.heap.size + 1 < _; omega)).trans k1_1, Nat.lt_of_lt_of_le hz0 hW.size⟩)
  have HB0 := Lib.hid hb0
  rw [hW0]
  clear hW0 hb0 hz0 k0_0 k0_1 k1_0 k1_1
  have HW0 := Lib.hid (Below.refl W0.heap.size W0)
  have CV1 := Lib.hid (l16Good_ (c := c) (HNT.out.moved HB0.out) u HN.out (HR.out.moved HB0.out) hx)
  obtain ⟨v, hv⟩ : ∃ v, ouB ss fs u ds = v := ⟨_, rfl⟩
  rw [hv] at CV1
  have HV1 := Lib.hid hv
  clear hv
  refine CV1.out.mono ?_
  rintro e w1 ⟨rfl, hb9⟩
  have HWw1 := Lib.hid (HW0.out.trans (hb9.mono HW0.out.size))
  have HBw1 := Lib.hid (HB0.out.trans (HWw1.out.mono HB0.out.size))
  clear hb9
  obtain ⟨k00, k01, k10, k11, hgz⟩ := HKB.out _ HWw1.out
  cases v
  case false =>
    have HE := Lib.hid (HNO.out (fun hp => by have h9 := HV1.out; unfold ouB at h9; rw [pb_true hp.1] at h9; cases h9))
    clear k00 k01 k10 k11 hgz
    go_wp2
    go_ret2
    exact ⟨ret_tupC HE.out, HBw1.out⟩
  case true =>
  have CV2 := Lib.hid (ends6_ (HNT.out.moved HBw1.out) x y)
  obtain ⟨v, hv⟩ : ∃ v, pb (endP ss fs x y) = v := ⟨_, rfl⟩
  rw [hv] at CV2
  have HV2 := Lib.hid hv
  clear hv
  go_wp2_with fail
  clear k00 k01 k10 k11 hgz
  refine CV2.out.mono ?_
  rintro e w2 ⟨rfl, hb9⟩
  have HWw2 := Lib.hid (HWw1.out.trans (hb9.mono HWw1.out.size))
  have HBw2 := Lib.hid (HB0.out.trans (HWw2.out.mono HB0.out.size))
  clear hb9
  obtain ⟨k00, k01, k10, k11, hgz⟩ := HKB.out _ HWw2.out
  cases v
  case false =>
    have HE := Lib.hid (HNO.out (fun hp => by have h9 := HV2.out; rw [pb_true hp.2] at h9; cases h9))
    clear k00 k01 k10 k11 hgz
    go_wp2
    go_ret2
    exact ⟨ret_tupC HE.out, HBw2.out⟩
  case true =>
  have HCV : Hid (cvP ss fs u ds x y) := Lib.hid ⟨of_pb HV1.out, of_pb HV2.out⟩
  have HE := Lib.hid (HYES.out HCV.out)
  obtain ⟨hv, hn14, hgl, hu0, hu20, hdd⟩ := ou_facts HN.out HCV.out.1
  obtain ⟨_, ⟨hx0, hx1⟩, ⟨hy0, hy1⟩, _⟩ := HCV.out.2
  obtain ⟨xn, rfl⟩ : ∃ m : Nat, x = m := ⟨x.toNat, by omega⟩
  obtain ⟨yn, rfl⟩ : ∃ m : Nat, y = m := ⟨y.toNat, by omega⟩
  have hxn : xn < n1 := by have := HL1.out; omega
  have hyn : yn < n1 := by have := HL1.out; omega
  have CC := Lib.hid (con16C_ (c := c) (HNT.out.moved HBw2.out) hv u HN.out (HR.out.moved HBw2.out) hn14 hgl hu0 hu20 hdd xn yn hxn hyn)
  have HAV : Hid (avS u ds fs (fun g => pb (Cn fs g (xn : Int) (yn : Int))) = avN (fun z => wtN u ds z n) (fun z => pb (Cn fs (gnN (rgL fs) z) (xn : Int) (yn : Int))) (2 ^ n)) := Lib.hid (by unfold avS; rw [HN.out])
  obtain ⟨S, hS⟩ : ∃ S, avS u ds fs (fun g => pb (Cn fs g (xn : Int) (yn : Int))) = S := ⟨_, rfl⟩
  rw [hS] at HE HAV
  rw [← HAV.out] at CC
  clear hS hv hn14 hgl hu0 hu20 hdd hx0 hx1 hy0 hy1 hxn hyn
  go_wp2_with fail
  clear k00 k01 k10 k11 hgz
  refine CC.out.mono ?_
  rintro e w3 ⟨rfl, hb3⟩
  have HB3 := Lib.hid (HBw2.out.trans (hb3.mono HBw2.out.size))
  clear hb3
  go_wp2
  go_ret2
  exact ⟨ret_tupC HE.out, HB3.out⟩
set_option maxRecDepth 100000 in
set_option maxHeartbeats 4000000 in
theorem implCV {g1 g2 n1 n2 c1 c2 : Nat} {ss : List ByteArray} {fs : List Q4} {w : World} (h : NetAt g1 g2 n1 n2 c1 c2 ss fs w) (u : Int) {A : Option Addr} {n c : Nat} {ds : List Int} (hn : ds.length = n) (hr : Rd w w.heap.size A (ds.map (Value.int .i64))) (hx : n ≤ 1048576) (x y : Int) (hTab : Tab w) :
    Calls Tryd.prog 46 #[.agg #[.slice (some ⟨g1, 0, none⟩) n1 c1, .slice (some ⟨g2, 0, none⟩) n2 c2], .agg #[.int .i64 u, .slice A n c], .int .i64 x, .int .i64 y] w (RetP (cvR ss fs u ds x y) w) := by
  have HTB := Lib.hid hTab
  clear hTab
  have HNT := Lib.hid h; have HN := Lib.hid hn; have HR := Lib.hid hr
  have HL1 := Lib.hid h.ln1
  have hs1 := h.sm1
  obtain ⟨R, hR⟩ : ∃ r, cvR ss fs u ds x y = r := ⟨_, rfl⟩
  have HNO : Hid (¬ cvP ss fs u ds x y → (.tuple #[.int .i64 0, .bool false] : Value) = R) := Lib.hid (fun e => by rw [← hR]; exact cv_no e)
  have HYES : Hid (cvP ss fs u ds x y → (.tuple #[.int .i64 (avS u ds fs (fun g => pb (Cn fs g x y))), .bool true] : Value) = R) := Lib.hid (fun e => by rw [← hR]; exact cv_yes e)
  rw [hR]
  clear h hn hr hR
  go_enter Tryd.func46, Tryd.ntmps46
  go_wp2_with fail
  obtain ⟨W0, hW0⟩ : ∃ W0, ((((w.alloc (Obj.cells #[.slice (some ⟨g1, 0, none⟩) n1 c1, .slice (some ⟨g2, 0, none⟩) n2 c2] 34)).alloc (Obj.cells #[.int .i64 u, .slice A n c] 60)).alloc (Obj.cells #[.int .i64 x] 3)).alloc (Obj.cells #[.int .i64 y] 3)) = W0 := ⟨_, rfl⟩
  have hb0 : Below w.heap.size w W0 := by rw [← hW0]; exact ((((Below.refl _ _).alloc (Nat.le_refl _) _).alloc (by simp) _).alloc (by simp; omega) _).alloc (by simp; omega) _
  have k0_0 : W0.cell? ⟨w.heap.size, 0, none⟩ = some (.slice (some ⟨g1, 0, none⟩) n1 c1) := by rw [← hW0]; simp [go_sem]
  have k0_1 : W0.cell? ⟨w.heap.size, 1, none⟩ = some (.slice (some ⟨g2, 0, none⟩) n2 c2) := by rw [← hW0]; simp [go_sem]
  have k1_0 : W0.cell? ⟨w.heap.size + 1, 0, none⟩ = some (.int .i64 u) := by rw [← hW0]; simp [go_sem]
  have k1_1 : W0.cell? ⟨w.heap.size + 1, 1, none⟩ = some (.slice A n c) := by rw [← hW0]; simp [go_sem]
  have k2_0 : W0.cell? ⟨w.heap.size + 1 + 1, 0, none⟩ = some (.int .i64 x) := by rw [← hW0]; simp [go_sem]
  have k3_0 : W0.cell? ⟨w.heap.size + 1 + 1 + 1, 0, none⟩ = some (.int .i64 y) := by rw [← hW0]; simp [go_sem]
  have hz0 : w.heap.size + 1 + 1 + 1 < W0.heap.size := by rw [← hW0]; simp
  have HKB : Hid (∀ W, Below W0.heap.size W0 W → W.cell? ⟨w.heap.size, 0, none⟩ = some (.slice (some ⟨g1, 0, none⟩) n1 c1) ∧ W.cell? ⟨w.heap.size, 1, none⟩ = some (.slice (some ⟨g2, 0, none⟩) n2 c2) ∧ W.cell? ⟨w.heap.size + 1, 0, none⟩ = some (.int .i64 u) ∧ W.cell? ⟨w.heap.size + 1, 1, none⟩ = some (.slice A n c) ∧ W.cell? ⟨w.heap.size + 1 + 1, 0, none⟩ = some (.int .i64 x) ∧ W.cell? ⟨w.heap.size + 1 + 1 + 1, 0, none⟩ = some (.int .i64 y) ∧ w.heap.size + 1 + 1 + 1 < W.heap.size) := Lib.hid (fun W hW => ⟨(hW.cell (p := ⟨w.heap.size, 0, none⟩) (by show w.heap.size < _; omega)).trans k0_0, (hW.cell (p := ⟨w.heap.size, 1, none⟩) (by show w.heap.size < _; omega)).trans k0_1, (hW.cell (p := ⟨w.heap.size + 1, 0, none⟩) (by show w.heap.size + 1 < _; omega)).trans k1_0, (hW.cell (p := ⟨w.heap.size + 1, 1, none⟩) (by show w.heap.size + 1 < _; omega)).trans k1_1, (hW.cell (p := ⟨w.heap.size + 1 + 1, 0, none⟩) (by show w.heap.size + 1 + 1 < _; omega)).trans k2_0, (hW.cell (p := ⟨w.heap.size + 1 + 1 + 1, 0, none⟩) (by show w.heap.size + 1 + 1 + 1 < _; omega)).trans k3_0, Nat.lt_of_lt_of_le hz0 hW.size⟩)
  have HB0 := Lib.hid hb0
  rw [hW0]
  clear hW0 hb0 hz0 k0_0 k0_1 k1_0 k1_1 k2_0 k3_0
  have HW0 := Lib.hid (Below.refl W0.heap.size W0)
  have CV1 := Lib.hid (isPair_ (HNT.out.moved HB0.out) x y)
  obtain ⟨v, hv⟩ : ∃ v, pb (endP ss fs x y) = v := ⟨_, rfl⟩
  rw [hv] at CV1
  have HV1 := Lib.hid hv
  clear hv
  refine CV1.out.mono ?_
  rintro e w1 ⟨rfl, hb9⟩
  have HWw1 := Lib.hid (HW0.out.trans (hb9.mono HW0.out.size))
  have HBw1 := Lib.hid (HB0.out.trans (HWw1.out.mono HB0.out.size))
  clear hb9
  obtain ⟨k00, k01, k10, k11, k20, k30, hgz⟩ := HKB.out _ HWw1.out
  cases v
  case false =>
    have HE := Lib.hid (HNO.out (fun hp => by have h9 := HV1.out; rw [pb_true hp.2] at h9; cases h9))
    clear k00 k01 k10 k11 k20 k30 hgz
    go_wp2
    go_ret2
    exact ⟨ret_tupC HE.out, HBw1.out⟩
  case true =>
  have CV2 := Lib.hid (implVO (c := c) (HNT.out.moved HBw1.out) u HN.out (HR.out.moved HBw1.out) hx)
  obtain ⟨v, hv⟩ : ∃ v, ouB ss fs u ds = v := ⟨_, rfl⟩
  rw [hv] at CV2
  have HV2 := Lib.hid hv
  clear hv
  go_wp2_with fail
  clear k00 k01 k10 k11 k20 k30 hgz
  refine CV2.out.mono ?_
  rintro e w2 ⟨rfl, hb9⟩
  have HWw2 := Lib.hid (HWw1.out.trans (hb9.mono HWw1.out.size))
  have HBw2 := Lib.hid (HB0.out.trans (HWw2.out.mono HB0.out.size))
  clear hb9
  obtain ⟨k00, k01, k10, k11, k20, k30, hgz⟩ := HKB.out _ HWw2.out
  cases v
  case false =>
    have HE := Lib.hid (HNO.out (fun hp => by have h9 := HV2.out; unfold ouB at h9; rw [pb_true hp.1] at h9; cases h9))
    clear k00 k01 k10 k11 k20 k30 hgz
    go_wp2
    go_ret2
    exact ⟨ret_tupC HE.out, HBw2.out⟩
  case true =>
  have HCV : Hid (cvP ss fs u ds x y) := Lib.hid ⟨of_pb HV2.out, of_pb HV1.out⟩
  have HE := Lib.hid (HYES.out HCV.out)
  obtain ⟨hv, hn14, hgl, hu0, hu20, hdd⟩ := ou_facts HN.out HCV.out.1
  obtain ⟨_, ⟨hx0, hx1⟩, ⟨hy0, hy1⟩, _⟩ := HCV.out.2
  obtain ⟨xn, rfl⟩ : ∃ m : Nat, x = m := ⟨x.toNat, by omega⟩
  obtain ⟨yn, rfl⟩ : ∃ m : Nat, y = m := ⟨y.toNat, by omega⟩
  have hxn : xn < n1 := by have := HL1.out; omega
  have hyn : yn < n1 := by have := HL1.out; omega
  have HGD : Hid (∀ W, Below w2.heap.size w2 W → ∀ z : Nat, z < 2 ^ 20 → Calls Tryd.prog 109 #[.int .i64 (z : Int), .pointer (some ⟨w.heap.size, 0, none⟩), .pointer (some ⟨w.heap.size + 1 + 1, 0, none⟩), .pointer (some ⟨w.heap.size + 1 + 1 + 1, 0, none⟩)] W (RetP (.bool (pb (Cn fs z (xn : Int) (yn : Int)))) W)) := Lib.hid (fun W hW z hz => by
    obtain ⟨q0, q1, _, _, q4, q5, _⟩ := HKB.out W (HWw2.out.trans (hW.mono HWw2.out.size))
    exact goodC_ (HNT.out.moved (HBw2.out.trans (hW.mono HBw2.out.size))) hv xn yn z _ _ _ hxn hyn hz q0 q1 q4 q5)
  have CC := Lib.hid (avlC_ (c := c) (HNT.out.moved HBw2.out) hv u HN.out (HR.out.moved HBw2.out) hn14 hgl hu0 hu20 hdd w.heap.size (w.heap.size + 1 + 1) (w.heap.size + 1 + 1 + 1) (g := fun z => pb (Cn fs z (xn : Int) (yn : Int))) HGD (HTB.out.over HBw2.out))
  have HAV : Hid (avS u ds fs (fun g => pb (Cn fs g (xn : Int) (yn : Int))) = avN (fun z => wtN u ds z n) (fun z => (fun z => pb (Cn fs z (xn : Int) (yn : Int))) (gnN (rgL fs) z)) (2 ^ n)) := Lib.hid (by unfold avS; rw [HN.out])
  obtain ⟨S, hS⟩ : ∃ S, avS u ds fs (fun g => pb (Cn fs g (xn : Int) (yn : Int))) = S := ⟨_, rfl⟩
  rw [hS] at HE HAV
  rw [← HAV.out] at CC
  clear hS hv hn14 hgl hu0 hu20 hdd hx0 hx1 hy0 hy1 hxn hyn
  go_wp2_with fail
  clear k00 k01 k10 k11 k20 k30 hgz
  refine CC.out.mono ?_
  rintro e w3 ⟨rfl, hb3⟩
  have HB3 := Lib.hid (HBw2.out.trans (hb3.mono HBw2.out.size))
  clear hb3
  go_wp2
  go_ret2
  exact ⟨ret_tupC HE.out, HB3.out⟩
set_option maxRecDepth 100000 in
set_option maxHeartbeats 4000000 in
theorem specNV {g1 g2 n1 n2 c1 c2 : Nat} {ss : List ByteArray} {fs : List Q4} {w : World} (h : NetAt g1 g2 n1 n2 c1 c2 ss fs w) (u : Int) {A : Option Addr} {n c : Nat} {ds : List Int} (hn : ds.length = n) (hr : Rd w w.heap.size A (ds.map (Value.int .i64))) (hx : n ≤ 1048576) :
    Calls Tryd.prog 47 #[.agg #[.slice (some ⟨g1, 0, none⟩) n1 c1, .slice (some ⟨g2, 0, none⟩) n2 c2], .agg #[.int .i64 u, .slice A n c]] w (RetP (nvR ss fs u ds) w) := by
  have HNT := Lib.hid h; have HN := Lib.hid hn; have HR := Lib.hid hr
  have HL1 := Lib.hid h.ln1
  have hs1 := h.sm1
  obtain ⟨R, hR⟩ : ∃ r, nvR ss fs u ds = r := ⟨_, rfl⟩
  have HNO : Hid (ouB ss fs u ds = false → (.tuple #[.int .i64 0, .bool false] : Value) = R) := Lib.hid (fun e => by rw [← hR]; exact nv_no e)
  have HYES : Hid (ouB ss fs u ds = true → (.tuple #[.int .i64 (avS u ds fs (fun g => pb (allC ss.length fs g))), .bool true] : Value) = R) := Lib.hid (fun e => by rw [← hR]; exact nv_yes e)
  rw [hR]
  clear h hn hr hR
  go_enter Tryd.func47, Tryd.ntmps47
  go_wp2_with fail
  obtain ⟨W0, hW0⟩ : ∃ W0, ((w.alloc (Obj.cells #[.slice (some ⟨g1, 0, none⟩) n1 c1, .slice (some ⟨g2, 0, none⟩) n2 c2] 34)).alloc (Obj.cells #[.int .i64 u, .slice A n c] 60)) = W0 := ⟨_, rfl⟩
  have hb0 : Below w.heap.size w W0 := by rw [← hW0]; exact ((Below.refl _ _).alloc (Nat.le_refl _) _).alloc (by simp) _
  have k0_0 : W0.cell? ⟨w.heap.size, 0, none⟩ = some (.slice (some ⟨g1, 0, none⟩) n1 c1) := by rw [← hW0]; simp [go_sem]
  have k0_1 : W0.cell? ⟨w.heap.size, 1, none⟩ = some (.slice (some ⟨g2, 0, none⟩) n2 c2) := by rw [← hW0]; simp [go_sem]
  have k1_0 : W0.cell? ⟨w.heap.size + 1, 0, none⟩ = some (.int .i64 u) := by rw [← hW0]; simp [go_sem]
  have k1_1 : W0.cell? ⟨w.heap.size + 1, 1, none⟩ = some (.slice A n c) := by rw [← hW0]; simp [go_sem]
  have hz0 : w.heap.size + 1 < W0.heap.size := by rw [← hW0]; simp
  have HKB : Hid (∀ W, Below W0.heap.size W0 W → W.cell? ⟨w.heap.size, 0, none⟩ = some (.slice (some ⟨g1, 0, none⟩) n1 c1) ∧ W.cell? ⟨w.heap.size, 1, none⟩ = some (.slice (some ⟨g2, 0, none⟩) n2 c2) ∧ W.cell? ⟨w.heap.size + 1, 0, none⟩ = some (.int .i64 u) ∧ W.cell? ⟨w.heap.size + 1, 1, none⟩ = some (.slice A n c) ∧ w.heap.size + 1 < W.heap.size) := Lib.hid (fun W hW => ⟨(hW.cell (p := ⟨w.heap.size, 0, none⟩) (by show w.heap.size < _; omega)).trans k0_0, (hW.cell (p := ⟨w.heap.size, 1, none⟩) (by show w.heap.size < _; omega)).trans k0_1, (hW.cell (p := ⟨w.heap.size + 1, 0, none⟩) (by show w.heap.size + 1 < _; omega)).trans k1_0, (hW.cell (p := ⟨w.heap.size + 1, 1, none⟩) (by show w.heap.size + 1 < _; omega)).trans k1_1, Nat.lt_of_lt_of_le hz0 hW.size⟩)
  have HB0 := Lib.hid hb0
  rw [hW0]
  clear hW0 hb0 hz0 k0_0 k0_1 k1_0 k1_1
  have HW0 := Lib.hid (Below.refl W0.heap.size W0)
  have CV1 := Lib.hid (l16Good_ (c := c) (HNT.out.moved HB0.out) u HN.out (HR.out.moved HB0.out) hx)
  obtain ⟨v, hv⟩ : ∃ v, ouB ss fs u ds = v := ⟨_, rfl⟩
  rw [hv] at CV1
  have HV1 := Lib.hid hv
  clear hv
  refine CV1.out.mono ?_
  rintro e w1 ⟨rfl, hb9⟩
  have HWw1 := Lib.hid (HW0.out.trans (hb9.mono HW0.out.size))
  have HBw1 := Lib.hid (HB0.out.trans (HWw1.out.mono HB0.out.size))
  clear hb9
  obtain ⟨k00, k01, k10, k11, hgz⟩ := HKB.out _ HWw1.out
  cases v
  case false =>
    have HE := Lib.hid (HNO.out HV1.out)
    clear k00 k01 k10 k11 hgz
    go_wp2
    go_ret2
    exact ⟨ret_tupC HE.out, HBw1.out⟩
  case true =>
  have HOU : Hid (ouP ss fs u ds) := Lib.hid (of_pb HV1.out)
  have HE := Lib.hid (HYES.out HV1.out)
  obtain ⟨hv, hn14, hgl, hu0, hu20, hdd⟩ := ou_facts HN.out HOU.out
  rw [HL1.out] at HE
  have CC := Lib.hid (con16N_ (c := c) (HNT.out.moved HBw1.out) hv u HN.out (HR.out.moved HBw1.out) hn14 hgl hu0 hu20 hdd)
  have HAV : Hid (avS u ds fs (fun g => pb (allC n1 fs g)) = avN (fun z => wtN u ds z n) (fun z => pb (allC n1 fs (gnN (rgL fs) z))) (2 ^ n)) := Lib.hid (by unfold avS; rw [HN.out])
  obtain ⟨S, hS⟩ : ∃ S, avS u ds fs (fun g => pb (allC n1 fs g)) = S := ⟨_, rfl⟩
  rw [hS] at HE HAV
  rw [← HAV.out] at CC
  clear hS hv hn14 hgl hu0 hu20 hdd
  go_wp2_with fail
  clear k00 k01 k10 k11 hgz
  refine CC.out.mono ?_
  rintro e w3 ⟨rfl, hb3⟩
  have HB3 := Lib.hid (HBw1.out.trans (hb3.mono HBw1.out.size))
  clear hb3
  go_wp2
  go_ret2
  exact ⟨ret_tupC HE.out, HB3.out⟩
set_option maxRecDepth 100000 in
set_option maxHeartbeats 4000000 in
theorem implNV {g1 g2 n1 n2 c1 c2 : Nat} {ss : List ByteArray} {fs : List Q4} {w : World} (h : NetAt g1 g2 n1 n2 c1 c2 ss fs w) (u : Int) {A : Option Addr} {n c : Nat} {ds : List Int} (hn : ds.length = n) (hr : Rd w w.heap.size A (ds.map (Value.int .i64))) (hx : n ≤ 1048576) (hTab : Tab w) :
    Calls Tryd.prog 48 #[.agg #[.slice (some ⟨g1, 0, none⟩) n1 c1, .slice (some ⟨g2, 0, none⟩) n2 c2], .agg #[.int .i64 u, .slice A n c]] w (RetP (nvR ss fs u ds) w) := by
  have HTB := Lib.hid hTab
  clear hTab
  have HNT := Lib.hid h; have HN := Lib.hid hn; have HR := Lib.hid hr
  have HL1 := Lib.hid h.ln1
  have hs1 := h.sm1
  obtain ⟨R, hR⟩ : ∃ r, nvR ss fs u ds = r := ⟨_, rfl⟩
  have HNO : Hid (ouB ss fs u ds = false → (.tuple #[.int .i64 0, .bool false] : Value) = R) := Lib.hid (fun e => by rw [← hR]; exact nv_no e)
  have HYES : Hid (ouB ss fs u ds = true → (.tuple #[.int .i64 (avS u ds fs (fun g => pb (allC ss.length fs g))), .bool true] : Value) = R) := Lib.hid (fun e => by rw [← hR]; exact nv_yes e)
  rw [hR]
  clear h hn hr hR
  go_enter Tryd.func48, Tryd.ntmps48
  go_wp2_with fail
  obtain ⟨W0, hW0⟩ : ∃ W0, ((w.alloc (Obj.cells #[.slice (some ⟨g1, 0, none⟩) n1 c1, .slice (some ⟨g2, 0, none⟩) n2 c2] 34)).alloc (Obj.cells #[.int .i64 u, .slice A n c] 60)) = W0 := ⟨_, rfl⟩
  have hb0 : Below w.heap.size w W0 := by rw [← hW0]; exact ((Below.refl _ _).alloc (Nat.le_refl _) _).alloc (by simp) _
  have k0_0 : W0.cell? ⟨w.heap.size, 0, none⟩ = some (.slice (some ⟨g1, 0, none⟩) n1 c1) := by rw [← hW0]; simp [go_sem]
  have k0_1 : W0.cell? ⟨w.heap.size, 1, none⟩ = some (.slice (some ⟨g2, 0, none⟩) n2 c2) := by rw [← hW0]; simp [go_sem]
  have k1_0 : W0.cell? ⟨w.heap.size + 1, 0, none⟩ = some (.int .i64 u) := by rw [← hW0]; simp [go_sem]
  have k1_1 : W0.cell? ⟨w.heap.size + 1, 1, none⟩ = some (.slice A n c) := by rw [← hW0]; simp [go_sem]
  have hz0 : w.heap.size + 1 < W0.heap.size := by rw [← hW0]; simp
  have HKB : Hid (∀ W, Below W0.heap.size W0 W → W.cell? ⟨w.heap.size, 0, none⟩ = some (.slice (some ⟨g1, 0, none⟩) n1 c1) ∧ W.cell? ⟨w.heap.size, 1, none⟩ = some (.slice (some ⟨g2, 0, none⟩) n2 c2) ∧ W.cell? ⟨w.heap.size + 1, 0, none⟩ = some (.int .i64 u) ∧ W.cell? ⟨w.heap.size + 1, 1, none⟩ = some (.slice A n c) ∧ w.heap.size + 1 < W.heap.size) := Lib.hid (fun W hW => ⟨(hW.cell (p := ⟨w.heap.size, 0, none⟩) (by show w.heap.size < _; omega)).trans k0_0, (hW.cell (p := ⟨w.heap.size, 1, none⟩) (by show w.heap.size < _; omega)).trans k0_1, (hW.cell (p := ⟨w.heap.size + 1, 0, none⟩) (by show w.heap.size + 1 < _; omega)).trans k1_0, (hW.cell (p := ⟨w.heap.size + 1, 1, none⟩) (by show w.heap.size + 1 < _; omega)).trans k1_1, Nat.lt_of_lt_of_le hz0 hW.size⟩)
  have HB0 := Lib.hid hb0
  rw [hW0]
  clear hW0 hb0 hz0 k0_0 k0_1 k1_0 k1_1
  have HW0 := Lib.hid (Below.refl W0.heap.size W0)
  have CV1 := Lib.hid (implVO (c := c) (HNT.out.moved HB0.out) u HN.out (HR.out.moved HB0.out) hx)
  obtain ⟨v, hv⟩ : ∃ v, ouB ss fs u ds = v := ⟨_, rfl⟩
  rw [hv] at CV1
  have HV1 := Lib.hid hv
  clear hv
  refine CV1.out.mono ?_
  rintro e w1 ⟨rfl, hb9⟩
  have HWw1 := Lib.hid (HW0.out.trans (hb9.mono HW0.out.size))
  have HBw1 := Lib.hid (HB0.out.trans (HWw1.out.mono HB0.out.size))
  clear hb9
  obtain ⟨k00, k01, k10, k11, hgz⟩ := HKB.out _ HWw1.out
  cases v
  case false =>
    have HE := Lib.hid (HNO.out HV1.out)
    clear k00 k01 k10 k11 hgz
    go_wp2
    go_ret2
    exact ⟨ret_tupC HE.out, HBw1.out⟩
  case true =>
  have HOU : Hid (ouP ss fs u ds) := Lib.hid (of_pb HV1.out)
  have HE := Lib.hid (HYES.out HV1.out)
  obtain ⟨hv, hn14, hgl, hu0, hu20, hdd⟩ := ou_facts HN.out HOU.out
  rw [HL1.out] at HE
  have hn8 : n1 ≤ 8 := by have := hv.1; have := HL1.out; omega
  have hpi : (2 : Int) ^ n1 = ((2 ^ n1 : Nat) : Int) := pow_int n1
  have hp0 : 1 ≤ 2 ^ n1 := Nat.one_le_two_pow
  have hp1 : 2 ^ n1 ≤ 256 := Nat.pow_le_pow_right (by decide : 0 < 2) hn8
  have hM : ((2 ^ n1 : Nat) : Int) - 1 = ((2 ^ n1 - 1 : Nat) : Int) := by omega
  have HGD : Hid (∀ V, V.cell? ⟨w1.heap.size, 0, none⟩ = some (.int .i64 ((2 ^ n1 - 1 : Nat) : Int)) → w1.heap.size < V.heap.size → Below w1.heap.size w1 V → ∀ W, Below V.heap.size V W → ∀ z : Nat, z < 2 ^ 20 → Calls Tryd.prog 111 #[.int .i64 (z : Int), .pointer (some ⟨w.heap.size, 0, none⟩), .pointer (some ⟨w1.heap.size, 0, none⟩)] W (RetP (.bool (pb (allC n1 fs z))) W)) := Lib.hid (fun V hVc hVz hVb W hW z hz => by
    have hb9 := hVb.trans (hW.mono hVb.size)
    obtain ⟨q0, q1, _, _, q6⟩ := HKB.out W (HWw1.out.trans (hb9.mono HWw1.out.size))
    exact goodN_ (HNT.out.moved (HBw1.out.trans (hb9.mono HBw1.out.size))) hv z _ _ hz (by omega) (Nat.lt_of_lt_of_le hVz hW.size) q0 q1 ((hW.cell (p := ⟨_, _, none⟩) hVz).trans hVc))
  have CC : Hid (∀ V, V.cell? ⟨w1.heap.size, 0, none⟩ = some (.int .i64 ((2 ^ n1 - 1 : Nat) : Int)) → w1.heap.size < V.heap.size → Below w1.heap.size w1 V → Calls Tryd.prog 104 #[.agg #[.slice (some ⟨g1, 0, none⟩) n1 c1, .slice (some ⟨g2, 0, none⟩) n2 c2], .agg #[.int .i64 u, .slice A n c], .func (.func 111) #[] #[.pointer (some ⟨w.heap.size, 0, none⟩), .pointer (some ⟨w1.heap.size, 0, none⟩)]] V (RetP (.int .i64 (avS u ds fs (fun g => pb (allC n1 fs g)))) V)) := Lib.hid (fun V hVc hVz hVb => by
    have hb9 := HBw1.out.trans (hVb.mono HBw1.out.size)
    have h9 := avlN_ (c := c) (HNT.out.moved hb9) hv u HN.out (HR.out.moved hb9) hn14 hgl hu0 hu20 hdd w.heap.size w1.heap.size (g := fun z => pb (allC n1 fs z)) (Lib.hid (HGD.out V hVc hVz hVb)) (HTB.out.over hb9)
    have e9 : avS u ds fs (fun g => pb (allC n1 fs g)) = avN (fun z => wtN u ds z n) (fun z => (fun z => pb (allC n1 fs z)) (gnN (rgL fs) z)) (2 ^ n) := by unfold avS; rw [HN.out]
    rw [e9]; exact h9)
  obtain ⟨S, hS⟩ : ∃ S, avS u ds fs (fun g => pb (allC n1 fs g)) = S := ⟨_, rfl⟩
  rw [hS] at HE CC
  obtain ⟨M, hMM⟩ : ∃ M : Nat, 2 ^ n1 - 1 = M := ⟨_, rfl⟩
  obtain ⟨P, hP⟩ : ∃ P : Nat, 2 ^ n1 = P := ⟨_, rfl⟩
  rw [hMM] at hM CC
  rw [hP] at hpi hp0 hp1 hM
  clear hS hv hn14 hgl hu0 hu20 hdd hMM hP HGD
  have hg0 : w.heap.size < w1.heap.size := by omega
  go_wp2_with fail
  clear hg0
  obtain ⟨w2, hw2⟩ : ∃ w2, w1.alloc (Obj.cells #[.int .i64 (M : Int)] 3) = w2 := ⟨_, rfl⟩
  have hb2 : Below w1.heap.size w1 w2 := by rw [← hw2]; exact (Below.refl _ _).alloc (Nat.le_refl _) _
  have k2 : w2.cell? ⟨w1.heap.size, 0, none⟩ = some (.int .i64 (M : Int)) := by rw [← hw2]; simp [go_sem]
  have hz2 : w1.heap.size < w2.heap.size := by rw [← hw2]; simp
  rw [hw2]
  have HC2 := Lib.hid (CC.out w2 k2 hz2 hb2)
  have HB2 := Lib.hid (HBw1.out.trans (hb2.mono HBw1.out.size))
  have HW2 := Lib.hid (HWw1.out.trans (hb2.mono HWw1.out.size))
  clear hw2 hb2 k2 hz2 CC k00 k01 k10 k11 hgz
  refine HC2.out.mono ?_
  rintro e w3 ⟨rfl, hb3⟩
  have HB3 := Lib.hid (HB2.out.trans (hb3.mono HB2.out.size))
  clear hb3
  go_wp2
  go_ret2
  exact ⟨ret_tupC HE.out, HB3.out⟩
end Go.Proofs.YtbnfogedmjjiaaaDoor
