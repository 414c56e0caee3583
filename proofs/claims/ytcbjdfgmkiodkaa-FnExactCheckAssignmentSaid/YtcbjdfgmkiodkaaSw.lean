/- The weight of a state: contracts of StateWeight, both sides. No condition but those typed. -/
import Derived.Test.YtcbjdfgmkiodkaaWt
import Derived.Test.YtcbjdfgmkiodkaaOutS
import Derived.Test.YtcbjdfgmkiodkaaGB
import Derived.Test.YtcbjdfgmkiodkaaSplit6
import Derived.Test.YtcbjdfgmkiodkaaBoth
import Derived.Test.YtcbjdfgmkiodkaaTwo
namespace Go.Proofs.Ytcbjdfgmkiodkaa
open Go.ChangeShapes Go.WideShapes Go.ChangeAt Go.RowKit

def swP (ss : List ByteArray) (fs : List Q4) (u : Int) (ds zs : List Int) : Prop := ouP ss fs u ds ∧ risB zs (ds.length : Int) = true
noncomputable def swB (ss : List ByteArray) (fs : List Q4) (u : Int) (ds zs : List Int) : Bool := pb (swP ss fs u ds zs)
noncomputable def swV (ss : List ByteArray) (fs : List Q4) (u : Int) (ds zs : List Int) : Int := if swB ss fs u ds zs then wtN u ds (maskN zs zs.length) ds.length else 0
noncomputable def swR (ss : List ByteArray) (fs : List Q4) (u : Int) (ds zs : List Int) : Value := .tuple #[.int .i64 (swV ss fs u ds zs), .bool (swB ss fs u ds zs)]
theorem sw_no {ss : List ByteArray} {fs : List Q4} {u : Int} {ds zs : List Int} (h : ¬ swP ss fs u ds zs) : (.tuple #[.int .i64 0, .bool false] : Value) = swR ss fs u ds zs := by
  unfold swR swV; rw [show swB ss fs u ds zs = false from pb_false h]; rfl
theorem sw_yes {ss : List ByteArray} {fs : List Q4} {u : Int} {ds zs : List Int} (h : swP ss fs u ds zs) : (.tuple #[.int .i64 (wtN u ds (maskN zs zs.length) ds.length), .bool true] : Value) = swR ss fs u ds zs := by
  unfold swR swV; rw [show swB ss fs u ds zs = true from pb_true h]; rfl
theorem swP.facts {ss : List ByteArray} {fs : List Q4} {u : Int} {ds zs : List Int} (h : swP ss fs u ds zs) : ds.length ≤ 14 ∧ 0 ≤ u ∧ u ≤ 20 ∧ (∀ j, j < ds.length → 0 ≤ nth ds j ∧ nth ds j ≤ u) ∧ (∀ k, k < zs.length → 0 ≤ nth zs k ∧ nth zs k < 20) ∧ maskN zs zs.length < 2 ^ 62 := by
  obtain ⟨⟨h1, ⟨h2, h3⟩, h4, h5⟩, h6⟩ := h
  have hl : ds.length ≤ 14 := by have := rgp_len fs; have := h1.2.1; omega
  have hz : ∀ k, k < zs.length → 0 ≤ nth zs k ∧ nth zs k < 20 := fun k hk => by have := ris_all h6 k hk; omega
  have hm := maskT_lt (k := zs.length) hz
  exact ⟨hl, by omega, h3, h5, hz, Nat.lt_trans hm (by decide)⟩

set_option maxRecDepth 100000 in
set_option maxHeartbeats 8000000 in
theorem implSW {g1 g2 n1 n2 c1 c2 : Nat} {ss : List ByteArray} {fs : List Q4} {w : World} (h : NetAt g1 g2 n1 n2 c1 c2 ss fs w) (u : Int) {A : Option Addr} {n c : Nat} {ds : List Int} (hn : ds.length = n) (hr : Rd w w.heap.size A (ds.map (Value.int .i64))) (hx : n ≤ 1048576) {A3 : Option Addr} {n3 c3 : Nat} {zs : List Int} (hn3 : zs.length = n3) (hr3 : Rd w w.heap.size A3 (zs.map (Value.int .i64))) (hx3 : n3 ≤ 1048576) :
    Calls Try.prog 52 #[.agg #[.slice (some ⟨g1, 0, none⟩) n1 c1, .slice (some ⟨g2, 0, none⟩) n2 c2], .agg #[.int .i64 u, .slice A n c], .slice A3 n3 c3] w (RetP (swR ss fs u ds zs) w) := by
  have HNT := Lib.hid h; have HN := Lib.hid hn; have HR := Lib.hid hr; have HN3 := Lib.hid hn3; have HR3 := Lib.hid hr3
  clear h hn hr hn3 hr3
  obtain ⟨R, hR⟩ : ∃ r, swR ss fs u ds zs = r := ⟨_, rfl⟩
  have HNO : Hid (¬ swP ss fs u ds zs → (.tuple #[.int .i64 0, .bool false] : Value) = R) := Lib.hid (fun e => by rw [← hR]; exact sw_no e)
  have HYES : Hid (swP ss fs u ds zs → (.tuple #[.int .i64 (wtN u ds (maskN zs zs.length) ds.length), .bool true] : Value) = R) := Lib.hid (fun e => by rw [← hR]; exact sw_yes e)
  rw [hR]
  clear hR
  go_enter Try.func52, Try.ntmps52
  go_wp2_with fail
  obtain ⟨W0, hW0⟩ : ∃ W0, (w.alloc (Obj.cells #[.slice (some ⟨g1, 0, none⟩) n1 c1, .slice (some ⟨g2, 0, none⟩) n2 c2] 32)).alloc (Obj.cells #[.int .i64 u, .slice A n c] 58) = W0 := ⟨_, rfl⟩
  have hb0 : Below w.heap.size w W0 := by rw [← hW0]; exact ((Below.refl _ _).alloc (Nat.le_refl _) _).alloc (by simp) _
  have k0 : W0.cell? ⟨w.heap.size, 0, none⟩ = some (.slice (some ⟨g1, 0, none⟩) n1 c1) := by rw [← hW0]; simp [go_sem]
  have k1 : W0.cell? ⟨w.heap.size, 1, none⟩ = some (.slice (some ⟨g2, 0, none⟩) n2 c2) := by rw [← hW0]; simp [go_sem]
  have k2 : W0.cell? ⟨w.heap.size + 1, 0, none⟩ = some (.int .i64 u) := by rw [← hW0]; simp [go_sem]
  have k3 : W0.cell? ⟨w.heap.size + 1, 1, none⟩ = some (.slice A n c) := by rw [← hW0]; simp [go_sem]
  have hz0 : w.heap.size + 1 < W0.heap.size := by rw [← hW0]; simp
  have HB0 := Lib.hid hb0; have HK0 := Lib.hid k0; have HK1 := Lib.hid k1; have HK2 := Lib.hid k2; have HK3 := Lib.hid k3; have HZ0 := Lib.hid hz0
  rw [hW0]
  clear hW0 hb0 k0 k1 k2 k3 hz0
  have CV := Lib.hid (implVO (c := c) (HNT.out.moved HB0.out) u HN.out (HR.out.moved HB0.out) hx)
  obtain ⟨v, hv⟩ : ∃ v, ouB ss fs u ds = v := ⟨_, rfl⟩
  rw [hv] at CV
  have HVB := Lib.hid hv
  clear hv
  refine CV.out.mono ?_
  rintro e w1 ⟨rfl, hb1⟩
  have HB1 := Lib.hid (HB0.out.trans (hb1.mono HB0.out.size))
  have k0 := (hb1.cell (p := ⟨w.heap.size, 0, none⟩) (by show w.heap.size < _; have := HZ0.out; omega)).trans HK0.out
  have k1 := (hb1.cell (p := ⟨w.heap.size, 1, none⟩) (by show w.heap.size < _; have := HZ0.out; omega)).trans HK1.out
  have k2 := (hb1.cell (p := ⟨w.heap.size + 1, 0, none⟩) (by show w.heap.size + 1 < _; have := HZ0.out; omega)).trans HK2.out
  have k3 := (hb1.cell (p := ⟨w.heap.size + 1, 1, none⟩) (by show w.heap.size + 1 < _; have := HZ0.out; omega)).trans HK3.out
  have hg1 : w.heap.size + 1 < w1.heap.size := by have := HZ0.out; have := hb1.size; omega
  clear hb1
  cases v
  case false =>
    have HE := Lib.hid (HNO.out (fun hp => by have h1 := HVB.out; unfold ouB at h1; rw [pb_true hp.1] at h1; cases h1))
    clear k0 k1 k2 k3 hg1
    go_wp2
    go_ret2
    exact ⟨ret_tupC HE.out, HB1.out⟩
  case true =>
  have HOU : Hid (ouP ss fs u ds) := Lib.hid (of_pb HVB.out)
  have hn14 : n ≤ 14 := by have h1 := HOU.out; have := rgp_len fs; have := h1.1.2.1; have := h1.2.2.1; have := HN.out; omega
  have CR := Lib.hid (isSet_ A3 n3 c3 zs (n : Int) w1 HN3.out hx3 (HR3.out.moved HB1.out))
  obtain ⟨b, hb⟩ : ∃ b, risB zs (n : Int) = b := ⟨_, rfl⟩
  rw [hb] at CR
  have HRB : Hid (risB zs (ds.length : Int) = b) := Lib.hid (by rw [HN.out]; exact hb)
  clear hb
  go_wp2_with fail
  refine CR.out.mono ?_
  rintro e w2 ⟨rfl, rfl⟩
  have HB2 := HB1
  have l2 := k2
  have l3 := k3
  have hg2 := hg1
  clear k0 k1 k2 k3 hg1
  cases b
  case false =>
    have HE := Lib.hid (HNO.out (fun hp => by have h1 := hp.2; rw [HRB.out] at h1; cases h1))
    clear l2 l3 hg2
    go_wp2
    go_ret2
    exact ⟨ret_tupC HE.out, HB2.out⟩
  case true =>
  have HSW : Hid (swP ss fs u ds zs) := Lib.hid ⟨HOU.out, HRB.out⟩
  have HE := Lib.hid (HYES.out HSW.out)
  obtain ⟨m, hm⟩ : ∃ m, maskN zs zs.length = m := ⟨_, rfl⟩
  obtain ⟨p, hp⟩ : ∃ p, wtN u ds m n = p := ⟨_, rfl⟩
  obtain ⟨T, f, x0, hx0, hTT, HST⟩ := above w1
  haveI : Nonempty T := ⟨x0⟩
  have s2 : ∀ x, (f x).cell? ⟨w.heap.size + 1, 0, none⟩ = some (.int .i64 u) := fun x => ((hTT x).cell (p := ⟨w.heap.size + 1, 0, none⟩) hg2).trans l2
  have s3 : ∀ x, (f x).cell? ⟨w.heap.size + 1, 1, none⟩ = some (.slice A n c) := fun x => ((hTT x).cell (p := ⟨w.heap.size + 1, 1, none⟩) hg2).trans l3
  have HBX : Hid (∀ x, Below w.heap.size w (f x)) := Lib.hid (fun x => HB2.out.trans ((hTT x).mono HB2.out.size))
  have CM : Hid (∀ x, Calls Try.prog 139 #[.slice A3 n3 c3] (f x) (RetP (.int .i64 (m : Nat)) (f x))) := Lib.hid fun x => by
    have h9 := maskOf_ A3 n3 c3 zs (f x) HN3.out hx3 (HR3.out.moved (HBX.out x)) (fun k hk => HSW.out.facts.2.2.2.2.1 k (by have := HN3.out; omega))
    have e9 : maskN zs n3 = m := by rw [← hm, HN3.out]
    rw [e9] at h9
    exact h9.mono fun _ _ h => ⟨h.1, by rw [← h.2]; exact Below.refl _ _⟩
  have CW : Hid (∀ x, Calls Try.prog 138 #[.agg #[.int .i64 u, .slice A n c], .int .i64 (m : Nat)] (f x) (RetP (.int .i64 p) (f x))) := Lib.hid fun x => by
    have h9 := weightOf_ (c := c) u m HN.out (HR.out.moved (HBX.out x)) hn14 HSW.out.facts.2.1 HSW.out.facts.2.2.1 (fun j hj => HSW.out.facts.2.2.2.1 j (by have := HN.out; omega)) (by have := HSW.out.facts.2.2.2.2.2; omega)
    rw [hp] at h9
    exact h9
  rw [hm, HN.out, hp] at HE
  have HXX := Lib.hid hx0
  clear hm hp hTT l2 l3 hg2 hx0
  go_wp2_with fail
  refine wp_region_class f (by kernel_rfl) (by kernel_rfl) x0 HXX.out ?_
  repeat (go_big_quiet_step (first | (go_at_call 139; exact Calls.inClass HST (CM.out _)) | (go_at_call 138; exact Calls.inClass HST (CW.out _))))
  refine wpQuiet_nil ?_
  rintro _ ⟨t, rfl⟩
  have HB3 := HBX.out t
  clear s2 s3
  go_wp2
  go_ret2
  exact ⟨ret_tupC HE.out, HB3⟩
set_option maxRecDepth 100000 in
set_option maxHeartbeats 8000000 in
theorem specSW {g1 g2 n1 n2 c1 c2 : Nat} {ss : List ByteArray} {fs : List Q4} {w : World} (h : NetAt g1 g2 n1 n2 c1 c2 ss fs w) (u : Int) {A : Option Addr} {n c : Nat} {ds : List Int} (hn : ds.length = n) (hr : Rd w w.heap.size A (ds.map (Value.int .i64))) (hx : n ≤ 1048576) {A3 : Option Addr} {n3 c3 : Nat} {zs : List Int} (hn3 : zs.length = n3) (hr3 : Rd w w.heap.size A3 (zs.map (Value.int .i64))) (hx3 : n3 ≤ 1048576) :
    Calls Try.prog 50 #[.agg #[.slice (some ⟨g1, 0, none⟩) n1 c1, .slice (some ⟨g2, 0, none⟩) n2 c2], .agg #[.int .i64 u, .slice A n c], .slice A3 n3 c3] w (RetP (swR ss fs u ds zs) w) := by
  have HNT := Lib.hid h; have HN := Lib.hid hn; have HR := Lib.hid hr; have HN3 := Lib.hid hn3; have HR3 := Lib.hid hr3
  clear h hn hr hn3 hr3
  obtain ⟨R, hR⟩ : ∃ r, swR ss fs u ds zs = r := ⟨_, rfl⟩
  have HNO : Hid (¬ swP ss fs u ds zs → (.tuple #[.int .i64 0, .bool false] : Value) = R) := Lib.hid (fun e => by rw [← hR]; exact sw_no e)
  have HYES : Hid (swP ss fs u ds zs → (.tuple #[.int .i64 (wtN u ds (maskN zs zs.length) ds.length), .bool true] : Value) = R) := Lib.hid (fun e => by rw [← hR]; exact sw_yes e)
  rw [hR]
  clear hR
  go_enter Try.func50, Try.ntmps50
  go_wp2_with fail
  obtain ⟨W0, hW0⟩ : ∃ W0, (w.alloc (Obj.cells #[.slice (some ⟨g1, 0, none⟩) n1 c1, .slice (some ⟨g2, 0, none⟩) n2 c2] 32)).alloc (Obj.cells #[.int .i64 u, .slice A n c] 58) = W0 := ⟨_, rfl⟩
  have hb0 : Below w.heap.size w W0 := by rw [← hW0]; exact ((Below.refl _ _).alloc (Nat.le_refl _) _).alloc (by simp) _
  have k0 : W0.cell? ⟨w.heap.size, 0, none⟩ = some (.slice (some ⟨g1, 0, none⟩) n1 c1) := by rw [← hW0]; simp [go_sem]
  have k1 : W0.cell? ⟨w.heap.size, 1, none⟩ = some (.slice (some ⟨g2, 0, none⟩) n2 c2) := by rw [← hW0]; simp [go_sem]
  have k2 : W0.cell? ⟨w.heap.size + 1, 0, none⟩ = some (.int .i64 u) := by rw [← hW0]; simp [go_sem]
  have k3 : W0.cell? ⟨w.heap.size + 1, 1, none⟩ = some (.slice A n c) := by rw [← hW0]; simp [go_sem]
  have hz0 : w.heap.size + 1 < W0.heap.size := by rw [← hW0]; simp
  have HB0 := Lib.hid hb0; have HK0 := Lib.hid k0; have HK1 := Lib.hid k1; have HK2 := Lib.hid k2; have HK3 := Lib.hid k3; have HZ0 := Lib.hid hz0
  rw [hW0]
  clear hW0 hb0 k0 k1 k2 k3 hz0
  have CV := Lib.hid (l16Good_ (c := c) (HNT.out.moved HB0.out) u HN.out (HR.out.moved HB0.out) hx)
  obtain ⟨v, hv⟩ : ∃ v, ouB ss fs u ds = v := ⟨_, rfl⟩
  rw [hv] at CV
  have HVB := Lib.hid hv
  clear hv
  refine CV.out.mono ?_
  rintro e w1 ⟨rfl, hb1⟩
  have HB1 := Lib.hid (HB0.out.trans (hb1.mono HB0.out.size))
  have k0 := (hb1.cell (p := ⟨w.heap.size, 0, none⟩) (by show w.heap.size < _; have := HZ0.out; omega)).trans HK0.out
  have k1 := (hb1.cell (p := ⟨w.heap.size, 1, none⟩) (by show w.heap.size < _; have := HZ0.out; omega)).trans HK1.out
  have k2 := (hb1.cell (p := ⟨w.heap.size + 1, 0, none⟩) (by show w.heap.size + 1 < _; have := HZ0.out; omega)).trans HK2.out
  have k3 := (hb1.cell (p := ⟨w.heap.size + 1, 1, none⟩) (by show w.heap.size + 1 < _; have := HZ0.out; omega)).trans HK3.out
  have hg1 : w.heap.size + 1 < w1.heap.size := by have := HZ0.out; have := hb1.size; omega
  clear hb1
  cases v
  case false =>
    have HE := Lib.hid (HNO.out (fun hp => by have h1 := HVB.out; unfold ouB at h1; rw [pb_true hp.1] at h1; cases h1))
    clear k0 k1 k2 k3 hg1
    go_wp2
    go_ret2
    exact ⟨ret_tupC HE.out, HB1.out⟩
  case true =>
  have HOU : Hid (ouP ss fs u ds) := Lib.hid (of_pb HVB.out)
  have hn14 : n ≤ 14 := by have h1 := HOU.out; have := rgp_len fs; have := h1.1.2.1; have := h1.2.2.1; have := HN.out; omega
  have e7 : IntKind.i64.wrap ((n : Int) - 1) = (n : Int) - 1 := IntWalk.i64_in _ (by omega)
  have CR := Lib.hid (rising_ A3 n3 c3 zs ((n : Int) - 1) w1 HN3.out hx3 (HR3.out.moved HB1.out))
  rw [show (n : Int) - 1 + 1 = n by omega] at CR
  obtain ⟨b, hb⟩ : ∃ b, risB zs (n : Int) = b := ⟨_, rfl⟩
  rw [hb] at CR
  have HRB : Hid (risB zs (ds.length : Int) = b) := Lib.hid (by rw [HN.out]; exact hb)
  clear hb
  go_wp2_with fail
  refine CR.out.mono ?_
  rintro e w2 ⟨rfl, hb2⟩
  have HB2 := Lib.hid (HB1.out.trans (hb2.mono HB1.out.size))
  have l2 := (hb2.cell (p := ⟨w.heap.size + 1, 0, none⟩) (by show w.heap.size + 1 < _; omega)).trans k2
  have l3 := (hb2.cell (p := ⟨w.heap.size + 1, 1, none⟩) (by show w.heap.size + 1 < _; omega)).trans k3
  have hg2 : w.heap.size + 1 < w2.heap.size := by have := hb2.size; omega
  clear hb2 k0 k1 k2 k3 hg1 e7
  cases b
  case false =>
    have HE := Lib.hid (HNO.out (fun hp => by have h1 := hp.2; rw [HRB.out] at h1; cases h1))
    clear l2 l3 hg2
    go_wp2
    go_ret2
    exact ⟨ret_tupC HE.out, HB2.out⟩
  case true =>
  have HSW : Hid (swP ss fs u ds zs) := Lib.hid ⟨HOU.out, HRB.out⟩
  have HE := Lib.hid (HYES.out HSW.out)
  obtain ⟨m, hm⟩ : ∃ m, maskN zs zs.length = m := ⟨_, rfl⟩
  obtain ⟨p, hp⟩ : ∃ p, wtN u ds m n = p := ⟨_, rfl⟩
  obtain ⟨T, f, x0, hx0, hTT, HST⟩ := above w2
  haveI : Nonempty T := ⟨x0⟩
  have s2 : ∀ x, (f x).cell? ⟨w.heap.size + 1, 0, none⟩ = some (.int .i64 u) := fun x => ((hTT x).cell (p := ⟨w.heap.size + 1, 0, none⟩) hg2).trans l2
  have s3 : ∀ x, (f x).cell? ⟨w.heap.size + 1, 1, none⟩ = some (.slice A n c) := fun x => ((hTT x).cell (p := ⟨w.heap.size + 1, 1, none⟩) hg2).trans l3
  have HBX : Hid (∀ x, Below w.heap.size w (f x)) := Lib.hid (fun x => HB2.out.trans ((hTT x).mono HB2.out.size))
  have CM : Hid (∀ x, Calls Try.prog 136 #[.slice A3 n3 c3] (f x) (RetP (.int .i64 (m : Nat)) (f x))) := Lib.hid fun x => by
    have h9 := l6Mask_ A3 n3 c3 zs (f x) HN3.out hx3 (HR3.out.moved (HBX.out x)) (fun k hk => HSW.out.facts.2.2.2.2.1 k (by have := HN3.out; omega))
    have e9 : maskN zs n3 = m := by rw [← hm, HN3.out]
    rw [e9] at h9
    exact h9.mono fun _ _ h => ⟨h.1, by rw [← h.2]; exact Below.refl _ _⟩
  have CW : Hid (∀ x, Calls Try.prog 135 #[.agg #[.int .i64 u, .slice A n c], .int .i64 (m : Nat)] (f x) (RetP (.int .i64 p) (f x))) := Lib.hid fun x => by
    have h9 := l16Weight_ (c := c) u m HN.out (HR.out.moved (HBX.out x)) hn14 HSW.out.facts.2.1 HSW.out.facts.2.2.1 (fun j hj => HSW.out.facts.2.2.2.1 j (by have := HN.out; omega)) (by have := HSW.out.facts.2.2.2.2.2; omega)
    rw [hp] at h9
    exact h9
  rw [hm, HN.out, hp] at HE
  have HXX := Lib.hid hx0
  clear hm hp hTT l2 l3 hg2 hx0
  go_wp2_with fail
  refine wp_region_class f (by kernel_rfl) (by kernel_rfl) x0 HXX.out ?_
  repeat (go_big_quiet_step (first | (go_at_call 136; exact Calls.inClass HST (CM.out _)) | (go_at_call 135; exact Calls.inClass HST (CW.out _))))
  refine wpQuiet_nil ?_
  rintro _ ⟨t, rfl⟩
  have HB3 := HBX.out t
  clear s2 s3
  go_wp2
  go_ret2
  exact ⟨ret_tupC HE.out, HB3⟩
end Go.Proofs.Ytcbjdfgmkiodkaa
