/- Whether a service is valid, whether two are compatible: contracts of the specification. No condition but those typed. -/
import Derived.Test.YtlgkjidginibdaaDoorSvP
import Derived.Test.YtlgkjidginibdaaDoorWk10
import Derived.BigRegion
namespace Go.Proofs.YtlgkjidginibdaaDoor
open Go.ChangeShapes Go.WideShapes Go.ChangeAt Go.RowKit


theorem endI_of {ss : List ByteArray} {fs : List Q4} {st : Int} {zs vs : List Int} (h : routeN ss.length fs st zs = some vs) : endI ss fs st zs = vs.headD 0 := by unfold endI; rw [h]; rfl
set_option maxRecDepth 100000 in
set_option maxHeartbeats 8000000 in
theorem l13Service_ {g1 g2 n1 n2 c1 c2_ : Nat} {ss : List ByteArray} {fs : List Q4} {w : World} (h : NetAt g1 g2 n1 n2 c1 c2_ ss fs w) (hv : netP ss fs) (i k s1 x1 y1 s2 x2 y2 : Int) {A : Option Addr} {n c : Nat} {zs : List Int} (hn : zs.length = n) (hr : Rd w w.heap.size A (zs.map (Value.int .i64))) (hx : n ≤ 1048576) {A2 : Option Addr} {m c2 : Nat} {us : List Int} (hm : us.length = m) (hq : Rd w w.heap.size A2 (us.map (Value.int .i64))) (hx2 : m ≤ 1048576) :
    Calls Tryd.prog 56 #[.agg #[.slice (some ⟨g1, 0, none⟩) n1 c1, .slice (some ⟨g2, 0, none⟩) n2 c2_], .agg #[.int .i64 i, .int .i64 k, .int .i64 s1, .slice A n c, .int .i64 x1, .int .i64 y1, .int .i64 s2, .slice A2 m c2, .int .i64 x2, .int .i64 y2]] w (RetP (.bool (pb (svP ss fs ⟨i, k, s1, zs, x1, y1, s2, us, x2, y2⟩))) w) := by
  have HNT := Lib.hid h; have HV := Lib.hid hv; have HN := Lib.hid hn; have HR := Lib.hid hr; have HM := Lib.hid hm; have HQ := Lib.hid hq
  have HL1 := Lib.hid h.ln1
  obtain ⟨r, hrr⟩ : ∃ r, pb (svP ss fs ⟨i, k, s1, zs, x1, y1, s2, us, x2, y2⟩) = r := ⟨_, rfl⟩
  have HP : Hid (svP ss fs ⟨i, k, s1, zs, x1, y1, s2, us, x2, y2⟩ ↔ ((1 ≤ i ∧ i ≤ 999) ∧ (0 ≤ k ∧ k ≤ 2)) ∧ (routeB ss fs s1 zs = true ∧ blkP x1 y1) ∧ (k = 0 → (s2 = 0 ∧ us = []) ∧ x2 = 0 ∧ y2 = 0) ∧ (k ≠ 0 → (routeB ss fs s2 us = true ∧ blkP x2 y2) ∧ s2 = s1 ∧ endI ss fs s2 us = endI ss fs s1 zs ∧ apP fs zs us)) := Lib.hid Iff.rfl
  rw [hrr]
  have HRR := Lib.hid hrr
  clear h hv hn hr hm hq hrr
  obtain ⟨W0, hW0⟩ : ∃ W0, (w.alloc (Obj.cells #[.slice (some ⟨g1, 0, none⟩) n1 c1, .slice (some ⟨g2, 0, none⟩) n2 c2_] 34)).alloc (Obj.cells #[.int .i64 i, .int .i64 k, .int .i64 s1, .slice A n c, .int .i64 x1, .int .i64 y1, .int .i64 s2, .slice A2 m c2, .int .i64 x2, .int .i64 y2] 67) = W0 := ⟨_, rfl⟩
  have hb0 : Below w.heap.size w W0 := by rw [← hW0]; exact ((Below.refl _ _).alloc (Nat.le_refl _) _).alloc (by simp) _
  have k0_0 : W0.cell? ⟨w.heap.size, 0, none⟩ = some (.slice (some ⟨g1, 0, none⟩) n1 c1) := by rw [← hW0]; simp [go_sem]
  have k0_1 : W0.cell? ⟨w.heap.size, 1, none⟩ = some (.slice (some ⟨g2, 0, none⟩) n2 c2_) := by rw [← hW0]; simp [go_sem]
  have k1_0 : W0.cell? ⟨w.heap.size + 1, 0, none⟩ = some (.int .i64 i) := by rw [← hW0]; simp [go_sem]
  have k1_1 : W0.cell? ⟨w.heap.size + 1, 1, none⟩ = some (.int .i64 k) := by rw [← hW0]; simp [go_sem]
  have k1_2 : W0.cell? ⟨w.heap.size + 1, 2, none⟩ = some (.int .i64 s1) := by rw [← hW0]; simp [go_sem]
  have k1_3 : W0.cell? ⟨w.heap.size + 1, 3, none⟩ = some (.slice A n c) := by rw [← hW0]; simp [go_sem]
  have k1_4 : W0.cell? ⟨w.heap.size + 1, 4, none⟩ = some (.int .i64 x1) := by rw [← hW0]; simp [go_sem]
  have k1_5 : W0.cell? ⟨w.heap.size + 1, 5, none⟩ = some (.int .i64 y1) := by rw [← hW0]; simp [go_sem]
  have k1_6 : W0.cell? ⟨w.heap.size + 1, 6, none⟩ = some (.int .i64 s2) := by rw [← hW0]; simp [go_sem]
  have k1_7 : W0.cell? ⟨w.heap.size + 1, 7, none⟩ = some (.slice A2 m c2) := by rw [← hW0]; simp [go_sem]
  have k1_8 : W0.cell? ⟨w.heap.size + 1, 8, none⟩ = some (.int .i64 x2) := by rw [← hW0]; simp [go_sem]
  have k1_9 : W0.cell? ⟨w.heap.size + 1, 9, none⟩ = some (.int .i64 y2) := by rw [← hW0]; simp [go_sem]
  have hz : w.heap.size + 1 < W0.heap.size := by rw [← hW0]; simp
  have HK : Hid (∀ U, Below W0.heap.size W0 U → U.cell? ⟨w.heap.size, 0, none⟩ = some (.slice (some ⟨g1, 0, none⟩) n1 c1) ∧ U.cell? ⟨w.heap.size, 1, none⟩ = some (.slice (some ⟨g2, 0, none⟩) n2 c2_) ∧ w.heap.size < U.heap.size ∧ U.cell? ⟨w.heap.size + 1, 0, none⟩ = some (.int .i64 i) ∧ U.cell? ⟨w.heap.size + 1, 1, none⟩ = some (.int .i64 k) ∧ U.cell? ⟨w.heap.size + 1, 2, none⟩ = some (.int .i64 s1) ∧ U.cell? ⟨w.heap.size + 1, 3, none⟩ = some (.slice A n c) ∧ U.cell? ⟨w.heap.size + 1, 4, none⟩ = some (.int .i64 x1) ∧ U.cell? ⟨w.heap.size + 1, 5, none⟩ = some (.int .i64 y1) ∧ U.cell? ⟨w.heap.size + 1, 6, none⟩ = some (.int .i64 s2) ∧ U.cell? ⟨w.heap.size + 1, 7, none⟩ = some (.slice A2 m c2) ∧ U.cell? ⟨w.heap.size + 1, 8, none⟩ = some (.int .i64 x2) ∧ U.cell? ⟨w.heap.size + 1, 9, none⟩ = some (.int .i64 y2) ∧ w.heap.size + 1 < U.heap.size) := Lib.hid fun U hU => ⟨(hU.cell (p := ⟨w.heap.size, 0, none⟩) (by show w.heap.size < _; omega)).trans k0_0, (hU.cell (p := ⟨w.heap.size, 1, none⟩) (by show w.heap.size < _; omega)).trans k0_1, by have := hU.size; omega, (hU.cell (p := ⟨w.heap.size + 1, 0, none⟩) (by show w.heap.size + 1 < _; omega)).trans k1_0, (hU.cell (p := ⟨w.heap.size + 1, 1, none⟩) (by show w.heap.size + 1 < _; omega)).trans k1_1, (hU.cell (p := ⟨w.heap.size + 1, 2, none⟩) (by show w.heap.size + 1 < _; omega)).trans k1_2, (hU.cell (p := ⟨w.heap.size + 1, 3, none⟩) (by show w.heap.size + 1 < _; omega)).trans k1_3, (hU.cell (p := ⟨w.heap.size + 1, 4, none⟩) (by show w.heap.size + 1 < _; omega)).trans k1_4, (hU.cell (p := ⟨w.heap.size + 1, 5, none⟩) (by show w.heap.size + 1 < _; omega)).trans k1_5, (hU.cell (p := ⟨w.heap.size + 1, 6, none⟩) (by show w.heap.size + 1 < _; omega)).trans k1_6, (hU.cell (p := ⟨w.heap.size + 1, 7, none⟩) (by show w.heap.size + 1 < _; omega)).trans k1_7, (hU.cell (p := ⟨w.heap.size + 1, 8, none⟩) (by show w.heap.size + 1 < _; omega)).trans k1_8, (hU.cell (p := ⟨w.heap.size + 1, 9, none⟩) (by show w.heap.size + 1 < _; omega)).trans k1_9, by have := hU.size; omega⟩
  have HB0 := Lib.hid hb0
  have HMV : Hid (∀ U, Below W0.heap.size W0 U → Below w.heap.size w U) := Lib.hid fun U hU => hb0.trans (hU.mono hb0.size)
  clear k0_0 k0_1 k1_0 k1_1 k1_2 k1_3 k1_4 k1_5 k1_6 k1_7 k1_8 k1_9 hz hb0
  go_enter Tryd.func56, Tryd.ntmps56
  obtain ⟨q0, q1, q2, q3, q4, q5, q6, q7, q8, q9, q10, q11, q12, q13⟩ := HK.out W0 (Below.refl _ _)
  go_wp2_with fail
  try rw [hW0]
  clear hW0 q0 q1 q2 q3 q4 q5 q6 q7 q8 q9 q10 q11 q12 q13
  obtain ⟨b1, hb1⟩ : ∃ b, inB i 1 999 = b := ⟨_, rfl⟩
  have C1 := in_ i 1 999 W0
  rw [hb1] at C1
  refine C1.mono ?_
  rintro e u0 ⟨rfl, hu0⟩
  subst hu0
  have H1 := Lib.hid hb1
  clear C1 hb1
  obtain ⟨q0, q1, q2, q3, q4, q5, q6, q7, q8, q9, q10, q11, q12, q13⟩ := HK.out W0 (Below.refl _ _)
  cases b1
  case false =>
    have HE : Hid (false = r) := Lib.hid (by rw [← HRR.out]; exact (pb_false (fun h => by have h2 := (HP.out.1 h).1.1; rw [inB_mk h2.1 h2.2] at H1; exact absurd H1.out (by decide))).symm)
    go_wp2
    go_ret
    exact ⟨retb HE.out, HB0.out⟩
  case true =>
  go_wp2_with fail
  clear q0 q1 q2 q3 q4 q5 q6 q7 q8 q9 q10 q11 q12 q13
  obtain ⟨b2, hb2⟩ : ∃ b, inB k 0 2 = b := ⟨_, rfl⟩
  have C1 := in_ k 0 2 W0
  rw [hb2] at C1
  refine C1.mono ?_
  rintro e u1 ⟨rfl, hu1⟩
  subst hu1
  have H2 := Lib.hid hb2
  clear C1 hb2
  obtain ⟨q0, q1, q2, q3, q4, q5, q6, q7, q8, q9, q10, q11, q12, q13⟩ := HK.out W0 (Below.refl _ _)
  cases b2
  case false =>
    have HE : Hid (false = r) := Lib.hid (by rw [← HRR.out]; exact (pb_false (fun h => by have h2 := (HP.out.1 h).1.2; rw [inB_mk h2.1 h2.2] at H2; exact absurd H2.out (by decide))).symm)
    go_wp2
    go_ret
    exact ⟨retb HE.out, HB0.out⟩
  case true =>
  go_wp2_with fail
  clear q0 q1 q2 q3 q4 q5 q6 q7 q8 q9 q10 q11 q12 q13
  obtain ⟨b3, hb3⟩ : ∃ b, routeB ss fs s1 zs = b := ⟨_, rfl⟩
  have CG := l4Good_ (c := c) (HNT.out.moved HB0.out) s1 HN.out (HR.out.moved HB0.out) hx
  rw [hb3] at CG
  refine CG.mono ?_
  rintro e u2 ⟨rfl, hbu2⟩
  have H3 := Lib.hid hb3; have HU2 := Lib.hid hbu2
  clear CG hb3 hbu2
  obtain ⟨q0, q1, q2, q3, q4, q5, q6, q7, q8, q9, q10, q11, q12, q13⟩ := HK.out u2 HU2.out
  cases b3
  case false =>
    have HE : Hid (false = r) := Lib.hid (by rw [← HRR.out]; exact (pb_false (fun h => by have h2 := (HP.out.1 h).2.1.1; rw [H3.out] at h2; exact absurd h2 (by decide))).symm)
    go_wp2
    go_ret
    exact ⟨retb HE.out, (HMV.out _ HU2.out)⟩
  case true =>
  go_wp2_with fail
  clear q0 q1 q2 q3 q4 q5 q6 q7 q8 q9 q10 q11 q12 q13
  obtain ⟨b4, hb4⟩ : ∃ b, pb (blkP x1 y1) = b := ⟨_, rfl⟩
  have CG := specBlk x1 y1 u2
  rw [hb4] at CG
  refine CG.mono ?_
  rintro e u3 ⟨rfl, hbu3⟩
  have H4 := Lib.hid hb4; have HU3 := Lib.hid (HU2.out.trans (hbu3.mono HU2.out.size))
  clear CG hb4 hbu3
  obtain ⟨q0, q1, q2, q3, q4, q5, q6, q7, q8, q9, q10, q11, q12, q13⟩ := HK.out u3 HU3.out
  cases b4
  case false =>
    have HE : Hid (false = r) := Lib.hid (by rw [← HRR.out]; exact (pb_false (fun h => by have h2 := (HP.out.1 h).2.1.2; rw [pb_true h2] at H4; exact absurd H4.out (by decide))).symm)
    go_wp2
    go_ret
    exact ⟨retb HE.out, (HMV.out _ HU3.out)⟩
  case true =>
  have HK02 := Lib.hid (inB_true H2.out)
  have HFULL : Hid (((1 ≤ i ∧ i ≤ 999) ∧ (0 ≤ k ∧ k ≤ 2)) ∧ (routeB ss fs s1 zs = true ∧ blkP x1 y1)) := Lib.hid ⟨⟨inB_true H1.out, inB_true H2.out⟩, H3.out, of_pb H4.out⟩
  by_cases hk0 : k = 0
  case pos =>
    subst hk0
    have HRB : Hid (r = pb ((s2 = 0 ∧ us = []) ∧ x2 = 0 ∧ y2 = 0)) := Lib.hid (by
      rw [← HRR.out]
      by_cases hp : (s2 = 0 ∧ us = []) ∧ x2 = 0 ∧ y2 = 0
      · rw [pb_true hp, pb_true (HP.out.2 ⟨HFULL.out.1, HFULL.out.2, fun _ => hp, fun h => absurd rfl h⟩)]
      · rw [pb_false hp, pb_false (fun h => hp ((HP.out.1 h).2.2.1 rfl))])
    by_cases h1 : s2 = 0
    case neg =>
      have e1 : (s2 == 0) = false := beq_eq_false_iff_ne.2 h1
      have HE : Hid (false = r) := Lib.hid (by rw [HRB.out]; exact (pb_false (fun h => h1 h.1.1)).symm)
      clear h1
      go_wp2
      go_ret
      exact ⟨retb HE.out, HMV.out _ HU3.out⟩
    case pos =>
    subst h1
    by_cases h2 : m = 0
    case neg =>
      have e1 : (m == 0) = false := by simp; omega
      have e2 : ((m : Int) == 0) = false := by simp; omega
      have HE : Hid (false = r) := Lib.hid (by rw [HRB.out]; exact (pb_false (fun h => h2 (by rw [← HM.out, h.1.2]; rfl))).symm)
      clear h2
      go_wp2
      go_ret
      exact ⟨retb HE.out, HMV.out _ HU3.out⟩
    case pos =>
    subst h2
    have HUS : Hid (us = []) := Lib.hid (List.eq_nil_of_length_eq_zero HM.out)
    by_cases h3 : x2 = 0
    case neg =>
      have e1 : (x2 == 0) = false := beq_eq_false_iff_ne.2 h3
      have HE : Hid (false = r) := Lib.hid (by rw [HRB.out]; exact (pb_false (fun h => h3 h.2.1)).symm)
      clear h3
      go_wp2
      go_ret
      exact ⟨retb HE.out, HMV.out _ HU3.out⟩
    case pos =>
    subst h3
    by_cases h4 : y2 = 0
    case neg =>
      have e1 : (y2 == 0) = false := beq_eq_false_iff_ne.2 h4
      have HE : Hid (false = r) := Lib.hid (by rw [HRB.out]; exact (pb_false (fun h => h4 h.2.2)).symm)
      clear h4
      go_wp2
      go_ret
      exact ⟨retb HE.out, HMV.out _ HU3.out⟩
    case pos =>
    subst h4
    have HE : Hid (true = r) := Lib.hid (by rw [HRB.out]; exact (pb_true ⟨⟨rfl, HUS.out⟩, rfl, rfl⟩).symm)
    go_wp2
    go_ret
    exact ⟨retb HE.out, HMV.out _ HU3.out⟩
  case neg =>
  have ek : (k == 0) = false := beq_eq_false_iff_ne.2 hk0
  have HRB : Hid (r = pb ((routeB ss fs s2 us = true ∧ blkP x2 y2) ∧ s2 = s1 ∧ endI ss fs s2 us = endI ss fs s1 zs ∧ apP fs zs us)) := Lib.hid (by
    rw [← HRR.out]
    by_cases hp : (routeB ss fs s2 us = true ∧ blkP x2 y2) ∧ s2 = s1 ∧ endI ss fs s2 us = endI ss fs s1 zs ∧ apP fs zs us
    · rw [pb_true hp, pb_true (HP.out.2 ⟨HFULL.out.1, HFULL.out.2, fun h => absurd h hk0, fun _ => hp⟩)]
    · rw [pb_false hp, pb_false (fun h => hp ((HP.out.1 h).2.2.2 hk0))])
  clear HRR HP
  go_wp2_with fail
  clear q0 q1 q2 q3 q4 q5 q6 q7 q8 q9 q10 q11 q12 q13
  obtain ⟨X, F, x0, hx0, hTT, HST⟩ := above u3
  haveI : Nonempty X := ⟨x0⟩
  have HXX := Lib.hid hx0
  have HTX : Hid (∀ x, Below W0.heap.size W0 (F x)) := Lib.hid fun x => HU3.out.trans ((hTT x).mono HU3.out.size)
  clear hTT hx0
  have s0_ : ∀ x, (F x).cell? ⟨w.heap.size, 0, none⟩ = some (.slice (some ⟨g1, 0, none⟩) n1 c1) := fun x => (HK.out _ (HTX.out x)).1
  have s1_ : ∀ x, (F x).cell? ⟨w.heap.size, 1, none⟩ = some (.slice (some ⟨g2, 0, none⟩) n2 c2_) := fun x => (HK.out _ (HTX.out x)).2.1
  have s2_ : ∀ x, w.heap.size < (F x).heap.size := fun x => (HK.out _ (HTX.out x)).2.2.1
  have s3_ : ∀ x, (F x).cell? ⟨w.heap.size + 1, 0, none⟩ = some (.int .i64 i) := fun x => (HK.out _ (HTX.out x)).2.2.2.1
  have s4_ : ∀ x, (F x).cell? ⟨w.heap.size + 1, 1, none⟩ = some (.int .i64 k) := fun x => (HK.out _ (HTX.out x)).2.2.2.2.1
  have s5_ : ∀ x, (F x).cell? ⟨w.heap.size + 1, 2, none⟩ = some (.int .i64 s1) := fun x => (HK.out _ (HTX.out x)).2.2.2.2.2.1
  have s6_ : ∀ x, (F x).cell? ⟨w.heap.size + 1, 3, none⟩ = some (.slice A n c) := fun x => (HK.out _ (HTX.out x)).2.2.2.2.2.2.1
  have s7_ : ∀ x, (F x).cell? ⟨w.heap.size + 1, 4, none⟩ = some (.int .i64 x1) := fun x => (HK.out _ (HTX.out x)).2.2.2.2.2.2.2.1
  have s8_ : ∀ x, (F x).cell? ⟨w.heap.size + 1, 5, none⟩ = some (.int .i64 y1) := fun x => (HK.out _ (HTX.out x)).2.2.2.2.2.2.2.2.1
  have s9_ : ∀ x, (F x).cell? ⟨w.heap.size + 1, 6, none⟩ = some (.int .i64 s2) := fun x => (HK.out _ (HTX.out x)).2.2.2.2.2.2.2.2.2.1
  have s10_ : ∀ x, (F x).cell? ⟨w.heap.size + 1, 7, none⟩ = some (.slice A2 m c2) := fun x => (HK.out _ (HTX.out x)).2.2.2.2.2.2.2.2.2.2.1
  have s11_ : ∀ x, (F x).cell? ⟨w.heap.size + 1, 8, none⟩ = some (.int .i64 x2) := fun x => (HK.out _ (HTX.out x)).2.2.2.2.2.2.2.2.2.2.2.1
  have s12_ : ∀ x, (F x).cell? ⟨w.heap.size + 1, 9, none⟩ = some (.int .i64 y2) := fun x => (HK.out _ (HTX.out x)).2.2.2.2.2.2.2.2.2.2.2.2.1
  have s13_ : ∀ x, w.heap.size + 1 < (F x).heap.size := fun x => (HK.out _ (HTX.out x)).2.2.2.2.2.2.2.2.2.2.2.2.2
  obtain ⟨b5, hb5⟩ : ∃ b, routeB ss fs s2 us = b := ⟨_, rfl⟩
  have CG : Hid (∀ x, Calls Tryd.prog 81 #[.agg #[.slice (some ⟨g1, 0, none⟩) n1 c1, .slice (some ⟨g2, 0, none⟩) n2 c2_], .agg #[.int .i64 s2, .slice A2 m c2]] (F x) (RetP (.bool b5) (F x))) := Lib.hid fun x => by rw [← hb5]; exact l4Good_ (c := c2) (HNT.out.moved (HMV.out _ (HTX.out x))) s2 HM.out (HQ.out.moved (HMV.out _ (HTX.out x))) hx2
  obtain ⟨b6, hb6⟩ : ∃ b, pb (blkP x2 y2) = b := ⟨_, rfl⟩
  have CB : Hid (∀ x, Calls Tryd.prog 82 #[.agg #[.int .i64 x2, .int .i64 y2]] (F x) (RetP (.bool b6) (F x))) := Lib.hid fun x => by rw [← hb6]; exact specBlk x2 y2 (F x)
  have H5 := Lib.hid hb5; have H6 := Lib.hid hb6
  clear hb5 hb6
  cases b5
  case false =>
    have HE : Hid (false = r) := Lib.hid (by rw [HRB.out]; exact (pb_false (fun h => by have h2 := h.1.1; rw [H5.out] at h2; exact absurd h2 (by decide))).symm)
    refine wp_region_class F (by kernel_rfl) (by kernel_rfl) x0 HXX.out ?_
    repeat (go_big_quiet_step (first | (go_at_call 81; with_reducible exact Calls.inClass HST (CG.out _))))
    refine wpQuiet_nil ?_
    rintro _ ⟨t, rfl⟩
    have HBT := Lib.hid (HTX.out t)
    clear s0_ s1_ s2_ s3_ s4_ s5_ s6_ s7_ s8_ s9_ s10_ s11_ s12_ s13_
    generalize F t = w3 at HBT ⊢
    go_wp2
    go_ret
    exact ⟨retb HE.out, HMV.out _ HBT.out⟩
  case true =>
  cases b6
  case false =>
    have HE : Hid (false = r) := Lib.hid (by rw [HRB.out]; exact (pb_false (fun h => by have h2 := h.1.2; rw [pb_true h2] at H6; exact absurd H6.out (by decide))).symm)
    refine wp_region_class F (by kernel_rfl) (by kernel_rfl) x0 HXX.out ?_
    repeat (go_big_quiet_step (first | (go_at_call 81; with_reducible exact Calls.inClass HST (CG.out _)) | (go_at_call 82; with_reducible exact Calls.inClass HST (CB.out _))))
    refine wpQuiet_nil ?_
    rintro _ ⟨t, rfl⟩
    have HBT := Lib.hid (HTX.out t)
    clear s0_ s1_ s2_ s3_ s4_ s5_ s6_ s7_ s8_ s9_ s10_ s11_ s12_ s13_
    generalize F t = w3 at HBT ⊢
    go_wp2
    go_ret
    exact ⟨retb HE.out, HMV.out _ HBT.out⟩
  case true =>
  by_cases hs : s2 = s1
  case neg =>
    have es : (s2 == s1) = false := beq_eq_false_iff_ne.2 hs
    have HE : Hid (false = r) := Lib.hid (by rw [HRB.out]; exact (pb_false (fun h => hs h.2.1)).symm)
    clear hs
    refine wp_region_class F (by kernel_rfl) (by kernel_rfl) x0 HXX.out ?_
    repeat (go_big_quiet_step (first | (go_at_call 81; with_reducible exact Calls.inClass HST (CG.out _)) | (go_at_call 82; with_reducible exact Calls.inClass HST (CB.out _))))
    refine wpQuiet_nil ?_
    rintro _ ⟨t, rfl⟩
    have HBT := Lib.hid (HTX.out t)
    clear s0_ s1_ s2_ s3_ s4_ s5_ s6_ s7_ s8_ s9_ s10_ s11_ s12_ s13_
    generalize F t = w3 at HBT ⊢
    go_wp2
    go_ret
    exact ⟨retb HE.out, HMV.out _ HBT.out⟩
  case pos =>
  subst hs
  obtain ⟨_, vs, hvs⟩ := routeB_yes H5.out
  obtain ⟨_, vt, hvt⟩ := routeB_yes H3.out
  have HEU := Lib.hid (endI_of hvs); have HEZ := Lib.hid (endI_of hvt)
  rw [HL1.out] at hvs hvt
  obtain ⟨eu, heu⟩ : ∃ z, vs.headD 0 = z := ⟨_, rfl⟩
  obtain ⟨ez, hez⟩ : ∃ z, vt.headD 0 = z := ⟨_, rfl⟩
  have CEU : Hid (∀ x, Calls Tryd.prog 83 #[.agg #[.slice (some ⟨g1, 0, none⟩) n1 c1, .slice (some ⟨g2, 0, none⟩) n2 c2_], .agg #[.int .i64 s2, .slice A2 m c2]] (F x) (RetP (.int .i64 eu) (F x))) := Lib.hid fun x => by rw [← heu]; exact l4End_ (c := c2) (HNT.out.moved (HMV.out _ (HTX.out x))) HV.out s2 HM.out (HQ.out.moved (HMV.out _ (HTX.out x))) hx2 hvs
  have CEZ : Hid (∀ x, Calls Tryd.prog 83 #[.agg #[.slice (some ⟨g1, 0, none⟩) n1 c1, .slice (some ⟨g2, 0, none⟩) n2 c2_], .agg #[.int .i64 s2, .slice A n c]] (F x) (RetP (.int .i64 ez) (F x))) := Lib.hid fun x => by rw [← hez]; exact l4End_ (c := c) (HNT.out.moved (HMV.out _ (HTX.out x))) HV.out s2 HN.out (HR.out.moved (HMV.out _ (HTX.out x))) hx hvt
  rw [heu] at HEU; rw [hez] at HEZ
  clear hvs hvt heu hez
  by_cases he : eu = ez
  case neg =>
    have ee : (eu == ez) = false := beq_eq_false_iff_ne.2 he
    have HE : Hid (false = r) := Lib.hid (by rw [HRB.out]; exact (pb_false (fun h => he (by rw [← HEU.out, ← HEZ.out]; exact h.2.2.1))).symm)
    clear he
    refine wp_region_class F (by kernel_rfl) (by kernel_rfl) x0 HXX.out ?_
    repeat (go_big_quiet_step (first | (go_at_call 81; with_reducible exact Calls.inClass HST (CG.out _)) | (go_at_call 82; with_reducible exact Calls.inClass HST (CB.out _)) | (go_at_call 83; with_reducible exact Calls.inClass HST (CEU.out _)) | (go_at_call 83; with_reducible exact Calls.inClass HST (CEZ.out _))))
    refine wpQuiet_nil ?_
    rintro _ ⟨t, rfl⟩
    have HBT := Lib.hid (HTX.out t)
    clear s0_ s1_ s2_ s3_ s4_ s5_ s6_ s7_ s8_ s9_ s10_ s11_ s12_ s13_
    generalize F t = w3 at HBT ⊢
    go_wp2
    go_ret
    exact ⟨retb HE.out, HMV.out _ HBT.out⟩
  case pos =>
  subst he
  obtain ⟨b7, hb7⟩ : ∃ b, pb (apP fs zs us) = b := ⟨_, rfl⟩
  have CA : Hid (∀ x, Calls Tryd.prog 84 #[.agg #[.slice (some ⟨g1, 0, none⟩) n1 c1, .slice (some ⟨g2, 0, none⟩) n2 c2_], .agg #[.int .i64 s2, .slice A n c], .agg #[.int .i64 s2, .slice A2 m c2]] (F x) (RetP (.bool b7) (F x))) := Lib.hid fun x => by rw [← hb7]; exact l4Apart_ (c := c) (c3 := c2) (HNT.out.moved (HMV.out _ (HTX.out x))) HV.out s2 HN.out (HR.out.moved (HMV.out _ (HTX.out x))) hx s2 HM.out (HQ.out.moved (HMV.out _ (HTX.out x))) hx2 (routeB_in H3.out)
  have HE : Hid (b7 = r) := Lib.hid (by
    rw [HRB.out, ← hb7]
    by_cases hp : apP fs zs us
    · rw [pb_true hp, pb_true ⟨⟨H5.out, of_pb H6.out⟩, rfl, by rw [HEU.out, HEZ.out], hp⟩]
    · rw [pb_false hp, pb_false (fun h => hp h.2.2.2)])
  clear hb7
  refine wp_region_class F (by kernel_rfl) (by kernel_rfl) x0 HXX.out ?_
  repeat (go_big_quiet_step (first | (go_at_call 81; with_reducible exact Calls.inClass HST (CG.out _)) | (go_at_call 82; with_reducible exact Calls.inClass HST (CB.out _)) | (go_at_call 83; with_reducible exact Calls.inClass HST (CEU.out _)) | (go_at_call 83; with_reducible exact Calls.inClass HST (CEZ.out _)) | (go_at_call 84; with_reducible exact Calls.inClass HST (CA.out _))))
  refine wpQuiet_nil ?_
  rintro _ ⟨t, rfl⟩
  have HBT := Lib.hid (HTX.out t)
  clear s0_ s1_ s2_ s3_ s4_ s5_ s6_ s7_ s8_ s9_ s10_ s11_ s12_ s13_
  generalize F t = w3 at HBT ⊢
  go_wp2
  go_ret
  exact ⟨retb HE.out, HMV.out _ HBT.out⟩
end Go.Proofs.YtlgkjidginibdaaDoor
