/- Whether a service is valid: contract of the implementation. No condition but those typed. -/
import Derived.Test.YtlgkjidginibdaaDoorScS
import Derived.Test.YtlgkjidginibdaaDoorBoth
import Derived.BigRegion
import Derived.BigQuiet
import Derived.Deep.RegionHeld3
namespace Go.Proofs.YtlgkjidginibdaaDoor
open Go.ChangeShapes Go.WideShapes Go.ChangeAt Go.RowKit


theorem svTakeH {P : Program} {md : Region.Mode} {ops : Array Oper} {Q : Exit → Act → World → Prop} {S : World → Prop} {i : Nat} {oi : Oper} {d : Option Nat} {v : Value} {fuel : Nat} {listed : Array Bool} {a : Act} {w : World} (hi : ops[i]? = some oi) (hd : oi.dst = d)
    (hs : Region.noSelect ops = true) (hf : Region.free md ops listed i = true) (hr : (Region.ready md ops listed).contains i = true)
    (hQ : ∀ c a w, Q (.panic c) (a.put d v) w → Q (.panic c) a w) (hy : YieldsIf P ops S oi v a) (hS : S w)
    (h : wpAnyH P md ops Q S fuel (listed.setIfInBounds i true) (a.put d v) w) : wpAnyH P md ops Q S (fuel + 1) listed a w := by
  subst hd; exact wpAnyH_take hi hs hf hr hQ hy hS h
set_option maxRecDepth 100000 in
set_option maxHeartbeats 8000000 in
theorem isServiceOf_ {g1 g2 n1 n2 c1 c2_ : Nat} {ss : List ByteArray} {fs : List Q4} {w : World} (h : NetAt g1 g2 n1 n2 c1 c2_ ss fs w) (hv : netP ss fs) (i k s1 x1 y1 s2 x2 y2 : Int) {A : Option Addr} {n c : Nat} {zs : List Int} (hn : zs.length = n) (hr : Rd w w.heap.size A (zs.map (Value.int .i64))) (hx : n ≤ 1048576) {A2 : Option Addr} {m c2 : Nat} {us : List Int} (hm : us.length = m) (hq : Rd w w.heap.size A2 (us.map (Value.int .i64))) (hx2 : m ≤ 1048576) :
    Calls Tryd.prog 63 #[.agg #[.slice (some ⟨g1, 0, none⟩) n1 c1, .slice (some ⟨g2, 0, none⟩) n2 c2_], .agg #[.int .i64 i, .int .i64 k, .int .i64 s1, .slice A n c, .int .i64 x1, .int .i64 y1, .int .i64 s2, .slice A2 m c2, .int .i64 x2, .int .i64 y2]] w (RetP (.bool (pb (svP ss fs ⟨i, k, s1, zs, x1, y1, s2, us, x2, y2⟩))) w) := by
  have HNT := Lib.hid h; have HV := Lib.hid hv; have HN := Lib.hid hn; have HR := Lib.hid hr; have HM := Lib.hid hm; have HQ := Lib.hid hq
  have HL1 := Lib.hid h.ln1
  obtain ⟨r, hrr⟩ : ∃ r, pb (svP ss fs ⟨i, k, s1, zs, x1, y1, s2, us, x2, y2⟩) = r := ⟨_, rfl⟩
  have HP : Hid (svP ss fs ⟨i, k, s1, zs, x1, y1, s2, us, x2, y2⟩ ↔ ((1 ≤ i ∧ i ≤ 999) ∧ (0 ≤ k ∧ k ≤ 2)) ∧ (routeB ss fs s1 zs = true ∧ blkP x1 y1) ∧ (k = 0 → (s2 = 0 ∧ us = []) ∧ x2 = 0 ∧ y2 = 0) ∧ (k ≠ 0 → (routeB ss fs s2 us = true ∧ blkP x2 y2) ∧ s2 = s1 ∧ endI ss fs s2 us = endI ss fs s1 zs ∧ apP fs zs us)) := Lib.hid Iff.rfl
  rw [hrr]
  have HRR := Lib.hid hrr
  clear h hv hn hr hm hq hrr
  obtain ⟨W0, hW0⟩ : ∃ W0, (w.alloc (Obj.cells #[.slice (some ⟨g1, 0, none⟩) n1 c1, .slice (some ⟨g2, 0, none⟩) n2 c2_] 34)).alloc (Obj.cells #[.int .i64 i, .int .i64 k, .int .i64 s1, .slice A n c, .int .i64 x1, .int .i64 y1, .int .i64 s2, .slice A2 m c2, .int .i64 x2, .int .i64 y2] 67) = W0 := ⟨_, rfl⟩
  have hb0 : Below w.heap.size w W0 := by rw [← hW0]; exact ((Below.refl _ _).alloc (Nat.le_refl _) _).alloc (by simp) _
  have k0_0 : W0.cell? ⟨w.heap.size, 0, none⟩ = some (.slice (some ⟨g1, 0, none⟩) n1 c1) := by rw [← hW0]; simp [go_sem]
  have k0_1 : W0.cell? ⟨w.heap.size, 1, none⟩ = some (.slice (some ⟨g2, 0, none⟩) n2 c2_) := by rw [← hW0]; simp [go_sem]
  have k1_0 : W0.cell? ⟨w.heap.size + 1, 0, none⟩ = some (.int .i64 i) := by rw [← hW0]; simp [go_sem]
  have k1_1 : W0.cell? ⟨w.heap.size + 1, 1, none⟩ = some (.int .i64 k) := by rw [← hW0]; simp [go_sem]
  have k1_2 : W0.cell? ⟨w.heap.size + 1, 2, none⟩ = some (.int .i64 s1) := by rw [← hW0]; simp [go_sem]
  have k1_3 : W0.cell? ⟨w.heap.size + 1, 3, none⟩ = some (.slice A n c) := by rw [← hW0]; simp [go_sem]
  have k1_4 : W0.cell? ⟨w.heap.size + 1, 4, none⟩ = some (.int .i64 x1) := by rw [← hW0]; simp [go_sem]
  have k1_5 : W0.cell? ⟨w.heap.size + 1, 5, none⟩ = some (.int .i64 y1) := by rw [← hW0]; simp [go_sem]
  have k1_6 : W0.cell? ⟨w.heap.size + 1, 6, none⟩ = some (.int .i64 s2) := by rw [← hW0]; simp [go_sem]
  have k1_7 : W0.cell? ⟨w.heap.size + 1, 7, none⟩ = some (.slice A2 m c2) := by rw [← hW0]; simp [go_sem]
  have k1_8 : W0.cell? ⟨w.heap.size + 1, 8, none⟩ = some (.int .i64 x2) := by rw [← hW0]; simp [go_sem]
  have k1_9 : W0.cell? ⟨w.heap.size + 1, 9, none⟩ = some (.int .i64 y2) := by rw [← hW0]; simp [go_sem]
  have hz : w.heap.size + 1 < W0.heap.size := by rw [← hW0]; simp
  have HK : Hid (∀ U, Below W0.heap.size W0 U → U.cell? ⟨w.heap.size, 0, none⟩ = some (.slice (some ⟨g1, 0, none⟩) n1 c1) ∧ U.cell? ⟨w.heap.size, 1, none⟩ = some (.slice (some ⟨g2, 0, none⟩) n2 c2_) ∧ w.heap.size < U.heap.size ∧ U.cell? ⟨w.heap.size + 1, 0, none⟩ = some (.int .i64 i) ∧ U.cell? ⟨w.heap.size + 1, 1, none⟩ = some (.int .i64 k) ∧ U.cell? ⟨w.heap.size + 1, 2, none⟩ = some (.int .i64 s1) ∧ U.cell? ⟨w.heap.size + 1, 3, none⟩ = some (.slice A n c) ∧ U.cell? ⟨w.heap.size + 1, 4, none⟩ = some (.int .i64 x1) ∧ U.cell? ⟨w.heap.size + 1, 5, none⟩ = some (.int .i64 y1) ∧ U.cell? ⟨w.heap.size + 1, 6, none⟩ = some (.int .i64 s2) ∧ U.cell? ⟨w.heap.size + 1, 7, none⟩ = some (.slice A2 m c2) ∧ U.cell? ⟨w.heap.size + 1, 8, none⟩ = some (.int .i64 x2) ∧ U.cell? ⟨w.heap.size + 1, 9, none⟩ = some (.int .i64 y2) ∧ w.heap.size + 1 < U.heap.size) := Lib.hid fun U hU => ⟨(hU.cell (p := ⟨w.heap.size, 0, none⟩) (by show w.heap.size < _; omega)).trans k0_0, (hU.cell (p := ⟨w.heap.size, 1, none⟩) (by show w.heap.size < _; omega)).trans k0_1, by have := hU.size; omega, (hU.cell (p := ⟨w.heap.size + 1, 0, none⟩) (by show w.heap.size + 1 < _; omega)).trans k1_0, (hU.cell (p := ⟨w.heap.size + 1, 1, none⟩) (by show w.heap.size + 1 < _; omega)).trans k1_1, (hU.cell (p := ⟨w.heap.size + 1, 2, none⟩) (by show w.heap.size + 1 < _; omega)).trans k1_2, (hU.cell (p := ⟨w.heap.size + 1, 3, none⟩) (by show w.heap.size + 1 < _; omega)).trans k1_3, (hU.cell (p := ⟨w.heap.size + 1, 4, none⟩) (by show w.heap.size + 1 < _; omega)).trans k1_4, (hU.cell (p := ⟨w.heap.size + 1, 5, none⟩) (by show w.heap.size + 1 < _; omega)).trans k1_5, (hU.cell (p := ⟨w.heap.size + 1, 6, none⟩) (by show w.heap.size + 1 < _; omega)).trans k1_6, (hU.cell (p := ⟨w.heap.size + 1, 7, none⟩) (by show w.heap.size + 1 < _; omega)).trans k1_7, (hU.cell (p := ⟨w.heap.size + 1, 8, none⟩) (by show w.heap.size + 1 < _; omega)).trans k1_8, (hU.cell (p := ⟨w.heap.size + 1, 9, none⟩) (by show w.heap.size + 1 < _; omega)).trans k1_9, by have := hU.size; omega⟩
  have HB0 := Lib.hid hb0
  have HMV : Hid (∀ U, Below W0.heap.size W0 U → Below w.heap.size w U) := Lib.hid fun U hU => hb0.trans (hU.mono hb0.size)
  clear k0_0 k0_1 k1_0 k1_1 k1_2 k1_3 k1_4 k1_5 k1_6 k1_7 k1_8 k1_9 hz hb0
  go_enter Tryd.func63, Tryd.ntmps63
  obtain ⟨q0, q1, q2, q3, q4, q5, q6, q7, q8, q9, q10, q11, q12, q13⟩ := HK.out W0 (Below.refl _ _)
  go_wp2_with fail
  try rw [hW0]
  clear hW0 q0 q1 q2 q3 q4 q5 q6 q7 q8 q9 q10 q11 q12 q13
  have CW := walkAlong_ (c := c) (HNT.out.moved HB0.out) HV.out s1 HN.out (HR.out.moved HB0.out) hx
  refine CW.mono ?_
  rintro e u1 ⟨hb1, h1⟩
  have HU1 := Lib.hid hb1
  clear CW hb1
  obtain ⟨q0, q1, q2, q3, q4, q5, q6, q7, q8, q9, q10, q11, q12, q13⟩ := HK.out u1 HU1.out
  rcases h1 with ⟨hs1, rfl⟩ | ⟨vs, g', hs1, rfl, hlk⟩
  · have HE : Hid (false = r) := Lib.hid (by rw [← HRR.out]; exact (pb_false (fun h => by have h2 := (HP.out.1 h).2.1.1; rw [routeB_no HV.out (by rw [HL1.out]; exact hs1)] at h2; exact absurd h2 (by decide))).symm)
    clear hs1
    go_wp2
    go_ret
    exact ⟨retb HE.out, HMV.out _ HU1.out⟩
  have H3 : Hid (routeB ss fs s1 zs = true) := Lib.hid (routeB_some HV.out (by rw [HL1.out]; exact hs1))
  have HEZ : Hid (endI ss fs s1 zs = vs.headD 0) := Lib.hid (endI_of (by rw [HL1.out]; exact hs1))
  have HLZ := Lib.hid hlk
  clear hs1 hlk
  by_cases hi1 : 1 ≤ i
  case neg =>
    have HE : Hid (false = r) := Lib.hid (by rw [← HRR.out]; exact (pb_false (fun h => hi1 ((HP.out.1 h).1.1.1))).symm)
    have q_ : decide (i < 1) = true := decide_eq_true (by omega)
    clear hi1
    go_wp2
    go_ret
    exact ⟨retb HE.out, HMV.out _ HU1.out⟩
  case pos =>
  have qi1 : decide (i < 1) = false := decide_eq_false (by omega)
  by_cases hi2 : i ≤ 999
  case neg =>
    have HE : Hid (false = r) := Lib.hid (by rw [← HRR.out]; exact (pb_false (fun h => hi2 ((HP.out.1 h).1.1.2))).symm)
    have q_ : decide (999 < i) = true := decide_eq_true (by omega)
    clear hi2
    go_wp2
    go_ret
    exact ⟨retb HE.out, HMV.out _ HU1.out⟩
  case pos =>
  have qi2 : decide (999 < i) = false := decide_eq_false (by omega)
  go_wp2_with fail
  clear q0 q1 q2 q3 q4 q5 q6 q7 q8 q9 q10 q11 q12 q13
  obtain ⟨b4, hb4⟩ : ∃ b, pb (blkP x1 y1) = b := ⟨_, rfl⟩
  have CG := implBlk x1 y1 u1
  rw [hb4] at CG
  refine CG.mono ?_
  rintro e u2 ⟨rfl, hbu2⟩
  have H4 := Lib.hid hb4; have HU2 := Lib.hid (HU1.out.trans (hbu2.mono HU1.out.size))
  have HLZ2 := Lib.hid (HLZ.out.over hbu2)
  clear CG hb4 hbu2 HLZ
  obtain ⟨q0, q1, q2, q3, q4, q5, q6, q7, q8, q9, q10, q11, q12, q13⟩ := HK.out u2 HU2.out
  cases b4
  case false =>
    have HE : Hid (false = r) := Lib.hid (by rw [← HRR.out]; exact (pb_false (fun h => by have h2 := (HP.out.1 h).2.1.2; rw [pb_true h2] at H4; exact absurd H4.out (by decide))).symm)
    go_wp2
    go_ret
    exact ⟨retb HE.out, HMV.out _ HU2.out⟩
  case true =>
  by_cases hk0 : k = 0
  case pos =>
    subst hk0
    have HRB : Hid (r = pb ((s2 = 0 ∧ us = []) ∧ x2 = 0 ∧ y2 = 0)) := Lib.hid (by
      rw [← HRR.out]
      by_cases hp : (s2 = 0 ∧ us = []) ∧ x2 = 0 ∧ y2 = 0
      · rw [pb_true hp, pb_true (HP.out.2 ⟨⟨⟨hi1, hi2⟩, by omega, by omega⟩, ⟨H3.out, of_pb H4.out⟩, fun _ => hp, fun h => absurd rfl h⟩)]
      · rw [pb_false hp, pb_false (fun h => hp ((HP.out.1 h).2.2.1 rfl))])
    by_cases h1 : s2 = 0
    case neg =>
      have e1 : (s2 == 0) = false := beq_eq_false_iff_ne.2 h1
      have HE : Hid (false = r) := Lib.hid (by rw [HRB.out]; exact (pb_false (fun h => h1 h.1.1)).symm)
      clear h1
      go_wp2
      go_ret
      exact ⟨retb HE.out, HMV.out _ HU2.out⟩
    case pos =>
    subst h1
    by_cases h2 : m = 0
    case neg =>
      have e1 : (m == 0) = false := by simp; omega
      have e2 : ((m : Int) == 0) = false := by simp; omega
      have HE : Hid (false = r) := Lib.hid (by rw [HRB.out]; exact (pb_false (fun h => h2 (by rw [← HM.out, h.1.2]; rfl))).symm)
      clear h2
      go_wp2
      go_ret
      exact ⟨retb HE.out, HMV.out _ HU2.out⟩
    case pos =>
    subst h2
    have HUS : Hid (us = []) := Lib.hid (List.eq_nil_of_length_eq_zero HM.out)
    by_cases h3 : x2 = 0
    case neg =>
      have e1 : (x2 == 0) = false := beq_eq_false_iff_ne.2 h3
      have HE : Hid (false = r) := Lib.hid (by rw [HRB.out]; exact (pb_false (fun h => h3 h.2.1)).symm)
      clear h3
      go_wp2
      go_ret
      exact ⟨retb HE.out, HMV.out _ HU2.out⟩
    case pos =>
    subst h3
    by_cases h4 : y2 = 0
    case neg =>
      have e1 : (y2 == 0) = false := beq_eq_false_iff_ne.2 h4
      have HE : Hid (false = r) := Lib.hid (by rw [HRB.out]; exact (pb_false (fun h => h4 h.2.2)).symm)
      clear h4
      go_wp2
      go_ret
      exact ⟨retb HE.out, HMV.out _ HU2.out⟩
    case pos =>
    subst h4
    have HE : Hid (true = r) := Lib.hid (by rw [HRB.out]; exact (pb_true ⟨⟨rfl, HUS.out⟩, rfl, rfl⟩).symm)
    go_wp2
    go_ret
    exact ⟨retb HE.out, HMV.out _ HU2.out⟩
  case neg =>
  have ek : (k == 0) = false := beq_eq_false_iff_ne.2 hk0
  by_cases hk12 : k = 1 ∨ k = 2
  case neg =>
    have ek1 : (k == 1) = false := beq_eq_false_iff_ne.2 (fun e => hk12 (.inl e))
    have ek2 : (k == 2) = false := beq_eq_false_iff_ne.2 (fun e => hk12 (.inr e))
    have HE : Hid (false = r) := Lib.hid (by rw [← HRR.out]; exact (pb_false (fun h => by have h2 := (HP.out.1 h).1.2; omega)).symm)
    clear hk12
    go_wp2
    go_ret
    exact ⟨retb HE.out, HMV.out _ HU2.out⟩
  case pos =>
  have HRB : Hid (r = pb ((routeB ss fs s2 us = true ∧ blkP x2 y2) ∧ s2 = s1 ∧ endI ss fs s2 us = endI ss fs s1 zs ∧ apP fs zs us)) := Lib.hid (by
    rw [← HRR.out]
    by_cases hp : (routeB ss fs s2 us = true ∧ blkP x2 y2) ∧ s2 = s1 ∧ endI ss fs s2 us = endI ss fs s1 zs ∧ apP fs zs us
    · rw [pb_true hp, pb_true (HP.out.2 ⟨⟨⟨hi1, hi2⟩, by omega, by omega⟩, ⟨H3.out, of_pb H4.out⟩, fun h => absurd h hk0, fun _ => hp⟩)]
    · rw [pb_false hp, pb_false (fun h => hp ((HP.out.1 h).2.2.2 hk0))])
  clear HRR HP
  go_upto_region 7 with fail
  go_cut [55] (fun s55 wx => s55 = .bool (k == 1) ∧ wx = u2)
  case first =>
    go_wp2_with fail
    go_meet
    exact ⟨rfl, rfl⟩
  case rest =>
  revert hcut; generalize wc = wc1; intro hcut
  obtain ⟨h55, hwc⟩ := hcut
  subst h55; subst hwc
  apply_assumption
  go_cut [55] (fun s55 wx => s55 = .bool true ∧ wx = wc1)
  case first =>
    rcases hk12 with rfl | rfl
    · go_wp2_with fail
      go_meet
      exact ⟨rfl, rfl⟩
    · go_wp2_with fail
      go_meet
      exact ⟨rfl, rfl⟩
  case rest =>
  revert hcut; generalize wc = wc2; intro hcut
  obtain ⟨h55, hwc⟩ := hcut
  subst h55; subst hwc
  apply_assumption
  have CW := Lib.hid (walkAlong_ (c := c2) (HNT.out.moved (HMV.out _ HU2.out)) HV.out s2 HM.out (HQ.out.moved (HMV.out _ HU2.out)) hx2)
  go_wp2_with fail
  refine CW.out.mono ?_
  rintro e u3 ⟨hb3, hcut⟩
  have HU3 := Lib.hid (HU2.out.trans (hb3.mono HU2.out.size))
  have HLZ3 := Lib.hid (HLZ2.out.over hb3)
  clear hb3 hk12 ek CW q0 q1 q2 q3 q4 q5 q6 q7 q8 q9 q10 q11 q12 q13

  obtain ⟨X, F, x0, hx0, hTT, HST⟩ := above u3
  haveI : Nonempty X := ⟨x0⟩
  have HXX := Lib.hid hx0
  have HTX : Hid (∀ x, Below W0.heap.size W0 (F x)) := Lib.hid fun x => HU3.out.trans ((hTT x).mono HU3.out.size)
  have HT3 : Hid (∀ x, Below u3.heap.size u3 (F x)) := Lib.hid hTT
  clear hTT hx0
  have s0_ : ∀ x, (F x).cell? ⟨w.heap.size, 0, none⟩ = some (.slice (some ⟨g1, 0, none⟩) n1 c1) := fun x => (HK.out _ (HTX.out x)).1
  have s1_ : ∀ x, (F x).cell? ⟨w.heap.size, 1, none⟩ = some (.slice (some ⟨g2, 0, none⟩) n2 c2_) := fun x => (HK.out _ (HTX.out x)).2.1
  have s2_ : ∀ x, w.heap.size < (F x).heap.size := fun x => (HK.out _ (HTX.out x)).2.2.1
  have s3_ : ∀ x, (F x).cell? ⟨w.heap.size + 1, 0, none⟩ = some (.int .i64 i) := fun x => (HK.out _ (HTX.out x)).2.2.2.1
  have s4_ : ∀ x, (F x).cell? ⟨w.heap.size + 1, 1, none⟩ = some (.int .i64 k) := fun x => (HK.out _ (HTX.out x)).2.2.2.2.1
  have s5_ : ∀ x, (F x).cell? ⟨w.heap.size + 1, 2, none⟩ = some (.int .i64 s1) := fun x => (HK.out _ (HTX.out x)).2.2.2.2.2.1
  have s6_ : ∀ x, (F x).cell? ⟨w.heap.size + 1, 3, none⟩ = some (.slice A n c) := fun x => (HK.out _ (HTX.out x)).2.2.2.2.2.2.1
  have s7_ : ∀ x, (F x).cell? ⟨w.heap.size + 1, 4, none⟩ = some (.int .i64 x1) := fun x => (HK.out _ (HTX.out x)).2.2.2.2.2.2.2.1
  have s8_ : ∀ x, (F x).cell? ⟨w.heap.size + 1, 5, none⟩ = some (.int .i64 y1) := fun x => (HK.out _ (HTX.out x)).2.2.2.2.2.2.2.2.1
  have s9_ : ∀ x, (F x).cell? ⟨w.heap.size + 1, 6, none⟩ = some (.int .i64 s2) := fun x => (HK.out _ (HTX.out x)).2.2.2.2.2.2.2.2.2.1
  have s10_ : ∀ x, (F x).cell? ⟨w.heap.size + 1, 7, none⟩ = some (.slice A2 m c2) := fun x => (HK.out _ (HTX.out x)).2.2.2.2.2.2.2.2.2.2.1
  have s11_ : ∀ x, (F x).cell? ⟨w.heap.size + 1, 8, none⟩ = some (.int .i64 x2) := fun x => (HK.out _ (HTX.out x)).2.2.2.2.2.2.2.2.2.2.2.1
  have s12_ : ∀ x, (F x).cell? ⟨w.heap.size + 1, 9, none⟩ = some (.int .i64 y2) := fun x => (HK.out _ (HTX.out x)).2.2.2.2.2.2.2.2.2.2.2.2.1
  have s13_ : ∀ x, w.heap.size + 1 < (F x).heap.size := fun x => (HK.out _ (HTX.out x)).2.2.2.2.2.2.2.2.2.2.2.2.2
  rcases hcut with ⟨hs3, rfl⟩ | ⟨vt, g9, hs3, rfl, hlk9⟩
  · have HE : Hid (false = r) := Lib.hid (by rw [HRB.out]; exact (pb_false (fun h => by have h2 := h.1.1; rw [routeB_no HV.out (by rw [HL1.out]; exact hs3)] at h2; exact absurd h2 (by decide))).symm)
    clear hs3
    go_wp2_with fail
    refine wp_region_class F (by kernel_rfl) (by kernel_rfl) x0 HXX.out ?_
    repeat (go_big_quiet_step (fail))
    refine wpQuiet_nil ?_
    rintro _ ⟨t, rfl⟩
    have HBT := Lib.hid (HTX.out t)
    clear s0_ s1_ s2_ s3_ s4_ s5_ s6_ s7_ s8_ s9_ s10_ s11_ s12_ s13_
    generalize F t = w3 at HBT ⊢
    go_wp2
    go_ret
    exact ⟨retb HE.out, HMV.out _ HBT.out⟩
  have H5 := Lib.hid (routeB_some HV.out (by rw [HL1.out]; exact hs3)); have HEU := Lib.hid (endI_of (by rw [HL1.out]; exact hs3))
  clear hs3
  by_cases hs : s2 = s1
  case neg =>
    have es : (s2 == s1) = false := beq_eq_false_iff_ne.2 hs
    have HE : Hid (false = r) := Lib.hid (by rw [HRB.out]; exact (pb_false (fun h => hs h.2.1)).symm)
    clear hs
    go_wp2_with fail
    refine wp_region_class F (by kernel_rfl) (by kernel_rfl) x0 HXX.out ?_
    repeat (go_big_quiet_step (fail))
    refine wpQuiet_nil ?_
    rintro _ ⟨t, rfl⟩
    have HBT := Lib.hid (HTX.out t)
    clear s0_ s1_ s2_ s3_ s4_ s5_ s6_ s7_ s8_ s9_ s10_ s11_ s12_ s13_
    generalize F t = w3 at HBT ⊢
    go_wp2
    go_ret
    exact ⟨retb HE.out, HMV.out _ HBT.out⟩
  case pos =>
  subst hs
  obtain ⟨nz, tz, laz, pz, hnz, hhz, _⟩ := HLZ3.out.see
  obtain ⟨nu, tu, lau, pu, hnu, hhu, _⟩ := hlk9.see
  obtain ⟨fz0, _, _, _, _⟩ := five_cells hhz
  obtain ⟨fu0, _, _, _, _⟩ := five_cells hhu
  have hgz : g' < u3.heap.size := HLZ3.out.lt
  have hgu : g9 < u3.heap.size := hlk9.lt
  have HEQ : Hid (endI ss fs s2 us = endI ss fs s2 zs ↔ nu = nz) := Lib.hid (by rw [HEU.out, HEZ.out, hnz, hnu]; exact Iff.rfl)
  have HFZ := Lib.hid fz0; have HFU := Lib.hid fu0
  clear hnz hhz hnu hhu fz0 fu0 hlk9 HLZ3
  have sz_ : ∀ x, (F x).cell? ⟨g', 0, none⟩ = some (.int .i64 nz) := fun x => ((HT3.out x).cell (p := ⟨g', 0, none⟩) hgz).trans HFZ.out
  have su_ : ∀ x, (F x).cell? ⟨g9, 0, none⟩ = some (.int .i64 nu) := fun x => ((HT3.out x).cell (p := ⟨g9, 0, none⟩) hgu).trans HFU.out
  have szz : ∀ x, g' < (F x).heap.size := fun x => Nat.lt_of_lt_of_le hgz (HT3.out x).size
  have suu : ∀ x, g9 < (F x).heap.size := fun x => Nat.lt_of_lt_of_le hgu (HT3.out x).size
  by_cases he : nu = nz
  case neg =>
    have ee : (nu == nz) = false := beq_eq_false_iff_ne.2 he
    have HE : Hid (false = r) := Lib.hid (by rw [HRB.out]; exact (pb_false (fun h => he (HEQ.out.1 h.2.2.1))).symm)
    clear he
    go_wp2_with fail
    refine wp_region_class F (by kernel_rfl) (by kernel_rfl) x0 HXX.out ?_
    repeat (go_big_quiet_step (fail))
    refine wpQuiet_nil ?_
    rintro _ ⟨t, rfl⟩
    have HBT := Lib.hid (HTX.out t)
    clear s0_ s1_ s2_ s3_ s4_ s5_ s6_ s7_ s8_ s9_ s10_ s11_ s12_ s13_ sz_ su_ szz suu
    generalize F t = w3 at HBT ⊢
    go_wp2
    go_ret
    exact ⟨retb HE.out, HMV.out _ HBT.out⟩
  case pos =>
  subst he
  clear s0_ s1_ s2_ s3_ s4_ s5_ s6_ s7_ s8_ s9_ s10_ s11_ s12_ s13_ sz_ su_ szz suu HT3 HTX HXX HST
  have CB := Lib.hid (fun (U : World) (hU : Below u3.heap.size u3 U) => onBoth_ (c := c) (c3 := c2) (HNT.out.moved (HMV.out _ (HU3.out.trans (hU.mono HU3.out.size)))) HV.out s2 HN.out (HR.out.moved (HMV.out _ (HU3.out.trans (hU.mono HU3.out.size)))) hx s2 HM.out (HQ.out.moved (HMV.out _ (HU3.out.trans (hU.mono HU3.out.size)))) hx2 (routeB_in H3.out) (routeB_in H5.out))
  have HAP := Lib.hid (ap_iff HV.out (xs := zs) (ys := us) (routeB_in H3.out))
  obtain ⟨LL, hLL⟩ : ∃ L, bothK (rgL fs) zs us (rgL fs).length = L := ⟨_, rfl⟩
  rw [hLL] at CB HAP
  clear hLL
  obtain ⟨q0, q1, q2, q3, q4, q5, q6, q7, q8, q9, q10, q11, q12, q13⟩ := HK.out u3 HU3.out
  have fz := HFZ.out; have fu := HFU.out
  have HKS : Hid (∀ U, Below u3.heap.size u3 U → (U.cell? ⟨w.heap.size, 0, none⟩ = some (.slice (some ⟨g1, 0, none⟩) n1 c1) ∧ U.cell? ⟨w.heap.size, 1, none⟩ = some (.slice (some ⟨g2, 0, none⟩) n2 c2_) ∧ w.heap.size < U.heap.size ∧ U.cell? ⟨w.heap.size + 1, 0, none⟩ = some (.int .i64 i) ∧ U.cell? ⟨w.heap.size + 1, 1, none⟩ = some (.int .i64 k) ∧ U.cell? ⟨w.heap.size + 1, 2, none⟩ = some (.int .i64 s2) ∧ U.cell? ⟨w.heap.size + 1, 3, none⟩ = some (.slice A n c) ∧ U.cell? ⟨w.heap.size + 1, 4, none⟩ = some (.int .i64 x1) ∧ U.cell? ⟨w.heap.size + 1, 5, none⟩ = some (.int .i64 y1) ∧ U.cell? ⟨w.heap.size + 1, 6, none⟩ = some (.int .i64 s2) ∧ U.cell? ⟨w.heap.size + 1, 7, none⟩ = some (.slice A2 m c2) ∧ U.cell? ⟨w.heap.size + 1, 8, none⟩ = some (.int .i64 x2) ∧ U.cell? ⟨w.heap.size + 1, 9, none⟩ = some (.int .i64 y2) ∧ w.heap.size + 1 < U.heap.size ∧ U.cell? ⟨g', 0, none⟩ = some (.int .i64 nu) ∧ U.cell? ⟨g9, 0, none⟩ = some (.int .i64 nu) ∧ g' < U.heap.size ∧ g9 < U.heap.size)) := Lib.hid fun U hU => by
    obtain ⟨a0, a1, a2, a3, a4, a5, a6, a7, a8, a9, a10, a11, a12, a13⟩ := HK.out U (HU3.out.trans (hU.mono HU3.out.size))
    exact ⟨a0, a1, a2, a3, a4, a5, a6, a7, a8, a9, a10, a11, a12, a13, (hU.cell (p := ⟨g', 0, none⟩) hgz).trans HFZ.out, (hU.cell (p := ⟨g9, 0, none⟩) hgu).trans HFU.out, Nat.lt_of_lt_of_le hgz hU.size, Nat.lt_of_lt_of_le hgu hU.size⟩
  by_cases hLe : LL = []
  case pos =>
    have CK := Lib.hid (fun (U : World) => implBlk x2 y2 U)
    obtain ⟨b6, hb6⟩ : ∃ b, pb (blkP x2 y2) = b := ⟨_, rfl⟩
    rw [hb6] at CK
    have HE : Hid (b6 = r) := Lib.hid (by
      rw [HRB.out, ← hb6]
      by_cases hp : blkP x2 y2
      · rw [pb_true hp, pb_true ⟨⟨H5.out, hp⟩, rfl, HEQ.out.2 rfl, HAP.out.2 hLe⟩]
      · rw [pb_false hp, pb_false (fun h => hp h.1.2)])
    have HL0 : Hid (LL.length = 0) := Lib.hid (by rw [hLe]; rfl)
    clear hb6 hLe HAP
    go_wp2_with fail
    go_region_held3 (fun U => U.cell? ⟨w.heap.size, 0, none⟩ = some (.slice (some ⟨g1, 0, none⟩) n1 c1) ∧ U.cell? ⟨w.heap.size, 1, none⟩ = some (.slice (some ⟨g2, 0, none⟩) n2 c2_) ∧ w.heap.size < U.heap.size ∧ U.cell? ⟨w.heap.size + 1, 0, none⟩ = some (.int .i64 i) ∧ U.cell? ⟨w.heap.size + 1, 1, none⟩ = some (.int .i64 k) ∧ U.cell? ⟨w.heap.size + 1, 2, none⟩ = some (.int .i64 s2) ∧ U.cell? ⟨w.heap.size + 1, 3, none⟩ = some (.slice A n c) ∧ U.cell? ⟨w.heap.size + 1, 4, none⟩ = some (.int .i64 x1) ∧ U.cell? ⟨w.heap.size + 1, 5, none⟩ = some (.int .i64 y1) ∧ U.cell? ⟨w.heap.size + 1, 6, none⟩ = some (.int .i64 s2) ∧ U.cell? ⟨w.heap.size + 1, 7, none⟩ = some (.slice A2 m c2) ∧ U.cell? ⟨w.heap.size + 1, 8, none⟩ = some (.int .i64 x2) ∧ U.cell? ⟨w.heap.size + 1, 9, none⟩ = some (.int .i64 y2) ∧ w.heap.size + 1 < U.heap.size ∧ U.cell? ⟨g', 0, none⟩ = some (.int .i64 nu) ∧ U.cell? ⟨g9, 0, none⟩ = some (.int .i64 nu) ∧ g' < U.heap.size ∧ g9 < U.heap.size)
      (((with_reducible refine HKS.out _ ?_); (repeat (first | with_reducible exact Below.refl _ _ | with_reducible exact HUA.out | with_reducible exact HUB.out | with_reducible refine Below.drew ?_))))
      (first
        | (go_at_call 92
           (refine (CB.out _ ?_).mono ?_); (focus (repeat (first | with_reducible exact Below.refl _ _ | with_reducible refine Below.drew ?_)))
           rintro e uA ⟨A3, N3, d3, rfl, HN3, ho3, hbA⟩
           have HUA : Hid (Below u3.heap.size u3 uA) := Lib.hid (by refine belT ?_ hbA; (repeat (first | with_reducible exact Below.refl _ _ | with_reducible refine Below.drew ?_)))
           obtain rfl : N3 = 0 := HN3.out.trans HL0.out
           clear hbA ho3 HN3)
        | (go_at_call 91
           refine (CK.out _).mono ?_
           rintro e uB ⟨rfl, hbB⟩
           have HUB : Hid (Below u3.heap.size u3 uB) := Lib.hid (by refine belT ?_ hbB; (repeat (first | with_reducible exact HUA.out | with_reducible refine Below.drew ?_)))
           clear hbB))
    all_goals
      clear q0 q1 q2 q3 q4 q5 q6 q7 q8 q9 q10 q11 q12 q13
      go_wp2
      go_ret
      exact ⟨retb HE.out, HMV.out _ (HU3.out.trans (HUB.out.mono HU3.out.size))⟩
  case neg =>
    have HE : Hid (false = r) := Lib.hid (by rw [HRB.out]; exact (pb_false (fun h => hLe (HAP.out.1 h.2.2.2))).symm)
    have HL0 : Hid (0 < LL.length) := Lib.hid (List.length_pos_iff.2 hLe)
    clear hLe HAP
    go_wp2_with fail
    clear q0 q1 q2 q3 q4 q5 q6 q7 q8 q9 q10 q11 q12 q13 fz fu
    refine wp_region_held_drew (S := fun U => U.cell? ⟨w.heap.size, 0, none⟩ = some (.slice (some ⟨g1, 0, none⟩) n1 c1) ∧ U.cell? ⟨w.heap.size, 1, none⟩ = some (.slice (some ⟨g2, 0, none⟩) n2 c2_) ∧ w.heap.size < U.heap.size ∧ U.cell? ⟨w.heap.size + 1, 0, none⟩ = some (.int .i64 i) ∧ U.cell? ⟨w.heap.size + 1, 1, none⟩ = some (.int .i64 k) ∧ U.cell? ⟨w.heap.size + 1, 2, none⟩ = some (.int .i64 s2) ∧ U.cell? ⟨w.heap.size + 1, 3, none⟩ = some (.slice A n c) ∧ U.cell? ⟨w.heap.size + 1, 4, none⟩ = some (.int .i64 x1) ∧ U.cell? ⟨w.heap.size + 1, 5, none⟩ = some (.int .i64 y1) ∧ U.cell? ⟨w.heap.size + 1, 6, none⟩ = some (.int .i64 s2) ∧ U.cell? ⟨w.heap.size + 1, 7, none⟩ = some (.slice A2 m c2) ∧ U.cell? ⟨w.heap.size + 1, 8, none⟩ = some (.int .i64 x2) ∧ U.cell? ⟨w.heap.size + 1, 9, none⟩ = some (.int .i64 y2) ∧ w.heap.size + 1 < U.heap.size ∧ U.cell? ⟨g', 0, none⟩ = some (.int .i64 nu) ∧ U.cell? ⟨g9, 0, none⟩ = some (.int .i64 nu) ∧ g' < U.heap.size ∧ g9 < U.heap.size) (by kernel_rfl) ?_ (fun hHeld => ?_)
    · exact HKS.out _ (Below.refl _ _).drew
    refine svTakeH (i := 0) (d := some 65) (v := .bool true) rfl rfl (by kernel_rfl) (by kernel_rfl) (by kernel_rfl) (fun _ _ _ h => h) (Or.inl ⟨by kernel_rfl, ?_⟩) (by assumption) ?_
    · (intro w9 hSw; (try dsimp only at hSw); go_simp)
    (try simp only [Act.put, List.setIfInBounds_toArray, List.set_cons_zero, List.set_cons_succ])
    refine svTakeH (i := 1) (d := some 66) (v := .bool true) rfl rfl (by kernel_rfl) (by kernel_rfl) (by kernel_rfl) (fun _ _ _ h => h) (Or.inl ⟨by kernel_rfl, ?_⟩) (by assumption) ?_
    · (intro w9 hSw; (try dsimp only at hSw); go_simp)
    (try simp only [Act.put, List.setIfInBounds_toArray, List.set_cons_zero, List.set_cons_succ])
    refine svTakeH (i := 2) (d := some 67) (v := .pointer (some ⟨w.heap.size + 1, 6, none⟩)) rfl rfl (by kernel_rfl) (by kernel_rfl) (by kernel_rfl) (fun _ _ _ h => h) (Or.inl ⟨by kernel_rfl, ?_⟩) (by assumption) ?_
    · (intro w9 hSw; (try dsimp only at hSw); go_simp)
    (try simp only [Act.put, List.setIfInBounds_toArray, List.set_cons_zero, List.set_cons_succ])
    refine svTakeH (i := 3) (d := some 68) (v := .pointer (some ⟨w.heap.size + 1, 6, none⟩)) rfl rfl (by kernel_rfl) (by kernel_rfl) (by kernel_rfl) (fun _ _ _ h => h) (Or.inl ⟨by kernel_rfl, ?_⟩) (by assumption) ?_
    · (intro w9 hSw; (try dsimp only at hSw); go_simp)
    (try simp only [Act.put, List.setIfInBounds_toArray, List.set_cons_zero, List.set_cons_succ])
    refine svTakeH (i := 4) (d := some 69) (v := .int .i64 s2) rfl rfl (by kernel_rfl) (by kernel_rfl) (by kernel_rfl) (fun _ _ _ h => h) (Or.inl ⟨by kernel_rfl, ?_⟩) (by assumption) ?_
    · (intro w9 hSw; (try dsimp only at hSw); go_simp)
    (try simp only [Act.put, List.setIfInBounds_toArray, List.set_cons_zero, List.set_cons_succ])
    refine svTakeH (i := 5) (d := some 70) (v := .pointer (some ⟨w.heap.size + 1, 2, none⟩)) rfl rfl (by kernel_rfl) (by kernel_rfl) (by kernel_rfl) (fun _ _ _ h => h) (Or.inl ⟨by kernel_rfl, ?_⟩) (by assumption) ?_
    · (intro w9 hSw; (try dsimp only at hSw); go_simp)
    (try simp only [Act.put, List.setIfInBounds_toArray, List.set_cons_zero, List.set_cons_succ])
    refine svTakeH (i := 6) (d := some 71) (v := .pointer (some ⟨w.heap.size + 1, 2, none⟩)) rfl rfl (by kernel_rfl) (by kernel_rfl) (by kernel_rfl) (fun _ _ _ h => h) (Or.inl ⟨by kernel_rfl, ?_⟩) (by assumption) ?_
    · (intro w9 hSw; (try dsimp only at hSw); go_simp)
    (try simp only [Act.put, List.setIfInBounds_toArray, List.set_cons_zero, List.set_cons_succ])
    refine svTakeH (i := 7) (d := some 72) (v := .int .i64 s2) rfl rfl (by kernel_rfl) (by kernel_rfl) (by kernel_rfl) (fun _ _ _ h => h) (Or.inl ⟨by kernel_rfl, ?_⟩) (by assumption) ?_
    · (intro w9 hSw; (try dsimp only at hSw); go_simp)
    (try simp only [Act.put, List.setIfInBounds_toArray, List.set_cons_zero, List.set_cons_succ])
    refine svTakeH (i := 8) (d := some 73) (v := .bool true) rfl rfl (by kernel_rfl) (by kernel_rfl) (by kernel_rfl) (fun _ _ _ h => h) (Or.inl ⟨by kernel_rfl, ?_⟩) (by assumption) ?_
    · (intro w9 hSw; (try dsimp only at hSw); go_simp)
    (try simp only [Act.put, List.setIfInBounds_toArray, List.set_cons_zero, List.set_cons_succ])
    refine svTakeH (i := 9) (d := some 74) (v := .bool true) rfl rfl (by kernel_rfl) (by kernel_rfl) (by kernel_rfl) (fun _ _ _ h => h) (Or.inl ⟨by kernel_rfl, ?_⟩) (by assumption) ?_
    · (intro w9 hSw; (try dsimp only at hSw); go_simp)
    (try simp only [Act.put, List.setIfInBounds_toArray, List.set_cons_zero, List.set_cons_succ])
    refine svTakeH (i := 10) (d := some 75) (v := .bool true) rfl rfl (by kernel_rfl) (by kernel_rfl) (by kernel_rfl) (fun _ _ _ h => h) (Or.inl ⟨by kernel_rfl, ?_⟩) (by assumption) ?_
    · (intro w9 hSw; (try dsimp only at hSw); go_simp)
    (try simp only [Act.put, List.setIfInBounds_toArray, List.set_cons_zero, List.set_cons_succ])
    refine svTakeH (i := 11) (d := some 76) (v := .pointer (some ⟨g9, 0, none⟩)) rfl rfl (by kernel_rfl) (by kernel_rfl) (by kernel_rfl) (fun _ _ _ h => h) (Or.inl ⟨by kernel_rfl, ?_⟩) (by assumption) ?_
    · (intro w9 hSw; (try dsimp only at hSw); go_simp)
    (try simp only [Act.put, List.setIfInBounds_toArray, List.set_cons_zero, List.set_cons_succ])
    refine svTakeH (i := 12) (d := some 77) (v := .pointer (some ⟨g9, 0, none⟩)) rfl rfl (by kernel_rfl) (by kernel_rfl) (by kernel_rfl) (fun _ _ _ h => h) (Or.inl ⟨by kernel_rfl, ?_⟩) (by assumption) ?_
    · (intro w9 hSw; (try dsimp only at hSw); go_simp)
    (try simp only [Act.put, List.setIfInBounds_toArray, List.set_cons_zero, List.set_cons_succ])
    refine svTakeH (i := 13) (d := some 78) (v := .pointer (some ⟨g9, 0, none⟩)) rfl rfl (by kernel_rfl) (by kernel_rfl) (by kernel_rfl) (fun _ _ _ h => h) (Or.inl ⟨by kernel_rfl, ?_⟩) (by assumption) ?_
    · (intro w9 hSw; (try dsimp only at hSw); go_simp)
    (try simp only [Act.put, List.setIfInBounds_toArray, List.set_cons_zero, List.set_cons_succ])
    refine svTakeH (i := 14) (d := some 79) (v := .int .i64 nu) rfl rfl (by kernel_rfl) (by kernel_rfl) (by kernel_rfl) (fun _ _ _ h => h) (Or.inl ⟨by kernel_rfl, ?_⟩) (by assumption) ?_
    · (intro w9 hSw; (try dsimp only at hSw); go_simp)
    (try simp only [Act.put, List.setIfInBounds_toArray, List.set_cons_zero, List.set_cons_succ])
    refine svTakeH (i := 15) (d := some 80) (v := .pointer (some ⟨g', 0, none⟩)) rfl rfl (by kernel_rfl) (by kernel_rfl) (by kernel_rfl) (fun _ _ _ h => h) (Or.inl ⟨by kernel_rfl, ?_⟩) (by assumption) ?_
    · (intro w9 hSw; (try dsimp only at hSw); go_simp)
    (try simp only [Act.put, List.setIfInBounds_toArray, List.set_cons_zero, List.set_cons_succ])
    refine svTakeH (i := 16) (d := some 81) (v := .pointer (some ⟨g', 0, none⟩)) rfl rfl (by kernel_rfl) (by kernel_rfl) (by kernel_rfl) (fun _ _ _ h => h) (Or.inl ⟨by kernel_rfl, ?_⟩) (by assumption) ?_
    · (intro w9 hSw; (try dsimp only at hSw); go_simp)
    (try simp only [Act.put, List.setIfInBounds_toArray, List.set_cons_zero, List.set_cons_succ])
    refine svTakeH (i := 17) (d := some 82) (v := .pointer (some ⟨g', 0, none⟩)) rfl rfl (by kernel_rfl) (by kernel_rfl) (by kernel_rfl) (fun _ _ _ h => h) (Or.inl ⟨by kernel_rfl, ?_⟩) (by assumption) ?_
    · (intro w9 hSw; (try dsimp only at hSw); go_simp)
    (try simp only [Act.put, List.setIfInBounds_toArray, List.set_cons_zero, List.set_cons_succ])
    refine svTakeH (i := 18) (d := some 83) (v := .int .i64 nu) rfl rfl (by kernel_rfl) (by kernel_rfl) (by kernel_rfl) (fun _ _ _ h => h) (Or.inl ⟨by kernel_rfl, ?_⟩) (by assumption) ?_
    · (intro w9 hSw; (try dsimp only at hSw); go_simp)
    (try simp only [Act.put, List.setIfInBounds_toArray, List.set_cons_zero, List.set_cons_succ])
    refine svTakeH (i := 19) (d := some 84) (v := .bool true) rfl rfl (by kernel_rfl) (by kernel_rfl) (by kernel_rfl) (fun _ _ _ h => h) (Or.inl ⟨by kernel_rfl, ?_⟩) (by assumption) ?_
    · (intro w9 hSw; (try dsimp only at hSw); go_simp)
    (try simp only [Act.put, List.setIfInBounds_toArray, List.set_cons_zero, List.set_cons_succ])
    refine svTakeH (i := 20) (d := some 85) (v := .bool true) rfl rfl (by kernel_rfl) (by kernel_rfl) (by kernel_rfl) (fun _ _ _ h => h) (Or.inl ⟨by kernel_rfl, ?_⟩) (by assumption) ?_
    · (intro w9 hSw; (try dsimp only at hSw); go_simp)
    (try simp only [Act.put, List.setIfInBounds_toArray, List.set_cons_zero, List.set_cons_succ])
    refine svTakeH (i := 21) (d := some 86) (v := .bool true) rfl rfl (by kernel_rfl) (by kernel_rfl) (by kernel_rfl) (fun _ _ _ h => h) (Or.inl ⟨by kernel_rfl, ?_⟩) (by assumption) ?_
    · (intro w9 hSw; (try dsimp only at hSw); go_simp)
    (try simp only [Act.put, List.setIfInBounds_toArray, List.set_cons_zero, List.set_cons_succ])
    refine svTakeH (i := 22) (d := some 87) (v := .agg #[.slice (some ⟨g1, 0, none⟩) n1 c1, .slice (some ⟨g2, 0, none⟩) n2 c2_]) rfl rfl (by kernel_rfl) (by kernel_rfl) (by kernel_rfl) (fun _ _ _ h => h) (Or.inl ⟨by kernel_rfl, ?_⟩) (by assumption) ?_
    · (intro w9 hSw; (try dsimp only at hSw); go_simp)
    (try simp only [Act.put, List.setIfInBounds_toArray, List.set_cons_zero, List.set_cons_succ])
    refine svTakeH (i := 23) (d := some 88) (v := .pointer (some ⟨w.heap.size + 1, 2, none⟩)) rfl rfl (by kernel_rfl) (by kernel_rfl) (by kernel_rfl) (fun _ _ _ h => h) (Or.inl ⟨by kernel_rfl, ?_⟩) (by assumption) ?_
    · (intro w9 hSw; (try dsimp only at hSw); go_simp)
    (try simp only [Act.put, List.setIfInBounds_toArray, List.set_cons_zero, List.set_cons_succ])
    refine svTakeH (i := 24) (d := some 89) (v := .agg #[.int .i64 s2, .slice A n c]) rfl rfl (by kernel_rfl) (by kernel_rfl) (by kernel_rfl) (fun _ _ _ h => h) (Or.inl ⟨by kernel_rfl, ?_⟩) (by assumption) ?_
    · (intro w9 hSw; (try dsimp only at hSw); go_simp)
    (try simp only [Act.put, List.setIfInBounds_toArray, List.set_cons_zero, List.set_cons_succ])
    refine svTakeH (i := 25) (d := some 90) (v := .pointer (some ⟨w.heap.size + 1, 6, none⟩)) rfl rfl (by kernel_rfl) (by kernel_rfl) (by kernel_rfl) (fun _ _ _ h => h) (Or.inl ⟨by kernel_rfl, ?_⟩) (by assumption) ?_
    · (intro w9 hSw; (try dsimp only at hSw); go_simp)
    (try simp only [Act.put, List.setIfInBounds_toArray, List.set_cons_zero, List.set_cons_succ])
    refine svTakeH (i := 26) (d := some 91) (v := .agg #[.int .i64 s2, .slice A2 m c2]) rfl rfl (by kernel_rfl) (by kernel_rfl) (by kernel_rfl) (fun _ _ _ h => h) (Or.inl ⟨by kernel_rfl, ?_⟩) (by assumption) ?_
    · (intro w9 hSw; (try dsimp only at hSw); go_simp)
    (try simp only [Act.put, List.setIfInBounds_toArray, List.set_cons_zero, List.set_cons_succ])
    refine wpAnyH_ready (rs := [27]) (by kernel_rfl) (by simp) ?_
    refine AllReadyH.cons rfl (fun K hK => ?_) AllReadyH.nil
    go_simp
    go_at_call 92
    refine (CB.out _ (Below.refl _ _).drew).mono ?_
    rintro e uA ⟨A3, N3, d3, rfl, HN3, ho3, hbA⟩
    have HUA : Hid (Below u3.heap.size u3 uA) := Lib.hid ((Below.refl _ _).drew.trans (hbA.mono (Nat.le_refl _)))
    have hn9 : (N3 == 0) = false := (by have h1 := HN3.out; have h2 := HL0.out; simp; omega)
    have hn8 : ((N3 : Int) == 0) = false := (by have h1 := HN3.out; have h2 := HL0.out; simp; omega)
    clear hbA ho3 hHeld
    refine hK.out _ _ (HKS.out _ HUA.out) (fun hHeld => ?_)
    clear hK K
    (try simp only [Act.put, List.setIfInBounds_toArray, List.set_cons_zero, List.set_cons_succ])
    refine svTakeH (i := 28) (d := some 93) (v := .int .i64 (N3 : Int)) rfl rfl (by kernel_rfl) (by kernel_rfl) (by kernel_rfl) (fun _ _ _ h => h) (Or.inl ⟨by kernel_rfl, ?_⟩) (by assumption) ?_
    · (intro w9 hSw; (try dsimp only at hSw); go_simp)
    (try simp only [Act.put, List.setIfInBounds_toArray, List.set_cons_zero, List.set_cons_succ])
    refine svTakeH (i := 29) (d := some 94) (v := .bool false) rfl rfl (by kernel_rfl) (by kernel_rfl) (by kernel_rfl) (fun _ _ _ h => h) (Or.inl ⟨by kernel_rfl, ?_⟩) (by assumption) ?_
    · (intro w9 hSw; (try dsimp only at hSw); go_simp)
    (try simp only [Act.put, List.setIfInBounds_toArray, List.set_cons_zero, List.set_cons_succ])
    refine svTakeH (i := 30) (d := some 95) (v := .bool false) rfl rfl (by kernel_rfl) (by kernel_rfl) (by kernel_rfl) (fun _ _ _ h => h) (Or.inl ⟨by kernel_rfl, ?_⟩) (by assumption) ?_
    · (intro w9 hSw; (try dsimp only at hSw); go_simp)
    (try simp only [Act.put, List.setIfInBounds_toArray, List.set_cons_zero, List.set_cons_succ])
    refine svTakeH (i := 31) (d := some 96) (v := .bool false) rfl rfl (by kernel_rfl) (by kernel_rfl) (by kernel_rfl) (fun _ _ _ h => h) (Or.inl ⟨by kernel_rfl, ?_⟩) (by assumption) ?_
    · (intro w9 hSw; (try dsimp only at hSw); go_simp)
    (try simp only [Act.put, List.setIfInBounds_toArray, List.set_cons_zero, List.set_cons_succ])
    refine svTakeH (i := 32) (d := some 97) (v := undef) rfl rfl (by kernel_rfl) (by kernel_rfl) (by kernel_rfl) (fun _ _ _ h => h) (Or.inr ⟨by kernel_rfl, rfl⟩) (by assumption) ?_
    (try simp only [Act.put, List.setIfInBounds_toArray, List.set_cons_zero, List.set_cons_succ])
    refine svTakeH (i := 33) (d := some 98) (v := undef) rfl rfl (by kernel_rfl) (by kernel_rfl) (by kernel_rfl) (fun _ _ _ h => h) (Or.inr ⟨by kernel_rfl, rfl⟩) (by assumption) ?_
    (try simp only [Act.put, List.setIfInBounds_toArray, List.set_cons_zero, List.set_cons_succ])
    refine svTakeH (i := 34) (d := some 99) (v := undef) rfl rfl (by kernel_rfl) (by kernel_rfl) (by kernel_rfl) (fun _ _ _ h => h) (Or.inr ⟨by kernel_rfl, rfl⟩) (by assumption) ?_
    (try simp only [Act.put, List.setIfInBounds_toArray, List.set_cons_zero, List.set_cons_succ])
    refine svTakeH (i := 35) (d := some 100) (v := .bool false) rfl rfl (by kernel_rfl) (by kernel_rfl) (by kernel_rfl) (fun _ _ _ h => h) (Or.inl ⟨by kernel_rfl, ?_⟩) (by assumption) ?_
    · (intro w9 hSw; (try dsimp only at hSw); go_simp)
    (try simp only [Act.put, List.setIfInBounds_toArray, List.set_cons_zero, List.set_cons_succ])
    refine svTakeH (i := 36) (d := some 4) (v := .bool false) rfl rfl (by kernel_rfl) (by kernel_rfl) (by kernel_rfl) (fun _ _ _ h => h) (Or.inl ⟨by kernel_rfl, ?_⟩) (by assumption) ?_
    · (intro w9 hSw; (try dsimp only at hSw); go_simp)
    (try simp only [Act.put, List.setIfInBounds_toArray, List.set_cons_zero, List.set_cons_succ])
    refine wpAnyH_done (by kernel_rfl) ?_ _
    clear hHeld
    go_wp2
    go_ret
    exact ⟨retb HE.out, HMV.out _ (HU3.out.trans (HUA.out.mono HU3.out.size))⟩
end Go.Proofs.YtlgkjidginibdaaDoor
