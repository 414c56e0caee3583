/- Two routes disjoint of a kind: the specification's answer. No condition but those typed. -/
import Derived.Test.YtkpendpjdemknaaAdL
namespace Go.Proofs.Ytkpendpjdemknaa
open Go.ChangeShapes Go.WideShapes Go.ChangeAt Go.RowKit

theorem ad_split {ss : List ByteArray} {fs : List Q4} {st st2 : Int} {xs ys : List Int} {kind : Int} (h : adP ss fs st xs st2 ys kind) : routeB ss fs st xs = true ∧ routeB ss fs st2 ys = true ∧ (1 ≤ kind ∧ kind ≤ 3) ∧ st = st2 ∧ (rtV ss fs st xs).headD 0 = (rtV ss fs st2 ys).headD 0 := by
  obtain ⟨h1, h2, h3, h4⟩ := h
  unfold crB at h1
  rw [Bool.and_eq_true] at h1
  exact ⟨h1.1, h1.2, h2, h3, h4⟩
set_option maxRecDepth 100000 in
set_option maxHeartbeats 4000000 in
theorem specAD {g1 g2 n1 n2 c1 c2 : Nat} {ss : List ByteArray} {fs : List Q4} {w : World} (h : NetAt g1 g2 n1 n2 c1 c2 ss fs w) (st : Int) {A : Option Addr} {n c : Nat} {xs : List Int} (hn : xs.length = n) (hr : Rd w w.heap.size A (xs.map (Value.int .i64))) (hx : n ≤ 1048576) (st2 : Int) {A2 : Option Addr} {m c3 : Nat} {ys : List Int} (hm : ys.length = m) (hr2 : Rd w w.heap.size A2 (ys.map (Value.int .i64))) (hx2 : m ≤ 1048576) (kind : Int) :
    Calls Try.prog 45 #[.agg #[.slice (some ⟨g1, 0, none⟩) n1 c1, .slice (some ⟨g2, 0, none⟩) n2 c2], .agg #[.int .i64 st, .slice A n c], .agg #[.int .i64 st2, .slice A2 m c3], .int .i64 kind] w (RetP (adR ss fs st xs st2 ys kind) w) := by
  have HNT := Lib.hid h; have HN := Lib.hid hn; have HR := Lib.hid hr; have HM := Lib.hid hm; have HR2 := Lib.hid hr2; have HLN := Lib.hid h.ln1
  clear h hn hr hm hr2
  obtain ⟨R, hRR⟩ : ∃ R, adR ss fs st xs st2 ys kind = R := ⟨_, rfl⟩
  rw [hRR]
  have HNO : Hid (¬ adP ss fs st xs st2 ys kind → (.tuple #[.bool false, .bool false] : Value) = R) := Lib.hid (fun e => by rw [← hRR]; exact ad_no e)
  have HYES : Hid (adP ss fs st xs st2 ys kind → ∀ va vb, routeN ss.length fs st xs = some va → routeN ss.length fs st2 ys = some vb → (.tuple #[.bool (disB fs kind xs ys va vb), .bool true] : Value) = R) := Lib.hid (fun e va vb h1 h2 => by rw [← hRR]; exact ad_yes e h1 h2)
  clear hRR
  obtain ⟨W0, hW0⟩ : ∃ W0, ((w.alloc (Obj.cells #[.slice (some ⟨g1, 0, none⟩) n1 c1, .slice (some ⟨g2, 0, none⟩) n2 c2] 31)).alloc (Obj.cells #[.int .i64 st, .slice A n c] 65)).alloc (Obj.cells #[.int .i64 st2, .slice A2 m c3] 65) = W0 := ⟨_, rfl⟩
  have hb0 : Below w.heap.size w W0 := by rw [← hW0]; exact (((Below.refl _ _).alloc (Nat.le_refl _) _).alloc (by simp) _).alloc (by simp; omega) _
  have k0 : W0.cell? ⟨w.heap.size, 0, none⟩ = some (.slice (some ⟨g1, 0, none⟩) n1 c1) := by rw [← hW0]; simp [go_sem]
  have k1 : W0.cell? ⟨w.heap.size, 1, none⟩ = some (.slice (some ⟨g2, 0, none⟩) n2 c2) := by rw [← hW0]; simp [go_sem]
  have k2 : W0.cell? ⟨w.heap.size + 1, 0, none⟩ = some (.int .i64 st) := by rw [← hW0]; simp [go_sem]
  have k3 : W0.cell? ⟨w.heap.size + 1, 1, none⟩ = some (.slice A n c) := by rw [← hW0]; simp [go_sem]
  have k4 : W0.cell? ⟨w.heap.size + 1 + 1, 0, none⟩ = some (.int .i64 st2) := by rw [← hW0]; simp [go_sem]
  have k5 : W0.cell? ⟨w.heap.size + 1 + 1, 1, none⟩ = some (.slice A2 m c3) := by rw [← hW0]; simp [go_sem]
  have hz0 : w.heap.size + 1 + 1 < W0.heap.size := by rw [← hW0]; simp
  have HB0 := Lib.hid hb0
  have HK : Hid (∀ U, Below W0.heap.size W0 U → U.cell? ⟨w.heap.size, 0, none⟩ = some (.slice (some ⟨g1, 0, none⟩) n1 c1) ∧ U.cell? ⟨w.heap.size, 1, none⟩ = some (.slice (some ⟨g2, 0, none⟩) n2 c2) ∧ U.cell? ⟨w.heap.size + 1, 0, none⟩ = some (.int .i64 st) ∧ U.cell? ⟨w.heap.size + 1, 1, none⟩ = some (.slice A n c) ∧ U.cell? ⟨w.heap.size + 1 + 1, 0, none⟩ = some (.int .i64 st2) ∧ U.cell? ⟨w.heap.size + 1 + 1, 1, none⟩ = some (.slice A2 m c3) ∧ Bel W0 U) := Lib.hid fun U hU =>
    ⟨(hU.cell (p := ⟨w.heap.size, 0, none⟩) (by show w.heap.size < _; omega)).trans k0, (hU.cell (p := ⟨w.heap.size, 1, none⟩) (by show w.heap.size < _; omega)).trans k1, (hU.cell (p := ⟨w.heap.size + 1, 0, none⟩) (by show w.heap.size + 1 < _; omega)).trans k2, (hU.cell (p := ⟨w.heap.size + 1, 1, none⟩) (by show w.heap.size + 1 < _; omega)).trans k3, (hU.cell (p := ⟨w.heap.size + 1 + 1, 0, none⟩) (by show w.heap.size + 1 + 1 < _; omega)).trans k4, (hU.cell (p := ⟨w.heap.size + 1 + 1, 1, none⟩) (by show w.heap.size + 1 + 1 < _; omega)).trans k5, Bel.of hU⟩
  have HZ0 := Lib.hid hz0
  have hz1 : w.heap.size + 1 < W0.heap.size := by omega
  have hz2 : w.heap.size < W0.heap.size := by omega
  obtain ⟨T, F, x0, hx0, hTT, HST⟩ := above W0
  haveI : Nonempty T := ⟨x0⟩
  have HXX := Lib.hid hx0
  have HTX : Hid (∀ x, Below W0.heap.size W0 (F x)) := Lib.hid hTT
  clear hTT hx0
  have s0 : ∀ x, (F x).cell? ⟨w.heap.size, 0, none⟩ = some (.slice (some ⟨g1, 0, none⟩) n1 c1) := fun x => (HK.out _ (HTX.out x)).1
  have s1 : ∀ x, (F x).cell? ⟨w.heap.size, 1, none⟩ = some (.slice (some ⟨g2, 0, none⟩) n2 c2) := fun x => (HK.out _ (HTX.out x)).2.1
  have s2 : ∀ x, (F x).cell? ⟨w.heap.size + 1, 0, none⟩ = some (.int .i64 st) := fun x => (HK.out _ (HTX.out x)).2.2.1
  have s3 : ∀ x, (F x).cell? ⟨w.heap.size + 1, 1, none⟩ = some (.slice A n c) := fun x => (HK.out _ (HTX.out x)).2.2.2.1
  have s4 : ∀ x, (F x).cell? ⟨w.heap.size + 1 + 1, 0, none⟩ = some (.int .i64 st2) := fun x => (HK.out _ (HTX.out x)).2.2.2.2.1
  have s5 : ∀ x, (F x).cell? ⟨w.heap.size + 1 + 1, 1, none⟩ = some (.slice A2 m c3) := fun x => (HK.out _ (HTX.out x)).2.2.2.2.2.1
  have s6 : ∀ x, w.heap.size + 1 < (F x).heap.size := fun x => Nat.lt_of_lt_of_le hz1 (HTX.out x).size
  have s7 : ∀ x, w.heap.size + 1 + 1 < (F x).heap.size := fun x => Nat.lt_of_lt_of_le hz0 (HTX.out x).size
  have s8 : ∀ x, w.heap.size < (F x).heap.size := fun x => Nat.lt_of_lt_of_le hz2 (HTX.out x).size
  clear k0 k1 k2 k3 k4 k5 hb0 hz0 hz1 hz2
  obtain ⟨b1, hb1⟩ : ∃ b, routeB ss fs st xs = b := ⟨_, rfl⟩
  obtain ⟨b2, hb2⟩ : ∃ b, routeB ss fs st2 ys = b := ⟨_, rfl⟩
  obtain ⟨b3, hb3⟩ : ∃ b, pb (1 ≤ kind ∧ kind ≤ 3) = b := ⟨_, rfl⟩
  have HRA := Lib.hid hb1; have HRB := Lib.hid hb2; have HKI := Lib.hid hb3
  have CG1 : Hid (∀ x, Calls Try.prog 97 #[.agg #[.slice (some ⟨g1, 0, none⟩) n1 c1, .slice (some ⟨g2, 0, none⟩) n2 c2], .agg #[.int .i64 st, .slice A n c]] (F x) (RetP (.bool b1) (F x))) := Lib.hid fun x => by
    have h9 := l4Good_ (c := c) (HNT.out.moved (HB0.out.trans ((HTX.out x).mono HB0.out.size))) st HN.out (HR.out.moved (HB0.out.trans ((HTX.out x).mono HB0.out.size))) hx
    rw [hb1] at h9; exact h9
  have CG2 : Hid (∀ x, Calls Try.prog 97 #[.agg #[.slice (some ⟨g1, 0, none⟩) n1 c1, .slice (some ⟨g2, 0, none⟩) n2 c2], .agg #[.int .i64 st2, .slice A2 m c3]] (F x) (RetP (.bool b2) (F x))) := Lib.hid fun x => by
    have h9 := l4Good_ (c := c3) (HNT.out.moved (HB0.out.trans ((HTX.out x).mono HB0.out.size))) st2 HM.out (HR2.out.moved (HB0.out.trans ((HTX.out x).mono HB0.out.size))) hx2
    rw [hb2] at h9; exact h9
  have CK : Hid (∀ x, Calls Try.prog 98 #[.int .i64 kind] (F x) (RetP (.bool b3) (F x))) := Lib.hid fun x => (l7Kind_ kind (F x)).mono fun e w' ⟨h1, h2⟩ => by subst h2; rw [hb3] at h1; exact ⟨h1, Below.refl _ _⟩
  clear hb1 hb2 hb3
  go_enter Try.func45, Try.ntmps45
  cases b1
  case false =>
    have HE := Lib.hid (HNO.out (fun hp => by have := (ad_split hp).1; rw [HRA.out] at this; cases this))
    go_wp2_with fail
    try rw [hW0]
    clear hW0
    refine wp_region_class F (by kernel_rfl) (by kernel_rfl) x0 HXX.out ?_
    repeat (go_big_quiet_step (first | (go_at_call 97; with_reducible exact Calls.inClass HST (CG1.out _))))
    refine wpQuiet_nil ?_
    rintro _ ⟨t, rfl⟩
    have HBT := Lib.hid (HTX.out t)
    clear s0 s1 s2 s3 s4 s5 s6 s7 s8
    generalize F t = w3 at HBT ⊢
    go_wp2
    go_ret2
    exact ⟨ret_tupC HE.out, HB0.out.trans (HBT.out.mono HB0.out.size)⟩
  case true =>
  cases b2
  case false =>
    have HE := Lib.hid (HNO.out (fun hp => by have := (ad_split hp).2.1; rw [HRB.out] at this; cases this))
    go_wp2_with fail
    try rw [hW0]
    clear hW0
    refine wp_region_class F (by kernel_rfl) (by kernel_rfl) x0 HXX.out ?_
    repeat (go_big_quiet_step (first | (go_at_call 97; with_reducible exact Calls.inClass HST (CG1.out _)) | (go_at_call 97; with_reducible exact Calls.inClass HST (CG2.out _))))
    refine wpQuiet_nil ?_
    rintro _ ⟨t, rfl⟩
    have HBT := Lib.hid (HTX.out t)
    clear s0 s1 s2 s3 s4 s5 s6 s7 s8
    generalize F t = w3 at HBT ⊢
    go_wp2
    go_ret2
    exact ⟨ret_tupC HE.out, HB0.out.trans (HBT.out.mono HB0.out.size)⟩
  case true =>
  cases b3
  case false =>
    have HE := Lib.hid (HNO.out (fun hp => of_npb HKI.out (ad_split hp).2.2.1))
    go_wp2_with fail
    try rw [hW0]
    clear hW0
    refine wp_region_class F (by kernel_rfl) (by kernel_rfl) x0 HXX.out ?_
    repeat (go_big_quiet_step (first | (go_at_call 97; with_reducible exact Calls.inClass HST (CG1.out _)) | (go_at_call 97; with_reducible exact Calls.inClass HST (CG2.out _)) | (go_at_call 98; with_reducible exact Calls.inClass HST (CK.out _))))
    refine wpQuiet_nil ?_
    rintro _ ⟨t, rfl⟩
    have HBT := Lib.hid (HTX.out t)
    clear s0 s1 s2 s3 s4 s5 s6 s7 s8
    generalize F t = w3 at HBT ⊢
    go_wp2
    go_ret2
    exact ⟨ret_tupC HE.out, HB0.out.trans (HBT.out.mono HB0.out.size)⟩
  case true =>
  by_cases hst : st = st2
  case neg =>
    have hstB : (st == st2) = false := beq_eq_false_iff_ne.2 hst
    have hstN : (st != st2) = true := by simp [hst]
    have HE := Lib.hid (HNO.out (fun hp => hst (ad_split hp).2.2.2.1))
    go_wp2_with fail
    try rw [hW0]
    clear hW0
    refine wp_region_class F (by kernel_rfl) (by kernel_rfl) x0 HXX.out ?_
    repeat (go_big_quiet_step (first | (go_at_call 97; with_reducible exact Calls.inClass HST (CG1.out _)) | (go_at_call 97; with_reducible exact Calls.inClass HST (CG2.out _)) | (go_at_call 98; with_reducible exact Calls.inClass HST (CK.out _))))
    refine wpQuiet_nil ?_
    rintro _ ⟨t, rfl⟩
    have HBT := Lib.hid (HTX.out t)
    clear s0 s1 s2 s3 s4 s5 s6 s7 s8
    generalize F t = w3 at HBT ⊢
    go_wp2
    go_ret2
    exact ⟨ret_tupC HE.out, HB0.out.trans (HBT.out.mono HB0.out.size)⟩
  case pos =>
  have HSS := Lib.hid hst
  obtain ⟨hv, va, hva⟩ := routeB_yes HRA.out
  obtain ⟨_, vb, hvb⟩ := routeB_yes HRB.out
  have HV := Lib.hid hv; have HVA := Lib.hid hva; have HVB := Lib.hid hvb
  have HEE : Hid (adP ss fs st xs st2 ys kind ↔ va.headD 0 = vb.headD 0) := Lib.hid ⟨fun hp => by have h9 := (ad_split hp).2.2.2.2; rw [rtV_eq hva, rtV_eq hvb] at h9; exact h9, fun e => ⟨by unfold crB; rw [HRA.out, HRB.out]; rfl, of_pb HKI.out, HSS.out, by rw [rtV_eq hva, rtV_eq hvb]; exact e⟩⟩
  obtain ⟨e1, he1⟩ : ∃ e, va.headD 0 = e := ⟨_, rfl⟩
  obtain ⟨e2, he2⟩ : ∃ e, vb.headD 0 = e := ⟨_, rfl⟩
  have CE1 : Hid (∀ x, Calls Try.prog 99 #[.agg #[.slice (some ⟨g1, 0, none⟩) n1 c1, .slice (some ⟨g2, 0, none⟩) n2 c2], .agg #[.int .i64 st, .slice A n c]] (F x) (RetP (.int .i64 e1) (F x))) := Lib.hid fun x => by
    have h9 := l4End_ (c := c) (HNT.out.moved (HB0.out.trans ((HTX.out x).mono HB0.out.size))) hv st HN.out (HR.out.moved (HB0.out.trans ((HTX.out x).mono HB0.out.size))) hx (by rw [← HLN.out]; exact hva)
    rw [he1] at h9; exact h9
  have CE2 : Hid (∀ x, Calls Try.prog 99 #[.agg #[.slice (some ⟨g1, 0, none⟩) n1 c1, .slice (some ⟨g2, 0, none⟩) n2 c2], .agg #[.int .i64 st2, .slice A2 m c3]] (F x) (RetP (.int .i64 e2) (F x))) := Lib.hid fun x => by
    have h9 := l4End_ (c := c3) (HNT.out.moved (HB0.out.trans ((HTX.out x).mono HB0.out.size))) hv st2 HM.out (HR2.out.moved (HB0.out.trans ((HTX.out x).mono HB0.out.size))) hx2 (by rw [← HLN.out]; exact hvb)
    rw [he2] at h9; exact h9
  rw [he1, he2] at HEE
  clear hv hva hvb he1 he2
  subst hst
  by_cases hee : e1 = e2
  case neg =>
    have heB : (e1 == e2) = false := beq_eq_false_iff_ne.2 hee
    have HE := Lib.hid (HNO.out (fun hp => hee (HEE.out.1 hp)))
    go_wp2_with fail
    try rw [hW0]
    clear hW0
    refine wp_region_class F (by kernel_rfl) (by kernel_rfl) x0 HXX.out ?_
    repeat (go_big_quiet_step (first | (go_at_call 97; with_reducible exact Calls.inClass HST (CG1.out _)) | (go_at_call 97; with_reducible exact Calls.inClass HST (CG2.out _)) | (go_at_call 98; with_reducible exact Calls.inClass HST (CK.out _)) | (go_at_call 99; with_reducible exact Calls.inClass HST (CE1.out _)) | (go_at_call 99; with_reducible exact Calls.inClass HST (CE2.out _))))
    refine wpQuiet_nil ?_
    rintro _ ⟨t, rfl⟩
    have HBT := Lib.hid (HTX.out t)
    clear s0 s1 s2 s3 s4 s5 s6 s7 s8
    generalize F t = w3 at HBT ⊢
    go_wp2
    go_ret2
    exact ⟨ret_tupC HE.out, HB0.out.trans (HBT.out.mono HB0.out.size)⟩
  case pos =>
    have HE := Lib.hid (HYES.out (HEE.out.2 hee) va vb HVA.out HVB.out)
    subst hee
    go_wp2_with fail
    try rw [hW0]
    clear hW0
    refine wp_region_class F (by kernel_rfl) (by kernel_rfl) x0 HXX.out ?_
    repeat (go_big_quiet_step (first | (go_at_call 97; with_reducible exact Calls.inClass HST (CG1.out _)) | (go_at_call 97; with_reducible exact Calls.inClass HST (CG2.out _)) | (go_at_call 98; with_reducible exact Calls.inClass HST (CK.out _)) | (go_at_call 99; with_reducible exact Calls.inClass HST (CE1.out _)) | (go_at_call 99; with_reducible exact Calls.inClass HST (CE2.out _))))
    refine wpQuiet_nil ?_
    rintro _ ⟨t, rfl⟩
    have HBT := Lib.hid (HTX.out t)
    clear s0 s1 s2 s3 s4 s5 s6 s7 s8
    generalize F t = w3 at HBT ⊢
    have HBW := Lib.hid (HB0.out.trans (HBT.out.mono HB0.out.size))
    obtain ⟨q0, q1, q2, q3, q4, q5, _⟩ := HK.out w3 HBT.out
    have hz0 : w.heap.size + 1 + 1 < w3.heap.size := Nat.lt_of_lt_of_le HZ0.out HBT.out.size
    have hz1 : w.heap.size + 1 < w3.heap.size := by omega
    have hz2 : w.heap.size < w3.heap.size := by omega
    have CA := Lib.hid (l7Apart_ (c := c) (c3 := c3) (HNT.out.moved HBW.out) HV.out st HN.out (HR.out.moved HBW.out) hx st HM.out (HR2.out.moved HBW.out) hx2 (by rw [← HLN.out]; exact HVA.out) (by rw [← HLN.out]; exact HVB.out) kind (of_pb HKI.out))
    obtain ⟨z, hz⟩ : ∃ z, disB fs kind xs ys va vb = z := ⟨_, rfl⟩
    rw [hz] at HE CA
    clear hz
    go_wp2_with fail
    clear q0 q1 q2 q3 q4 q5
    refine CA.out.mono ?_
    rintro e w4 ⟨rfl, hb4⟩
    go_wp2
    go_ret2
    exact ⟨ret_tupC HE.out, HBW.out.trans (hb4.mono HBW.out.size)⟩
end Go.Proofs.Ytkpendpjdemknaa
