/- Whether a network stays connected without a set of fibers: contracts of IsConnected, both sides. No condition but those typed. -/
import Derived.Test.YtbnfogedmjjiaaaAvP
import Derived.Test.YtbnfogedmjjiaaaIcS
import Derived.Test.YtbnfogedmjjiaaaOnes2
import Derived.Test.YtbnfogedmjjiaaaOutS
import Derived.Test.YtbnfogedmjjiaaaGA
import Derived.Test.YtbnfogedmjjiaaaTwo
import Derived.OwnWalk
import Derived.Deep.CutBlock
import Derived.Deep.DeepCutAuto
namespace Go.Proofs.Ytbnfogedmjjiaaa
open Go.ChangeShapes Go.WideShapes Go.ChangeAt Go.RowKit

noncomputable def icB (ss : List ByteArray) (fs : List Q4) (zs : List Int) : Bool := pb (set6P ss fs zs ∧ allC ss.length fs (mkN zs))
noncomputable def icR (ss : List ByteArray) (fs : List Q4) (zs : List Int) : Value := .tuple #[.bool (icB ss fs zs), .bool (pb (set6P ss fs zs))]
theorem ic_no {ss : List ByteArray} {fs : List Q4} {zs : List Int} (h : ¬ set6P ss fs zs) : (.tuple #[.bool false, .bool false] : Value) = icR ss fs zs := by
  unfold icR icB; rw [pb_false h, pb_false (fun e => h e.1)]
theorem ic_yes {ss : List ByteArray} {fs : List Q4} {zs : List Int} (h : set6P ss fs zs) {b : Bool} (hb : b = true ↔ allC ss.length fs (mkN zs)) : (.tuple #[.bool b, .bool true] : Value) = icR ss fs zs := by
  unfold icR icB; rw [pb_true h]
  cases b
  · rw [pb_false (fun e => by have := hb.2 e.2; cases this)]
  · rw [pb_true ⟨h, hb.1 rfl⟩]
theorem pop_bit (m k : Nat) : m / 2 ^ k % 2 = if m.testBit k then 1 else 0 := by
  rw [Nat.testBit_eq_decide_div_mod_eq]
  by_cases h : m / 2 ^ k % 2 = 1
  · rw [decide_eq_true h, if_pos rfl, h]
  · rw [decide_eq_false h, if_neg (by decide)]; omega
theorem pop_full (m : Nat) : ∀ k, popN m k = k ↔ ∀ i, i < k → m.testBit i = true
  | 0 => ⟨fun _ i hi => by omega, fun _ => rfl⟩
  | k + 1 => by
    have ih := pop_full m k
    have hl := popN_le m k
    have hb := pop_bit m k
    show popN m k + m / 2 ^ k % 2 = k + 1 ↔ _
    rw [hb]
    cases ht : m.testBit k
    · rw [if_neg (by decide)]
      exact ⟨fun h => by omega, fun h => by have := h k (by omega); rw [ht] at this; cases this⟩
    · rw [if_pos rfl]
      refine ⟨fun h i hi => ?_, fun h => by have := ih.2 (fun i hi => h i (by omega)); omega⟩
      by_cases e : i = k
      · rw [e]; exact ht
      · exact ih.1 (by omega) i (by omega)
theorem pop_high {m k : Nat} (h : m < 2 ^ k) : ∀ j, popN m (k + j) = popN m k
  | 0 => rfl
  | j + 1 => by
    have hb := pop_bit m (k + j)
    have h2 : m < 2 ^ (k + j) := Nat.lt_of_lt_of_le h (Nat.pow_le_pow_right (by decide) (by omega))
    rw [Nat.testBit_lt_two_pow h2, if_neg (by decide)] at hb
    show popN m (k + j) + m / 2 ^ (k + j) % 2 = _
    rw [hb, pop_high h j]; rfl
theorem pop_all {n1 : Nat} {fs : List Q4} {gone : Nat} (h8 : n1 ≤ 8) : popN (rchN n1 fs gone 0) 24 = n1 ↔ allC n1 fs gone := by
  have hl : rchN n1 fs gone 0 < 2 ^ n1 := setN_lt _ _
  have e := pop_high hl (24 - n1)
  rw [show n1 + (24 - n1) = 24 by omega] at e
  rw [e, pop_full]
  refine ⟨fun h i hi => ?_, fun h i hi => ?_⟩
  · have h1 := h i hi
    unfold rchN at h1
    rw [setN_test, decide_eq_true hi, Bool.true_and] at h1
    exact of_pb h1
  · unfold rchN
    rw [setN_test, decide_eq_true hi, Bool.true_and]
    exact pb_true (h i hi)
set_option maxRecDepth 100000 in
set_option maxHeartbeats 4000000 in
theorem specIsC {g1 g2 n1 n2 c1 c2 : Nat} {ss : List ByteArray} {fs : List Q4} {w : World} (h : NetAt g1 g2 n1 n2 c1 c2 ss fs w) {A : Option Addr} {n c : Nat} {zs : List Int} (hn : zs.length = n) (hr : Rd w w.heap.size A (zs.map (Value.int .i64))) (hx : n ≤ 1048576) :
    Calls Try.prog 58 #[.agg #[.slice (some ⟨g1, 0, none⟩) n1 c1, .slice (some ⟨g2, 0, none⟩) n2 c2], .slice A n c] w (RetP (icR ss fs zs) w) := by
  have HNT := Lib.hid h; have HN := Lib.hid hn; have HR := Lib.hid hr
  have HL1 := Lib.hid h.ln1
  obtain ⟨R, hR⟩ : ∃ r, icR ss fs zs = r := ⟨_, rfl⟩
  obtain ⟨RB, hRB⟩ : ∃ r, pb (set6P ss fs zs) = r := ⟨_, rfl⟩
  have HNO : Hid (¬ set6P ss fs zs → (.tuple #[.bool false, .bool false] : Value) = R) := Lib.hid (fun e => by rw [← hR]; exact ic_no e)
  have HYES : Hid (set6P ss fs zs → ∀ b : Bool, (b = true ↔ allC ss.length fs (mkN zs)) → (.tuple #[.bool b, .bool true] : Value) = R) := Lib.hid (fun e b hb => by rw [← hR]; exact ic_yes e hb)
  have CV := Lib.hid (fun (W : World) (hb : Below w.heap.size w W) => set6_ (c := c) (h.moved hb) hn (hr.moved hb) hx)
  rw [hRB] at CV
  rw [hR]
  have HVB := Lib.hid hRB
  clear h hn hr hR hRB
  go_enter Try.func58, Try.ntmps58
  go_wp2_with fail
  obtain ⟨W0, hW0⟩ : ∃ W0, (w.alloc (Obj.cells #[.slice (some ⟨g1, 0, none⟩) n1 c1, .slice (some ⟨g2, 0, none⟩) n2 c2] 34)) = W0 := ⟨_, rfl⟩
  have hb0 : Below w.heap.size w W0 := by rw [← hW0]; exact (Below.refl _ _).alloc (Nat.le_refl _) _
  have k0_0 : W0.cell? ⟨w.heap.size, 0, none⟩ = some (.slice (some ⟨g1, 0, none⟩) n1 c1) := by rw [← hW0]; simp [go_sem]
  have k0_1 : W0.cell? ⟨w.heap.size, 1, none⟩ = some (.slice (some ⟨g2, 0, none⟩) n2 c2) := by rw [← hW0]; simp [go_sem]
  have hz0 : w.heap.size < W0.heap.size := by rw [← hW0]; simp
  have HKB : Hid (∀ W, Below W0.heap.size W0 W → W.cell? ⟨w.heap.size, 0, none⟩ = some (.slice (some ⟨g1, 0, none⟩) n1 c1) ∧ W.cell? ⟨w.heap.size, 1, none⟩ = some (.slice (some ⟨g2, 0, none⟩) n2 c2) ∧ w.heap.size < W.heap.size) := Lib.hid (fun W hW => ⟨(hW.cell (p := ⟨w.heap.size, 0, none⟩) (by show w.heap.size < _; omega)).trans k0_0, (hW.cell (p := ⟨w.heap.size, 1, none⟩) (by show w.heap.size < _; omega)).trans k0_1, Nat.lt_of_lt_of_le hz0 hW.size⟩)
  have HSZ0 : Hid (W0.heap.size = w.heap.size + 1) := Lib.hid (by rw [← hW0]; simp)
  have HB0 := Lib.hid hb0
  rw [hW0]
  clear hW0 hb0 hz0 k0_0 k0_1
  refine (CV.out _ HB0.out).mono ?_
  rintro e w1 ⟨rfl, hb9⟩
  have HWw1 := Lib.hid hb9
  have HBw1 := Lib.hid (HB0.out.trans (hb9.mono HB0.out.size))
  clear hb9
  obtain ⟨k0, k1, hgz⟩ := HKB.out _ HWw1.out
  cases RB
  case false =>
    have HE := Lib.hid (HNO.out (of_npb HVB.out))
    clear k0 k1 hgz
    go_wp2
    go_ret2
    exact ⟨ret_tupC HE.out, HBw1.out⟩
  case true =>
  have HS : Hid (set6P ss fs zs) := Lib.hid (of_pb HVB.out)
  have HE := Lib.hid (HYES.out HS.out)
  have hn8 : n1 ≤ 8 := by have := HS.out.1.1; have := HL1.out; omega
  have hn1 : 0 < n1 := by have := HS.out.1.1; have := HL1.out; omega
  have HBD : Hid (∀ k, k < n → 0 ≤ nth zs k ∧ nth zs k < 20) := Lib.hid (fun k hk => set6_bd HS.out k (by have := HN.out; omega))
  have hm20 : mkN zs < 2 ^ 20 := maskT_lt (k := zs.length) (fun k hk => set6_bd HS.out k hk)
  rw [HL1.out] at HE
  have CM : Hid (∀ W, Bel w1 W → Calls Try.prog 111 #[.slice A n c] W (RetP (.int .i64 (mkN zs : Nat)) W)) := Lib.hid (fun W hW => by
    have h9 := l6Mask_ A n c zs W HN.out hx ((HR.out.moved HBw1.out).moved hW.out) HBD.out
    rw [show maskN zs n = mkN zs by unfold mkN; rw [HN.out]] at h9
    exact h9.mono fun _ _ h => ⟨h.1, by rw [← h.2]; exact Below.refl _ _⟩)
  have CB : Hid (∀ W, Bel w1 W → Calls Try.prog 110 #[.agg #[.slice (some ⟨g1, 0, none⟩) n1 c1, .slice (some ⟨g2, 0, none⟩) n2 c2], .int .i64 (mkN zs : Nat)] W fun e w' => ∃ (L : List Int) (A9 : Option Addr) (N9 c9 : Nat), e = .returned (.slice A9 N9 c9) ∧ Hid (N9 = n1) ∧ Hid (LabP n1 fs (mkN zs) L) ∧ Hid (w'.ownsRow w1.heap.size 3 1 (.slice A9 N9 c9) N9 (L.map (Value.int .i64))) ∧ Below W.heap.size W w') := Lib.hid (fun W hW => (labels_ ((HNT.out.moved HBw1.out).moved hW.out) HS.out.1 _ hm20).mono fun e w' h => by
    obtain ⟨L, A9, N9, c9, h1, h2, h3, h4, h5⟩ := h
    exact ⟨L, A9, N9, c9, h1, h2, h3, Lib.hid (own_base h4 hW.out.size), h5⟩)
  obtain ⟨m, hm⟩ : ∃ m, mkN zs = m := ⟨_, rfl⟩
  rw [hm] at CM CB HE
  clear hm hm20
  have hbd : Bel w1 w1.drew := Bel.of (Below.refl _ _).drew
  go_upto_region 3 with fail
  go_cut [6] (fun s6 wx => ∃ (L : List Int) (A9 : Option Addr) (N9 c9 : Nat), s6 = .slice A9 N9 c9 ∧ Hid (N9 = n1) ∧ Hid (LabP n1 fs m L) ∧ Hid (wx.ownsRow w1.heap.size 3 1 (.slice A9 N9 c9) N9 (L.map (Value.int .i64))) ∧ Bel w1 wx)
  case first =>
    go_region_held3 (fun U => U.cell? ⟨w.heap.size, 0, none⟩ = some (.slice (some ⟨g1, 0, none⟩) n1 c1) ∧ U.cell? ⟨w.heap.size, 1, none⟩ = some (.slice (some ⟨g2, 0, none⟩) n2 c2) ∧ Bel w1 U)
      (first | (go_keep; done) | (go_split_ands; (refine ⟨?_, ?_, ?_⟩ <;> first | assumption | exact Bel.step (by assumption) hb8 | exact (Bel.at_ (by assumption) hb8 (by assumption)).trans (by assumption) | exact Bel.step (by assumption) hb9 | exact (Bel.at_ (by assumption) hb9 (by assumption)).trans (by assumption))))
      (first
        | (go_at_call 111; go_split_ands; refine (CM.out _ (by assumption)).mono ?_; rintro e u1 ⟨rfl, hb8⟩)
        | (go_at_call 110; go_split_ands; refine (CB.out _ (by assumption)).mono ?_; rintro e u2 ⟨L, A9, N9, c9, rfl, HN9, HL9, HO9, hb9⟩))
    all_goals
      go_split_ands
      have hbl9 : Bel w1 u2 := by assumption
      go_wp2_with fail
      go_meet
      exact ⟨L, A9, N9, c9, rfl, HN9, HL9, HO9, hbl9⟩
  case rest =>
  clear hbd k0 k1 hgz
  revert hcut; generalize wc = w5; intro hcut
  obtain ⟨L, A9, N9, c9, h0_, HN9, HL9, HO9, hb9⟩ := hcut
  subst h0_
  have HB5 := Lib.hid (HBw1.out.trans ((Bel.out hb9).mono HBw1.out.size))
  clear hb9
  have HLA := Lib.hid (lab_all HL9.out hn1)
  have HR9 := Lib.hid (Rd.ofOwn HO9.out)
  have hn9 : N9 ≤ 8 := by have := HN9.out; omega
  have HCL : Hid (∀ k, k < n1 → ∃ ad, A9 = some ad ∧ w5.cell? (ad.add k) = some (.int .i64 (L.getD k 0))) := Lib.hid (fun k hk => by
    have hkL : k < L.length := by rw [HL9.out.len]; exact hk
    obtain ⟨ad, hA, _, cx⟩ := ints_at HR9.out hkL
    exact ⟨ad, hA, by rw [cx, List.getD_eq_getElem?_getD, List.getElem?_eq_getElem hkL]; rfl⟩)
  go_wp2
  go_loop [7] (fun i => ∃ k : Nat, k ≤ N9 ∧ i = .int .i64 k ∧ Hid (∀ j, j < k → L.getD j 0 = 0)) (fun i => N9 - (intOf i).toNat)
  case atStart => exact ⟨0, Nat.zero_le _, rfl, Lib.hid (fun j hj => by omega)⟩
  case round =>
    obtain ⟨k, hk, rfl, HBB⟩ := hrel
    by_cases hlt : k < N9
    case neg =>
      have HX := Lib.hid (HE.out true ⟨fun _ => HLA.out.1 (fun j hj => HBB.out j (by have := HN9.out; omega)), fun _ => rfl⟩)
      have hlt3 : ¬ (k : Int) < N9 := by omega
      clear hlt
      go_wp2
      go_ret2
      exact ⟨ret_tupC HX.out, HB5.out⟩
    case pos =>
    have hltI : (k : Int) < N9 := by omega
    obtain ⟨ad, hA, cx⟩ := HCL.out k (by have := HN9.out; omega)
    subst hA
    obtain ⟨lk, hlk⟩ : ∃ z, L.getD k 0 = z := ⟨_, rfl⟩
    rw [hlk] at cx
    by_cases hz : lk = 0
    case pos =>
      have HB2 : Hid (∀ j, j < k + 1 → L.getD j 0 = 0) := Lib.hid (fun j hj => by
        by_cases e : j = k
        · subst e; rw [hlk]; exact hz
        · exact HBB.out j (by omega))
      subst hz
      clear hlk
      go_wp2
      go_round
      case rel => exact ⟨k + 1, by omega, by go_num, HB2⟩
      case measure => simp [intOf]; omega
    case neg =>
      have HX := Lib.hid (HE.out false ⟨fun h => (by cases h), fun h => absurd (by rw [← hlk]; exact HLA.out.2 h k (by have := HN9.out; omega)) hz⟩)
      have hzn : (lk == 0) = false := beq_eq_false_iff_ne.2 hz
      clear hlk
      go_wp2
      go_ret2
      exact ⟨ret_tupC HX.out, HB5.out⟩
set_option maxRecDepth 100000 in
set_option maxHeartbeats 4000000 in
theorem implIsC {g1 g2 n1 n2 c1 c2 : Nat} {ss : List ByteArray} {fs : List Q4} {w : World} (h : NetAt g1 g2 n1 n2 c1 c2 ss fs w) {A : Option Addr} {n c : Nat} {zs : List Int} (hn : zs.length = n) (hr : Rd w w.heap.size A (zs.map (Value.int .i64))) (hx : n ≤ 1048576) :
    Calls Try.prog 59 #[.agg #[.slice (some ⟨g1, 0, none⟩) n1 c1, .slice (some ⟨g2, 0, none⟩) n2 c2], .slice A n c] w (RetP (icR ss fs zs) w) := by
  have HNT := Lib.hid h; have HN := Lib.hid hn; have HR := Lib.hid hr
  have HL1 := Lib.hid h.ln1
  obtain ⟨R, hR⟩ : ∃ r, icR ss fs zs = r := ⟨_, rfl⟩
  obtain ⟨RB, hRB⟩ : ∃ r, pb (set6P ss fs zs) = r := ⟨_, rfl⟩
  have HNO : Hid (¬ set6P ss fs zs → (.tuple #[.bool false, .bool false] : Value) = R) := Lib.hid (fun e => by rw [← hR]; exact ic_no e)
  have HYES : Hid (set6P ss fs zs → ∀ b : Bool, (b = true ↔ allC ss.length fs (mkN zs)) → (.tuple #[.bool b, .bool true] : Value) = R) := Lib.hid (fun e b hb => by rw [← hR]; exact ic_yes e hb)
  have CV := Lib.hid (fun (W : World) (hb : Below w.heap.size w W) => isVs_ (c := c) (h.moved hb) hn (hr.moved hb) hx)
  rw [hRB] at CV
  rw [hR]
  have HVB := Lib.hid hRB
  clear h hn hr hR hRB
  go_enter Try.func59, Try.ntmps59
  go_wp2_with fail
  obtain ⟨W0, hW0⟩ : ∃ W0, (w.alloc (Obj.cells #[.slice (some ⟨g1, 0, none⟩) n1 c1, .slice (some ⟨g2, 0, none⟩) n2 c2] 34)) = W0 := ⟨_, rfl⟩
  have hb0 : Below w.heap.size w W0 := by rw [← hW0]; exact (Below.refl _ _).alloc (Nat.le_refl _) _
  have k0_0 : W0.cell? ⟨w.heap.size, 0, none⟩ = some (.slice (some ⟨g1, 0, none⟩) n1 c1) := by rw [← hW0]; simp [go_sem]
  have k0_1 : W0.cell? ⟨w.heap.size, 1, none⟩ = some (.slice (some ⟨g2, 0, none⟩) n2 c2) := by rw [← hW0]; simp [go_sem]
  have hz0 : w.heap.size < W0.heap.size := by rw [← hW0]; simp
  have HKB : Hid (∀ W, Below W0.heap.size W0 W → W.cell? ⟨w.heap.size, 0, none⟩ = some (.slice (some ⟨g1, 0, none⟩) n1 c1) ∧ W.cell? ⟨w.heap.size, 1, none⟩ = some (.slice (some ⟨g2, 0, none⟩) n2 c2) ∧ w.heap.size < W.heap.size) := Lib.hid (fun W hW => ⟨(hW.cell (p := ⟨w.heap.size, 0, none⟩) (by show w.heap.size < _; omega)).trans k0_0, (hW.cell (p := ⟨w.heap.size, 1, none⟩) (by show w.heap.size < _; omega)).trans k0_1, Nat.lt_of_lt_of_le hz0 hW.size⟩)
  have HSZ0 : Hid (W0.heap.size = w.heap.size + 1) := Lib.hid (by rw [← hW0]; simp)
  have HB0 := Lib.hid hb0
  rw [hW0]
  clear hW0 hb0 hz0 k0_0 k0_1
  refine (CV.out _ HB0.out).mono ?_
  rintro e w1 ⟨rfl, hb9⟩
  have HWw1 := Lib.hid hb9
  have HBw1 := Lib.hid (HB0.out.trans (hb9.mono HB0.out.size))
  clear hb9
  obtain ⟨k0, k1, hgz⟩ := HKB.out _ HWw1.out
  cases RB
  case false =>
    have HE := Lib.hid (HNO.out (of_npb HVB.out))
    clear k0 k1 hgz
    go_wp2
    go_ret2
    exact ⟨ret_tupC HE.out, HBw1.out⟩
  case true =>
  have HS : Hid (set6P ss fs zs) := Lib.hid (of_pb HVB.out)
  have HE := Lib.hid (HYES.out HS.out)
  have hn8 : n1 ≤ 8 := by have := HS.out.1.1; have := HL1.out; omega
  have hn1 : 0 < n1 := by have := HS.out.1.1; have := HL1.out; omega
  have HBD : Hid (∀ k, k < n → 0 ≤ nth zs k ∧ nth zs k < 20) := Lib.hid (fun k hk => set6_bd HS.out k (by have := HN.out; omega))
  have hm20 : mkN zs < 2 ^ 20 := maskT_lt (k := zs.length) (fun k hk => set6_bd HS.out k hk)
  rw [HL1.out] at HE
  have hM : maskN zs n = mkN zs := by unfold mkN; rw [HN.out]
  have CM : Hid (∀ W, Bel w1 W → Calls Try.prog 115 #[.slice A n c] W (RetP (.int .i64 (mkN zs : Nat)) W)) := Lib.hid (fun W hW => by
    have h9 := maskOf_ A n c zs W HN.out hx ((HR.out.moved HBw1.out).moved hW.out) HBD.out
    rw [hM] at h9
    exact h9.mono fun _ _ h => ⟨h.1, by rw [← h.2]; exact Below.refl _ _⟩)
  have CR : Hid (∀ W, Bel w1 W → Calls Try.prog 114 #[.agg #[.slice (some ⟨g1, 0, none⟩) n1 c1, .slice (some ⟨g2, 0, none⟩) n2 c2], .int .i64 0, .int .i64 (mkN zs : Nat)] W (RetP (.int .i64 (rchN n1 fs (mkN zs) 0 : Nat)) W)) := Lib.hid (fun W hW => reach_ ((HNT.out.moved HBw1.out).moved hW.out) HS.out.1 0 _ hn1 hm20)
  have hr8 : rchN n1 fs (mkN zs) 0 < 2 ^ 8 := Nat.lt_of_lt_of_le (setN_lt _ _) (Nat.pow_le_pow_right (by decide) hn8)
  have CT : Hid (∀ W, Bel w1 W → Calls Try.prog 113 #[.int .u64 (rchN n1 fs (mkN zs) 0 : Nat)] W (RetP (.int .i64 (popN (rchN n1 fs (mkN zs) 0) 24 : Int)) W)) := Lib.hid (fun W _ => (ones_ _ W (by omega)).mono fun _ _ h => ⟨h.1, by rw [← h.2]; exact Below.refl _ _⟩)
  have HPA := Lib.hid (pop_all (fs := fs) (gone := mkN zs) hn8)
  obtain ⟨p, hp⟩ : ∃ p, popN (rchN n1 fs (mkN zs) 0) 24 = p := ⟨_, rfl⟩
  rw [hp] at CT HPA
  obtain ⟨V, hV⟩ : ∃ b, ((p : Int) == (n1 : Int)) = b := ⟨_, rfl⟩
  have HX := Lib.hid (HE.out V (by rw [← hV, ← HPA.out]; simp; omega))
  obtain ⟨m, hm⟩ : ∃ m, mkN zs = m := ⟨_, rfl⟩
  rw [hm] at CM CR CT hr8
  obtain ⟨r, hrr⟩ : ∃ r, rchN n1 fs m 0 = r := ⟨_, rfl⟩
  rw [hrr] at CR CT hr8
  have q3 : IntKind.u64.wrap (r : Int) = r := by rw [IntKind.wrap_u64]; omega
  clear hm hM hm20 hrr hp hr8
  have hbd : Bel w1 w1.drew := Bel.of (Below.refl _ _).drew
  go_upto_region 3 with fail
  go_cut [4, 5] (fun s4 s5 wx => s4 = .bool V ∧ s5 = .bool true ∧ Bel w1 wx)
  case first =>
    go_region_held3 (fun U => U.cell? ⟨w.heap.size, 0, none⟩ = some (.slice (some ⟨g1, 0, none⟩) n1 c1) ∧ U.cell? ⟨w.heap.size, 1, none⟩ = some (.slice (some ⟨g2, 0, none⟩) n2 c2) ∧ Bel w1 U)
      (first | (go_keep; done) | (go_split_ands; (refine ⟨?_, ?_, ?_⟩ <;> first | assumption | exact Bel.step (by assumption) hb7 | exact (Bel.at_ (by assumption) hb7 (by assumption)).trans (by assumption) | exact Bel.step (by assumption) hb8 | exact (Bel.at_ (by assumption) hb8 (by assumption)).trans (by assumption) | exact Bel.step (by assumption) hb9 | exact (Bel.at_ (by assumption) hb9 (by assumption)).trans (by assumption))))
      (first
        | (go_at_call 115; go_split_ands; refine (CM.out _ (by assumption)).mono ?_; rintro e u1 ⟨rfl, hb7⟩)
        | (go_at_call 114; go_split_ands; refine (CR.out _ (by assumption)).mono ?_; rintro e u2 ⟨rfl, hb8⟩)
        | (go_at_call 113; go_split_ands; refine (CT.out _ (by assumption)).mono ?_; rintro e u3 ⟨rfl, hb9⟩))
    all_goals
      go_split_ands
      go_wp2_with fail
      go_meet
      exact ⟨by first | rfl | (rw [hV]), rfl, by assumption⟩
  case rest =>
  clear hbd k0 k1 hgz hV
  revert hcut; generalize wc = w5; intro hcut
  obtain ⟨h0_, h1_, hb9⟩ := hcut
  subst h0_ h1_
  have HB5 := Lib.hid (HBw1.out.trans ((Bel.out hb9).mono HBw1.out.size))
  clear hb9
  go_wp2
  go_ret2
  exact ⟨ret_tupC HX.out, HB5.out⟩
end Go.Proofs.Ytbnfogedmjjiaaa
