/- The parts of a network without a set of fibers: contracts of ComponentsOf, both sides. Condition: the table of math/bits holds what Go's text lays (on impl's side). -/
import Derived.Test.YtbnfogedmjjiaaaDoorAvP
import Derived.Test.YtbnfogedmjjiaaaDoorIcS
import Derived.Test.YtbnfogedmjjiaaaDoorLst
import Derived.Test.YtbnfogedmjjiaaaDoorAvD
import Derived.OwnWalk
import Derived.Deep.CutBlock
import Derived.Deep.DeepCutAuto
namespace Go.Proofs.YtbnfogedmjjiaaaDoor
open Go.ChangeShapes Go.WideShapes Go.ChangeAt Go.RowKit

theorem lit_rowI {w : World} {base : Nat} (hb : base ≤ w.heap.size) : (w.alloc (Obj.cells #[] 3)).ownsRow base 3 1 (.slice (some ⟨w.heap.size, 0, none⟩) 0 0) 0 [] := by
  have h9 := World.ownsRow_lit (base := base) (e := 3) (size := 1) w #[] 0 hb (by unfold maxLen; omega) rfl
  simpa using h9
theorem ctz_eq {x t : Nat} (hx : x < 2 ^ 64) (ht : x.testBit t = true) (hl : ∀ j, j < t → x.testBit j = false) : Lib.ctz 64 x = t := by
  have h0 : x ≠ 0 := fun e => by rw [e, Nat.zero_testBit] at ht; cases ht
  obtain ⟨h1, h2⟩ := low_bit x h0 hx
  rcases Nat.lt_trichotomy (Lib.ctz 64 x) t with h | h | h
  · rw [hl _ h] at h1; cases h1
  · exact h
  · rw [h2 _ h] at ht; cases ht
noncomputable def labV (n1 : Nat) (fs : List Q4) (gone i : Nat) : Int := (Lib.ctz 64 (rchN n1 fs gone (i : Int)) : Int)
noncomputable def labL (n1 : Nat) (fs : List Q4) (gone : Nat) : List Int := (List.range n1).map (labV n1 fs gone)
theorem labL_len (n1 : Nat) (fs : List Q4) (gone : Nat) : (labL n1 fs gone).length = n1 := by unfold labL; simp
theorem lab_eq {n1 : Nat} {fs : List Q4} {gone : Nat} {L : List Int} (h : LabP n1 fs gone L) (h8 : n1 ≤ 8) : L = labL n1 fs gone := by
  refine List.ext_getElem (by rw [h.len, labL_len]) fun i h1 h2 => ?_
  have hi : i < n1 := by rw [← h.len]; exact h1
  obtain ⟨a, b⟩ := lab_bit h hi
  have hb := h.bd i hi
  have hl : rchN n1 fs gone (i : Int) < 2 ^ 64 := Nat.lt_of_lt_of_le (setN_lt _ _) (Nat.pow_le_pow_right (by decide) (by omega))
  have hc := ctz_eq hl a b
  have e : L[i] = L.getD i 0 := by rw [List.getD_eq_getElem?_getD, List.getElem?_eq_getElem h1]; rfl
  have e2 : (labL n1 fs gone)[i]'h2 = labV n1 fs gone i := by simp [labL]
  rw [e2, e]
  unfold labV
  rw [hc]; omega
noncomputable def coL (ss : List ByteArray) (fs : List Q4) (zs : List Int) : List Int := if pb (set6P ss fs zs) then labL ss.length fs (mkN zs) else []
theorem co_no {ss : List ByteArray} {fs : List Q4} {zs : List Int} (h : ¬ set6P ss fs zs) : coL ss fs zs = [] ∧ pb (set6P ss fs zs) = false := by
  have e := pb_false h
  exact ⟨by unfold coL; rw [e]; rfl, e⟩
theorem co_yes {ss : List ByteArray} {fs : List Q4} {zs : List Int} (h : set6P ss fs zs) : coL ss fs zs = labL ss.length fs (mkN zs) ∧ pb (set6P ss fs zs) = true := by
  have e := pb_true h
  exact ⟨by unfold coL; rw [e]; rfl, e⟩
theorem coL_len (ss : List ByteArray) (fs : List Q4) (zs : List Int) : (coL ss fs zs).length ≤ ss.length := by
  unfold coL; split
  · rw [labL_len]; exact Nat.le_refl _
  · simp
theorem rch_pos {n1 : Nat} {fs : List Q4} {gone x : Nat} (hx : x < n1) : rchN n1 fs gone (x : Int) ≠ 0 := fun e => by
  have h : (rchN n1 fs gone (x : Int)).testBit x = true := by unfold rchN; rw [setN_test, decide_eq_true hx, Bool.true_and]; exact pb_true (Cn.refl _)
  rw [e, Nat.zero_testBit] at h; cases h
/-- a row that is filled from the front. -/
noncomputable def filL (n1 : Nat) (fs : List Q4) (gone k : Nat) : List Int := (labL n1 fs gone).take k ++ List.replicate (n1 - k) 0
theorem fil_zero (n1 : Nat) (fs : List Q4) (gone : Nat) : filL n1 fs gone 0 = List.replicate n1 0 := by unfold filL; simp
theorem fil_end (n1 : Nat) (fs : List Q4) (gone : Nat) : filL n1 fs gone n1 = labL n1 fs gone := by unfold filL; rw [Nat.sub_self, List.take_of_length_le (by rw [labL_len]; exact Nat.le_refl _)]; simp
theorem fil_step {n1 : Nat} {fs : List Q4} {gone k : Nat} (h : k < n1) : (filL n1 fs gone k).set k (labV n1 fs gone k) = filL n1 fs gone (k + 1) := by
  have hl := labL_len n1 fs gone
  have hk : (labL n1 fs gone)[k]'(by omega) = labV n1 fs gone k := by simp [labL]
  unfold filL
  rw [List.set_append_right _ _ (by rw [List.length_take]; omega), List.length_take, show k - min k (labL n1 fs gone).length = 0 by omega, show n1 - k = (n1 - (k + 1)) + 1 by omega, List.replicate_succ, List.set_cons_zero, List.take_succ_eq_append_getElem (by omega), hk, List.append_assoc]; rfl
theorem fil_len (n1 : Nat) (fs : List Q4) (gone : Nat) {k : Nat} (h : k ≤ n1) : (filL n1 fs gone k).length = n1 := by
  unfold filL; rw [List.length_append, List.length_take, labL_len, List.length_replicate]; omega
set_option maxRecDepth 100000 in
set_option maxHeartbeats 4000000 in
theorem specCO {g1 g2 n1 n2 c1 c2 : Nat} {ss : List ByteArray} {fs : List Q4} {w : World} (h : NetAt g1 g2 n1 n2 c1 c2 ss fs w) {A : Option Addr} {n c : Nat} {zs : List Int} (hn : zs.length = n) (hr : Rd w w.heap.size A (zs.map (Value.int .i64))) (hx : n ≤ 1048576) :
    Calls Tryd.prog 65 #[.agg #[.slice (some ⟨g1, 0, none⟩) n1 c1, .slice (some ⟨g2, 0, none⟩) n2 c2], .slice A n c] w (IntsP (coL ss fs zs) (pb (set6P ss fs zs)) w) := by
  have HNT := Lib.hid h; have HN := Lib.hid hn; have HR := Lib.hid hr
  have HL1 := Lib.hid h.ln1
  obtain ⟨RL, hRL⟩ : ∃ r, coL ss fs zs = r := ⟨_, rfl⟩
  obtain ⟨RB, hRB⟩ : ∃ r, pb (set6P ss fs zs) = r := ⟨_, rfl⟩
  have HNO : Hid (¬ set6P ss fs zs → RL = [] ∧ RB = false) := Lib.hid (fun e => by rw [← hRL, ← hRB]; exact co_no e)
  have HYES : Hid (set6P ss fs zs → RL = labL ss.length fs (mkN zs) ∧ RB = true) := Lib.hid (fun e => by rw [← hRL, ← hRB]; exact co_yes e)
  have CV := Lib.hid (fun (W : World) (hb : Below w.heap.size w W) => set6_ (c := c) (h.moved hb) hn (hr.moved hb) hx)
  rw [hRB] at CV
  rw [hRL, hRB]
  have HVB := Lib.hid hRB
  clear h hn hr hRL hRB
  go_enter Tryd.func65, Tryd.ntmps65
  go_wp2_with fail
  obtain ⟨W0, hW0⟩ : ∃ W0, (w.alloc (Obj.cells #[.slice (some ⟨g1, 0, none⟩) n1 c1, .slice (some ⟨g2, 0, none⟩) n2 c2] 34)) = W0 := ⟨_, rfl⟩
  have hb0 : Below w.heap.size w W0 := by rw [← hW0]; exact (Below.refl _ _).alloc (Nat.le_refl _) _
  have k0_0 : W0.cell? ⟨w.heap.size, 0, none⟩ = some (.slice (some ⟨g1, 0, none⟩) n1 c1) := by rw [← hW0]; simp [go_sem]
  have k0_1 : W0.cell? ⟨w.heap.size, 1, none⟩ = some (.slice (some ⟨g2, 0, none⟩) n2 c2) := by rw [← hW0]; simp [go_sem]
  have hz0 : w.heap.size < W0.heap.size := by rw [← hW0]; simp
  have HKB : Hid (∀ W, Below W0.heap.size W0 W → W.cell? ⟨w.heap.size, 0, none⟩ = some (.slice (some ⟨g1, 0, none⟩) n1 c1) ∧ W.cell? ⟨w.heap.size, 1, none⟩ = some (.slice (some ⟨g2, 0, none⟩) n2 c2) ∧ w.heap.size < W.heap.size) := Lib.hid (fun W hW => ⟨(hW.cell (p := ⟨w.heap.size, 0, none⟩) (by show w.heap.size < _; omega)).trans k0_0, (hW.cell (p := ⟨w.heap.size, 1, none⟩) (by show w.heap.size < _; omega)).trans k0_1, Nat.lt_of_lt_of_le hz0 hW.size⟩)
  have HSZ0 : Hid (W0.heap.size = w.heap.size + 1) := Lib.hid (by rw [← hW0]; simp)
  have HB0 := Lib.hid hb0
  rw [hW0]
  clear hW0 hb0 hz0 k0_0 k0_1
  refine (CV.out _ HB0.out).mono ?_
  rintro e w1 ⟨rfl, hb9⟩
  have HWw1 := Lib.hid hb9
  have HBw1 := Lib.hid (HB0.out.trans (hb9.mono HB0.out.size))
  clear hb9
  obtain ⟨k0, k1, hgz⟩ := HKB.out _ HWw1.out
  cases RB
  case false =>
    have HE := Lib.hid (HNO.out (of_npb HVB.out))
    clear k0 k1 hgz
    go_wp2
    go_ret2
    obtain ⟨rfl, _⟩ := HE.out
    exact ⟨_, 0, _, rfl, Lib.hid rfl, lit_rowI HBw1.out.size, HBw1.out.alloc HBw1.out.size _⟩
  case true =>
  have HS : Hid (set6P ss fs zs) := Lib.hid (of_pb HVB.out)
  have HE := Lib.hid (HYES.out HS.out)
  have hn8 : n1 ≤ 8 := by have := HS.out.1.1; have := HL1.out; omega
  have HBD : Hid (∀ k, k < n → 0 ≤ nth zs k ∧ nth zs k < 20) := Lib.hid (fun k hk => set6_bd HS.out k (by have := HN.out; omega))
  have hm20 : mkN zs < 2 ^ 20 := mk_lt (fun k hk => set6_bd HS.out k hk)
  rw [HL1.out] at HE
  have CM : Hid (∀ W, Bel w1 W → Calls Tryd.prog 99 #[.slice A n c] W (RetP (.int .i64 (mkN zs : Nat)) W)) := Lib.hid (fun W hW => by
    have h9 := l6Mask_ A n c zs W HN.out hx ((HR.out.moved HBw1.out).moved hW.out) HBD.out
    rw [show maskN zs n = mkN zs by unfold mkN; rw [HN.out]] at h9
    exact h9.mono fun _ _ h => ⟨h.1, by rw [← h.2]; exact Below.refl _ _⟩)
  have CB : Hid (∀ W, Bel w1 W → Calls Tryd.prog 135 #[.agg #[.slice (some ⟨g1, 0, none⟩) n1 c1, .slice (some ⟨g2, 0, none⟩) n2 c2], .int .i64 (mkN zs : Nat)] W fun e w' => ∃ (A9 : Option Addr) (N9 c9 : Nat), e = .returned (.slice A9 N9 c9) ∧ Hid (N9 = (labL n1 fs (mkN zs)).length) ∧ Hid (w'.ownsRow w1.heap.size 3 1 (.slice A9 N9 c9) N9 ((labL n1 fs (mkN zs)).map (Value.int .i64))) ∧ Below W.heap.size W w') := Lib.hid (fun W hW => (labels_ ((HNT.out.moved HBw1.out).moved hW.out) HS.out.1 _ hm20).mono fun e w' h => by
    obtain ⟨L, A9, N9, c9, h1, h2, h3, h4, h5⟩ := h
    have e9 := lab_eq h3.out hn8
    subst e9
    exact ⟨A9, N9, c9, h1, Lib.hid (by rw [labL_len]; exact h2.out), Lib.hid (own_base h4 hW.out.size), h5⟩)
  obtain ⟨m, hm⟩ : ∃ m, mkN zs = m := ⟨_, rfl⟩
  rw [hm] at CM CB HE
  obtain ⟨L, hL⟩ : ∃ r, labL n1 fs m = r := ⟨_, rfl⟩
  rw [hL] at CB HE
  clear hm hL hm20
  have hbd : Bel w1 w1.drew := Bel.of (Below.refl _ _).drew
  go_upto_region 3 with fail
  go_cut [4, 5] (fun s4 s5 wx => ∃ (A9 : Option Addr) (N9 c9 : Nat), s4 = .slice A9 N9 c9 ∧ s5 = .bool true ∧ Hid (N9 = L.length) ∧ Hid (wx.ownsRow w1.heap.size 3 1 (.slice A9 N9 c9) N9 (L.map (Value.int .i64))) ∧ Bel w1 wx)
  case first =>
    go_region_held3 (fun U => U.cell? ⟨w.heap.size, 0, none⟩ = some (.slice (some ⟨g1, 0, none⟩) n1 c1) ∧ U.cell? ⟨w.heap.size, 1, none⟩ = some (.slice (some ⟨g2, 0, none⟩) n2 c2) ∧ Bel w1 U)
      (first | (go_keep; done) | (go_split_ands; (refine ⟨?_, ?_, ?_⟩ <;> first | assumption | exact Bel.step (by assumption) hb8 | exact (Bel.at_ (by assumption) hb8 (by assumption)).trans (by assumption) | exact Bel.step (by assumption) hb9 | exact (Bel.at_ (by assumption) hb9 (by assumption)).trans (by assumption))))
      (first
        | (go_at_call 99; go_split_ands; refine (CM.out _ (by assumption)).mono ?_; rintro e u1 ⟨rfl, hb8⟩)
        | (go_at_call 135; go_split_ands; refine (CB.out _ (by assumption)).mono ?_; rintro e u2 ⟨A9, N9, c9, rfl, HN9, HO9, hb9⟩))
    all_goals
      go_split_ands
      have hbl9 : Bel w1 u2 := by assumption
      go_wp2_with fail
      go_meet
      exact ⟨A9, N9, c9, rfl, rfl, HN9, HO9, hbl9⟩
  case rest =>
  clear hbd k0 k1 hgz
  revert hcut; generalize wc = w5; intro hcut
  obtain ⟨A9, N9, c9, h0_, h1_, HN9, HO9, hb9⟩ := hcut
  subst h0_ h1_
  have HB5 := Lib.hid (HBw1.out.trans ((Bel.out hb9).mono HBw1.out.size))
  clear hb9
  go_wp2
  go_ret2
  rw [HE.out.1]
  exact ⟨A9, N9, c9, rfl, HN9, own_base HO9.out HBw1.out.size, HB5.out⟩
set_option maxRecDepth 100000 in
set_option maxHeartbeats 4000000 in
theorem implCO {g1 g2 n1 n2 c1 c2 : Nat} {ss : List ByteArray} {fs : List Q4} {w : World} (h : NetAt g1 g2 n1 n2 c1 c2 ss fs w) {A : Option Addr} {n c : Nat} {zs : List Int} (hn : zs.length = n) (hr : Rd w w.heap.size A (zs.map (Value.int .i64))) (hx : n ≤ 1048576) (hTab : Tab w) :
    Calls Tryd.prog 66 #[.agg #[.slice (some ⟨g1, 0, none⟩) n1 c1, .slice (some ⟨g2, 0, none⟩) n2 c2], .slice A n c] w (IntsP (coL ss fs zs) (pb (set6P ss fs zs)) w) := by
  have HTB := Lib.hid hTab
  obtain ⟨i0, hi, hz0_, hz1_, hz2_⟩ := info_parts Tryd.inf_int
  have HI := Lib.hid hi; have HZ0 := Lib.hid hz0_; have HZ1 := Lib.hid hz1_; have HZ2 := Lib.hid hz2_
  clear hTab hi hz0_ hz1_ hz2_
  have HNT := Lib.hid h; have HN := Lib.hid hn; have HR := Lib.hid hr
  have HL1 := Lib.hid h.ln1
  obtain ⟨RL, hRL⟩ : ∃ r, coL ss fs zs = r := ⟨_, rfl⟩
  obtain ⟨RB, hRB⟩ : ∃ r, pb (set6P ss fs zs) = r := ⟨_, rfl⟩
  have HNO : Hid (¬ set6P ss fs zs → RL = [] ∧ RB = false) := Lib.hid (fun e => by rw [← hRL, ← hRB]; exact co_no e)
  have HYES : Hid (set6P ss fs zs → RL = labL ss.length fs (mkN zs) ∧ RB = true) := Lib.hid (fun e => by rw [← hRL, ← hRB]; exact co_yes e)
  have CV := Lib.hid (fun (W : World) (hb : Below w.heap.size w W) => isVs_ (c := c) (h.moved hb) hn (hr.moved hb) hx)
  rw [hRB] at CV
  rw [hRL, hRB]
  have HVB := Lib.hid hRB
  clear h hn hr hRL hRB
  go_enter Tryd.func66, Tryd.ntmps66
  go_wp2_with fail
  obtain ⟨W0, hW0⟩ : ∃ W0, (w.alloc (Obj.cells #[.slice (some ⟨g1, 0, none⟩) n1 c1, .slice (some ⟨g2, 0, none⟩) n2 c2] 34)) = W0 := ⟨_, rfl⟩
  have hb0 : Below w.heap.size w W0 := by rw [← hW0]; exact (Below.refl _ _).alloc (Nat.le_refl _) _
  have k0_0 : W0.cell? ⟨w.heap.size, 0, none⟩ = some (.slice (some ⟨g1, 0, none⟩) n1 c1) := by rw [← hW0]; simp [go_sem]
  have k0_1 : W0.cell? ⟨w.heap.size, 1, none⟩ = some (.slice (some ⟨g2, 0, none⟩) n2 c2) := by rw [← hW0]; simp [go_sem]
  have hz0 : w.heap.size < W0.heap.size := by rw [← hW0]; simp
  have HKB : Hid (∀ W, Below W0.heap.size W0 W → W.cell? ⟨w.heap.size, 0, none⟩ = some (.slice (some ⟨g1, 0, none⟩) n1 c1) ∧ W.cell? ⟨w.heap.size, 1, none⟩ = some (.slice (some ⟨g2, 0, none⟩) n2 c2) ∧ w.heap.size < W.heap.size) := Lib.hid (fun W hW => ⟨(hW.cell (p := ⟨w.heap.size, 0, none⟩) (by show w.heap.size < _; omega)).trans k0_0, (hW.cell (p := ⟨w.heap.size, 1, none⟩) (by show w.heap.size < _; omega)).trans k0_1, Nat.lt_of_lt_of_le hz0 hW.size⟩)
  have HSZ0 : Hid (W0.heap.size = w.heap.size + 1) := Lib.hid (by rw [← hW0]; simp)
  have HB0 := Lib.hid hb0
  rw [hW0]
  clear hW0 hb0 hz0 k0_0 k0_1
  refine (CV.out _ HB0.out).mono ?_
  rintro e w1 ⟨rfl, hb9⟩
  have HWw1 := Lib.hid hb9
  have HBw1 := Lib.hid (HB0.out.trans (hb9.mono HB0.out.size))
  clear hb9
  obtain ⟨k0, k1, hgz⟩ := HKB.out _ HWw1.out
  cases RB
  case false =>
    have HE := Lib.hid (HNO.out (of_npb HVB.out))
    clear k0 k1 hgz
    go_wp2
    go_ret2
    exact ints_no ⟨HE.out.1, rfl⟩ HBw1.out
  case true =>
  have HS : Hid (set6P ss fs zs) := Lib.hid (of_pb HVB.out)
  have HE := Lib.hid (HYES.out HS.out)
  have hn8 : n1 ≤ 8 := by have := HS.out.1.1; have := HL1.out; omega
  have HBD : Hid (∀ k, k < n → 0 ≤ nth zs k ∧ nth zs k < 20) := Lib.hid (fun k hk => set6_bd HS.out k (by have := HN.out; omega))
  have hm20 : mkN zs < 2 ^ 20 := mk_lt (fun k hk => set6_bd HS.out k hk)
  rw [HL1.out] at HE
  have hM : maskN zs n = mkN zs := by unfold mkN; rw [HN.out]
  have CMX : Hid (∀ W, Below w.heap.size w W → Calls Tryd.prog 103 #[.slice A n c] W fun e w' => e = .returned (.int .i64 (mkN zs : Nat)) ∧ W = w') := Lib.hid (fun W hW => by
    have h9 := maskOf_ A n c zs W HN.out hx (HR.out.moved hW) HBD.out
    rw [hM] at h9; exact h9)
  have CRX : Hid (∀ k : Nat, k < n1 → ∀ W, Below w.heap.size w W → Calls Tryd.prog 112 #[.agg #[.slice (some ⟨g1, 0, none⟩) n1 c1, .slice (some ⟨g2, 0, none⟩) n2 c2], .int .i64 (k : Int), .int .i64 (mkN zs : Nat)] W (RetP (.int .i64 (rchN n1 fs (mkN zs) (k : Int) : Nat)) W)) := Lib.hid (fun k hk W hW => reach_ (HNT.out.moved hW) HS.out.1 k _ hk hm20)
  have HRB : Hid (∀ k : Nat, k < n1 → rchN n1 fs (mkN zs) (k : Int) < 2 ^ 8 ∧ rchN n1 fs (mkN zs) (k : Int) ≠ 0) := Lib.hid (fun k hk => ⟨Nat.lt_of_lt_of_le (setN_lt _ _) (Nat.pow_le_pow_right (by decide) hn8), rch_pos hk⟩)
  have HFS : Hid (∀ k : Nat, k < n1 → (filL n1 fs (mkN zs) k).set k (Lib.ctz 64 (rchN n1 fs (mkN zs) (k : Int)) : Int) = filL n1 fs (mkN zs) (k + 1)) := Lib.hid (fun k hk => fil_step hk)
  have HFL : Hid (∀ k, k ≤ n1 → (filL n1 fs (mkN zs) k).length = n1) := Lib.hid (fun k hk => fil_len _ _ _ hk)
  obtain ⟨m, hm⟩ : ∃ m, mkN zs = m := ⟨_, rfl⟩
  rw [hm] at CMX CRX HRB HFS HE HFL
  clear hm hM hm20
  go_wp2_with (at_make; refine wpList_make_full _ rfl _ _ 29 rfl w1.heap.size 3 i0 (.int .i64 0) 1 Tryd.underlying29 HI.out HZ0.out HZ1.out .i64 .i64 _ _ n1 rfl rfl rfl rfl (by rw [HZ2.out]; omega) (by unfold maxLen; omega) (Nat.le_refl _) ?_)
  intro w2 hown hgrow
  have HB2 : Hid (Below w1.heap.size w1 w2) := Lib.hid ((Below.refl _ _).grown hgrow (Nat.le_refl _) (fun k h => by cases h))
  rw [toList_madeCells_one] at hown
  have HO2 : Hid (w2.ownsRow w1.heap.size 3 1 (.slice (some ⟨w1.heap.size, 0, none⟩) n1 n1) n1 ((filL n1 fs m 0).map (Value.int .i64))) := Lib.hid (by rw [fil_zero, List.map_replicate]; exact hown)
  clear hgrow hown k0 k1 hgz
  go_wp2
  go_loopw [18] (fun i wr => ∃ k : Nat, k ≤ n1 ∧ i = .int .i64 k ∧ Hid (wr.ownsRow w1.heap.size 3 1 (.slice (some ⟨w1.heap.size, 0, none⟩) n1 n1) n1 ((filL n1 fs m k).map (Value.int .i64))) ∧ Below w1.heap.size w1 wr) (fun i _ => n1 - (intOf i).toNat)
  case atStart => exact ⟨0, Nat.zero_le _, rfl, HO2, HB2.out⟩
  case round =>
    obtain ⟨k, hk, rfl, HOW, hb⟩ := hrel
    have HBR := Lib.hid hb
    have HBW := Lib.hid (HBw1.out.trans (hb.mono HBw1.out.size))
    have HWR := Lib.hid (HWw1.out.trans (hb.mono HWw1.out.size))
    clear hb
    by_cases hlt : k < n1
    case neg =>
      obtain rfl : k = n1 := by omega
      have HF : Hid (filL k fs m k = RL) := Lib.hid (by rw [fil_end, HE.out.1])
      have HLN := Lib.hid (HFL.out k (Nat.le_refl _))
      clear hlt
      go_wp2
      go_ret2
      rw [← HF.out]
      exact ⟨_, k, k, rfl, Lib.hid HLN.out.symm, own_base HOW.out HBw1.out.size, HBW.out⟩
    case pos =>
    obtain ⟨k0, k1, hgz⟩ := HKB.out _ HWR.out
    have CM : Hid (∀ W, Below wr.heap.size wr W → Calls Tryd.prog 103 #[.slice A n c] W fun e w' => e = .returned (.int .i64 (m : Nat)) ∧ W = w') := Lib.hid (fun W hW => CMX.out W (HBW.out.trans (hW.mono HBW.out.size)))
    have CR : Hid (∀ W, Below wr.heap.size wr W → Calls Tryd.prog 112 #[.agg #[.slice (some ⟨g1, 0, none⟩) n1 c1, .slice (some ⟨g2, 0, none⟩) n2 c2], .int .i64 (k : Int), .int .i64 (m : Nat)] W fun e w' => e = .returned (.int .i64 (rchN n1 fs m (k : Int) : Nat)) ∧ Below wr.heap.size wr w') := Lib.hid (fun W hW => (CRX.out k hlt W (HBW.out.trans (hW.mono HBW.out.size))).mono fun e w' h => ⟨h.1, hW.trans (h.2.mono hW.size)⟩)
    obtain ⟨hr8, hr0⟩ := HRB.out k hlt
    have HST := Lib.hid (HFS.out k hlt)
    have CT : Hid (∀ W, Below wr.heap.size wr W → Calls Tryd.prog 137 #[.int .u64 (rchN n1 fs m (k : Int) : Nat)] W fun e w' => e = .returned (.int .i64 (Lib.ctz 64 (rchN n1 fs m (k : Int)) : Int)) ∧ W = w') := Lib.hid (fun W hW => tz _ W (by omega) hr0 ((HTB.out.over HBW.out).over hW))
    obtain ⟨r, hrr⟩ : ∃ r, rchN n1 fs m (k : Int) = r := ⟨_, rfl⟩
    rw [hrr] at CR CT HST hr8 hr0
    obtain ⟨l, hl⟩ : ∃ l, Lib.ctz 64 r = l := ⟨_, rfl⟩
    rw [hl] at CT HST
    obtain ⟨z, hz⟩ : ∃ z, (filL n1 fs m k).getD k 0 = z := ⟨_, rfl⟩
    have HZK := Lib.hid hz
    have HLK := Lib.hid (HFL.out k hk).symm
    have q3 : IntKind.u64.wrap (r : Int) = r := by rw [IntKind.wrap_u64]; omega
    have hltI : (k : Int) < n1 := by omega
    clear hrr hl hz hr0
    have hgw : w1.heap.size < wr.heap.size := (HOW.out.lt w1.heap.size rfl).2
    have hbd : Bel wr wr.drew := Bel.of (Below.refl _ _).drew
    go_upto_block 1 with fail
    go_cut [18] (fun s18 wx => s18 = .int .i64 (k : Int) ∧ ∃ u1 : World, Below wr.heap.size wr u1 ∧ wx.heap = (u1.setCell ⟨w1.heap.size, k, none⟩ (.int .i64 (l : Int))).heap ∧ Below w1.heap.size w1 wx)
    case first =>
      go_upto_region 7 with fail
      go_region_with (first
        | (go_at_call 103; refine (CM.out _ ?_).mono ?_; (· repeat (first | exact Below.refl _ _ | refine Below.drew ?_)); rintro e u9 ⟨rfl, rfl⟩)
        | (go_at_call 112; (refine (CR.out _ ?_).mono ?_; (· repeat (first | exact Below.refl _ _ | refine Below.drew ?_)); rintro e u1 ⟨rfl, hb8⟩; have z1 := (ownB HOW.out hb8).frozenAt k; have c1 := own_int (ownB HOW.out hb8) HLK.out hlt HZK.out; have hg8 := Nat.lt_of_lt_of_le hgw hb8.size))
        | (go_at_call 137; refine (CT.out _ ?_).mono ?_; (· repeat (first | exact hb8 | refine Below.drew ?_)); rintro e u3 ⟨rfl, rfl⟩))
      all_goals
        go_wp2_with fail
        go_meet
        refine ⟨rfl, u1, hb8, rfl, ?_⟩
        repeat (first | exact (HBR.out.trans (hb8.mono HBR.out.size)).setCell (p := ⟨w1.heap.size, k, none⟩) (Nat.le_refl _) _ | refine Below.drew ?_)
    case rest =>
    clear hbd k0 k1 hgz q3 hgw
    revert hcut; generalize wc = w6; intro hcut
    obtain ⟨h0_, u1, hu1, hu2, hu3⟩ := hcut
    subst h0_
    have HO6 : Hid (w6.ownsRow w1.heap.size 3 1 (.slice (some ⟨w1.heap.size, 0, none⟩) n1 n1) n1 ((filL n1 fs m (k + 1)).map (Value.int .i64))) := Lib.hid (by
      refine own_heapW hu2 ?_
      have h9 := ((ownB HOW.out hu1).stored k (.int .i64 (l : Int))).1
      rw [set_mapI, HST.out] at h9
      exact h9)
    have HB6 := Lib.hid hu3
    clear hu1 hu2 hu3
    go_wp2
    go_roundw
    case rel => exact ⟨k + 1, by omega, by go_num, HO6, HB6.out⟩
    case measure => simp [intOf]; omega
end Go.Proofs.YtbnfogedmjjiaaaDoor
