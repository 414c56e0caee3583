/- Contract: PlaceAmplifiers by the implementation. No condition but those typed. -/
import Derived.Test.YtgaankdmppoghaaPlcS
namespace Go.Proofs.Ytgaankdmppoghaa
open Go.ChangeShapes Go.WideShapes Go.ChangeAt Go.RowKit

theorem kind_any (a a' b c d : Int) : kindB ⟨a, b, c, d⟩ = kindB ⟨a', b, c, d⟩ := rfl
theorem iList1 (b c3 d : Int) {W : World} {g c : Nat} (hr : Rd W W.heap.size (some ⟨g, 0, none⟩) ([(⟨0, b, c3, d⟩ : Q4)].flatMap Q4.cells)) : Calls Try.prog 69 #[.int .i64 1, .slice (some ⟨g, 0, none⟩) 1 c] W (RetV (.bool (kindB ⟨0, b, c3, d⟩)) W) := by
  have := iList g 1 c [⟨0, b, c3, d⟩] 1 W rfl (by omega) hr
  have e : ampsB [(⟨0, b, c3, d⟩ : Q4)] 1 = kindB ⟨0, b, c3, d⟩ := by
    unfold ampsB
    simp only [List.length_singleton, List.range_succ, List.range_zero, List.nil_append, List.all_cons, List.all_nil, Bool.and_true]
    unfold ampK
    show (kindB ⟨0, b, c3, d⟩ && decide ((0 : Int) ≤ 0 ∧ (0 : Int) < 1 ∧ (-1 : Int) < 0)) = _
    simp
  rw [e] at this; exact this
theorem iLev2 (z y : Int) {W : World} {g c : Nat} (hr : Rd W W.heap.size (some ⟨g, 0, none⟩) ([z, y].map (Value.int .i64))) : Calls Try.prog 59 #[.slice (some ⟨g, 0, none⟩) 2 c] W (RetV (.bool (levB z && levB y)) W) := by
  have := iLevels g 2 c [z, y] W rfl (by omega) hr
  have e : [z, y].all levB = (levB z && levB y) := by simp
  rw [e] at this; exact this
theorem plX_zero (qs : List Q3) (a : Q4) (l s : Int) : plX qs a l s 0 = l - lossAt qs 0 := rfl

set_option maxHeartbeats 8000000 in
set_option maxRecDepth 100000 in
theorem iPlc (g1 n1 c1 : Nat) (qs : List Q3) (a b c3 d l s : Int) (w : World) (hn1 : qs.length = n1) (hs1 : n1 ≤ 1048576) (hr1 : Rd w w.heap.size (some ⟨g1, 0, none⟩) (qs.flatMap Q3.cells)) :
    Calls Try.prog 39 #[.slice (some ⟨g1, 0, none⟩) n1 c1, .agg #[.int .i64 a, .int .i64 b, .int .i64 c3, .int .i64 d], .int .i64 l, .int .i64 s] w (PlAns qs ⟨a, b, c3, d⟩ l s w) := by
  have HN1 := Lib.hid hn1; have HR1 := Lib.hid hr1
  have CL : Hid (∀ W, Below w.heap.size w W → Calls Try.prog 56 #[.slice (some ⟨g1, 0, none⟩) n1 c1] W (RetV (.bool (lineB qs)) W)) := Lib.hid fun W hb => iLine g1 n1 c1 qs W hn1 hs1 (hr1.moved hb)
  have CK : Hid (∀ (W : World) (g c : Nat), Rd W W.heap.size (some ⟨g, 0, none⟩) ([(⟨0, b, c3, d⟩ : Q4)].flatMap Q4.cells) → Calls Try.prog 69 #[.int .i64 1, .slice (some ⟨g, 0, none⟩) 1 c] W (RetV (.bool (kindB ⟨a, b, c3, d⟩)) W)) := Lib.hid (fun W g c h => iList1 b c3 d h)
  have CV : Hid (∀ (W : World) (g c : Nat), Rd W W.heap.size (some ⟨g, 0, none⟩) ([l, s].map (Value.int .i64)) → Calls Try.prog 59 #[.slice (some ⟨g, 0, none⟩) 2 c] W (RetV (.bool (levB l && levB s)) W)) := Lib.hid (fun W g c h => iLev2 l s h)
  clear hn1 hr1
  obtain ⟨r1, e1⟩ : ∃ r, lineB qs = r := ⟨_, rfl⟩
  obtain ⟨r2, e2⟩ : ∃ r, kindB ⟨a, b, c3, d⟩ = r := ⟨_, rfl⟩
  obtain ⟨r3, e3⟩ : ∃ r, levB l = r := ⟨_, rfl⟩
  obtain ⟨r4, e4⟩ : ∃ r, levB s = r := ⟨_, rfl⟩
  have HARG := Lib.hid (pl_parts (a := ⟨a, b, c3, d⟩) e1 e2 e3 e4)
  have H1 := Lib.hid e1; have H2 := Lib.hid e2; have H3 := Lib.hid e3; have H4 := Lib.hid e4
  rw [e1] at CL; rw [e2] at CK; rw [e3, e4] at CV
  obtain ⟨r34, e34⟩ : ∃ r, (r3 && r4) = r := ⟨_, rfl⟩
  have HARG2 : Hid (plArg qs ⟨a, b, c3, d⟩ l s = (r1 && r2 && r34)) := Lib.hid (by rw [HARG.out, ← e34, Bool.and_assoc])
  have H34 : Hid (r34 = true → levB l = true ∧ levB s = true) := Lib.hid fun h => by
    rw [h] at e34; simp only [Bool.and_eq_true] at e34; exact ⟨H3.out.trans e34.1, H4.out.trans e34.2⟩
  rw [e34] at CV
  clear e1 e2 e3 e4 e34 HARG H3 H4
  go_enter Try.func39, Try.ntmps39
  go_wp2_with fail
  obtain ⟨W0, hW0⟩ : ∃ W0, (w.alloc (Obj.cells #[.int .i64 0, .int .i64 b, .int .i64 c3, .int .i64 d] 57)) = W0 := ⟨_, rfl⟩
  have HB0 := Lib.hid ((Below.refl w.heap.size w).alloc (Nat.le_refl _) (Obj.cells #[.int .i64 0, .int .i64 b, .int .i64 c3, .int .i64 d] 57))
  have HX0 : Hid (W0.ownsRow w.heap.size 57 4 (.slice (some ⟨w.heap.size, 0, none⟩) 1 1) 1 [.int .i64 0, .int .i64 b, .int .i64 c3, .int .i64 d]) := Lib.hid (by rw [← hW0]; exact World.ownsRow_lit (base := w.heap.size) (e := 57) (size := 4) w #[.int .i64 0, .int .i64 b, .int .i64 c3, .int .i64 d] 1 (Nat.le_refl _) (by unfold maxLen; omega) (by simp))
  rw [hW0] at HB0 ⊢
  clear hW0
  have CL0 := Lib.hid (CL.out W0 HB0.out); clear CL
  cases r1
  case false =>
    have HQ := Lib.hid (pl_arg (HARG2.out.trans rfl))
    refine CL0.out.mono ?_
    rintro e w1 ⟨rfl, hb1⟩
    have HB1 := Lib.hid (HB0.out.trans (hb1.mono HB0.out.size))
    clear hb1
    go_wp2
    go_ret2
    exact plAns_no HQ.out (World.ownsRow_nil _ _ _ _) HB1.out
  case true =>
  refine CL0.out.mono ?_
  rintro e w1 ⟨rfl, hb1⟩
  have HB1 := Lib.hid (HB0.out.trans (hb1.mono HB0.out.size)); have HX1 := Lib.hid (ownB HX0.out hb1)
  have k0 : w1.cell? ⟨w.heap.size, 0, none⟩ = some (.int .i64 0) := (HX1.out.cellAt 0 (by omega)).trans rfl
  have k1 : w1.cell? ⟨w.heap.size, 1, none⟩ = some (.int .i64 b) := (HX1.out.cellAt 1 (by omega)).trans rfl
  have k2 : w1.cell? ⟨w.heap.size, 2, none⟩ = some (.int .i64 c3) := (HX1.out.cellAt 2 (by omega)).trans rfl
  have k3 : w1.cell? ⟨w.heap.size, 3, none⟩ = some (.int .i64 d) := (HX1.out.cellAt 3 (by omega)).trans rfl
  have hz1 := (HX1.out.lt _ rfl).2
  clear hb1 CL0 HB0 HX0
  go_wp2_with fail
  refine (CK.out _ _ _ (rd_q4 (by simp) _ _ _ _ _)).mono ?_
  rintro e w2 ⟨rfl, hb2⟩
  have HB2 := Lib.hid ((HB1.out.alloc HB1.out.size (Obj.cells #[.int .i64 0, .int .i64 b, .int .i64 c3, .int .i64 d] 57)).trans (hb2.mono (by have := HB1.out.size; simp; omega))); have HX2 := Lib.hid (ownB (HX1.out.alloc (Obj.cells #[.int .i64 0, .int .i64 b, .int .i64 c3, .int .i64 d] 57)) hb2)
  clear hb2 HB1 HX1 k0 k1 k2 k3 hz1 CK
  cases r2
  case false =>
    have HQ := Lib.hid (pl_arg (HARG2.out.trans rfl))
    go_wp2
    go_ret2
    exact plAns_no HQ.out (World.ownsRow_nil _ _ _ _) HB2.out
  case true =>
  go_wp2_with fail
  refine (CV.out _ _ _ (rd_i2 (by simp) l s _)).mono ?_
  rintro e w3 ⟨rfl, hb3⟩
  have HB3 := Lib.hid ((HB2.out.alloc HB2.out.size (Obj.cells #[.int .i64 l, .int .i64 s] 3)).trans (hb3.mono (by have := HB2.out.size; simp; omega))); have HX3 := Lib.hid (ownB (HX2.out.alloc (Obj.cells #[.int .i64 l, .int .i64 s] 3)) hb3)
  clear hb3 HB2 HX2 CV
  cases r34
  case false =>
    have HQ := Lib.hid (pl_arg (HARG2.out.trans rfl))
    go_wp2
    go_ret2
    exact plAns_no HQ.out (World.ownsRow_nil _ _ _ _) HB3.out
  case true =>
  obtain ⟨hl, hs⟩ := H34.out (by trivial)
  obtain ⟨l0, l1⟩ := levB_yes hl
  obtain ⟨s0, s1⟩ := levB_yes hs
  clear hl hs H34
  go_wp2
  go_loopw [10, 11, 34] (fun v x' i wr => ∃ (k N : Nat) (A : Option Addr) (c : Nat) (x aft : Int) (am : List Q4), k ≤ n1 ∧ N ≤ k ∧ k ≤ 12 ∧ i = .int .i64 k ∧ x' = .int .i64 x ∧ v = .slice A N c ∧ -10000 ≤ x ∧ x ≤ 10000 ∧ Hid ((k = 0 ∧ x = l ∧ am = []) ∨ (0 < k ∧ plX qs ⟨a, b, c3, d⟩ l s (k - 1) = x ∧ (plS qs ⟨a, b, c3, d⟩ l s (k - 1)).2 = am)) ∧ Hid (N = am.length) ∧ Hid (∀ j, j < k → s ≤ plX qs ⟨a, b, c3, d⟩ l s j) ∧ Hid (wr.ownsRow w.heap.size 57 4 (.slice A N c) N (am.flatMap Q4.cells)) ∧ Hid (Below w.heap.size w wr) ∧ Hid (wr.ownsRow w.heap.size 57 4 (.slice (some ⟨w.heap.size, 0, none⟩) 1 1) 1 [.int .i64 aft, .int .i64 b, .int .i64 c3, .int .i64 d]) ∧ Hid (∀ g, (Value.slice A N c).ownBlock = some g → w.heap.size < g)) (fun _ _ i _ => n1 - (intOf i).toNat)
  case atStart =>
    exact ⟨0, 0, none, 0, l, 0, [], Nat.zero_le _, Nat.zero_le _, by omega, rfl, rfl, rfl, l0, l1, Lib.hid (.inl ⟨rfl, rfl, rfl⟩), Lib.hid rfl, Lib.hid (fun j hj => by omega), Lib.hid (World.ownsRow_nil _ _ _ _), HB3, HX3, Lib.hid (fun g hg => by simp [Value.ownBlock] at hg)⟩
  case round =>
    clear HB3 HX3
    obtain ⟨k, N, A, c, x, aft, am, hk, hN, hk12, rfl, rfl, rfl, x0, x1, HST, HNN, HJ, HOW, HBR, HXR, HGT⟩ := hrel
    by_cases hlt : k < n1
    case neg =>
      obtain rfl : k = n1 := by omega
      have hk0 : 0 < k := by have := (lineB_true H1.out).1.1; have := HN1.out; omega
      have HQ := Lib.hid (pl_yes (HARG2.out.trans rfl) fun j hj => HJ.out j (by have := HN1.out; omega))
      have HM : Hid ((plS qs ⟨a, b, c3, d⟩ l s k).2 = am) := Lib.hid (by
        rcases HST.out with ⟨h, _⟩ | ⟨h1, h2, h3⟩
        · omega
        · have := pl_last (a := ⟨a, b, c3, d⟩) (l := l) (s := s) (k := k - 1) (by have := HN1.out; omega : k - 1 + 1 = qs.length)
          rw [show k - 1 + 1 = k by omega] at this
          rw [this]; exact h3)
      clear hlt
      go_wp2
      go_ret2
      exact plAns_yes HQ.out HN1.out HM.out HNN.out HOW.out HBR.out
    case pos =>
    have hlen12 : n1 ≤ 12 := by have := (lineB_true H1.out).1.2; have := HN1.out; omega
    have hks : k < qs.length := by have := HN1.out; omega
    have hrc := (HR1.out.over HBR.out).q3c hks
    rw [Nat.zero_add] at hrc
    obtain ⟨⟨a1, b1, c11⟩, hq⟩ : ∃ q, qs[k]'hks = q := ⟨_, rfl⟩
    rw [hq] at hrc
    obtain ⟨hg, f0, f1, f2⟩ := hrc
    simp only at f0 f1 f2
    have hsp : spB ⟨a1, b1, c11⟩ = true := by
      have := List.all_eq_true.1 (lineB_true H1.out).2 _ (List.getElem_mem hks)
      rw [hq] at this; exact this
    have hbd := loss_bd hsp
    have hgd : lossAt qs k = lossI ⟨a1, b1, c11⟩ := by unfold lossAt; rw [List.getD_eq_getElem?_getD, List.getElem?_eq_getElem hks]; exact congrArg lossI hq
    have CLS : Hid (∀ W, Calls Try.prog 57 #[.agg #[.int .i64 a1, .int .i64 b1, .int .i64 c11]] W (RetV (.int .i64 (lossI ⟨a1, b1, c11⟩)) W)) := Lib.hid fun W => iLoss a1 b1 c11 W hsp
    obtain ⟨y, hy⟩ : ∃ y, lossI ⟨a1, b1, c11⟩ = y := ⟨_, rfl⟩
    rw [hy] at CLS hbd hgd
    have HYY := Lib.hid hgd
    obtain ⟨y0, y1⟩ := hbd
    clear hq hsp hgd hy
    have hzr := HBR.out.size
    have hzr2 := (HXR.out.lt _ rfl).2
    have HLT : Hid (∀ g, (Value.slice A N c).ownBlock = some g → g < wr.heap.size) := Lib.hid fun g h => (HOW.out.lt g h).2
    by_cases hk0 : 0 < k
    case neg =>
      obtain rfl : k = 0 := by omega
      have HS : Hid (plS qs ⟨a, b, c3, d⟩ l s 0 = (x, am)) := Lib.hid (by
        rcases HST.out with ⟨_, h2, h3⟩ | ⟨h, _⟩
        · rw [h2, h3]; rfl
        · omega)
      clear hk0
      go_wp2_with fail
      refine (CLS.out _).mono ?_
      rintro e w8 ⟨rfl, hb8⟩
      have HB8 := Lib.hid ((HBR.out.alloc hzr (Obj.cells #[.int .i64 a1, .int .i64 b1, .int .i64 c11] 26)).trans (hb8.mono (by have := HBR.out.size; simp; omega))); have HO8 := Lib.hid (ownB (HOW.out.alloc (Obj.cells #[.int .i64 a1, .int .i64 b1, .int .i64 c11] 26)) hb8)
      have HX8 := Lib.hid (ownB (HXR.out.alloc (Obj.cells #[.int .i64 a1, .int .i64 b1, .int .i64 c11] 26)) hb8)
      clear hb8
      by_cases hsn : s ≤ x - y
      case neg =>
        have HQ := Lib.hid (pl_no (a := ⟨a, b, c3, d⟩) hks (by unfold plX; rw [HS.out, HYY.out]; omega))
        have q : x - y < s := by omega
        clear hsn
        go_wp2
        go_ret2
        exact plAns_no HQ.out (World.ownsRow_nil _ _ _ _) HB8.out
      case pos =>
      have q0 : decide (x - y < s) = false := decide_eq_false (by omega)
      have HJ1 : Hid (∀ j, j < 0 + 1 → s ≤ plX qs ⟨a, b, c3, d⟩ l s j) := Lib.hid fun j hj => by
        by_cases hjk : j < 0
        · exact HJ.out j hjk
        · obtain rfl : j = 0 := by omega
          unfold plX; rw [HS.out, HYY.out]; exact hsn
      have HST1 : Hid ((0 + 1 = 0 ∧ x - y = l ∧ am = []) ∨ (0 < 0 + 1 ∧ plX qs ⟨a, b, c3, d⟩ l s (0 + 1 - 1) = x - y ∧ (plS qs ⟨a, b, c3, d⟩ l s (0 + 1 - 1)).2 = am)) := Lib.hid (.inr ⟨by omega, by rw [Nat.add_sub_cancel]; unfold plX; rw [HS.out, HYY.out], by rw [Nat.add_sub_cancel, HS.out]⟩)
      go_wp2
      go_roundw
      case rel => exact ⟨0 + 1, N, A, c, x - y, aft, am, by omega, by omega, by omega, by first | rfl | go_num, rfl, rfl, by omega, by omega, HST1, HNN, HJ1, HO8, HB8, HX8, HGT⟩
      case measure => simp [intOf]; omega
    case pos =>
    have hkp : 0 < (k : Int) := by omega
    obtain ⟨hx, ham⟩ : plX qs ⟨a, b, c3, d⟩ l s (k - 1) = x ∧ (plS qs ⟨a, b, c3, d⟩ l s (k - 1)).2 = am := by
      rcases HST.out with ⟨h, _⟩ | ⟨_, h2, h3⟩
      · omega
      · exact ⟨h2, h3⟩
    have HXX := Lib.hid hx; have HAM := Lib.hid ham
    clear hx ham
    go_wp2_with fail
    refine (CLS.out _).mono ?_
    rintro e w4 ⟨rfl, hb4⟩
    have HB4 := Lib.hid ((HBR.out.alloc hzr (Obj.cells #[.int .i64 a1, .int .i64 b1, .int .i64 c11] 26)).trans (hb4.mono (by have := HBR.out.size; simp; omega))); have HO4 := Lib.hid (ownB (HOW.out.alloc (Obj.cells #[.int .i64 a1, .int .i64 b1, .int .i64 c11] 26)) hb4)
    have HX4 := Lib.hid (ownB (HXR.out.alloc (Obj.cells #[.int .i64 a1, .int .i64 b1, .int .i64 c11] 26)) hb4)
    have s0_ := (hb4.cell (p := ⟨wr.heap.size, 0, none⟩) (by simp)).trans (show _ = some (.int .i64 a1) by simp [go_sem])
    have s1_ := (hb4.cell (p := ⟨wr.heap.size, 1, none⟩) (by simp)).trans (show _ = some (.int .i64 b1) by simp [go_sem])
    have s2_ := (hb4.cell (p := ⟨wr.heap.size, 2, none⟩) (by simp)).trans (show _ = some (.int .i64 c11) by simp [go_sem])
    have hz4 : wr.heap.size < w4.heap.size := by have := hb4.size; simp at this; omega
    clear hb4 f0 f1 f2 HOW HBR HXR
    by_cases hput : x - y < s
    case neg =>
      have HS : Hid (plS qs ⟨a, b, c3, d⟩ l s k = (x, am)) := Lib.hid (by
        have := pl_not (k := k - 1) HXX.out HAM.out (fun h => hput (by have := h.2; rw [show k - 1 + 1 = k by omega, HYY.out] at this; exact this))
        rw [show k - 1 + 1 = k by omega] at this; exact this)
      have q2 : decide (x - y < s) = false := decide_eq_false hput
      clear hput
      go_wp2_with fail
      refine (CLS.out _).mono ?_
      rintro e w8 ⟨rfl, hb8⟩
      have HB8 := Lib.hid (HB4.out.trans (hb8.mono HB4.out.size)); have HO8 := Lib.hid (ownB HO4.out hb8)
      have HX8 := Lib.hid (ownB HX4.out hb8)
      clear hb8
      by_cases hsn : s ≤ x - y
      case neg =>
        have HQ := Lib.hid (pl_no (a := ⟨a, b, c3, d⟩) hks (by unfold plX; rw [HS.out, HYY.out]; omega))
        have q : x - y < s := by omega
        clear hsn
        go_wp2
        go_ret2
        exact plAns_no HQ.out (World.ownsRow_nil _ _ _ _) HB8.out
      case pos =>
      have q0 : decide (x - y < s) = false := decide_eq_false (by omega)
      have HJ1 : Hid (∀ j, j < k + 1 → s ≤ plX qs ⟨a, b, c3, d⟩ l s j) := Lib.hid fun j hj => by
        by_cases hjk : j < k
        · exact HJ.out j hjk
        · obtain rfl : j = k := by omega
          unfold plX; rw [HS.out, HYY.out]; exact hsn
      have HST1 : Hid ((k + 1 = 0 ∧ x - y = l ∧ am = []) ∨ (0 < k + 1 ∧ plX qs ⟨a, b, c3, d⟩ l s (k + 1 - 1) = x - y ∧ (plS qs ⟨a, b, c3, d⟩ l s (k + 1 - 1)).2 = am)) := Lib.hid (.inr ⟨by omega, by rw [Nat.add_sub_cancel]; unfold plX; rw [HS.out, HYY.out], by rw [Nat.add_sub_cancel, HS.out]⟩)
      go_wp2
      go_roundw
      case rel => exact ⟨k + 1, N, A, c, x - y, aft, am, by omega, by omega, by omega, by first | rfl | go_num, rfl, rfl, by omega, by omega, HST1, HNN, HJ1, HO8, HB8, HX8, HGT⟩
      case measure => simp [intOf]; omega
    case pos =>
    have HS : Hid (plS qs ⟨a, b, c3, d⟩ l s k = (raiseI ⟨a, b, c3, d⟩ x, am ++ [(⟨(k : Int) - 1, b, c3, d⟩ : Q4)])) := Lib.hid (by
      have := pl_put (k := k - 1) HXX.out HAM.out (by omega) (by rw [show k - 1 + 1 = k by omega, HYY.out]; exact hput)
      rw [show k - 1 + 1 = k by omega, show ((k - 1 : Nat) : Int) = (k : Int) - 1 by omega] at this; exact this)
    have hrb := raise_le (x := x) H2.out x0 x1
    have k0 : w4.cell? ⟨w.heap.size, 0, none⟩ = some (.int .i64 aft) := (HX4.out.cellAt 0 (by omega)).trans rfl
    have k1 : w4.cell? ⟨w.heap.size, 1, none⟩ = some (.int .i64 b) := (HX4.out.cellAt 1 (by omega)).trans rfl
    have k2 : w4.cell? ⟨w.heap.size, 2, none⟩ = some (.int .i64 c3) := (HX4.out.cellAt 2 (by omega)).trans rfl
    have k3 : w4.cell? ⟨w.heap.size, 3, none⟩ = some (.int .i64 d) := (HX4.out.cellAt 3 (by omega)).trans rfl
    have kf := HX4.out.frozenAt 0
    have HX5 : Hid ((w4.setCell ⟨w.heap.size, 0, none⟩ (.int .i64 ((k : Int) - 1))).ownsRow w.heap.size 57 4 (.slice (some ⟨w.heap.size, 0, none⟩) 1 1) 1 [.int .i64 ((k : Int) - 1), .int .i64 b, .int .i64 c3, .int .i64 d]) := Lib.hid (HX4.out.stored 0 (.int .i64 ((k : Int) - 1))).1
    have HO5 := Lib.hid (ownsRow_setCell_other HO4.out (a := ⟨w.heap.size, 0, none⟩) (fun e => by have := HGT.out _ e; simp only at this; omega) (.int .i64 ((k : Int) - 1)))
    have HB5 := Lib.hid (HB4.out.setCell (p := ⟨w.heap.size, 0, none⟩) (Nat.le_refl _) (.int .i64 ((k : Int) - 1)))
    have hzw : w.heap.size < w4.heap.size := (HX4.out.lt _ rfl).2
    go_wp2_with (at_builtin; refine wp_app rfl (.tmp 52) (.tmp 54) 40 57 rfl w.heap.size Try.underlying40 Try.inf_Am rfl (by decide) (by decide) _ N _ rfl (HO5.out.alloc (Obj.cells #[.int .i64 ((k : Int) - 1), .int .i64 b, .int .i64 c3, .int .i64 d] 57)) _ _ [.int .i64 ((k : Int) - 1), .int .i64 b, .int .i64 c3, .int .i64 d] rfl rfl (news4 (by simp [go_sem]) (by simp [go_sem]) (by simp [go_sem]) (by simp [go_sem])) (news4_int _ _ _ _) (by omega) (by have := HB5.out.size; simp at this; simp; omega) ?_)
    intro A6 c6 N6 w6 hN6 ho6 hg6 hl6
    subst hN6
    rw [cells_snoc] at ho6
    have HO6 := Lib.hid ho6
    have HB6 := Lib.hid ((HB5.out.alloc HB5.out.size (Obj.cells #[.int .i64 ((k : Int) - 1), .int .i64 b, .int .i64 c3, .int .i64 d] 57)).grown hg6 (by have := HB5.out.size; simp at this; simp; omega) (fun g h => ((HO5.out.lt g h).1)))
    have HX6 := Lib.hid ((HX5.out.alloc (Obj.cells #[.int .i64 ((k : Int) - 1), .int .i64 b, .int .i64 c3, .int .i64 d] 57)).kept hg6 (.inr (fun e => by have := HGT.out w.heap.size (by rw [← e]; rfl); omega)))
    have hsz6 := hg6.size
    simp at hsz6
    have HGT6 : Hid (∀ g, (Value.slice A6 (N + 1) c6).ownBlock = some g → w.heap.size < g) := Lib.hid fun g hg => by
      rcases hl6 with h | h
      · exact HGT.out g (h.symm.trans hg)
      · rw [h] at hg; injection hg with hg; omega
    have hs6 : ∀ j, w6.cell? ⟨wr.heap.size, j, none⟩ = w4.cell? ⟨wr.heap.size, j, none⟩ := fun j => by
      have e1 := World.cell?_of_block (a := ⟨wr.heap.size, j, none⟩) (hg6.block wr.heap.size (by simp; omega) (fun e => by have := HLT.out _ e.symm; omega))
      rw [e1, World.cell?_alloc_lt (h := by simp; omega)]
      exact World.cell?_of_block (a := ⟨wr.heap.size, j, none⟩) (Below.heap_setCell w4 _ _ _ (by simp only; omega))
    have t0 := (hs6 0).trans s0_
    have t1 := (hs6 1).trans s1_
    have t2 := (hs6 2).trans s2_
    have hz6 : wr.heap.size < w6.heap.size := by omega
    have CR : Hid (∀ W, Calls Try.prog 70 #[.agg #[.int .i64 ((k : Int) - 1), .int .i64 b, .int .i64 c3, .int .i64 d], .int .i64 x] W (RetV (.int .i64 (raiseI ⟨a, b, c3, d⟩ x)) W)) := Lib.hid fun W => iRaise ((k : Int) - 1) b c3 d x W H2.out x0 x1
    obtain ⟨z, hz⟩ : ∃ z, raiseI ⟨a, b, c3, d⟩ x = z := ⟨_, rfl⟩
    rw [hz] at CR HS hrb
    obtain ⟨z0, z1⟩ := hrb
    clear k0 k1 k2 k3 kf hz ho6 hg6 hl6 s0_ s1_ s2_ hs6 HO5 HB5 HX5 HX4 HO4 HB4
    have k0 : w6.cell? ⟨w.heap.size, 0, none⟩ = some (.int .i64 ((k : Int) - 1)) := (HX6.out.cellAt 0 (by omega)).trans rfl
    have k1 : w6.cell? ⟨w.heap.size, 1, none⟩ = some (.int .i64 b) := (HX6.out.cellAt 1 (by omega)).trans rfl
    have k2 : w6.cell? ⟨w.heap.size, 2, none⟩ = some (.int .i64 c3) := (HX6.out.cellAt 2 (by omega)).trans rfl
    have k3 : w6.cell? ⟨w.heap.size, 3, none⟩ = some (.int .i64 d) := (HX6.out.cellAt 3 (by omega)).trans rfl
    go_wp2_with fail
    refine (CR.out _).mono ?_
    rintro e w7 ⟨rfl, hb7⟩
    have HB7 := Lib.hid (HB6.out.trans (hb7.mono HB6.out.size)); have HO7 := Lib.hid (ownB HO6.out hb7); have HX7 := Lib.hid (ownB HX6.out hb7)
    have v0 := (hb7.cell (p := ⟨wr.heap.size, 0, none⟩) hz6).trans t0
    have v1 := (hb7.cell (p := ⟨wr.heap.size, 1, none⟩) hz6).trans t1
    have v2 := (hb7.cell (p := ⟨wr.heap.size, 2, none⟩) hz6).trans t2
    have HNN7 : Hid (N + 1 = (am ++ [(⟨(k : Int) - 1, b, c3, d⟩ : Q4)]).length) := Lib.hid (by rw [List.length_append, ← HNN.out]; rfl)
    clear hb7 k0 k1 k2 k3 t0 t1 t2 HO6 HB6 HX6
    go_wp2_with fail
    refine (CLS.out _).mono ?_
    rintro e w8 ⟨rfl, hb8⟩
    have HB8 := Lib.hid (HB7.out.trans (hb8.mono HB7.out.size)); have HO8 := Lib.hid (ownB HO7.out hb8)
    have HX8 := Lib.hid (ownB HX7.out hb8)
    clear hb8
    by_cases hsn : s ≤ z - y
    case neg =>
      have HQ := Lib.hid (pl_no (a := ⟨a, b, c3, d⟩) hks (by unfold plX; rw [HS.out, HYY.out]; omega))
      have q : z - y < s := by omega
      clear hsn
      go_wp2
      go_ret2
      exact plAns_no HQ.out (World.ownsRow_nil _ _ _ _) HB8.out
    case pos =>
    have q0 : decide (z - y < s) = false := decide_eq_false (by omega)
    have HJ1 : Hid (∀ j, j < k + 1 → s ≤ plX qs ⟨a, b, c3, d⟩ l s j) := Lib.hid fun j hj => by
      by_cases hjk : j < k
      · exact HJ.out j hjk
      · obtain rfl : j = k := by omega
        unfold plX; rw [HS.out, HYY.out]; exact hsn
    have HST1 : Hid ((k + 1 = 0 ∧ z - y = l ∧ am ++ [(⟨(k : Int) - 1, b, c3, d⟩ : Q4)] = []) ∨ (0 < k + 1 ∧ plX qs ⟨a, b, c3, d⟩ l s (k + 1 - 1) = z - y ∧ (plS qs ⟨a, b, c3, d⟩ l s (k + 1 - 1)).2 = am ++ [(⟨(k : Int) - 1, b, c3, d⟩ : Q4)])) := Lib.hid (.inr ⟨by omega, by rw [Nat.add_sub_cancel]; unfold plX; rw [HS.out, HYY.out], by rw [Nat.add_sub_cancel, HS.out]⟩)
    go_wp2
    go_roundw
    case rel => exact ⟨k + 1, N + 1, A6, c6, z - y, (k : Int) - 1, _, by omega, by omega, by omega, by first | rfl | go_num, rfl, rfl, by omega, by omega, HST1, HNN7, HJ1, HO8, HB8, HX8, HGT6⟩
    case measure => simp [intOf]; omega
theorem sPlcW (g1 n1 c1 : Nat) (qs : List Q3) (a : Q4) (l s : Int) (w : World) (hn1 : qs.length = n1) (hs1 : n1 ≤ 1048576) (hr1 : Rd w w.heap.size (some ⟨g1, 0, none⟩) (qs.flatMap Q3.cells)) :
    Calls Try.prog 37 #[.slice (some ⟨g1, 0, none⟩) n1 c1, .agg #[.int .i64 a.a, .int .i64 a.b, .int .i64 a.c, .int .i64 a.d], .int .i64 l, .int .i64 s] w (Ans1 57 4 ((plL qs a l s).flatMap Q4.cells) (plL qs a l s).length (fun v => .tuple #[v, .bool (plB qs a l s)]) w) := sPlc g1 n1 c1 qs a.a a.b a.c a.d l s w hn1 hs1 hr1
theorem iPlcW (g1 n1 c1 : Nat) (qs : List Q3) (a : Q4) (l s : Int) (w : World) (hn1 : qs.length = n1) (hs1 : n1 ≤ 1048576) (hr1 : Rd w w.heap.size (some ⟨g1, 0, none⟩) (qs.flatMap Q3.cells)) :
    Calls Try.prog 39 #[.slice (some ⟨g1, 0, none⟩) n1 c1, .agg #[.int .i64 a.a, .int .i64 a.b, .int .i64 a.c, .int .i64 a.d], .int .i64 l, .int .i64 s] w (Ans1 57 4 ((plL qs a l s).flatMap Q4.cells) (plL qs a l s).length (fun v => .tuple #[v, .bool (plB qs a l s)]) w) := iPlc g1 n1 c1 qs a.a a.b a.c a.d l s w hn1 hs1 hr1
end Go.Proofs.Ytgaankdmppoghaa
