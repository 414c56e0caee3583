/- Contract: PlaceAmplifiers by the specification. No condition but those typed. -/
import Derived.Test.YtgaankdmppoghaaPlc
namespace Go.Proofs.Ytgaankdmppoghaa
open Go.ChangeShapes Go.WideShapes Go.ChangeAt Go.RowKit

theorem own_empty4 (W : World) {B : Nat} (hB : B ≤ W.heap.size) (E : TypeId) (s : Nat) : (W.alloc (.cells #[] E)).ownsRow B E s (.slice (some ⟨W.heap.size, 0, none⟩) 0 0) 0 [] := by
  have := World.ownsRow_lit (base := B) (e := E) (size := s) W #[] 0 hB (by unfold maxLen; omega) (by simp)
  simpa using this

set_option maxHeartbeats 8000000 in
set_option maxRecDepth 100000 in
theorem sPlc (g1 n1 c1 : Nat) (qs : List Q3) (a b c3 d l s : Int) (w : World) (hn1 : qs.length = n1) (hs1 : n1 ≤ 1048576) (hr1 : Rd w w.heap.size (some ⟨g1, 0, none⟩) (qs.flatMap Q3.cells)) :
    Calls Try.prog 37 #[.slice (some ⟨g1, 0, none⟩) n1 c1, .agg #[.int .i64 a, .int .i64 b, .int .i64 c3, .int .i64 d], .int .i64 l, .int .i64 s] w (PlAns qs ⟨a, b, c3, d⟩ l s w) := by
  have HN1 := Lib.hid hn1; have HR1 := Lib.hid hr1
  have CL : Hid (∀ W, Below w.heap.size w W → Calls Try.prog 66 #[.slice (some ⟨g1, 0, none⟩) n1 c1] W (RetV (.bool (lineB qs)) W)) := Lib.hid fun W hb => sLine g1 n1 c1 qs W hn1 hs1 (hr1.moved hb)
  have CK := Lib.hid (fun W => sKind a b c3 d W)
  have CV := Lib.hid (fun W => sLevel l W)
  have CW := Lib.hid (fun W => sLevel s W)
  clear hn1 hr1
  obtain ⟨r1, e1⟩ : ∃ r, lineB qs = r := ⟨_, rfl⟩
  obtain ⟨r2, e2⟩ : ∃ r, kindB ⟨a, b, c3, d⟩ = r := ⟨_, rfl⟩
  obtain ⟨r3, e3⟩ : ∃ r, levB l = r := ⟨_, rfl⟩
  obtain ⟨r4, e4⟩ : ∃ r, levB s = r := ⟨_, rfl⟩
  have HARG := Lib.hid (pl_parts (a := ⟨a, b, c3, d⟩) e1 e2 e3 e4)
  have H1 := Lib.hid e1; have H2 := Lib.hid e2; have H3 := Lib.hid e3; have H4 := Lib.hid e4
  rw [e1] at CL; rw [e2] at CK; rw [e3] at CV; rw [e4] at CW
  clear e1 e2 e3 e4
  go_enter Try.func37, Try.ntmps37
  go_wp2_with fail
  obtain ⟨W0, hW0⟩ : ∃ W0, ((w.alloc (Obj.cells #[.int .i64 a, .int .i64 b, .int .i64 c3, .int .i64 d] 57)).alloc (Obj.cells #[] 57)) = W0 := ⟨_, rfl⟩
  have HB0 := Lib.hid (((Below.refl w.heap.size w).alloc (Nat.le_refl _) (Obj.cells #[.int .i64 a, .int .i64 b, .int .i64 c3, .int .i64 d] 57)).alloc (by simp) (Obj.cells #[] 57))
  have HO0 := Lib.hid (own_empty4 (w.alloc (Obj.cells #[.int .i64 a, .int .i64 b, .int .i64 c3, .int .i64 d] 57)) (B := w.heap.size) (by simp) 57 4)
  have K0 : Hid (W0.cell? ⟨w.heap.size, 0, none⟩ = some (.int .i64 a)) := Lib.hid (by rw [← hW0]; simp [go_sem])
  have K1 : Hid (W0.cell? ⟨w.heap.size, 1, none⟩ = some (.int .i64 b)) := Lib.hid (by rw [← hW0]; simp [go_sem])
  have K2 : Hid (W0.cell? ⟨w.heap.size, 2, none⟩ = some (.int .i64 c3)) := Lib.hid (by rw [← hW0]; simp [go_sem])
  have K3 : Hid (W0.cell? ⟨w.heap.size, 3, none⟩ = some (.int .i64 d)) := Lib.hid (by rw [← hW0]; simp [go_sem])
  have es : (w.alloc (Obj.cells #[.int .i64 a, .int .i64 b, .int .i64 c3, .int .i64 d] 57)).heap.size = w.heap.size + 1 := by simp
  rw [es] at HO0
  have HZ0 : Hid (w.heap.size + 1 < W0.heap.size) := Lib.hid (by rw [← hW0]; simp)
  rw [hW0] at HB0 HO0 ⊢
  clear hW0 es
  have CL0 := Lib.hid (CL.out W0 HB0.out); clear CL
  cases r1
  case false =>
    have HQ := Lib.hid (pl_arg (HARG.out.trans rfl))
    refine CL0.out.mono ?_
    rintro e w1 ⟨rfl, hb1⟩
    have HB1 := Lib.hid (HB0.out.trans (hb1.mono HB0.out.size)); have HO1 := Lib.hid (ownB HO0.out hb1)
    clear hb1
    go_wp2
    go_ret2
    exact plAns_no HQ.out HO1.out HB1.out
  case true =>
  refine CL0.out.mono ?_
  rintro e w1 ⟨rfl, hb1⟩
  have HB1 := Lib.hid (HB0.out.trans (hb1.mono HB0.out.size)); have HO1 := Lib.hid (ownB HO0.out hb1)
  have k0 := (hb1.cell (p := ⟨w.heap.size, 0, none⟩) (by have := HZ0.out; simp only; omega)).trans K0.out
  have k1 := (hb1.cell (p := ⟨w.heap.size, 1, none⟩) (by have := HZ0.out; simp only; omega)).trans K1.out
  have k2 := (hb1.cell (p := ⟨w.heap.size, 2, none⟩) (by have := HZ0.out; simp only; omega)).trans K2.out
  have k3 := (hb1.cell (p := ⟨w.heap.size, 3, none⟩) (by have := HZ0.out; simp only; omega)).trans K3.out
  have HX1 := Lib.hid hb1
  clear hb1 CL0
  go_wp2_with fail
  cases r2
  case false =>
    have HQ := Lib.hid (pl_arg (HARG.out.trans rfl))
    refine (CK.out _).mono ?_
    rintro e w2 ⟨rfl, hb2⟩
    have HB2 := Lib.hid (HB1.out.trans (hb2.mono HB1.out.size)); have HO2 := Lib.hid (ownB HO1.out hb2)
    clear hb2
    go_wp2
    go_ret2
    exact plAns_no HQ.out HO2.out HB2.out
  case true =>
  refine (CK.out _).mono ?_
  rintro e w2 ⟨rfl, hb2⟩
  have HB2 := Lib.hid (HB1.out.trans (hb2.mono HB1.out.size)); have HO2 := Lib.hid (ownB HO1.out hb2)
  have HX2 := Lib.hid (HX1.out.trans (hb2.mono HX1.out.size))
  clear hb2 HB1 HO1 k0 k1 k2 k3
  go_wp2_with fail
  cases r3
  case false =>
    have HQ := Lib.hid (pl_arg (HARG.out.trans rfl))
    refine (CV.out _).mono ?_
    rintro e w' ⟨rfl, rfl⟩
    go_wp2
    go_ret2
    exact plAns_no HQ.out HO2.out HB2.out
  case true =>
  refine (CV.out _).mono ?_
  rintro e w' ⟨rfl, rfl⟩
  go_wp2_with fail
  cases r4
  case false =>
    have HQ := Lib.hid (pl_arg (HARG.out.trans rfl))
    refine (CW.out _).mono ?_
    rintro e w' ⟨rfl, rfl⟩
    go_wp2
    go_ret2
    exact plAns_no HQ.out HO2.out HB2.out
  case true =>
  refine (CW.out _).mono ?_
  rintro e w' ⟨rfl, rfl⟩
  have hl := levB_yes H3.out
  have hs := levB_yes H4.out
  obtain ⟨l0, l1⟩ := hl
  obtain ⟨s0, s1⟩ := hs
  clear CV CW CK HX1
  go_wp2
  go_loopw [10, 11, 12] (fun v x' i wr => ∃ (k N : Nat) (A : Option Addr) (c : Nat) (x : Int) (am : List Q4), k ≤ n1 ∧ N ≤ k ∧ k ≤ 12 ∧ i = .int .i64 k ∧ x' = .int .i64 x ∧ v = .slice A N c ∧ -10000 ≤ x ∧ x ≤ 10000 ∧ Hid (plS qs ⟨a, b, c3, d⟩ l s k = (x, am)) ∧ Hid (N = am.length) ∧ Hid (∀ j, j < k → s ≤ plX qs ⟨a, b, c3, d⟩ l s j) ∧ Hid (wr.ownsRow w.heap.size 57 4 (.slice A N c) N (am.flatMap Q4.cells)) ∧ Hid (Below w.heap.size w wr) ∧ Hid (∀ o, wr.cell? ⟨w.heap.size, o, none⟩ = W0.cell? ⟨w.heap.size, o, none⟩) ∧ Hid (w.heap.size + 1 < wr.heap.size) ∧ Hid (∀ g, (Value.slice A N c).ownBlock = some g → w.heap.size < g)) (fun _ _ i _ => n1 - (intOf i).toNat)
  case atStart =>
    exact ⟨0, 0, _, _, l, [], Nat.zero_le _, Nat.zero_le _, by omega, rfl, rfl, rfl, l0, l1, Lib.hid rfl, Lib.hid rfl, Lib.hid (fun j hj => by omega), HO2, HB2, Lib.hid (fun o => HX2.out.cell (p := ⟨w.heap.size, o, none⟩) (by have := HZ0.out; simp only; omega)), Lib.hid (Nat.lt_of_lt_of_le HZ0.out HX2.out.size), Lib.hid (fun g hg => by simp only [Value.ownBlock, Option.some.injEq] at hg; omega)⟩
  case round =>
    clear HB2 HO2 HX2
    obtain ⟨k, N, A, c, x, am, hk, hN, hk12, rfl, rfl, rfl, x0, x1, HS, HNN, HJ, HOW, HBR, HKC, HZR, HGT⟩ := hrel
    by_cases hlt : k < n1
    case neg =>
      obtain rfl : k = n1 := by omega
      have HQ := Lib.hid (pl_yes (HARG.out.trans rfl) fun j hj => HJ.out j (by have := HN1.out; omega))
      have HM : Hid ((plS qs ⟨a, b, c3, d⟩ l s k).2 = am) := Lib.hid (by rw [HS.out])
      clear hlt
      go_wp2
      go_ret2
      exact plAns_yes HQ.out HN1.out HM.out HNN.out HOW.out HBR.out
    case pos =>
    have hlen12 : n1 ≤ 12 := by have := (lineB_true H1.out).1.2; have := HN1.out; omega
    have hks : k < qs.length := by have := HN1.out; omega
    have hrc := (HR1.out.over HBR.out).q3c hks
    rw [Nat.zero_add] at hrc
    obtain ⟨⟨a1, b1, c11⟩, hq⟩ : ∃ q, qs[k]'hks = q := ⟨_, rfl⟩
    rw [hq] at hrc
    obtain ⟨hg, f0, f1, f2⟩ := hrc
    simp only at f0 f1 f2
    have hsp : spB ⟨a1, b1, c11⟩ = true := by
      have := List.all_eq_true.1 (lineB_true H1.out).2 _ (List.getElem_mem hks)
      rw [hq] at this; exact this
    have hbd := loss_bd hsp
    have hgd : lossAt qs k = lossI ⟨a1, b1, c11⟩ := by unfold lossAt; rw [List.getD_eq_getElem?_getD, List.getElem?_eq_getElem hks]; exact congrArg lossI hq
    have CLS : Hid (∀ W, Calls Try.prog 55 #[.agg #[.int .i64 a1, .int .i64 b1, .int .i64 c11]] W (RetV (.int .i64 (lossI ⟨a1, b1, c11⟩)) W)) := Lib.hid fun W => sLoss a1 b1 c11 W hsp
    obtain ⟨y, hy⟩ : ∃ y, lossI ⟨a1, b1, c11⟩ = y := ⟨_, rfl⟩
    rw [hy] at CLS hbd hgd
    have HY : Hid (plX qs ⟨a, b, c3, d⟩ l s k = x - y) := Lib.hid (by unfold plX; rw [HS.out, hgd])
    obtain ⟨y0, y1⟩ := hbd
    clear hq hsp hgd hy
    go_wp2_with fail
    refine (CLS.out _).mono ?_
    rintro e w3 ⟨rfl, hb3⟩
    have HB3 := Lib.hid (HBR.out.trans (hb3.mono HBR.out.size)); have HO3 := Lib.hid (ownB HOW.out hb3)
    have HK3 : Hid (∀ o, w3.cell? ⟨w.heap.size, o, none⟩ = W0.cell? ⟨w.heap.size, o, none⟩) := Lib.hid (fun o => (hb3.cell (p := ⟨w.heap.size, o, none⟩) (by have := HZR.out; simp only; omega)).trans (HKC.out o))
    have HZ3 : Hid (w.heap.size + 1 < w3.heap.size) := Lib.hid (Nat.lt_of_lt_of_le HZR.out hb3.size)
    clear hb3 f0 f1 f2 HOW HBR HKC HZR CLS
    have CV2 := Lib.hid (fun W => sLevel (x - y) W)
    go_wp2_with fail
    by_cases hlv : -10000 ≤ x - y
    case neg =>
      have HQ := Lib.hid (pl_no (a := ⟨a, b, c3, d⟩) hks (by rw [HY.out]; omega))
      rw [show levB (x - y) = false from inB_no (by omega)] at CV2
      clear hlv
      refine (CV2.out _).mono ?_
      rintro e w' ⟨rfl, rfl⟩
      go_wp2
      go_ret2
      exact plAns_no HQ.out (own_empty4 w3 HB3.out.size 57 4) (HB3.out.alloc HB3.out.size _)
    case pos =>
    rw [show levB (x - y) = true from inB_mk hlv (by omega)] at CV2
    refine (CV2.out _).mono ?_
    rintro e w' ⟨rfl, rfl⟩
    clear CV2
    by_cases hsn : s ≤ x - y
    case neg =>
      have HQ := Lib.hid (pl_no (a := ⟨a, b, c3, d⟩) hks (by rw [HY.out]; omega))
      have q : x - y < s := by omega
      clear hsn
      go_wp2
      go_ret2
      exact plAns_no HQ.out (own_empty4 w3 HB3.out.size 57 4) (HB3.out.alloc HB3.out.size _)
    case pos =>
    have q0 : decide (x - y < s) = false := decide_eq_false (by omega)
    have HJ1 : Hid (∀ j, j < k + 1 → s ≤ plX qs ⟨a, b, c3, d⟩ l s j) := Lib.hid fun j hj => by
      by_cases hjk : j < k
      · exact HJ.out j hjk
      · obtain rfl : j = k := by omega
        rw [HY.out]; exact hsn
    have HM : Hid ((plS qs ⟨a, b, c3, d⟩ l s k).2 = am) := Lib.hid (by rw [HS.out])
    by_cases hk1 : k + 1 < n1
    case neg =>
      have HN2 := Lib.hid (pl_not HY.out HM.out (fun h => hk1 (by have := h.1; have := HN1.out; omega)))
      have q1 : decide ((k : Int) + 1 < n1) = false := decide_eq_false (by omega)
      clear hk1
      go_wp2
      go_roundw
      case rel => exact ⟨k + 1, N, A, c, x - y, am, by omega, by omega, by omega, by go_num, rfl, rfl, by omega, by omega, HN2, HNN, HJ1, HO3, HB3, HK3, HZ3, HGT⟩
      case measure => simp [intOf]; omega
    case pos =>
    have q1 : (k : Int) + 1 < n1 := by omega
    have hks2 : k + 1 < qs.length := by have := HN1.out; omega
    have hrc := (HR1.out.over HB3.out).q3c hks2
    rw [Nat.zero_add] at hrc
    obtain ⟨⟨a2, b2, c22⟩, hq⟩ : ∃ q, qs[k + 1]'hks2 = q := ⟨_, rfl⟩
    rw [hq] at hrc
    obtain ⟨hg2, f0, f1, f2⟩ := hrc
    simp only at f0 f1 f2
    have hsp : spB ⟨a2, b2, c22⟩ = true := by
      have := List.all_eq_true.1 (lineB_true H1.out).2 _ (List.getElem_mem hks2)
      rw [hq] at this; exact this
    have hbd := loss_bd hsp
    have hgd : lossAt qs (k + 1) = lossI ⟨a2, b2, c22⟩ := by unfold lossAt; rw [List.getD_eq_getElem?_getD, List.getElem?_eq_getElem hks2]; exact congrArg lossI hq
    have CLS : Hid (∀ W, Calls Try.prog 55 #[.agg #[.int .i64 a2, .int .i64 b2, .int .i64 c22]] W (RetV (.int .i64 (lossI ⟨a2, b2, c22⟩)) W)) := Lib.hid fun W => sLoss a2 b2 c22 W hsp
    obtain ⟨y2, hy⟩ : ∃ y, lossI ⟨a2, b2, c22⟩ = y := ⟨_, rfl⟩
    rw [hy] at CLS hbd hgd
    have HG2 := Lib.hid hgd
    obtain ⟨y20, y21⟩ := hbd
    clear hq hsp hgd hy
    have e1 : ((k : Int) + 1).toNat = k + 1 := by omega
    go_wp2_with fail
    refine (CLS.out _).mono ?_
    rintro e w4 ⟨rfl, hb4⟩
    have HB4 := Lib.hid (HB3.out.trans (hb4.mono HB3.out.size)); have HO4 := Lib.hid (ownB HO3.out hb4)
    have HK4 : Hid (∀ o, w4.cell? ⟨w.heap.size, o, none⟩ = W0.cell? ⟨w.heap.size, o, none⟩) := Lib.hid (fun o => (hb4.cell (p := ⟨w.heap.size, o, none⟩) (by have := HZ3.out; simp only; omega)).trans (HK3.out o))
    have HZ4 : Hid (w.heap.size + 1 < w4.heap.size) := Lib.hid (Nat.lt_of_lt_of_le HZ3.out hb4.size)
    clear hb4 f0 f1 f2 HO3 HB3 HK3 HZ3 CLS e1
    by_cases hput : x - y - y2 < s
    case neg =>
      have HN2 := Lib.hid (pl_not HY.out HM.out (fun h => hput (by have := h.2; rw [HG2.out] at this; exact this)))
      have q2 : decide (x - y - y2 < s) = false := decide_eq_false hput
      clear hput
      go_wp2
      go_roundw
      case rel => exact ⟨k + 1, N, A, c, x - y, am, by omega, by omega, by omega, by go_num, rfl, rfl, by omega, by omega, HN2, HNN, HJ1, HO4, HB4, HK4, HZ4, HGT⟩
      case measure => simp [intOf]; omega
    case pos =>
    have HN2 := Lib.hid (pl_put HY.out HM.out hks2 (by rw [HG2.out]; exact hput))
    have hrb := raise_le (x := x - y) H2.out hlv (by omega)
    have k0 := (HK4.out 0).trans K0.out
    have k1 := (HK4.out 1).trans K1.out
    have k2 := (HK4.out 2).trans K2.out
    have k3 := (HK4.out 3).trans K3.out
    have hzz : w.heap.size < w4.heap.size := by have := HZ4.out; omega
    go_wp2_with (at_builtin; refine wp_app rfl (.tmp 77) (.tmp 79) 40 57 rfl w.heap.size Try.underlying40 Try.inf_Am rfl (by decide) (by decide) _ N _ rfl ((HO4.out.alloc (Obj.cells #[.int .i64 (k : Int), .int .i64 b, .int .i64 c3, .int .i64 d] 57)).alloc (Obj.cells #[.int .i64 (k : Int), .int .i64 b, .int .i64 c3, .int .i64 d] 57)) _ _ [.int .i64 (k : Int), .int .i64 b, .int .i64 c3, .int .i64 d] rfl rfl (news4 (by simp [go_sem]) (by simp [go_sem]) (by simp [go_sem]) (by simp [go_sem])) (news4_int _ _ _ _) (by omega) (by have := HB4.out.size; simp; omega) ?_)
    intro A6 c6 N6 w6 hN6 ho6 hg6 hl6
    subst hN6
    rw [cells_snoc] at ho6
    have HO6 := Lib.hid ho6
    have HB6 := Lib.hid (((HB4.out.alloc HB4.out.size (Obj.cells #[.int .i64 (k : Int), .int .i64 b, .int .i64 c3, .int .i64 d] 57)).alloc (by have := HB4.out.size; simp; omega) (Obj.cells #[.int .i64 (k : Int), .int .i64 b, .int .i64 c3, .int .i64 d] 57)).grown hg6 (by have := HB4.out.size; simp; omega) (fun g h => ((HO4.out.lt g h).1)))
    have HK6 : Hid (∀ o, w6.cell? ⟨w.heap.size, o, none⟩ = W0.cell? ⟨w.heap.size, o, none⟩) := Lib.hid fun o => by
      have e1 := World.cell?_of_block (a := ⟨w.heap.size, o, none⟩) (hg6.block w.heap.size (by simp; omega) (fun e => by have := HGT.out w.heap.size e.symm; omega))
      rw [e1, World.cell?_alloc_lt (h := by simp; omega), World.cell?_alloc_lt (h := hzz)]
      exact HK4.out o
    have HZ6 : Hid (w.heap.size + 1 < w6.heap.size) := Lib.hid (by have := hg6.size; simp at this; omega)
    have HGT6 : Hid (∀ g, (Value.slice A6 (N + 1) c6).ownBlock = some g → w.heap.size < g) := Lib.hid fun g hg => by
      rcases hl6 with h | h
      · exact HGT.out g (h.symm.trans hg)
      · rw [h] at hg; injection hg with hg; omega
    have k0 := (HK6.out 0).trans K0.out
    have k1 := (HK6.out 1).trans K1.out
    have k2 := (HK6.out 2).trans K2.out
    have k3 := (HK6.out 3).trans K3.out
    have CR : Hid (∀ W, Calls Try.prog 68 #[.agg #[.int .i64 a, .int .i64 b, .int .i64 c3, .int .i64 d], .int .i64 (x - y)] W (RetV (.int .i64 (raiseI ⟨a, b, c3, d⟩ (x - y))) W)) := Lib.hid fun W => sRaise a b c3 d (x - y) W H2.out hlv (by omega)
    obtain ⟨z, hz⟩ : ∃ z, raiseI ⟨a, b, c3, d⟩ (x - y) = z := ⟨_, rfl⟩
    rw [hz] at CR HN2 hrb
    obtain ⟨z0, z1⟩ := hrb
    clear hz ho6 hg6 hl6 HO4 HB4 HK4 HZ4 HGT hzz
    go_wp2_with fail
    refine (CR.out _).mono ?_
    rintro e w7 ⟨rfl, hb7⟩
    have HB7 := Lib.hid (HB6.out.trans (hb7.mono HB6.out.size)); have HO7 := Lib.hid (ownB HO6.out hb7)
    have HK7 : Hid (∀ o, w7.cell? ⟨w.heap.size, o, none⟩ = W0.cell? ⟨w.heap.size, o, none⟩) := Lib.hid (fun o => (hb7.cell (p := ⟨w.heap.size, o, none⟩) (by have := HZ6.out; simp only; omega)).trans (HK6.out o))
    have HZ7 : Hid (w.heap.size + 1 < w7.heap.size) := Lib.hid (Nat.lt_of_lt_of_le HZ6.out hb7.size)
    have HNN7 : Hid (N + 1 = (am ++ [(⟨(k : Int), b, c3, d⟩ : Q4)]).length) := Lib.hid (by rw [List.length_append, ← HNN.out]; rfl)
    clear hb7 k0 k1 k2 k3 HO6 HB6 HK6 HZ6
    go_wp2
    go_roundw
    case rel => exact ⟨k + 1, N + 1, A6, c6, z, _, by omega, by omega, by omega, by go_num, rfl, rfl, by omega, by omega, HN2, HNN7, HJ1, HO7, HB7, HK7, HZ7, HGT6⟩
    case measure => simp [intOf]; omega
end Go.Proofs.Ytgaankdmppoghaa
