/- Contracts: NoiseSum, both sides. Condition: the table of linear values holds what Go's text lays. -/
import Derived.Test.YtgaankdmppoghabDoorLvl
namespace Go.Proofs.YtgaankdmppoghabDoor
open Go.ChangeShapes Go.WideShapes Go.ChangeAt Go.RowKit

def noiS (am : List Q4) : Nat → Int
  | 0 => 0
  | k + 1 => noiS am k + linI (am.getD k amz).d
def noiB (am : List Q4) : Bool := ampsB am 12 && am.all (fun q => linB q.d) && lvB (noiS am am.length)
def noiI (am : List Q4) : Int := if noiB am then 100 * (lvlN (noiS am am.length) : Int) else 0
theorem noi_no {am : List Q4} (h : noiB am = false) : noiI am = 0 := by unfold noiI; rw [h]; rfl
theorem noi_amps {am : List Q4} (h : ampsB am 12 = false) : noiB am = false := by unfold noiB; rw [h]; rfl
theorem noi_lin {am : List Q4} {k : Nat} (hk : k < am.length) (h : linB am[k].d = false) : noiB am = false := by
  unfold noiB; rw [all_no (f := fun q => linB q.d) hk h]; simp
theorem noi_all {am : List Q4} {x : Int} (h1 : ampsB am 12 = true) (h2 : am.all (fun q => linB q.d) = true) (hx : noiS am am.length = x) : noiB am = lvB x ∧ noiI am = lvI x := by
  have h : noiB am = lvB x := by unfold noiB; rw [h1, h2, hx]; rfl
  exact ⟨h, by unfold noiI lvI; rw [h, hx]⟩
theorem amps_at {am : List Q4} {s : Int} (h : ampsP am s) : ∀ k, k < am.length → (k : Int) ≤ (am.getD k amz).a ∧ (am.getD k amz).a < s
  | 0, hk => by
    have := h 0 hk
    unfold ampK at this
    simp only [Bool.and_eq_true, decide_eq_true_eq] at this
    exact ⟨by simpa using this.2.1, this.2.2.1⟩
  | k + 1, hk => by
    have ih := amps_at h k (by omega)
    have := h (k + 1) hk
    unfold ampK at this
    simp only [Bool.and_eq_true, decide_eq_true_eq] at this
    have h3 : (am.getD k amz).a < (am.getD (k + 1) amz).a := this.2.2.2
    exact ⟨by omega, this.2.2.1⟩
theorem amps_len {am : List Q4} (h : ampsP am 12) : am.length ≤ 12 := by
  rcases Nat.eq_zero_or_pos am.length with h0 | h0
  · omega
  · have := amps_at h (am.length - 1) (by omega)
    omega
theorem noiS_bd (am : List Q4) : ∀ k, 0 ≤ noiS am k ∧ noiS am k ≤ k * 7943000000000
  | 0 => by unfold noiS; simp
  | k + 1 => by
    have ih := noiS_bd am k
    have := (linI_bd (am.getD k amz).d).2
    unfold noiS
    omega

set_option maxHeartbeats 4000000 in
theorem iNoi (g n c : Nat) (am : List Q4) (w : World) (hT : LinT w) (hn : am.length = n) (hs : n ≤ 1048576) (hr : Rd w w.heap.size (some ⟨g, 0, none⟩) (am.flatMap Q4.cells)) :
    Calls Tryd.prog 14 #[.slice (some ⟨g, 0, none⟩) n c] w (RetV (.tuple #[.int .i64 (noiI am), .bool (noiB am)]) w) := by
  have HN := Lib.hid hn; have HR := Lib.hid hr; have HT := Lib.hid hT
  have CA := Lib.hid (iList g n c am 12 w hn hs hr)
  clear hn hr hT
  obtain ⟨r1, h1⟩ : ∃ r, noiI am = r := ⟨_, rfl⟩
  obtain ⟨r2, h2⟩ : ∃ r, noiB am = r := ⟨_, rfl⟩
  rw [h1, h2]
  have H1 := Lib.hid h1; have H2 := Lib.hid h2
  obtain ⟨r, hr⟩ : ∃ r, ampsB am 12 = r := ⟨_, rfl⟩
  rw [hr] at CA
  have HA := Lib.hid hr
  clear h1 h2 hr
  cases r
  case false =>
    have e := noi_amps HA.out
    obtain rfl : r1 = 0 := H1.out.symm.trans (noi_no e)
    obtain rfl : r2 = false := H2.out.symm.trans e
    clear e
    go_enter Tryd.func14, Tryd.ntmps14
    go_wp2_with fail
    refine CA.out.mono ?_
    rintro e w1 ⟨rfl, hb1⟩
    go_wp2
    go_ret2
    exact retV rfl hb1
  case true =>
  have hn12 : n ≤ 12 := by have := amps_len (ampsB_true HA.out); have := HN.out; omega
  go_enter Tryd.func14, Tryd.ntmps14
  go_wp2_with fail
  refine CA.out.mono ?_
  rintro e w1 ⟨rfl, hb1⟩
  have HB1 := Lib.hid hb1
  clear hb1
  go_wp2
  go_loopw [4, 14] (fun z i wr => ∃ (k : Nat) (x : Int), k ≤ n ∧ i = .int .i64 k ∧ z = .int .i64 x ∧ 0 ≤ x ∧ x ≤ 95316000000000 ∧ Hid (noiS am k = x) ∧ Hid ((am.take k).all (fun q => linB q.d) = true) ∧ Hid (Below w.heap.size w wr)) (fun _ i _ => n - (intOf i).toNat)
  case atStart => exact ⟨0, 0, Nat.zero_le _, rfl, rfl, by omega, by omega, Lib.hid rfl, Lib.hid all_zero, HB1⟩
  case round =>
    obtain ⟨k, x, hk, rfl, rfl, x0, x1, HX, HAL, HB⟩ := hrel
    have CL := Lib.hid (fun y (W : World) (hb : Below w.heap.size w W) => iLin y W (HT.out.over hb))
    by_cases hlt : k < n
    case neg =>
      obtain rfl : k = n := by omega
      obtain ⟨e1, e2⟩ := noi_all HA.out (all_end HN.out HAL.out) (x := x) (by rw [HN.out]; exact HX.out)
      obtain rfl : r1 = lvI x := H1.out.symm.trans e2
      obtain rfl : r2 = lvB x := H2.out.symm.trans e1
      have CV := Lib.hid (iLvl x wr (HT.out.over HB.out))
      obtain ⟨y1, hy1⟩ : ∃ y, lvI x = y := ⟨_, rfl⟩
      obtain ⟨y2, hy2⟩ : ∃ y, lvB x = y := ⟨_, rfl⟩
      rw [hy1, hy2] at CV
      have HY1 := Lib.hid hy1; have HY2 := Lib.hid hy2
      clear e1 e2 hlt hy1 hy2
      go_wp2_with fail
      refine CV.out.mono ?_
      rintro e w' ⟨rfl, rfl⟩
      go_wp2
      go_ret2
      exact retV (by rw [HY1.out, HY2.out]; rfl) HB.out
    case pos =>
    have hks : k < am.length := by have := HN.out; omega
    have hrc := (HR.out.over HB.out).q4c hks
    rw [Nat.zero_add] at hrc
    obtain ⟨⟨a, b, c3, d⟩, hq⟩ : ∃ q, am[k]'hks = q := ⟨_, rfl⟩
    have HG : Hid (am.getD k amz = ⟨a, b, c3, d⟩) := Lib.hid ((getD_at hks).trans hq)
    have HQ : Hid (linB d = false → noiB am = false) := Lib.hid fun h => noi_lin hks (by rw [hq]; exact h)
    have HS : Hid (linB d = true → (am.take (k + 1)).all (fun q => linB q.d) = true) := Lib.hid fun h => all_snoc hks HAL.out (by rw [hq]; exact h)
    rw [hq] at hrc
    obtain ⟨hg, f0, f1, f2, f3⟩ := hrc
    simp only at f0 f1 f2 f3
    have hbw := HB.out.size
    have CC : Hid (∀ W, Below w.heap.size w W → Calls Tryd.prog 8 #[.int .i64 d] W fun e w' => e = .returned (.tuple #[.int .i64 (linI d), .bool (linB d)]) ∧ W = w') := Lib.hid (fun W hb => CL.out d W hb)
    have hbd := linI_bd d
    have hnx := noiS_bd am (k + 1)
    have HX2 : Hid (noiS am (k + 1) = x + linI d) := Lib.hid (by unfold noiS; rw [HX.out, HG.out])
    rw [HX2.out] at hnx
    obtain ⟨y, hy⟩ : ∃ y, linI d = y := ⟨_, rfl⟩
    obtain ⟨b1, hb1⟩ : ∃ y, linB d = y := ⟨_, rfl⟩
    rw [hy] at CC HX2 hbd hnx; rw [hb1] at CC HQ HS hbd
    obtain ⟨y0, y1⟩ := hbd.2
    have hnx0 := hnx.1
    have hnx1 : x + y ≤ 95316000000000 := by have := hnx.2; omega
    clear hq hy hb1 hbd hnx CL
    cases b1
    case false =>
      have e := HQ.out (by trivial)
      obtain rfl : r1 = 0 := H1.out.symm.trans (noi_no e)
      obtain rfl : r2 = false := H2.out.symm.trans e
      clear e
      go_wp2_with fail
      refine (CC.out _ (HB.out.alloc hbw _)).mono ?_
      rintro e w' ⟨rfl, rfl⟩
      go_wp2
      go_ret2
      exact retV rfl (HB.out.alloc hbw _)
    case true =>
      go_wp2_with fail
      refine (CC.out _ (HB.out.alloc hbw _)).mono ?_
      rintro e w' ⟨rfl, rfl⟩
      go_wp2
      go_roundw
      case rel => exact ⟨k + 1, x + y, by omega, by go_num, rfl, by omega, by omega, HX2, Lib.hid (HS.out (by trivial)), Lib.hid (HB.out.alloc hbw _)⟩
      case measure => simp [intOf]; omega

set_option maxHeartbeats 4000000 in
theorem sNoi (g n c : Nat) (am : List Q4) (w : World) (hn : am.length = n) (hs : n ≤ 1048576) (hr : Rd w w.heap.size (some ⟨g, 0, none⟩) (am.flatMap Q4.cells)) :
    Calls Tryd.prog 12 #[.slice (some ⟨g, 0, none⟩) n c] w (RetV (.tuple #[.int .i64 (noiI am), .bool (noiB am)]) w) := by
  have HN := Lib.hid hn; have HR := Lib.hid hr
  have CA := Lib.hid (sList g n c am 12 w (by omega) (by omega) hn hs hr)
  clear hn hr
  obtain ⟨r1, h1⟩ : ∃ r, noiI am = r := ⟨_, rfl⟩
  obtain ⟨r2, h2⟩ : ∃ r, noiB am = r := ⟨_, rfl⟩
  rw [h1, h2]
  have H1 := Lib.hid h1; have H2 := Lib.hid h2
  clear h1 h2
  rcases Nat.eq_zero_or_pos n with hn0 | hn0
  · subst hn0
    obtain rfl : am = [] := List.eq_nil_of_length_eq_zero HN.out
    obtain rfl : r1 = 0 := by rw [← H1.out]; decide
    obtain rfl : r2 = false := by rw [← H2.out]; decide
    go_enter Tryd.func12, Tryd.ntmps12
    go_wp2
    go_ret2
    exact retV rfl (Below.refl _ _)
  have hne1 : ((n : Int) == 0) = false := by have : ¬ (n : Int) = 0 := by omega
                                             simpa using this
  obtain ⟨r, hr⟩ : ∃ r, ampsB am 12 = r := ⟨_, rfl⟩
  rw [hr] at CA
  have HA := Lib.hid hr
  clear hr
  cases r
  case false =>
    have e := noi_amps HA.out
    obtain rfl : r1 = 0 := H1.out.symm.trans (noi_no e)
    obtain rfl : r2 = false := H2.out.symm.trans e
    clear e
    go_enter Tryd.func12, Tryd.ntmps12
    go_wp2_with fail
    refine CA.out.mono ?_
    rintro e w1 ⟨rfl, hb1⟩
    go_wp2
    go_ret2
    exact retV rfl hb1
  case true =>
  have hn12 : n ≤ 12 := by have := amps_len (ampsB_true HA.out); have := HN.out; omega
  go_enter Tryd.func12, Tryd.ntmps12
  go_wp2_with fail
  refine CA.out.mono ?_
  rintro e w1 ⟨rfl, hb1⟩
  have HB1 := Lib.hid hb1
  clear hb1
  go_wp2
  clear hne1
  go_loopw [4, 5] (fun z i wr => ∃ (k : Nat) (x : Int), k ≤ n ∧ i = .int .i64 k ∧ z = .int .i64 x ∧ 0 ≤ x ∧ x ≤ 95316000000000 ∧ Hid (noiS am k = x) ∧ Hid ((am.take k).all (fun q => linB q.d) = true) ∧ Hid (Below w.heap.size w wr)) (fun _ i _ => n - (intOf i).toNat)
  case atStart => exact ⟨0, 0, Nat.zero_le _, rfl, rfl, by omega, by omega, Lib.hid rfl, Lib.hid all_zero, HB1⟩
  case round =>
    obtain ⟨k, x, hk, rfl, rfl, x0, x1, HX, HAL, HB⟩ := hrel
    by_cases hlt : k < n
    case neg =>
      obtain rfl : k = n := by omega
      obtain ⟨e1, e2⟩ := noi_all HA.out (all_end HN.out HAL.out) (x := x) (by rw [HN.out]; exact HX.out)
      have E1 := Lib.hid (H1.out.symm.trans e2); have E2 := Lib.hid (H2.out.symm.trans e1)
      have CI := Lib.hid (fun W => in_ x 1000 10000000000000 W)
      clear e1 e2 hlt
      by_cases hin : 1000 ≤ x ∧ x ≤ 10000000000000
      case neg =>
        obtain ⟨e1, e2⟩ := lv_no_ (v := x) (by omega)
        rw [inB_no (by omega)] at CI
        obtain rfl : r1 = 0 := E1.out.trans e2
        obtain rfl : r2 = false := E2.out.trans e1
        clear e1 e2 hin
        go_wp2_with fail
        refine (CI.out _).mono ?_
        rintro e w' ⟨rfl, rfl⟩
        go_wp2
        go_ret2
        exact retV rfl HB.out
      case pos =>
        obtain ⟨e1, e2⟩ := lv_yes_ hin.1 hin.2
        rw [inB_mk hin.1 hin.2] at CI
        have CO := Lib.hid (fun W => sOf x W hin.1)
        obtain rfl : r1 = 100 * (lvlN x : Int) := E1.out.trans e2
        obtain rfl : r2 = true := E2.out.trans e1
        obtain ⟨y, hy⟩ : ∃ y, 100 * (lvlN x : Int) = y := ⟨_, rfl⟩
        rw [hy] at CO
        have HY := Lib.hid hy
        clear e1 e2 hin hy
        go_wp2_with fail
        refine (CI.out _).mono ?_
        rintro e w' ⟨rfl, rfl⟩
        go_wp2_with fail
        refine (CO.out _).mono ?_
        rintro e w2 ⟨rfl, hb2⟩
        go_wp2
        go_ret2
        exact retV (by rw [HY.out]; rfl) (HB.out.trans (hb2.mono HB.out.size))
    case pos =>
    have hks : k < am.length := by have := HN.out; omega
    have hrc := (HR.out.over HB.out).q4c hks
    rw [Nat.zero_add] at hrc
    obtain ⟨⟨a, b, c3, d⟩, hq⟩ : ∃ q, am[k]'hks = q := ⟨_, rfl⟩
    have HG : Hid (am.getD k amz = ⟨a, b, c3, d⟩) := Lib.hid ((getD_at hks).trans hq)
    have HQ : Hid (linB d = false → noiB am = false) := Lib.hid fun h => noi_lin hks (by rw [hq]; exact h)
    have HS : Hid (linB d = true → (am.take (k + 1)).all (fun q => linB q.d) = true) := Lib.hid fun h => all_snoc hks HAL.out (by rw [hq]; exact h)
    rw [hq] at hrc
    obtain ⟨hg, f0, f1, f2, f3⟩ := hrc
    simp only at f0 f1 f2 f3
    have CC := Lib.hid (fun W => sLin d W)
    have hbd := linI_bd d
    have hno : linB d = false → linI d = 0 := fun h => by unfold linI; rw [h]; rfl
    have hnx := noiS_bd am (k + 1)
    have HX2 : Hid (noiS am (k + 1) = x + linI d) := Lib.hid (by unfold noiS; rw [HX.out, HG.out])
    rw [HX2.out] at hnx
    obtain ⟨y, hy⟩ : ∃ y, linI d = y := ⟨_, rfl⟩
    obtain ⟨b1, hb1⟩ : ∃ y, linB d = y := ⟨_, rfl⟩
    rw [hy] at CC HX2 hbd hnx hno; rw [hb1] at HQ HS hbd hno
    obtain ⟨y0, y1⟩ := hbd.2
    have hnx0 := hnx.1
    have hnx1 : x + y ≤ 95316000000000 := by have := hnx.2; omega
    have hy1000 := hbd.1
    clear hq hy hb1 hbd hnx
    cases b1
    case false =>
      have e := HQ.out (by trivial)
      obtain rfl : r1 = 0 := H1.out.symm.trans (noi_no e)
      obtain rfl : r2 = false := H2.out.symm.trans e
      obtain rfl : y = 0 := hno rfl
      clear e hno hy1000
      go_wp2_with fail
      refine (CC.out _).mono ?_
      rintro e w2 ⟨rfl, hb2⟩
      go_wp2
      go_ret2
      exact retV rfl (HB.out.trans (hb2.mono HB.out.size))
    case true =>
      have hy1 := hy1000 rfl
      have q1 : (y == 0) = false := by have : ¬ y = 0 := by omega
                                       simpa using this
      clear hno hy1000
      go_wp2_with fail
      refine (CC.out _).mono ?_
      rintro e w2 ⟨rfl, hb2⟩
      go_wp2
      go_roundw
      case rel => exact ⟨k + 1, x + y, by omega, by go_num, rfl, by omega, by omega, HX2, Lib.hid (HS.out (by trivial)), Lib.hid (HB.out.trans (hb2.mono HB.out.size))⟩
      case measure => simp [intOf]; omega
theorem iLinR (x : Int) (w : World) (hT : LinT w) : Calls Tryd.prog 8 #[.int .i64 x] w (RetV (.tuple #[.int .i64 (linI x), .bool (linB x)]) w) :=
  (iLin x w hT).mono fun _ _ h => ⟨h.1, by rw [← h.2]; exact Below.refl _ _⟩
theorem iLvlR (x : Int) (w : World) (hT : LinT w) : Calls Tryd.prog 10 #[.int .i64 x] w (RetV (.tuple #[.int .i64 (lvI x), .bool (lvB x)]) w) :=
  (iLvl x w hT).mono fun _ _ h => ⟨h.1, by rw [← h.2]; exact Below.refl _ _⟩
end Go.Proofs.YtgaankdmppoghabDoor
