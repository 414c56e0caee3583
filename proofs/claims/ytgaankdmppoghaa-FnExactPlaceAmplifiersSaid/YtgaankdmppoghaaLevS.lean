/- Contracts: spans, amplifiers, levels: the specification's tests. No condition but those typed. -/
import Derived.Test.YtgaankdmppoghaaLev
import Derived.Test.YtgaankdmppoghaaSpS
import Derived.Test.YtgaankdmppoghaaAmS
namespace Go.Proofs.Ytgaankdmppoghaa
open Go.ChangeShapes Go.WideShapes Go.ChangeAt Go.RowKit

theorem in_r (x a b : Int) (w : World) : Calls Try.prog 71 #[.int .i64 x, .int .i64 a, .int .i64 b] w (RetV (.bool (inB x a b)) w) :=
  (in_ x a b w).mono fun _ _ ⟨h1, h2⟩ => ⟨h1, by subst h2; exact Below.refl _ _⟩
theorem sSpan (a b c : Int) (w : World) : Calls Try.prog 54 #[.agg #[.int .i64 a, .int .i64 b, .int .i64 c]] w (RetV (.bool (spB ⟨a, b, c⟩)) w) := by
  go_enter Try.func54, Try.ntmps54
  go_wp2_with (first | (go_at_call 71; refine (in_ _ _ _ _).mono ?_; rintro e w' ⟨rfl, rfl⟩))
  all_goals go_ret
  all_goals exact retB (by simp [spB, *]) ((Below.refl _ _).alloc (Nat.le_refl _) _)
theorem sLevel (x : Int) (w : World) : Calls Try.prog 58 #[.int .i64 x] w fun e w' => e = .returned (.bool (levB x)) ∧ w = w' := by
  go_enter Try.func58, Try.ntmps58
  go_wp2_with (first | (go_at_call 71; refine (in_ _ _ _ _).mono ?_; rintro e w' ⟨rfl, rfl⟩))
  all_goals go_ret
  all_goals exact ⟨rfl, rfl⟩
theorem sKind (a b c d : Int) (w : World) : Calls Try.prog 67 #[.agg #[.int .i64 a, .int .i64 b, .int .i64 c, .int .i64 d]] w (RetV (.bool (kindB ⟨a, b, c, d⟩)) w) := by
  go_enter Try.func67, Try.ntmps67
  go_wp2_with (first | (go_at_call 71; refine (in_ _ _ _ _).mono ?_; rintro e w' ⟨rfl, rfl⟩) | (go_at_call 58; refine (sLevel _ _).mono ?_; rintro e w' ⟨rfl, rfl⟩))
  all_goals go_ret
  all_goals exact retB (by simp [kindB, *]) ((Below.refl _ _).alloc (Nat.le_refl _) _)
theorem loss_eq {a b c : Int} : (a * b + 999) / 1000 + 5 * c = lossI ⟨a, b, c⟩ := rfl
theorem sLoss (a b c : Int) (w : World) (h : spB ⟨a, b, c⟩ = true) : Calls Try.prog 55 #[.agg #[.int .i64 a, .int .i64 b, .int .i64 c]] w (RetV (.int .i64 (lossI ⟨a, b, c⟩)) w) := by
  obtain ⟨⟨a0, a1⟩, ⟨b0, b1⟩, c0, c1⟩ := spB_true h
  simp only at a0 a1 b0 b1 c0 c1
  obtain ⟨p0, p1⟩ := prod_bd a0 a1 b0 b1
  clear h
  go_enter Try.func55, Try.ntmps55
  go_wp2
  go_ret
  exact retV (congrArg (Value.int .i64) (by unfold lossI; simp only)) ((Below.refl _ _).alloc (Nat.le_refl _) _)
theorem iLoss (a b c : Int) (w : World) (h : spB ⟨a, b, c⟩ = true) : Calls Try.prog 57 #[.agg #[.int .i64 a, .int .i64 b, .int .i64 c]] w (RetV (.int .i64 (lossI ⟨a, b, c⟩)) w) := by
  obtain ⟨⟨a0, a1⟩, ⟨b0, b1⟩, c0, c1⟩ := spB_true h
  simp only at a0 a1 b0 b1 c0 c1
  obtain ⟨p0, p1⟩ := prod_bd a0 a1 b0 b1
  clear h
  go_enter Try.func57, Try.ntmps57
  go_wp2
  go_ret
  exact retV (congrArg (Value.int .i64) (by unfold lossI; simp only; omega)) ((Below.refl _ _).alloc (Nat.le_refl _) _)

theorem lineB_mk {qs : List Q3} (h1 : 1 ≤ qs.length) (h2 : qs.length ≤ 12) (h : qs.all spB = true) : lineB qs = true := by unfold lineB; rw [h, decide_eq_true ⟨h1, h2⟩]; rfl
theorem lineB_len {qs : List Q3} (h : qs.length < 1 ∨ 12 < qs.length) : lineB qs = false := by unfold lineB; rw [decide_eq_false (by omega)]; rfl
theorem lineB_all {qs : List Q3} (h : qs.all spB = false) : lineB qs = false := by unfold lineB; rw [h, Bool.and_false]
theorem lineB_true {qs : List Q3} (h : lineB qs = true) : (1 ≤ qs.length ∧ qs.length ≤ 12) ∧ qs.all spB = true := by
  unfold lineB at h; simp only [Bool.and_eq_true, decide_eq_true_eq] at h; exact h
set_option maxHeartbeats 1000000 in
theorem sLine (g n c : Nat) (qs : List Q3) (w : World) (hn : qs.length = n) (hs : n ≤ 1048576) (hr : Rd w w.heap.size (some ⟨g, 0, none⟩) (qs.flatMap Q3.cells)) :
    Calls Try.prog 66 #[.slice (some ⟨g, 0, none⟩) n c] w (RetV (.bool (lineB qs)) w) := by
  have HN := Lib.hid hn; clear hn
  go_enter Try.func66, Try.ntmps66
  go_wp2
  go_loopw [3] (fun i wr => ∃ k : Nat, k ≤ n ∧ k ≤ 13 ∧ i = .int .i64 k ∧ Hid ((qs.take k).all spB = true) ∧ Below w.heap.size w wr) (fun i _ => n - (intOf i).toNat)
  case atStart => exact ⟨0, Nat.zero_le _, by omega, rfl, Lib.hid all_zero, Below.refl _ _⟩
  case round =>
    obtain ⟨k, hk, hk13, rfl, HA, hb⟩ := hrel
    by_cases hlt : k < n ∧ k ≤ 12
    case neg =>
      have HQ : Hid (lineB qs = inB n 1 12) := Lib.hid (by
        have hl := HN.out
        by_cases h1 : 1 ≤ n ∧ n ≤ 12
        · rw [inB_mk (by omega) (by omega)]
          exact lineB_mk (by omega) (by omega) (all_end (n := k) (by omega) HA.out)
        · rw [inB_no (by omega)]
          exact lineB_len (by omega))
      by_cases hkn : k < n
      · have h12 : 12 < (k : Int) := by omega
        clear hlt
        go_wp2_with (first | (go_at_call 71; refine (in_ _ _ _ _).mono ?_; rintro e w' ⟨rfl, rfl⟩))
        go_ret
        exact retB HQ.out hb
      · clear hlt
        go_wp2_with (first | (go_at_call 71; refine (in_ _ _ _ _).mono ?_; rintro e w' ⟨rfl, rfl⟩))
        go_ret
        exact retB HQ.out hb
    case pos =>
    obtain ⟨hlt, h12⟩ := hlt
    have q12 : (k : Int) ≤ 12 := by omega
    have hks : k < qs.length := by have := HN.out; omega
    have hrc := (hr.over hb).q3c hks
    rw [Nat.zero_add] at hrc
    obtain ⟨⟨a, b, c3⟩, hq⟩ : ∃ q, qs[k]'hks = q := ⟨_, rfl⟩
    rw [hq] at hrc
    obtain ⟨hg, f0, f1, f2⟩ := hrc
    simp only at f0 f1 f2
    have HS : Hid (spB ⟨a, b, c3⟩ = true → (qs.take (k + 1)).all spB = true) := Lib.hid fun h => all_snoc hks HA.out (by rw [hq]; exact h)
    have HF : Hid (spB ⟨a, b, c3⟩ = false → lineB qs = false) := Lib.hid fun h => lineB_all (all_no hks (by rw [hq]; exact h))
    clear hq h12
    have C := Lib.hid (fun W => sSpan a b c3 W)
    obtain ⟨r, hr⟩ : ∃ r, spB ⟨a, b, c3⟩ = r := ⟨_, rfl⟩
    rw [hr] at C HS HF
    clear hr
    cases r
    case false =>
      have HQ := Lib.hid (HF.out rfl)
      go_wp2_with (first | (go_at_call 54; refine (C.out _).mono ?_; rintro e w' ⟨rfl, hb2⟩))
      go_ret
      exact retB HQ.out (hb.trans (hb2.mono hb.size))
    case true =>
      have HQ := Lib.hid (HS.out rfl)
      go_wp2_with (first | (go_at_call 54; refine (C.out _).mono ?_; rintro e w' ⟨rfl, hb2⟩))
      go_roundw
      case rel => exact ⟨k + 1, by omega, by omega, by go_num, HQ, hb.trans (hb2.mono hb.size)⟩
      case measure => simp [intOf]; omega
end Go.Proofs.Ytgaankdmppoghaa
