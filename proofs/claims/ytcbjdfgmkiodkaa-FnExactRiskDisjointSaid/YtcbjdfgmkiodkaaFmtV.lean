/- Words of our own: the specification's test of a range; answers; a predecessor. No condition. -/
import Derived.Test.YtcbjdfgmkiodkaaFibS
import Derived.Test.YtcbjdfgmkiodkaaNetM
import Derived.IntWalk
namespace Go.Proofs.Ytcbjdfgmkiodkaa
open Go.ChangeShapes Go.WideShapes Go.ChangeAt Go.RowKit

theorem in_any (x a b : Int) (w : World) : Calls Try.prog 140 #[.int .i64 x, .int .i64 a, .int .i64 b] w fun e w' => e = .returned (.bool (decide (a ≤ x ∧ x ≤ b))) ∧ w = w' := by
  by_cases h1 : a ≤ x
  · by_cases h2 : x ≤ b
    · have e : decide (a ≤ x ∧ x ≤ b) = true := by simp [h1, h2]
      rw [e]; clear e
      go_enter Try.func140, Try.ntmps140
      go_wp2
      go_ret
      exact ⟨rfl, rfl⟩
    · have e : decide (a ≤ x ∧ x ≤ b) = false := by simp [h2]
      rw [e]; clear e
      have h2' : decide (x ≤ b) = false := by simpa using h2
      clear h2
      go_enter Try.func140, Try.ntmps140
      go_wp2
      go_ret
      exact ⟨rfl, rfl⟩
  · have e : decide (a ≤ x ∧ x ≤ b) = false := by simp [h1]
    rw [e]; clear e
    have h1' : x < a := by omega
    clear h1
    go_enter Try.func140, Try.ntmps140
    go_wp2
    go_ret
    exact ⟨rfl, rfl⟩
theorem in_yes (x a b : Int) (w : World) (h1 : a ≤ x) (h2 : x ≤ b) : Calls Try.prog 140 #[.int .i64 x, .int .i64 a, .int .i64 b] w fun e w' => e = .returned (.bool true) ∧ w' = w := by
  refine (in_any x a b w).mono ?_
  rintro e w' ⟨rfl, rfl⟩
  exact ⟨by rw [decide_eq_true ⟨h1, h2⟩], rfl⟩
theorem in_no (x a b : Int) (w : World) (h : x < a ∨ b < x) : Calls Try.prog 140 #[.int .i64 x, .int .i64 a, .int .i64 b] w fun e w' => e = .returned (.bool false) ∧ w' = w := by
  refine (in_any x a b w).mono ?_
  rintro e w' ⟨rfl, rfl⟩
  exact ⟨by rw [decide_eq_false (by omega)], rfl⟩

def BoolP (b : Bool) (w : World) (e : Ending) (w' : World) : Prop := e = .returned (.bool b) ∧ Below w.heap.size w w'
theorem boolP {b c : Bool} {w w' : World} (h : c = b) (hb : Below w.heap.size w w') : BoolP b w (.returned (.bool c)) w' := ⟨by rw [h], hb⟩

set_option maxHeartbeats 1000000 in
theorem pred_wrap (k m : Nat) (h : k = m + 1) (hk : k ≤ 1048576) : IntKind.i64.wrap ((k : Int) - 1) = (m : Int) := by
  rw [IntWalk.i64_in _ (by omega)]; omega

end Go.Proofs.Ytcbjdfgmkiodkaa
