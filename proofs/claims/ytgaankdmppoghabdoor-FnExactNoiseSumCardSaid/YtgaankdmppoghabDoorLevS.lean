/- Contracts: spans, amplifiers, levels: the specification's tests. No condition but those typed. -/
import Derived.Test.YtgaankdmppoghabDoorLev
import Derived.Test.YtgaankdmppoghabDoorAmS
namespace Go.Proofs.YtgaankdmppoghabDoor
open Go.ChangeShapes Go.WideShapes Go.ChangeAt Go.RowKit

theorem in_r (x a b : Int) (w : World) : Calls Tryd.prog 26 #[.int .i64 x, .int .i64 a, .int .i64 b] w (RetV (.bool (inB x a b)) w) :=
  (in_ x a b w).mono fun _ _ ⟨h1, h2⟩ => ⟨h1, by subst h2; exact Below.refl _ _⟩
theorem sLevel (x : Int) (w : World) : Calls Tryd.prog 50 #[.int .i64 x] w fun e w' => e = .returned (.bool (levB x)) ∧ w = w' := by
  go_enter Tryd.func50, Tryd.ntmps50
  go_wp2_with (first | (go_at_call 26; refine (in_ _ _ _ _).mono ?_; rintro e w' ⟨rfl, rfl⟩))
  all_goals go_ret
  all_goals exact ⟨rfl, rfl⟩
theorem sKind (a b c d : Int) (w : World) : Calls Tryd.prog 41 #[.agg #[.int .i64 a, .int .i64 b, .int .i64 c, .int .i64 d]] w (RetV (.bool (kindB ⟨a, b, c, d⟩)) w) := by
  go_enter Tryd.func41, Tryd.ntmps41
  go_wp2_with (first | (go_at_call 26; refine (in_ _ _ _ _).mono ?_; rintro e w' ⟨rfl, rfl⟩) | (go_at_call 50; refine (sLevel _ _).mono ?_; rintro e w' ⟨rfl, rfl⟩))
  all_goals go_ret
  all_goals exact retB (by simp [kindB, *]) ((Below.refl _ _).alloc (Nat.le_refl _) _)
theorem loss_eq {a b c : Int} : (a * b + 999) / 1000 + 5 * c = lossI ⟨a, b, c⟩ := rfl
theorem lineB_mk {qs : List Q3} (h1 : 1 ≤ qs.length) (h2 : qs.length ≤ 12) (h : qs.all spB = true) : lineB qs = true := by unfold lineB; rw [h, decide_eq_true ⟨h1, h2⟩]; rfl
theorem lineB_len {qs : List Q3} (h : qs.length < 1 ∨ 12 < qs.length) : lineB qs = false := by unfold lineB; rw [decide_eq_false (by omega)]; rfl
theorem lineB_all {qs : List Q3} (h : qs.all spB = false) : lineB qs = false := by unfold lineB; rw [h, Bool.and_false]
theorem lineB_true {qs : List Q3} (h : lineB qs = true) : (1 ≤ qs.length ∧ qs.length ≤ 12) ∧ qs.all spB = true := by
  unfold lineB at h; simp only [Bool.and_eq_true, decide_eq_true_eq] at h; exact h
end Go.Proofs.YtgaankdmppoghabDoor
