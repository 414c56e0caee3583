/- Contract: impl.IsValidFormats answers the plain word. No condition but those typed. -/
import Derived.Test.YtcbjdfgmkiodkaaFmtV
namespace Go.Proofs.Ytcbjdfgmkiodkaa
open Go.ChangeShapes Go.WideShapes Go.ChangeAt Go.RowKit

theorem rate_yes (x : Int) (w : World) (h1 : 1 ≤ x) (h2 : x ≤ 1000) : Calls Try.prog 245 #[.int .i64 x] w fun e w' => e = .returned (.bool true) ∧ w = w' := by
  go_enter Try.func245, Try.ntmps245
  go_wp2
  go_ret
  exact ⟨rfl, rfl⟩
theorem rate_no (x : Int) (w : World) (h : x < 1 ∨ 1000 < x) : Calls Try.prog 245 #[.int .i64 x] w fun e w' => e = .returned (.bool false) ∧ w = w' := by
  rcases h with h | h
  · go_enter Try.func245, Try.ntmps245
    go_wp2
    go_ret
    exact ⟨rfl, rfl⟩
  · have h' : decide (x ≤ 1000) = false := decide_eq_false (by omega)
    have h1 : 1 ≤ x := by omega
    clear h
    go_enter Try.func245, Try.ntmps245
    go_wp2
    go_ret
    exact ⟨rfl, rfl⟩

end Go.Proofs.Ytcbjdfgmkiodkaa
