/- Contracts of small functions of chapter 8's specification and implementation: an interval, a mask, a block's bits. No condition but those typed. -/
import Derived.Test.YtflniajjecfgeaaGreatDoorGD
import Derived.Test.YtflniajjecfgeaaGreatDoorGB
import Derived.Test.YtflniajjecfgeaaGreatDoorGA
import Derived.WalkKit
import Derived.ProofKit
import Derived.LoopTactic
import Derived.Deep.QuietTactic
import Derived.BigQuiet
import Derived.IntWalk
namespace Go.Proofs.YtflniajjecfgeaaGreatDoor
open Go.ChangeShapes Go.WideShapes Go.ChangeAt Go.RowKit

theorem imask_yes (x : Int) (w : World) (h0 : 0 ≤ x) (h1 : x ≤ 16777215) : Calls Tryz.prog 139 #[.int .i64 x] w fun e w' => e = .returned (.bool true) ∧ w = w' := by
  go_enter Tryz.func139, Tryz.ntmps139
  go_wp2
  go_ret
  exact ⟨rfl, rfl⟩
theorem imask_no (x : Int) (w : World) (h : x < 0 ∨ 16777215 < x) : Calls Tryz.prog 139 #[.int .i64 x] w fun e w' => e = .returned (.bool false) ∧ w = w' := by
  by_cases h0 : x < 0
  · clear h
    go_enter Tryz.func139, Tryz.ntmps139
    go_wp2
    go_ret
    exact ⟨rfl, rfl⟩
  · have h1 : decide (x ≤ 16777215) = false := decide_eq_false (by omega)
    have h2 : 0 ≤ x := by omega
    clear h h0
    go_enter Tryz.func139, Tryz.ntmps139
    go_wp2
    go_ret
    exact ⟨rfl, rfl⟩

end Go.Proofs.YtflniajjecfgeaaGreatDoor
