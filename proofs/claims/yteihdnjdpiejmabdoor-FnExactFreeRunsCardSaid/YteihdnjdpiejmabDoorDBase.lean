/- Contracts of small functions of chapter 8's specification and implementation: an interval, a mask, a block's bits. No condition but those typed. -/
import Derived.Test.YteihdnjdpiejmabDoorArg
import Derived.Test.YteihdnjdpiejmabDoorFill
import Derived.Test.YteihdnjdpiejmabDoorNetM
import Derived.WalkKit
import Derived.ProofKit
import Derived.LoopTactic
import Derived.Deep.QuietTactic
import Derived.BigQuiet
import Derived.IntWalk
namespace Go.Proofs.YteihdnjdpiejmabDoor
open Go.ChangeShapes Go.WideShapes Go.ChangeAt Go.RowKit

theorem Tryd.inf_int : (Tryd.prog.info? 3).map (fun i => (i.zero, i.size, i.bytes)) = some (some (.int .i64 0), 1, 8) := by kernel_rfl
theorem in_any (x a b : Int) (w : World) : Calls Tryd.prog 41 #[.int .i64 x, .int .i64 a, .int .i64 b] w fun e w' => e = .returned (.bool (decide (a ≤ x ∧ x ≤ b))) ∧ w = w' := by
  by_cases h1 : a ≤ x
  · by_cases h2 : x ≤ b
    · have e : decide (a ≤ x ∧ x ≤ b) = true := by simp [h1, h2]
      rw [e]; clear e
      go_enter Tryd.func41, Tryd.ntmps41
      go_wp2
      go_ret
      exact ⟨rfl, rfl⟩
    · have e : decide (a ≤ x ∧ x ≤ b) = false := by simp [h2]
      rw [e]; clear e
      have h2' : decide (x ≤ b) = false := by simpa using h2
      clear h2
      go_enter Tryd.func41, Tryd.ntmps41
      go_wp2
      go_ret
      exact ⟨rfl, rfl⟩
  · have e : decide (a ≤ x ∧ x ≤ b) = false := by simp [h1]
    rw [e]; clear e
    have h1' : x < a := by omega
    clear h1
    go_enter Tryd.func41, Tryd.ntmps41
    go_wp2
    go_ret
    exact ⟨rfl, rfl⟩
theorem in_yes (x a b : Int) (w : World) (h1 : a ≤ x) (h2 : x ≤ b) : Calls Tryd.prog 41 #[.int .i64 x, .int .i64 a, .int .i64 b] w fun e w' => e = .returned (.bool true) ∧ w' = w := by
  refine (in_any x a b w).mono ?_
  rintro e w' ⟨rfl, rfl⟩
  exact ⟨by rw [decide_eq_true ⟨h1, h2⟩], rfl⟩
theorem in_no (x a b : Int) (w : World) (h : x < a ∨ b < x) : Calls Tryd.prog 41 #[.int .i64 x, .int .i64 a, .int .i64 b] w fun e w' => e = .returned (.bool false) ∧ w' = w := by
  refine (in_any x a b w).mono ?_
  rintro e w' ⟨rfl, rfl⟩
  exact ⟨by rw [decide_eq_false (by omega)], rfl⟩

def blkP (a b : Int) : Prop := 0 ≤ a ∧ 1 ≤ b ∧ a + b ≤ 24
def RetP (v : Value) (w : World) (e : Ending) (w' : World) : Prop := e = .returned v ∧ Below w.heap.size w w'
theorem retP {u v : Value} {w w' : World} (h : u = v) (hb : Below w.heap.size w w') : RetP v w (.returned u) w' := ⟨by rw [h], hb⟩

def bitsV (a b : Int) : Int := wrap64 (wrap64 (wrap64 (2 ^ b.toNat) - 1) * 2 ^ a.toNat)
theorem mask_yes (x : Int) (w : World) (h0 : 0 ≤ x) (h1 : x ≤ 16777215) : Calls Tryd.prog 23 #[.int .i64 x] w fun e w' => e = .returned (.bool true) ∧ w = w' := by
  have C := Lib.hid (in_yes x 0 16777215 w h0 h1)
  go_enter Tryd.func23, Tryd.ntmps23
  go_wp2_with (refine C.out.mono ?_; rintro e w' ⟨rfl, rfl⟩)
  go_ret
  exact ⟨rfl, rfl⟩
theorem mask_no (x : Int) (w : World) (h : x < 0 ∨ 16777215 < x) : Calls Tryd.prog 23 #[.int .i64 x] w fun e w' => e = .returned (.bool false) ∧ w = w' := by
  have C := Lib.hid (in_no x 0 16777215 w h)
  clear h
  go_enter Tryd.func23, Tryd.ntmps23
  go_wp2_with (refine C.out.mono ?_; rintro e w' ⟨rfl, rfl⟩)
  go_ret
  exact ⟨rfl, rfl⟩
theorem imask_yes (x : Int) (w : World) (h0 : 0 ≤ x) (h1 : x ≤ 16777215) : Calls Tryd.prog 25 #[.int .i64 x] w fun e w' => e = .returned (.bool true) ∧ w = w' := by
  go_enter Tryd.func25, Tryd.ntmps25
  go_wp2
  go_ret
  exact ⟨rfl, rfl⟩
theorem imask_no (x : Int) (w : World) (h : x < 0 ∨ 16777215 < x) : Calls Tryd.prog 25 #[.int .i64 x] w fun e w' => e = .returned (.bool false) ∧ w = w' := by
  by_cases h0 : x < 0
  · clear h
    go_enter Tryd.func25, Tryd.ntmps25
    go_wp2
    go_ret
    exact ⟨rfl, rfl⟩
  · have h1 : decide (x ≤ 16777215) = false := decide_eq_false (by omega)
    have h2 : 0 ≤ x := by omega
    clear h h0
    go_enter Tryd.func25, Tryd.ntmps25
    go_wp2
    go_ret
    exact ⟨rfl, rfl⟩

end Go.Proofs.YteihdnjdpiejmabDoor
