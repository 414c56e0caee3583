/- Contracts: blocks of slots: validity and masks, of the specification and of the implementation. No condition but those typed. -/
import Derived.Test.YtcbjdfgmkiodkaaArg
import Derived.Test.YtcbjdfgmkiodkaaFill
import Derived.Test.YtcbjdfgmkiodkaaNetA
import Derived.Test.YtcbjdfgmkiodkaaFmtV
import Derived.WalkKit
import Derived.ProofKit
import Derived.LoopTactic
import Derived.Deep.QuietTactic
import Derived.BigQuiet
import Derived.IntWalk
namespace Go.Proofs.Ytcbjdfgmkiodkaa
open Go.ChangeShapes Go.WideShapes Go.ChangeAt Go.RowKit

def blkP (a b : Int) : Prop := 0 ≤ a ∧ 1 ≤ b ∧ a + b ≤ 24
set_option maxHeartbeats 400000 in
theorem toBlk (x y : Int) (w : World) :
    Calls Try.prog 167 #[.agg #[.int .i64 x, .int .i64 y]] w fun e w' => e = .returned (.agg #[.int .i64 x, .int .i64 y]) ∧ Below w.heap.size w w' := by
  go_enter Try.func167, Try.ntmps167
  go_wp2
  exact bodyPost_ret (v := .agg #[.int .i64 x, .int .i64 y]) (by simp [results, Try.results167, go_sem]) rfl ⟨rfl, (((Below.refl _ _).alloc (Nat.le_refl _) _).alloc (by simp) _).alloc (by simp; omega) _⟩

set_option maxHeartbeats 1000000 in
theorem specBlk (a b : Int) (w : World) : Calls Try.prog 229 #[.agg #[.int .i64 a, .int .i64 b]] w (RetP (.bool (pb (blkP a b))) w) := by
  have HB := Lib.hid ((Below.refl w.heap.size w).alloc (Nat.le_refl _) (Obj.cells #[.int .i64 a, .int .i64 b] 104))
  by_cases h1 : 0 ≤ a ∧ a ≤ 23
  · have C1 := Lib.hid (fun W => in_yes a 0 23 W h1.1 h1.2)
    obtain ⟨h1a, h1b⟩ := h1
    by_cases h2 : 1 ≤ b ∧ b ≤ 24 - a
    · have HR : Hid ((.bool true : Value) = .bool (pb (blkP a b))) := Lib.hid (by rw [pb_true (show blkP a b from ⟨h1a, h2.1, by omega⟩)])
      have C2 := Lib.hid (fun W => in_yes b 1 (24 - a) W h2.1 h2.2)
      clear h2
      go_enter Try.func229, Try.ntmps229
      go_wp2_with fail
      refine (C1.out _).mono ?_
      rintro e w' ⟨rfl, rfl⟩
      go_wp2_with fail
      refine (C2.out _).mono ?_
      rintro e w' ⟨rfl, rfl⟩
      go_wp2
      go_ret
      exact retP HR.out HB.out
    · have HR : Hid ((.bool false : Value) = .bool (pb (blkP a b))) := Lib.hid (by rw [pb_false (show ¬ blkP a b from fun h => h2 ⟨h.2.1, by have := h.2.2; omega⟩)])
      have C2 := Lib.hid (fun W => in_no b 1 (24 - a) W (by omega))
      clear h2
      go_enter Try.func229, Try.ntmps229
      go_wp2_with fail
      refine (C1.out _).mono ?_
      rintro e w' ⟨rfl, rfl⟩
      go_wp2_with fail
      refine (C2.out _).mono ?_
      rintro e w' ⟨rfl, rfl⟩
      go_wp2
      go_ret
      exact retP HR.out HB.out
  · have HR : Hid ((.bool false : Value) = .bool (pb (blkP a b))) := Lib.hid (by rw [pb_false (show ¬ blkP a b from fun h => h1 ⟨h.1, by have h3 := h.2.1; have h4 := h.2.2; omega⟩)])
    have C1 := Lib.hid (fun W => in_no a 0 23 W (by omega))
    clear h1
    go_enter Try.func229, Try.ntmps229
    go_wp2_with fail
    refine (C1.out _).mono ?_
    rintro e w' ⟨rfl, rfl⟩
    go_wp2
    go_ret
    exact retP HR.out HB.out

set_option maxHeartbeats 1000000 in
theorem implBlk (a b : Int) (w : World) : Calls Try.prog 169 #[.agg #[.int .i64 a, .int .i64 b]] w (RetP (.bool (pb (blkP a b))) w) := by
  have HB := Lib.hid ((Below.refl w.heap.size w).alloc (Nat.le_refl _) (Obj.cells #[.int .i64 a, .int .i64 b] 104))
  by_cases h1 : 0 ≤ a
  · by_cases h2 : 1 ≤ b
    · by_cases h3 : b ≤ 24
      · have e1 : IntKind.i64.wrap (24 - b) = 24 - b := IntWalk.i64_in _ (by omega)
        by_cases h4 : a ≤ 24 - b
        · have HR : Hid ((.bool true : Value) = .bool (pb (blkP a b))) := Lib.hid (by rw [pb_true (show blkP a b from ⟨h1, h2, by omega⟩)])
          go_enter Try.func169, Try.ntmps169
          go_wp2
          go_ret
          exact retP HR.out HB.out
        · have HR : Hid ((.bool false : Value) = .bool (pb (blkP a b))) := Lib.hid (by rw [pb_false (show ¬ blkP a b from fun h => h4 (by have := h.2.2; omega))])
          have q : decide (a ≤ 24 - b) = false := decide_eq_false h4
          clear h4
          go_enter Try.func169, Try.ntmps169
          go_wp2
          go_ret
          exact retP HR.out HB.out
      · have HR : Hid ((.bool false : Value) = .bool (pb (blkP a b))) := Lib.hid (by rw [pb_false (show ¬ blkP a b from fun h => h3 (by have h4 := h.1; have := h.2.2; omega))])
        have q : decide (b ≤ 24) = false := decide_eq_false h3
        clear h3
        go_enter Try.func169, Try.ntmps169
        go_wp2
        go_ret
        exact retP HR.out HB.out
    · have HR : Hid ((.bool false : Value) = .bool (pb (blkP a b))) := Lib.hid (by rw [pb_false (show ¬ blkP a b from fun h => h2 h.2.1)])
      have q : decide (1 ≤ b) = false := decide_eq_false h2
      clear h2
      go_enter Try.func169, Try.ntmps169
      go_wp2
      go_ret
      exact retP HR.out HB.out
  · have HR : Hid ((.bool false : Value) = .bool (pb (blkP a b))) := Lib.hid (by rw [pb_false (show ¬ blkP a b from fun h => h1 h.1)])
    have q : decide (0 ≤ a) = false := decide_eq_false h1
    clear h1
    go_enter Try.func169, Try.ntmps169
    go_wp2
    go_ret
    exact retP HR.out HB.out

def bitsV (a b : Int) : Int := wrap64 (wrap64 (wrap64 (2 ^ b.toNat) - 1) * 2 ^ a.toNat)
set_option maxHeartbeats 1000000 in
theorem specBits (a b : Int) (w : World) (h : blkP a b) : Calls Try.prog 231 #[.agg #[.int .i64 a, .int .i64 b]] w (RetP (.int .i64 (bitsV a b)) w) := by
  obtain ⟨h1, h2, h3⟩ := h
  have h4 : b ≤ 24 := by omega
  have h5 : a ≤ 23 := by omega
  go_enter Try.func231, Try.ntmps231
  go_wp2
  go_ret
  exact retP rfl ((Below.refl _ _).alloc (Nat.le_refl _) _)
set_option maxHeartbeats 1000000 in
theorem implBits (a b : Int) (w : World) (h : blkP a b) : Calls Try.prog 234 #[.agg #[.int .i64 a, .int .i64 b]] w (RetP (.int .i64 (bitsV a b)) w) := by
  obtain ⟨h1, h2, h3⟩ := h
  have h4 : b ≤ 24 := by omega
  have h5 : a ≤ 23 := by omega
  go_enter Try.func234, Try.ntmps234
  go_wp2
  go_quiet (fail)
  go_wp2
  go_ret
  exact retP rfl (drewN_below ((Below.refl _ _).alloc (Nat.le_refl _) _) _)

noncomputable def maskB (a b : Int) : Bool := pb (blkP a b)
noncomputable def maskI (a b : Int) : Int := if maskB a b then bitsV a b else 0
noncomputable def maskR (a b : Int) : Value := .tuple #[.int .i64 (maskI a b), .bool (maskB a b)]

end Go.Proofs.Ytcbjdfgmkiodkaa
