/- Contracts of the law's helpers over a slice of structs of ints (copy, compare, size). No condition but those typed. -/
import Derived.Test.YteihdnjdpiejmabDoorFill
import Derived.WalkKit
import Derived.ProofKit
import Derived.LoopTactic
import Derived.Deep.QuietTactic
import Derived.BigQuiet
import Derived.WalkLawsBesides
import Derived.Deep.RegionHeld3
namespace Go.Proofs.YteihdnjdpiejmabDoor
open Go.ChangeShapes Go.WideShapes Go.ChangeAt Go.RowKit

set_option maxHeartbeats 400000 in
theorem toBk (x0 x1 : Int) (w : World) :
    Calls Tryd.prog 19 #[.agg #[.int .i64 x0, .int .i64 x1]] w fun e w' => e = .returned (.agg #[.int .i64 x0, .int .i64 x1]) ∧ Below w.heap.size w w' := by
  go_enter Tryd.func19, Tryd.ntmps19
  go_wp2
  exact bodyPost_ret (v := .agg #[.int .i64 x0, .int .i64 x1]) (by simp [results, Tryd.results19, go_sem]) rfl ⟨rfl, (((Below.refl _ _).alloc (Nat.le_refl _) _).alloc (by simp) _).alloc (by simp; omega) _⟩

theorem Tryd.inf_Bk : (Tryd.prog.info? 29).map (fun i => (i.zero, i.size, i.bytes)) = some (some (.agg #[.int .i64 0, .int .i64 0]), 2, 16) := by kernel_rfl

set_option maxHeartbeats 400000 in
theorem eqBk (x0 x1 : Int) (w : World) :
    Calls Tryd.prog 15 #[.agg #[.int .i64 x0, .int .i64 x1], .agg #[.int .i64 x0, .int .i64 x1]] w fun e w' => e = .returned (.bool true) ∧ Below w.heap.size w w' := by
  go_enter Tryd.func15, Tryd.ntmps15
  go_wp2
  go_ret
  exact ⟨rfl, ((Below.refl _ _).alloc (Nat.le_refl _) _).alloc (by simp) _⟩

set_option maxHeartbeats 400000 in
theorem eqBkS (g g' : Nat) (n c c' : Nat) (qs : List Q2) (w : World) (hn : qs.length = n) (hr : Rd w w.heap.size (some ⟨g, 0, none⟩) (qs.flatMap Q2.cells)) (hr' : Rd w w.heap.size (some ⟨g', 0, none⟩) (qs.flatMap Q2.cells)) (hsz : n ≤ 1048576) :
    Calls Tryd.prog 10 #[.slice (some ⟨g, 0, none⟩) n c, .slice (some ⟨g', 0, none⟩) n c'] w fun e w' => e = .returned (.bool true) ∧ Below w.heap.size w w' := by
  have HN := Lib.hid hn; clear hn
  go_enter Tryd.func10, Tryd.ntmps10
  go_wp2
  go_loopw [5] (fun i wr => ∃ k : Nat, k ≤ n ∧ i = .int .i64 k ∧ Below w.heap.size w wr) (fun i _ => n - (intOf i).toNat)
  case atStart => exact ⟨0, Nat.zero_le _, rfl, Below.refl _ _⟩
  case round =>
    obtain ⟨k, hk, rfl, hb⟩ := hrel
    by_cases hlt : k < n
    · have hks : k < qs.length := by have := HN.out; omega
      obtain ⟨hg, hc0, hc1⟩ := (hr.over hb).q2c hks
      obtain ⟨hg', hd0, hd1⟩ := (hr'.over hb).q2c hks
      rw [Nat.zero_add] at hc0 hd0 hc1 hd1
      obtain ⟨u0, u1, hq⟩ : ∃ u0 u1, qs[k]'hks = ⟨u0, u1⟩ := ⟨_, _, rfl⟩
      rw [hq] at hc0 hd0 hc1 hd1
      clear hq
      go_wp2
      have hbd : Bel w wr.drew := Bel.of hb.drew
      go_region_held3 (fun W => W.cell? ⟨g, k * 2, none⟩ = some (.int .i64 u0) ∧ W.cell? ⟨g, k * 2 + 1, none⟩ = some (.int .i64 u1) ∧ W.cell? ⟨g', k * 2, none⟩ = some (.int .i64 u0) ∧ W.cell? ⟨g', k * 2 + 1, none⟩ = some (.int .i64 u1) ∧ Bel w W)
        (first | go_keep | (go_split_ands; (refine ⟨?_, ?_, ?_, ?_, ?_⟩ <;> first | assumption | exact Bel.step (by assumption) hb2 | exact (Bel.at_ (by assumption) hb2 (by assumption)).trans (by assumption))))
        (first | (go_at_call 15; refine (eqBk _ _ _).mono ?_; rintro e w2 ⟨rfl, hb2⟩))
      all_goals
        go_wp2
        go_roundw
        case rel => (go_split_ands; exact ⟨k + 1, by omega, by go_num, Bel.out (by assumption)⟩)
        case measure => simp [intOf]; omega
    · go_wp2
      go_ret
      exact ⟨rfl, hb⟩
end Go.Proofs.YteihdnjdpiejmabDoor
