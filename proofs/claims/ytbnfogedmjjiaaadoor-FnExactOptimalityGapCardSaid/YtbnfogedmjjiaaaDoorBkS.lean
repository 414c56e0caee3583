/- Contracts of the law's helpers over a slice of structs of ints (copy, compare, size). No condition but those typed. -/
import Derived.Test.YtbnfogedmjjiaaaDoorGA
import Derived.WalkKit
import Derived.ProofKit
import Derived.LoopTactic
import Derived.Deep.QuietTactic
import Derived.BigQuiet
import Derived.WalkLawsBesides
import Derived.Deep.RegionHeld3
namespace Go.Proofs.YtbnfogedmjjiaaaDoor
open Go.ChangeShapes Go.WideShapes Go.ChangeAt Go.RowKit

set_option maxHeartbeats 400000 in
theorem toBk (x0 x1 : Int) (w : World) :
    Calls Tryd.prog 91 #[.agg #[.int .i64 x0, .int .i64 x1]] w fun e w' => e = .returned (.agg #[.int .i64 x0, .int .i64 x1]) ∧ Below w.heap.size w w' := by
  go_enter Tryd.func91, Tryd.ntmps91
  go_wp2
  exact bodyPost_ret (v := .agg #[.int .i64 x0, .int .i64 x1]) (by simp [results, Tryd.results91, go_sem]) rfl ⟨rfl, (((Below.refl _ _).alloc (Nat.le_refl _) _).alloc (by simp) _).alloc (by simp; omega) _⟩

theorem Tryd.inf_Bk : (Tryd.prog.info? 125).map (fun i => (i.zero, i.size, i.bytes)) = some (some (.agg #[.int .i64 0, .int .i64 0]), 2, 16) := by kernel_rfl

set_option maxHeartbeats 400000 in
theorem toBkS (A : Option Addr) (n c : Nat) (qs : List Q2) (w : World) (hn : qs.length = n) (hr : Rd w w.heap.size A (qs.flatMap Q2.cells)) (hsz : n ≤ 1048576) :
    Calls Tryd.prog 32 #[.slice A n c] w fun e w' => e = .returned (.slice (some ⟨w.heap.size, 0, none⟩) n n) ∧
      w'.ownsRow w.heap.size 125 2 (.slice (some ⟨w.heap.size, 0, none⟩) n n) n (qs.flatMap Q2.cells) ∧ Below w.heap.size w w' := by
  obtain ⟨i0, hi, hz0, hz1, hz2⟩ := info_parts Tryd.inf_Bk
  have HN := Lib.hid hn; clear hn
  go_enter Tryd.func32, Tryd.ntmps32
  go_wp2_with (at_make; refine wpList_make_full _ rfl _ _ 49 rfl w.heap.size 125 i0 _ 2 Tryd.underlying49 hi hz0 hz1 .i64 .i64 n n n rfl rfl rfl rfl (by rw [hz2]; omega) (by unfold maxLen; omega) (Nat.le_refl _) ?_)
  intro w1 hown hgrow
  have hb1 : Below w.heap.size w w1 := (Below.refl _ _).grown hgrow (Nat.le_refl _) (fun k h => by cases h)
  clear hgrow
  have hown0 : w1.ownsRow w.heap.size 125 2 (.slice (some ⟨w.heap.size, 0, none⟩) n n) n (fill Q2.cells 2 qs 0 n) := by rw [fill_zero, ← made2]; exact hown
  clear hown hi hz0 hz1 hz2
  go_wp2
  go_loopw [4] (fun i wr => ∃ k : Nat, k ≤ n ∧ i = .int .i64 k ∧ wr.ownsRow w.heap.size 125 2 (.slice (some ⟨w.heap.size, 0, none⟩) n n) n (fill Q2.cells 2 qs k n) ∧ Below w.heap.size w wr) (fun i _ => n - (intOf i).toNat)
  case atStart => exact ⟨0, Nat.zero_le _, rfl, hown0, hb1⟩
  case round =>
    clear hown0 hb1
    obtain ⟨k, hk, rfl, hown, hb⟩ := hrel
    by_cases hlt : k < n
    · have hks : k < qs.length := by have := HN.out; omega
      obtain ⟨ad, rfl, hbl, hc0, hc1⟩ := hr.q2 hks
      rw [← hb.cell (by rw [addBlock]; exact hbl)] at hc0
      rw [← hb.cell (by simp only [addBlock]; exact hbl)] at hc1
      have HO := Lib.hid hown
      clear hown
      go_wp2_with fail
      refine (toBk _ _ _).mono ?_
      rintro e w2 ⟨rfl, hb2⟩
      have hown := ownB HO.out hb2
      clear HO hc0 hc1
      have hold0 := hown.cellAt (k * 2) (by omega)
      have hold1 := hown.cellAt (k * 2 + 1) (by omega)
      rw [fill_get0 Q2.cells 2 qs k n (fun _ => rfl) HN.out hlt (by omega)] at hold0
      rw [fill_get Q2.cells 2 qs k n 1 (fun _ => rfl) HN.out hlt (by omega)] at hold1
      have hfz0 := hown.frozenAt (k * 2)
      have hfz1 := hown.frozenAt (k * 2 + 1)
      have HO := Lib.hid hown; clear hown
      have hb' : Below w.heap.size w w2 := hb.trans (hb2.mono hb.size)
      go_wp2
      go_roundw
      case rel =>
        refine ⟨k + 1, by omega, by go_num, ?_, ((hb').setCell (Nat.le_refl _) _).setCell (Nat.le_refl _) _⟩
        have hst := ((((HO.out).stored (k * 2) (.int .i64 (qs[k]'hks).a)).1).stored (k * 2 + 1) (.int .i64 (qs[k]'hks).b)).1
        rw [fill_set2 qs k n HN.out hlt] at hst
        exact hst
      case measure => simp [intOf]; omega
    · have hkn : k = n := by omega
      subst hkn
      rw [fill_all Q2.cells 2 qs k HN.out] at hown
      go_wp2
      go_ret
      exact ⟨rfl, hown, hb⟩

set_option maxHeartbeats 400000 in
theorem szBkS (A : Option Addr) (n c : Nat) (left : Int) (w : World) (hm : n ≤ maxLen) (hl0 : 0 ≤ left) (hl1 : left ≤ 1048576) :
    Calls Tryd.prog 30 #[.slice A n c, .int .i64 left] w fun e w' => ∃ v : Int, e = .returned (.int .i64 v) ∧ w = w' ∧ -1 ≤ v ∧ v ≤ left ∧ (0 ≤ v → v + n ≤ left) := by
  unfold maxLen at hm
  by_cases hc : left - n < 0
  · go_enter Tryd.func30, Tryd.ntmps30
    go_wp2
    go_ret
    exact ⟨-1, rfl, rfl, by omega, by omega, by omega⟩
  · have hc' : 0 ≤ left - n := by omega
    clear hc
    go_enter Tryd.func30, Tryd.ntmps30
    go_wp2
    go_ret
    exact ⟨left - n, rfl, rfl, by omega, by omega, by omega⟩

set_option maxHeartbeats 400000 in
theorem eqBk (x0 x1 : Int) (w : World) :
    Calls Tryd.prog 93 #[.agg #[.int .i64 x0, .int .i64 x1], .agg #[.int .i64 x0, .int .i64 x1]] w fun e w' => e = .returned (.bool true) ∧ Below w.heap.size w w' := by
  go_enter Tryd.func93, Tryd.ntmps93
  go_wp2
  go_ret
  exact ⟨rfl, ((Below.refl _ _).alloc (Nat.le_refl _) _).alloc (by simp) _⟩

set_option maxHeartbeats 400000 in
theorem eqBkS (g g' : Nat) (n c c' : Nat) (qs : List Q2) (w : World) (hn : qs.length = n) (hr : Rd w w.heap.size (some ⟨g, 0, none⟩) (qs.flatMap Q2.cells)) (hr' : Rd w w.heap.size (some ⟨g', 0, none⟩) (qs.flatMap Q2.cells)) (hsz : n ≤ 1048576) :
    Calls Tryd.prog 34 #[.slice (some ⟨g, 0, none⟩) n c, .slice (some ⟨g', 0, none⟩) n c'] w fun e w' => e = .returned (.bool true) ∧ Below w.heap.size w w' := by
  have HN := Lib.hid hn; clear hn
  go_enter Tryd.func34, Tryd.ntmps34
  go_wp2
  go_loopw [5] (fun i wr => ∃ k : Nat, k ≤ n ∧ i = .int .i64 k ∧ Below w.heap.size w wr) (fun i _ => n - (intOf i).toNat)
  case atStart => exact ⟨0, Nat.zero_le _, rfl, Below.refl _ _⟩
  case round =>
    obtain ⟨k, hk, rfl, hb⟩ := hrel
    by_cases hlt : k < n
    · have hks : k < qs.length := by have := HN.out; omega
      obtain ⟨hg, hc0, hc1⟩ := (hr.over hb).q2c hks
      obtain ⟨hg', hd0, hd1⟩ := (hr'.over hb).q2c hks
      rw [Nat.zero_add] at hc0 hd0 hc1 hd1
      obtain ⟨u0, u1, hq⟩ : ∃ u0 u1, qs[k]'hks = ⟨u0, u1⟩ := ⟨_, _, rfl⟩
      rw [hq] at hc0 hd0 hc1 hd1
      clear hq
      go_wp2
      have hbd : Bel w wr.drew := Bel.of hb.drew
      go_region_held3 (fun W => W.cell? ⟨g, k * 2, none⟩ = some (.int .i64 u0) ∧ W.cell? ⟨g, k * 2 + 1, none⟩ = some (.int .i64 u1) ∧ W.cell? ⟨g', k * 2, none⟩ = some (.int .i64 u0) ∧ W.cell? ⟨g', k * 2 + 1, none⟩ = some (.int .i64 u1) ∧ Bel w W)
        (first | go_keep | (go_split_ands; (refine ⟨?_, ?_, ?_, ?_, ?_⟩ <;> first | assumption | exact Bel.step (by assumption) hb2 | exact (Bel.at_ (by assumption) hb2 (by assumption)).trans (by assumption))))
        (first | (go_at_call 93; refine (eqBk _ _ _).mono ?_; rintro e w2 ⟨rfl, hb2⟩))
      all_goals
        go_wp2
        go_roundw
        case rel => (go_split_ands; exact ⟨k + 1, by omega, by go_num, Bel.out (by assumption)⟩)
        case measure => simp [intOf]; omega
    · go_wp2
      go_ret
      exact ⟨rfl, hb⟩
end Go.Proofs.YtbnfogedmjjiaaaDoor
