/- Contracts of the law's helpers over a slice of structs of ints (copy, compare, size). No condition but those typed. -/
import Derived.Test.YtlgkjidginibdaaQ3
import Derived.WalkKit
import Derived.ProofKit
import Derived.LoopTactic
import Derived.Deep.QuietTactic
import Derived.BigQuiet
import Derived.WalkLawsBesides
import Derived.Deep.RegionHeld3
namespace Go.Proofs.Ytlgkjidginibdaa
open Go.ChangeShapes Go.WideShapes Go.ChangeAt Go.RowKit

set_option maxHeartbeats 400000 in
theorem toTri (x0 x1 x2 : Int) (w : World) :
    Calls Try.prog 126 #[.agg #[.int .i64 x0, .int .i64 x1, .int .i64 x2]] w fun e w' => e = .returned (.agg #[.int .i64 x0, .int .i64 x1, .int .i64 x2]) ∧ Below w.heap.size w w' := by
  go_enter Try.func126, Try.ntmps126
  go_wp2
  exact bodyPost_ret (v := .agg #[.int .i64 x0, .int .i64 x1, .int .i64 x2]) (by simp [results, Try.results126, go_sem]) rfl ⟨rfl, (((Below.refl _ _).alloc (Nat.le_refl _) _).alloc (by simp) _).alloc (by simp; omega) _⟩

theorem Try.inf_Tri : (Try.prog.info? 166).map (fun i => (i.zero, i.size, i.bytes)) = some (some (.agg #[.int .i64 0, .int .i64 0, .int .i64 0]), 3, 24) := by kernel_rfl

set_option maxHeartbeats 400000 in
theorem toTriS (A : Option Addr) (n c : Nat) (qs : List Q3) (w : World) (hn : qs.length = n) (hr : Rd w w.heap.size A (qs.flatMap Q3.cells)) (hsz : n ≤ 1048576) :
    Calls Try.prog 49 #[.slice A n c] w fun e w' => e = .returned (.slice (some ⟨w.heap.size, 0, none⟩) n n) ∧
      w'.ownsRow w.heap.size 166 3 (.slice (some ⟨w.heap.size, 0, none⟩) n n) n (qs.flatMap Q3.cells) ∧ Below w.heap.size w w' := by
  obtain ⟨i0, hi, hz0, hz1, hz2⟩ := info_parts Try.inf_Tri
  have HN := Lib.hid hn; clear hn
  go_enter Try.func49, Try.ntmps49
  go_wp2_with (at_make; refine wpList_make_full _ rfl _ _ 91 rfl w.heap.size 166 i0 _ 3 Try.underlying91 hi hz0 hz1 .i64 .i64 n n n rfl rfl rfl rfl (by rw [hz2]; omega) (by unfold maxLen; omega) (Nat.le_refl _) ?_)
  intro w1 hown hgrow
  have hb1 : Below w.heap.size w w1 := (Below.refl _ _).grown hgrow (Nat.le_refl _) (fun k h => by cases h)
  clear hgrow
  have hown0 : w1.ownsRow w.heap.size 166 3 (.slice (some ⟨w.heap.size, 0, none⟩) n n) n (fill Q3.cells 3 qs 0 n) := by rw [fill_zero, ← made3]; exact hown
  clear hown hi hz0 hz1 hz2
  go_wp2
  go_loopw [4] (fun i wr => ∃ k : Nat, k ≤ n ∧ i = .int .i64 k ∧ wr.ownsRow w.heap.size 166 3 (.slice (some ⟨w.heap.size, 0, none⟩) n n) n (fill Q3.cells 3 qs k n) ∧ Below w.heap.size w wr) (fun i _ => n - (intOf i).toNat)
  case atStart => exact ⟨0, Nat.zero_le _, rfl, hown0, hb1⟩
  case round =>
    clear hown0 hb1
    obtain ⟨k, hk, rfl, hown, hb⟩ := hrel
    by_cases hlt : k < n
    · have hks : k < qs.length := by have := HN.out; omega
      obtain ⟨ad, rfl, hbl, hc0, hc1, hc2⟩ := hr.q3 hks
      rw [← hb.cell (by rw [addBlock]; exact hbl)] at hc0
      rw [← hb.cell (by simp only [addBlock]; exact hbl)] at hc1 hc2
      have HO := Lib.hid hown
      clear hown
      go_wp2_with fail
      refine (toTri _ _ _ _).mono ?_
      rintro e w2 ⟨rfl, hb2⟩
      have hown := ownB HO.out hb2
      clear HO hc0 hc1 hc2
      have hold0 := hown.cellAt (k * 3) (by omega)
      have hold1 := hown.cellAt (k * 3 + 1) (by omega)
      have hold2 := hown.cellAt (k * 3 + 2) (by omega)
      rw [fill_get0 Q3.cells 3 qs k n (fun _ => rfl) HN.out hlt (by omega)] at hold0
      rw [fill_get Q3.cells 3 qs k n 1 (fun _ => rfl) HN.out hlt (by omega)] at hold1
      rw [fill_get Q3.cells 3 qs k n 2 (fun _ => rfl) HN.out hlt (by omega)] at hold2
      have hfz0 := hown.frozenAt (k * 3)
      have hfz1 := hown.frozenAt (k * 3 + 1)
      have hfz2 := hown.frozenAt (k * 3 + 2)
      have HO := Lib.hid hown; clear hown
      have hb' : Below w.heap.size w w2 := hb.trans (hb2.mono hb.size)
      go_wp2
      go_roundw
      case rel =>
        refine ⟨k + 1, by omega, by go_num, ?_, (((hb').setCell (Nat.le_refl _) _).setCell (Nat.le_refl _) _).setCell (Nat.le_refl _) _⟩
        have hst := ((((((HO.out).stored (k * 3) (.int .i64 (qs[k]'hks).a)).1).stored (k * 3 + 1) (.int .i64 (qs[k]'hks).b)).1).stored (k * 3 + 2) (.int .i64 (qs[k]'hks).c)).1
        rw [fill_set3 qs k n HN.out hlt] at hst
        exact hst
      case measure => simp [intOf]; omega
    · have hkn : k = n := by omega
      subst hkn
      rw [fill_all Q3.cells 3 qs k HN.out] at hown
      go_wp2
      go_ret
      exact ⟨rfl, hown, hb⟩

set_option maxHeartbeats 400000 in
theorem szTriS (A : Option Addr) (n c : Nat) (left : Int) (w : World) (hm : n ≤ maxLen) (hl0 : 0 ≤ left) (hl1 : left ≤ 1048576) :
    Calls Try.prog 47 #[.slice A n c, .int .i64 left] w fun e w' => ∃ v : Int, e = .returned (.int .i64 v) ∧ w = w' ∧ -1 ≤ v ∧ v ≤ left ∧ (0 ≤ v → v + n ≤ left) := by
  unfold maxLen at hm
  by_cases hc : left - n < 0
  · go_enter Try.func47, Try.ntmps47
    go_wp2
    go_ret
    exact ⟨-1, rfl, rfl, by omega, by omega, by omega⟩
  · have hc' : 0 ≤ left - n := by omega
    clear hc
    go_enter Try.func47, Try.ntmps47
    go_wp2
    go_ret
    exact ⟨left - n, rfl, rfl, by omega, by omega, by omega⟩

set_option maxHeartbeats 400000 in
theorem eqTri (x0 x1 x2 : Int) (w : World) :
    Calls Try.prog 131 #[.agg #[.int .i64 x0, .int .i64 x1, .int .i64 x2], .agg #[.int .i64 x0, .int .i64 x1, .int .i64 x2]] w fun e w' => e = .returned (.bool true) ∧ Below w.heap.size w w' := by
  go_enter Try.func131, Try.ntmps131
  go_wp2
  go_ret
  exact ⟨rfl, ((Below.refl _ _).alloc (Nat.le_refl _) _).alloc (by simp) _⟩

set_option maxHeartbeats 400000 in
theorem eqTriS (g g' : Nat) (n c c' : Nat) (qs : List Q3) (w : World) (hn : qs.length = n) (hr : Rd w w.heap.size (some ⟨g, 0, none⟩) (qs.flatMap Q3.cells)) (hr' : Rd w w.heap.size (some ⟨g', 0, none⟩) (qs.flatMap Q3.cells)) (hsz : n ≤ 1048576) :
    Calls Try.prog 52 #[.slice (some ⟨g, 0, none⟩) n c, .slice (some ⟨g', 0, none⟩) n c'] w fun e w' => e = .returned (.bool true) ∧ Below w.heap.size w w' := by
  have HN := Lib.hid hn; clear hn
  go_enter Try.func52, Try.ntmps52
  go_wp2
  go_loopw [5] (fun i wr => ∃ k : Nat, k ≤ n ∧ i = .int .i64 k ∧ Below w.heap.size w wr) (fun i _ => n - (intOf i).toNat)
  case atStart => exact ⟨0, Nat.zero_le _, rfl, Below.refl _ _⟩
  case round =>
    obtain ⟨k, hk, rfl, hb⟩ := hrel
    by_cases hlt : k < n
    · have hks : k < qs.length := by have := HN.out; omega
      obtain ⟨hg, hc0, hc1, hc2⟩ := (hr.over hb).q3c hks
      obtain ⟨hg', hd0, hd1, hd2⟩ := (hr'.over hb).q3c hks
      rw [Nat.zero_add] at hc0 hd0 hc1 hd1 hc2 hd2
      obtain ⟨u0, u1, u2, hq⟩ : ∃ u0 u1 u2, qs[k]'hks = ⟨u0, u1, u2⟩ := ⟨_, _, _, rfl⟩
      rw [hq] at hc0 hd0 hc1 hd1 hc2 hd2
      clear hq
      go_wp2
      have hbd : Bel w wr.drew := Bel.of hb.drew
      go_region_held3 (fun W => W.cell? ⟨g, k * 3, none⟩ = some (.int .i64 u0) ∧ W.cell? ⟨g, k * 3 + 1, none⟩ = some (.int .i64 u1) ∧ W.cell? ⟨g, k * 3 + 2, none⟩ = some (.int .i64 u2) ∧ W.cell? ⟨g', k * 3, none⟩ = some (.int .i64 u0) ∧ W.cell? ⟨g', k * 3 + 1, none⟩ = some (.int .i64 u1) ∧ W.cell? ⟨g', k * 3 + 2, none⟩ = some (.int .i64 u2) ∧ Bel w W)
        (first | go_keep | (go_split_ands; (refine ⟨?_, ?_, ?_, ?_, ?_, ?_, ?_⟩ <;> first | assumption | exact Bel.step (by assumption) hb2 | exact (Bel.at_ (by assumption) hb2 (by assumption)).trans (by assumption))))
        (first | (go_at_call 131; refine (eqTri _ _ _ _).mono ?_; rintro e w2 ⟨rfl, hb2⟩))
      all_goals
        go_wp2
        go_roundw
        case rel => (go_split_ands; exact ⟨k + 1, by omega, by go_num, Bel.out (by assumption)⟩)
        case measure => simp [intOf]; omega
    · go_wp2
      go_ret
      exact ⟨rfl, hb⟩
end Go.Proofs.Ytlgkjidginibdaa
