/- Words and contracts of our own for laws that draw their arguments from bytes: a new cursor, one byte, whether there are too many. No condition but those typed. -/
import Derived.Test.YtlankoameeacpaaCur
import Derived.Test.YtlankoameeacpaaArg
namespace Go.Proofs.Ytlankoameeacpaa
open Go.ChangeShapes Go.WideShapes Go.ChangeAt Go.RowKit

theorem rdB_of {w : World} {B : Nat} {A : Option Addr} {n : Nat} {zs : List Int} (hn : zs.length = n) (hr : Rd w B A (zs.map (Value.int .u8))) (hw : ∀ z ∈ zs, (Lit.int .u8 z).wf = true) : RdB w B A n := by
  intro k hk
  have hks : k < zs.length := by omega
  obtain ⟨ad, e, hl, hc⟩ := hr.got (k := k) (by simpa using hks)
  simp only [List.getElem_map] at hc
  have h := hw _ (List.getElem_mem hks)
  have h1 : IntKind.u8.min = 0 := rfl
  have h2 : IntKind.u8.max = 255 := rfl
  simp only [Lit.wf, Bool.and_eq_true, decide_eq_true_eq] at h
  exact ⟨ad, _, e, hl, by omega, by omega, hc⟩
theorem cur_new {w : World} {A : Option Addr} {n c : Nat} (h : RdB w w.heap.size A n) (hn : n ≤ 140737488355328) :
    CurAt (w.alloc (.cells #[.slice A n c, .int .i64 0, .int .u64 0] 84)) w.heap.size w.heap.size A n c 0 :=
  ⟨0, 0, heap_alloc_new w _, by omega, by omega, h.over (fun b hb => Below.heap_alloc w _ b hb), Nat.le_refl _, hn⟩
theorem lit_cells (w : World) (E : TypeId) (cs : Array Value) : ∀ (k : Nat) u, cs.toList[k]? = some u → (w.alloc (.cells cs E)).cell? ⟨w.heap.size, k, none⟩ = some u := by
  intro k u hu
  rw [cell_of_row _ w.heap.size k cs E (0, 0) (heap_alloc_new w _)]
  simpa using hu
theorem RdB.grown {w w' : World} {B : Nat} {A : Option Addr} {n : Nat} (h : RdB w B A n) (hb : Below B w w') : RdB w' B A n := h.over fun b hb' => hb.block b hb'
theorem RdB.more {w : World} {B B' : Nat} {A : Option Addr} {n : Nat} (h : RdB w B A n) (hB : B ≤ B') : RdB w B' A n := by
  intro k hk; obtain ⟨ad, v, e, hl, r⟩ := h k hk; exact ⟨ad, v, e, by omega, r⟩
theorem only_new {w w1 w' : World} {o : Obj} (he : w1 = w.alloc o) (h : Only w.heap.size w1 w') : Below w.heap.size w w' := by
  subst he
  exact ((Below.refl _ _).alloc (Nat.le_refl _) _).trans (h.below (Nat.le_refl _) (by simp))
set_option maxHeartbeats 1000000 in
theorem vAt_any (A : Option Addr) (n c : Nat) (i : Int) (w : World) (hi0 : 0 ≤ i) (hi1 : i ≤ 1000) (hn : n ≤ 140737488355328) (h : RdB w w.heap.size A n) :
    Calls Try.prog 13 #[.slice A n c, .int .i64 i] w fun e w' => ∃ v : Int, e = .returned (.int .i64 v) ∧ 0 ≤ v ∧ v ≤ 255 ∧ w = w' := by
  by_cases hlt : i < n
  · obtain ⟨ad, v, rfl, _, hv0, hv1, hc⟩ := h i.toNat (by omega)
    obtain ⟨k, rfl⟩ := Int.eq_ofNat_of_zero_le hi0
    rw [Int.toNat_natCast] at hc
    go_enter Try.func13, Try.ntmps13
    go_wp2_with fail
    go_ret
    exact ⟨v, rfl, hv0, hv1, rfl⟩
  · have hlt' : decide (i < (n : Int)) = false := by simpa using hlt
    clear hlt
    go_enter Try.func13, Try.ntmps13
    go_wp2_with fail
    go_ret
    exact ⟨_, rfl, Int.emod_nonneg _ (by omega), by have := Int.emod_lt_of_pos (i * 7 + n) (b := 256) (by omega); omega, rfl⟩

theorem vBigM (A : Option Addr) (n c : Nat) (w : World) (hn : n ≤ maxLen) :
    Calls Try.prog 9 #[.slice A n c] w fun e w' => e = .returned (.bool (decide (65536 < (n : Int)))) ∧ w = w' := by
  unfold maxLen at hn
  go_enter Try.func9, Try.ntmps9
  go_wp2_with fail
  go_ret
  exact ⟨rfl, rfl⟩
end Go.Proofs.Ytlankoameeacpaa
