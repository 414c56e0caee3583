/- Pure: the two ways to choose the shortest run that is long enough agree. No condition but those typed. -/
import Derived.Test.YtnbeomnlobfpfaaDoorRunP
namespace Go.Proofs.YtnbeomnlobfpfaaDoor
open Go.ChangeShapes Go.WideShapes Go.ChangeAt Go.RowKit

def stS (c : Nat) (b q : Nat × Nat) : Nat × Nat := if c ≤ q.2 ∧ (b.2 = 0 ∨ q.2 < b.2) then q else b
def stI (c : Nat) (b q : Nat × Nat) : Nat × Nat := if c ≤ q.2 ∧ q.2 < b.2 then q else b
def foS (c : Nat) (l : List (Nat × Nat)) (k : Nat) : Nat × Nat := (l.take k).foldl (stS c) (0, 0)
def foI (c : Nat) (l : List (Nat × Nat)) (k : Nat) : Nat × Nat := (l.take k).foldl (stI c) (0, 25)
theorem foS_step (c : Nat) (l : List (Nat × Nat)) (k : Nat) (h : k < l.length) : foS c l (k + 1) = stS c (foS c l k) l[k] := by
  unfold foS; rw [List.take_succ_eq_append_getElem h, List.foldl_append]; rfl
theorem foI_step (c : Nat) (l : List (Nat × Nat)) (k : Nat) (h : k < l.length) : foI c l (k + 1) = stI c (foI c l k) l[k] := by
  unfold foI; rw [List.take_succ_eq_append_getElem h, List.foldl_append]; rfl
theorem fo_rel (c : Nat) (hc : 1 ≤ c) (l : List (Nat × Nat)) (hl : ∀ q, q ∈ l → q.2 ≤ 24) : ∀ k, k ≤ l.length → (foS c l k = (0, 0) ∧ foI c l k = (0, 25) ∧ ∀ q, q ∈ l.take k → q.2 < c) ∨ (foS c l k = foI c l k ∧ 0 < (foS c l k).2 ∧ ∃ q, q ∈ l.take k ∧ c ≤ q.2)
  | 0, _ => .inl ⟨rfl, rfl, fun q h => by simp at h⟩
  | k + 1, h => by
    have hk : k < l.length := by omega
    have hq24 := hl l[k] (List.getElem_mem hk)
    rw [foS_step c l k hk, foI_step c l k hk, List.take_succ_eq_append_getElem hk]
    rcases fo_rel c hc l hl k (by omega) with ⟨e1, e2, e3⟩ | ⟨e1, e2, q, e3, e4⟩
    · rw [e1, e2]
      unfold stS stI
      by_cases hq : c ≤ l[k].2
      · right
        rw [if_pos ⟨hq, .inl rfl⟩, if_pos ⟨hq, by show l[k].2 < 25; omega⟩]
        exact ⟨rfl, by omega, l[k], (by rw [← List.take_succ_eq_append_getElem hk]; exact List.mem_take_iff_getElem.2 ⟨k, by omega, rfl⟩), hq⟩
      · left
        rw [if_neg (fun h => hq h.1), if_neg (fun h => hq h.1)]
        refine ⟨rfl, rfl, fun q hqm => ?_⟩
        rw [List.mem_append, List.mem_singleton] at hqm
        rcases hqm with h1 | h1
        · exact e3 q h1
        · rw [h1]; omega
    · right
      rw [← e1]
      unfold stS stI
      have hne : ¬ (foS c l k).2 = 0 := by omega
      by_cases hq : c ≤ l[k].2 ∧ l[k].2 < (foS c l k).2
      · rw [if_pos ⟨hq.1, .inr hq.2⟩, if_pos hq]
        exact ⟨rfl, by omega, q, List.mem_append_left _ e3, e4⟩
      · rw [if_neg (fun h => hq ⟨h.1, h.2.resolve_left hne⟩), if_neg hq]
        exact ⟨rfl, e2, q, List.mem_append_left _ e3, e4⟩
end Go.Proofs.YtnbeomnlobfpfaaDoor
