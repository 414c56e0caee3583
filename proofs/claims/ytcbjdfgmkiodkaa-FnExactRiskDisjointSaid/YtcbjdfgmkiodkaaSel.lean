/- Plain words: the list of the numbers below k with a property. No condition. -/
import Derived.Test.YtcbjdfgmkiodkaaIntW
namespace Go.Proofs.Ytcbjdfgmkiodkaa
open Go.RowKit

def selK (p : Nat → Bool) : Nat → List Int
  | 0 => []
  | k + 1 => if p k then selK p k ++ [(k : Int)] else selK p k
theorem sel_in {p : Nat → Bool} {k : Nat} (h : p k = true) : selK p (k + 1) = selK p k ++ [(k : Int)] := by rw [selK, h]; rfl
theorem sel_out {p : Nat → Bool} {k : Nat} (h : p k = false) : selK p (k + 1) = selK p k := by rw [selK, h]; rfl
theorem sel_len (p : Nat → Bool) : ∀ k, (selK p k).length ≤ k
  | 0 => Nat.le_refl _
  | k + 1 => by
    have := sel_len p k
    rw [selK]
    split
    · rw [List.length_append]; exact Nat.succ_le_succ this
    · exact Nat.le_succ_of_le this
theorem sel_ext {p q : Nat → Bool} : ∀ {k : Nat}, (∀ i, i < k → p i = q i) → selK p k = selK q k
  | 0, _ => rfl
  | k + 1, h => by rw [selK, selK, h k (by omega), sel_ext fun i hi => h i (by omega)]
theorem sel_nil {p : Nat → Bool} : ∀ {n : Nat}, selK p n = [] ↔ ∀ k, k < n → p k = false
  | 0 => ⟨fun _ k hk => by omega, fun _ => rfl⟩
  | n + 1 => by
    constructor
    · intro h k hk
      cases hq : p n with
      | true => rw [sel_in hq] at h; simp at h
      | false =>
        rw [sel_out hq] at h
        by_cases e : k = n
        · rw [e]; exact hq
        · exact sel_nil.1 h k (by omega)
    · intro h
      rw [sel_out (h n (by omega))]
      exact sel_nil.2 fun k hk => h k (by omega)
theorem sel_mem {p : Nat → Bool} {x : Int} : ∀ {n : Nat}, x ∈ selK p n ↔ ∃ k : Nat, x = (k : Int) ∧ k < n ∧ p k = true
  | 0 => ⟨fun h => by simp [selK] at h, fun ⟨k, _, h, _⟩ => by omega⟩
  | n + 1 => by
    constructor
    · intro h
      cases hq : p n with
      | true =>
        rw [sel_in hq] at h
        rcases List.mem_append.1 h with h | h
        · obtain ⟨k, e, hk, hp⟩ := sel_mem.1 h
          exact ⟨k, e, by omega, hp⟩
        · exact ⟨n, List.mem_singleton.1 h, by omega, hq⟩
      | false =>
        rw [sel_out hq] at h
        obtain ⟨k, e, hk, hp⟩ := sel_mem.1 h
        exact ⟨k, e, by omega, hp⟩
    · rintro ⟨k, rfl, hk, hp⟩
      by_cases e : k = n
      · subst e; rw [sel_in hp]; exact List.mem_append_right _ (List.mem_singleton.2 rfl)
      · have h := sel_mem.2 ⟨k, rfl, (by omega : k < n), hp⟩
        rw [selK]
        split
        · exact List.mem_append_left _ h
        · exact h
/-- an answer that is a selection under a condition. -/
noncomputable def selV (P : Prop) (p : Nat → Bool) (n : Nat) : List Int := if pb P then selK p n else []
theorem selV_no {P : Prop} {p : Nat → Bool} {n : Nat} (h : ¬ P) : selV P p n = [] ∧ pb P = false := by
  refine ⟨?_, pb_false h⟩
  unfold selV; rw [pb_false h]; rfl
theorem selV_yes {P : Prop} {p : Nat → Bool} {n : Nat} (h : P) : selV P p n = selK p n ∧ pb P = true := by
  refine ⟨?_, pb_true h⟩
  unfold selV; rw [pb_true h]; rfl
theorem selV_len (P : Prop) (p : Nat → Bool) (n : Nat) : (selV P p n).length ≤ n := by
  unfold selV
  split
  · exact sel_len _ _
  · simp
end Go.Proofs.Ytcbjdfgmkiodkaa
