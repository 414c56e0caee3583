/- Pure: a block of c free slots lies in some free run, and a free run holds such a block. No condition but those typed. -/
import Derived.Test.YtnbeomnlobfpfaaDoorRunS
namespace Go.Proofs.YtnbeomnlobfpfaaDoor
open Go

theorem sp_edge (f : Nat → Bool) : ∀ n, (sp f n).2 ≤ n ∧ (∀ j, j < (sp f n).2 → f (n - (sp f n).2 + j) = true) ∧ (0 < n - (sp f n).2 → f (n - (sp f n).2 - 1) = false)
  | 0 => ⟨Nat.le_refl _, fun j h => absurd h (by show ¬ j < 0; omega), fun h => absurd h (by simp [sp])⟩
  | n + 1 => by
    obtain ⟨h1, h2, h3⟩ := sp_edge f n
    rw [sp]
    cases hf : f n with
    | true =>
      simp only [if_true]
      have e : n + 1 - ((sp f n).2 + 1) = n - (sp f n).2 := by omega
      rw [e]
      refine ⟨by omega, fun j hj => ?_, h3⟩
      by_cases hjd : j < (sp f n).2
      · exact h2 j hjd
      · have e2 : n - (sp f n).2 + j = n := by omega
        rw [e2]; exact hf
    | false =>
      simp only [Bool.false_eq_true, if_false]
      refine ⟨Nat.zero_le _, fun j hj => absurd hj (by omega), fun _ => ?_⟩
      have e2 : n + 1 - 0 - 1 = n := by omega
      rw [e2]; exact hf
theorem sp_runs (f : Nat → Bool) : ∀ n q, q ∈ (sp f n).1 → 0 < q.2 ∧ q.1 + q.2 ≤ n ∧ ∀ j, j < q.2 → f (q.1 + j) = true
  | 0, q, h => by simp [sp] at h
  | n + 1, q, h => by
    rw [sp] at h
    obtain ⟨h1, h2, _⟩ := sp_edge f n
    cases hf : f n with
    | true =>
      rw [hf] at h
      simp only [if_true] at h
      obtain ⟨a, b, c⟩ := sp_runs f n q h
      exact ⟨a, by omega, c⟩
    | false =>
      rw [hf] at h
      simp only [Bool.false_eq_true, if_false] at h
      by_cases hd : 0 < (sp f n).2
      · rw [if_pos hd, List.mem_append] at h
        rcases h with h | h
        · obtain ⟨a, b, c⟩ := sp_runs f n q h
          exact ⟨a, by omega, c⟩
        · rw [List.mem_singleton] at h
          subst h
          exact ⟨hd, by show n - (sp f n).2 + (sp f n).2 ≤ n + 1; omega, h2⟩
      · rw [if_neg hd] at h
        obtain ⟨a, b, c⟩ := sp_runs f n q h
        exact ⟨a, by omega, c⟩
theorem sp_holds (f : Nat → Bool) (s c : Nat) (hc : 1 ≤ c) (hb : ∀ j, j < c → f (s + j) = true) : ∀ n, s + c ≤ n → (∃ q, q ∈ (sp f n).1 ∧ c ≤ q.2) ∨ n - (sp f n).2 ≤ s
  | 0, h => absurd h (by omega)
  | n + 1, h => by
    obtain ⟨h1, h2, h3⟩ := sp_edge f n
    rw [sp]
    cases hf : f n with
    | true =>
      simp only [if_true]
      have e : n + 1 - ((sp f n).2 + 1) = n - (sp f n).2 := by omega
      rw [e]
      by_cases hs : s + c ≤ n
      · exact sp_holds f s c hc hb n hs
      · by_cases hle : n - (sp f n).2 ≤ s
        · exact .inr hle
        · have h4 := h3 (by omega)
          have h5 := hb (n - (sp f n).2 - 1 - s) (by omega)
          have e2 : s + (n - (sp f n).2 - 1 - s) = n - (sp f n).2 - 1 := by omega
          rw [e2, h4] at h5
          exact absurd h5 (by decide)
    | false =>
      simp only [Bool.false_eq_true, if_false]
      have hs : s + c ≤ n := by
        apply Nat.le_of_not_lt
        intro hlt
        have h5 := hb (n - s) (by omega)
        have e2 : s + (n - s) = n := by omega
        rw [e2, hf] at h5
        exact absurd h5 (by decide)
      rcases sp_holds f s c hc hb n hs with ⟨q, hq, hqc⟩ | hle
      · left
        by_cases hd : 0 < (sp f n).2
        · rw [if_pos hd]; exact ⟨q, List.mem_append_left _ hq, hqc⟩
        · rw [if_neg hd]; exact ⟨q, hq, hqc⟩
      · left
        rw [if_pos (by omega)]
        exact ⟨(n - (sp f n).2, (sp f n).2), by simp, by show c ≤ (sp f n).2; omega⟩
/-- a block of c free slots begins somewhere just where some free run has c slots. -/
theorem runs_iff (m c : Nat) (hc : 1 ≤ c) : (∃ q, q ∈ (sp (fr m) 25).1 ∧ c ≤ q.2) ↔ begN m (c - 1) ≠ 0 := by
  constructor
  · rintro ⟨q, hq, hqc⟩ h0
    obtain ⟨_, _, h3⟩ := sp_runs (fr m) 25 q hq
    have := (begN_bit m q.1 (c - 1)).2 fun j hj => h3 j (by omega)
    rw [h0] at this
    simp at this
  · intro h0
    have hl := begN_lt m (c - 1)
    obtain ⟨h1, _⟩ := low_bit _ h0 (by omega)
    have h2 := (begN_bit m _ (c - 1)).1 h1
    obtain ⟨s, hs⟩ : ∃ s, Lib.ctz 64 (begN m (c - 1)) = s := ⟨_, rfl⟩
    rw [hs] at h2
    have h24 : s + c ≤ 24 := by
      have := h2 (c - 1) (Nat.le_refl _)
      rw [freeN_bit, Bool.and_eq_true] at this
      have := of_decide_eq_true this.1
      omega
    rcases sp_holds (fr m) s c hc (fun j hj => h2 j (by omega)) 25 (by omega) with h | h
    · exact h
    · exfalso
      obtain ⟨e1, e2, _⟩ := sp_edge (fr m) 25
      have h24f : fr m 24 = false := by unfold fr; rw [freeN_bit]; rfl
      by_cases hd : (sp (fr m) 25).2 = 0
      · omega
      · have := e2 ((sp (fr m) 25).2 - 1) (by omega)
        have e3 : 25 - (sp (fr m) 25).2 + ((sp (fr m) 25).2 - 1) = 24 := by omega
        rw [e3, h24f] at this
        exact absurd this (by decide)
end Go.Proofs.YtnbeomnlobfpfaaDoor
