/- Pure: the free runs of a mask, as the specification's one pass finds them; a step of the implementation's loop. No condition but those typed. -/
import Derived.Test.YtnbeomnlobfpfaaDoorPos
namespace Go.Proofs.YtnbeomnlobfpfaaDoor
open Go

/-- what has been found below n, and how long the run is that ends at n. -/
def sp (f : Nat → Bool) : Nat → List (Nat × Nat) × Nat
  | 0 => ([], 0)
  | n + 1 => if f n then ((sp f n).1, (sp f n).2 + 1) else (if 0 < (sp f n).2 then (sp f n).1 ++ [(n - (sp f n).2, (sp f n).2)] else (sp f n).1, 0)
theorem sp_skip (f : Nat → Bool) (p : Nat) (acc : List (Nat × Nat)) (h : sp f p = (acc, 0)) : ∀ d, (∀ i, i < d → f (p + i) = false) → sp f (p + d) = (acc, 0)
  | 0, _ => h
  | d + 1, hf => by
    have ih := sp_skip f p acc h d (fun i hi => hf i (by omega))
    rw [← Nat.add_assoc, sp, hf d (by omega), ih]
    rfl
theorem sp_run (f : Nat → Bool) (t : Nat) (acc : List (Nat × Nat)) (h : sp f t = (acc, 0)) : ∀ d, (∀ i, i < d → f (t + i) = true) → sp f (t + d) = (acc, d)
  | 0, _ => h
  | d + 1, hf => by
    have ih := sp_run f t acc h d (fun i hi => hf i (by omega))
    rw [← Nat.add_assoc, sp, hf d (by omega), ih]
    rfl
theorem sp_close (f : Nat → Bool) (t c : Nat) (acc : List (Nat × Nat)) (h : sp f (t + c) = (acc, c)) (hc : 0 < c) (hf : f (t + c) = false) : sp f (t + c + 1) = (acc ++ [(t, c)], 0) := by
  rw [sp, hf, h]
  simp [hc]
/-- the implementation's step: x holds f from p on; its lowest bit is t, its run is c long. -/
theorem sp_step (f : Nat → Bool) (p t c x : Nat) (acc : List (Nat × Nat)) (h : sp f p = (acc, 0)) (hx : ∀ i, x.testBit i = (f i && decide (p ≤ i))) (ht : x.testBit t = true) (hlow : ∀ i, i < t → x.testBit i = false)
    (hrun : ∀ i, i < c → x.testBit (t + i) = true) (hend : x.testBit (t + c) = false) : 0 < c ∧ sp f (t + c + 1) = (acc ++ [(t, c)], 0) := by
  have hpt : p ≤ t := by
    rw [hx, Bool.and_eq_true] at ht
    exact of_decide_eq_true ht.2
  have hc : 0 < c := by
    apply Nat.pos_of_ne_zero
    intro e
    subst e
    rw [Nat.add_zero, ht] at hend
    exact absurd hend (by decide)
  have h1 := sp_skip f p acc h (t - p) (fun i hi => by
    have := hlow (p + i) (by omega)
    rw [hx, decide_eq_true (by omega), Bool.and_true] at this
    exact this)
  rw [show p + (t - p) = t from by omega] at h1
  have h2 := sp_run f t acc h1 c (fun i hi => by
    have := hrun i hi
    rw [hx, decide_eq_true (by omega), Bool.and_true] at this
    exact this)
  have h3 : f (t + c) = false := by
    rw [hx, decide_eq_true (by omega), Bool.and_true] at hend
    exact hend
  exact ⟨hc, sp_close f t c acc h2 hc h3⟩
theorem sp_end (f : Nat → Bool) (p n : Nat) (acc : List (Nat × Nat)) (h : sp f p = (acc, 0)) (hx : ∀ i, (f i && decide (p ≤ i)) = false) (hn : p ≤ n) : sp f n = (acc, 0) := by
  have := sp_skip f p acc h (n - p) (fun i _ => by
    have := hx (p + i)
    rw [decide_eq_true (by omega), Bool.and_true] at this
    exact this)
  rw [show p + (n - p) = n from by omega] at this
  exact this
/-- the complement's lowest bit is the run's length. -/
theorem run_len (x t : Nat) (hx : x < 16777216) : (∀ i, i < Lib.ctz 64 (18446744073709551615 - x / 2 ^ t) → x.testBit (t + i) = true) ∧ x.testBit (t + Lib.ctz 64 (18446744073709551615 - x / 2 ^ t)) = false := by
  have h1 : x / 2 ^ t ≤ x := Nat.div_le_self _ _
  have hy : x / 2 ^ t < 2 ^ 64 := by omega
  have e : 18446744073709551615 - x / 2 ^ t = 2 ^ 64 - (x / 2 ^ t + 1) := by omega
  rw [e]
  have hb : ∀ i, (2 ^ 64 - (x / 2 ^ t + 1)).testBit i = (decide (i < 64) && !(x / 2 ^ t).testBit i) := fun i => Nat.testBit_two_pow_sub_succ hy i
  have hy2 : x / 2 ^ t ≤ 16777215 := by omega
  have hlt : 2 ^ 64 - (x / 2 ^ t + 1) < 2 ^ 64 := by
    generalize x / 2 ^ t = y at hy2
    omega
  have hne : 2 ^ 64 - (x / 2 ^ t + 1) ≠ 0 := by
    generalize x / 2 ^ t = y at hy2
    omega
  obtain ⟨h2, h3⟩ := low_bit (2 ^ 64 - (x / 2 ^ t + 1)) hne hlt
  obtain ⟨k, hk⟩ : ∃ k, Lib.ctz 64 (2 ^ 64 - (x / 2 ^ t + 1)) = k := ⟨_, rfl⟩
  rw [hk] at h2 h3 ⊢
  rw [hb, Bool.and_eq_true] at h2
  have hk64 : k < 64 := of_decide_eq_true h2.1
  constructor
  · intro i hi
    have := h3 i hi
    rw [hb, decide_eq_true (by omega : i < 64), Bool.true_and, Nat.testBit_div_two_pow] at this
    have h4 : x.testBit (i + t) = true := by
      cases hh : x.testBit (i + t) with
      | true => rfl
      | false => rw [hh] at this; exact absurd this (by decide)
    first | exact h4 | (rw [Nat.add_comm]; exact h4)
  · have := h2.2
    rw [Nat.testBit_div_two_pow] at this
    have h4 : x.testBit (k + t) = false := by
      cases hh : x.testBit (k + t) with
      | false => rfl
      | true => rw [hh] at this; exact absurd this (by decide)
    first | exact h4 | (rw [Nat.add_comm]; exact h4)
end Go.Proofs.YtnbeomnlobfpfaaDoor
