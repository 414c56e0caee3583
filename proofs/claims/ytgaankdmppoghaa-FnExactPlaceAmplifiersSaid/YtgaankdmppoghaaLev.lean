/- Words of our own: spans, amplifiers and the levels along a line, am plain functions. No condition. -/
import Derived.Test.YtgaankdmppoghaaAll
import Derived.Test.YtgaankdmppoghaaQ3
namespace Go.Proofs.Ytgaankdmppoghaa
open Go.ChangeShapes Go.WideShapes Go.ChangeAt Go.RowKit

def spB (q : Q3) : Bool := inB q.a 0 1000 && inB q.b 0 1000 && inB q.c 0 50
def lossI (q : Q3) : Int := (q.a * q.b + 999) / 1000 + 5 * q.c
theorem spB_true {q : Q3} (h : spB q = true) : (0 ≤ q.a ∧ q.a ≤ 1000) ∧ (0 ≤ q.b ∧ q.b ≤ 1000) ∧ 0 ≤ q.c ∧ q.c ≤ 50 := by
  unfold spB at h
  simp only [Bool.and_eq_true] at h
  exact ⟨inB_true h.1.1, inB_true h.1.2, inB_true h.2⟩
theorem spB_mk {q : Q3} (h : (0 ≤ q.a ∧ q.a ≤ 1000) ∧ (0 ≤ q.b ∧ q.b ≤ 1000) ∧ 0 ≤ q.c ∧ q.c ≤ 50) : spB q = true := by
  unfold spB; rw [inB_mk h.1.1 h.1.2, inB_mk h.2.1.1 h.2.1.2, inB_mk h.2.2.1 h.2.2.2]; rfl
theorem spB_no {q : Q3} (h : ¬ ((0 ≤ q.a ∧ q.a ≤ 1000) ∧ (0 ≤ q.b ∧ q.b ≤ 1000) ∧ 0 ≤ q.c ∧ q.c ≤ 50)) : spB q = false := by
  cases h2 : spB q with
  | false => rfl
  | true => exact absurd (spB_true h2) h
theorem prod_bd {a b : Int} (h0 : 0 ≤ a) (h1 : a ≤ 1000) (h2 : 0 ≤ b) (h3 : b ≤ 1000) : 0 ≤ a * b ∧ a * b ≤ 1000000 :=
  ⟨Int.mul_nonneg h0 h2, by have := Int.mul_le_mul h1 h3 h2 (by omega : (0 : Int) ≤ 1000); omega⟩
theorem loss_bd {q : Q3} (h : spB q = true) : 0 ≤ lossI q ∧ lossI q ≤ 1250 := by
  obtain ⟨h1, h2, h3⟩ := spB_true h
  have h4 := prod_bd h1.1 h1.2 h2.1 h2.2
  unfold lossI
  omega
def levB (x : Int) : Bool := inB x (-10000) 10000
def lineB (qs : List Q3) : Bool := decide (1 ≤ qs.length ∧ qs.length ≤ 12) && qs.all spB
/-- an amplifier: After, Gain, Output, Noise. -/
def kindB (a : Q4) : Bool := inB a.b 0 10000 && levB a.c && inB a.d 0 10000
theorem kindB_true {q : Q4} (h : kindB q = true) : (0 ≤ q.b ∧ q.b ≤ 10000) ∧ (-10000 ≤ q.c ∧ q.c ≤ 10000) ∧ 0 ≤ q.d ∧ q.d ≤ 10000 := by
  unfold kindB levB at h
  simp only [Bool.and_eq_true] at h
  exact ⟨inB_true h.1.1, inB_true h.1.2, inB_true h.2⟩
theorem kindB_mk {q : Q4} (h : (0 ≤ q.b ∧ q.b ≤ 10000) ∧ (-10000 ≤ q.c ∧ q.c ≤ 10000) ∧ 0 ≤ q.d ∧ q.d ≤ 10000) : kindB q = true := by
  unfold kindB levB; rw [inB_mk h.1.1 h.1.2, inB_mk h.2.1.1 h.2.1.2, inB_mk h.2.2.1 h.2.2.2]; rfl
theorem kindB_no {q : Q4} (h : ¬ ((0 ≤ q.b ∧ q.b ≤ 10000) ∧ (-10000 ≤ q.c ∧ q.c ≤ 10000) ∧ 0 ≤ q.d ∧ q.d ≤ 10000)) : kindB q = false := by
  cases h2 : kindB q with
  | false => rfl
  | true => exact absurd (kindB_true h2) h
def amz : Q4 := ⟨-1, 0, 0, 0⟩
/-- the After of the amplifier ahead of the k-th, -1 ahead of the first. -/
def prevA (am : List Q4) : Nat → Int
  | 0 => -1
  | k + 1 => (am.getD k amz).a
/-- the k-th amplifier fits where n spans are. -/
def ampK (am : List Q4) (n : Int) (k : Nat) : Bool := kindB (am.getD k amz) && decide (0 ≤ (am.getD k amz).a ∧ (am.getD k amz).a < n ∧ prevA am k < (am.getD k amz).a)
def ampsP (am : List Q4) (n : Int) : Prop := ∀ k, k < am.length → ampK am n k = true
theorem prevA_bd {am : List Q4} {n : Int} : ∀ k, k ≤ am.length → (∀ j, j < k → ampK am n j = true) → -1 ≤ prevA am k
  | 0, _, _ => Int.le_refl _
  | k + 1, h, hp => by
    have := hp k (by omega)
    unfold ampK at this
    simp only [Bool.and_eq_true, decide_eq_true_eq] at this
    show -1 ≤ (am.getD k amz).a
    omega
def raiseI (a : Q4) (l : Int) : Int := max l (min (l + a.b) a.c)
theorem raise_bd {a : Q4} {l : Int} (h : kindB a = true) (h1 : -10000 ≤ l) (h2 : l ≤ 10000) : -10000 ≤ raiseI a l ∧ raiseI a l ≤ 10000 := by
  have := kindB_true h; unfold raiseI; omega
def spz : Q3 := ⟨0, 0, 0⟩
/-- behind k spans: the level, the number of amplifiers passed. -/
def lvS (qs : List Q3) (am : List Q4) (l : Int) : Nat → Int × Nat
  | 0 => (l, 0)
  | k + 1 =>
    let s := lvS qs am l k
    let x := s.1 - lossI (qs.getD k spz)
    if s.2 < am.length ∧ (am.getD s.2 amz).a = (k : Int) then (raiseI (am.getD s.2 amz) x, s.2 + 1) else (x, s.2)
/-- the level right behind the k-th span. -/
def befI (qs : List Q3) (am : List Q4) (l : Int) (k : Nat) : Int := (lvS qs am l k).1 - lossI (qs.getD k spz)
def befL (qs : List Q3) (am : List Q4) (l : Int) (k : Nat) : List Int := (List.range k).map (befI qs am l)
def aftL (qs : List Q3) (am : List Q4) (l : Int) (k : Nat) : List Int := (List.range k).map fun j => (lvS qs am l (j + 1)).1
theorem befL_succ (qs : List Q3) (am : List Q4) (l : Int) (k : Nat) : befL qs am l (k + 1) = befL qs am l k ++ [befI qs am l k] := by
  unfold befL; rw [List.range_succ, List.map_append]; rfl
theorem aftL_succ (qs : List Q3) (am : List Q4) (l : Int) (k : Nat) : aftL qs am l (k + 1) = aftL qs am l k ++ [(lvS qs am l (k + 1)).1] := by
  unfold aftL; rw [List.range_succ, List.map_append]; rfl
theorem befL_len (qs : List Q3) (am : List Q4) (l : Int) (k : Nat) : (befL qs am l k).length = k := by unfold befL; simp
theorem aftL_len (qs : List Q3) (am : List Q4) (l : Int) (k : Nat) : (aftL qs am l k).length = k := by unfold aftL; simp
def argsP (qs : List Q3) (am : List Q4) (l : Int) : Prop := lineB qs = true ∧ ampsP am (qs.length : Int) ∧ levB l = true
/-- every level right behind a span is a level. -/
def levP (qs : List Q3) (am : List Q4) (l : Int) : Prop := argsP qs am l ∧ ∀ k, k < qs.length → levB (befI qs am l k) = true
theorem lv_bd {qs : List Q3} {am : List Q4} {l : Int} (h : argsP qs am l) : ∀ k, k ≤ qs.length → (∀ j, j < k → levB (befI qs am l j) = true) → (-10000 ≤ (lvS qs am l k).1 ∧ (lvS qs am l k).1 ≤ 10000) ∧ (lvS qs am l k).2 ≤ am.length
  | 0, _, _ => ⟨inB_true h.2.2, Nat.zero_le _⟩
  | k + 1, hk, hj => by
    have ih := lv_bd h k (by omega) (fun j hj2 => hj j (by omega))
    have hb := inB_true (hj k (by omega))
    unfold befI at hb
    unfold lvS
    by_cases hc : (lvS qs am l k).2 < am.length ∧ (am.getD (lvS qs am l k).2 amz).a = (k : Int)
    · rw [if_pos hc]
      have ha := h.2.1 _ hc.1
      unfold ampK at ha
      simp only [Bool.and_eq_true] at ha
      exact ⟨raise_bd ha.1 hb.1 hb.2, hc.1⟩
    · rw [if_neg hc]
      exact ⟨hb, ih.2⟩
end Go.Proofs.Ytgaankdmppoghaa
