/- Plain words: which nodes are connected without a set of fibers; sets of small numbers as masks. No condition. -/
import Derived.Test.YtlgkjidginibdaaGB
namespace Go.Proofs.Ytlgkjidginibdaa
open Go.RowKit

/-- fiber i has the ends a and b, in some order. -/
def Ends (fs : List Q4) (i : Nat) (a b : Int) : Prop := i < fs.length ∧ (((fibI fs (i : Int)).a = a ∧ (fibI fs (i : Int)).b = b) ∨ ((fibI fs (i : Int)).b = a ∧ (fibI fs (i : Int)).a = b))
theorem fib_at {fs : List Q4} {i : Nat} (h : i < fs.length) : fibI fs (i : Int) = fs[i] := by
  unfold fibI
  have e : ((i : Int)).toNat = i := by omega
  rw [e, List.getD_eq_getElem?_getD, List.getElem?_eq_getElem h]; rfl
theorem Ends.symm {fs : List Q4} {i : Nat} {a b : Int} (h : Ends fs i a b) : Ends fs i b a := ⟨h.1, h.2.elim (fun e => .inr ⟨e.2, e.1⟩) (fun e => .inl ⟨e.2, e.1⟩)⟩
inductive Cn (fs : List Q4) (gone : Nat) : Int → Int → Prop
  | refl (a : Int) : Cn fs gone a a
  | step {a b c : Int} (h : Cn fs gone a b) (i : Nat) (hg : gone.testBit i = false) (he : Ends fs i b c) : Cn fs gone a c
theorem Cn.trans {fs : List Q4} {gone : Nat} {a b c : Int} (h : Cn fs gone a b) (k : Cn fs gone b c) : Cn fs gone a c := by
  induction k with
  | refl => exact h
  | step _ i hg he ih => exact .step ih i hg he
theorem Cn.one {fs : List Q4} {gone : Nat} {a b : Int} {i : Nat} (hg : gone.testBit i = false) (he : Ends fs i a b) : Cn fs gone a b := .step (.refl a) i hg he
theorem Cn.symm {fs : List Q4} {gone : Nat} {a b : Int} (h : Cn fs gone a b) : Cn fs gone b a := by
  induction h with
  | refl => exact .refl _
  | step _ i hg he ih => exact (Cn.one hg he.symm).trans ih
theorem Cn.mono {fs : List Q4} {gone gone' : Nat} {a b : Int} (h : Cn fs gone a b) (hs : ∀ i, gone.testBit i = false → gone'.testBit i = false) : Cn fs gone' a b := by
  induction h with
  | refl => exact .refl _
  | step _ i hg he ih => exact .step ih i (hs i hg) he
/-- a set that is closed under the fibers that stay. -/
theorem Cn.closed {fs : List Q4} {gone : Nat} {S : Int → Prop} (hc : ∀ i a b, gone.testBit i = false → Ends fs i a b → S a → S b) {a b : Int} (h : Cn fs gone a b) (ha : S a) : S b := by
  induction h with
  | refl => exact ha
  | step _ i hg he ih => exact hc i _ _ hg he ih
theorem Cn.node {ss : List ByteArray} {fs : List Q4} (hv : netP ss fs) {gone : Nat} {a b : Int} (h : Cn fs gone a b) (ha : 0 ≤ a ∧ a < ss.length) : 0 ≤ b ∧ b < ss.length := by
  refine h.closed (S := fun x => 0 ≤ x ∧ x < ss.length) (fun i x y _ he _ => ?_) ha
  have hf := (hv.2.2.2 i he.1 he.1).1
  have e : fibI fs (i : Int) = fs[i]'he.1 := fib_at he.1
  have h2 := he.2
  simp only [e] at h2
  obtain ⟨f1, f2, f3, _⟩ := hf
  rcases h2 with ⟨h3, h4⟩ | ⟨h3, h4⟩
  · exact ⟨by omega, by omega⟩
  · exact ⟨by omega, by omega⟩
/-- the numbers below k with a property, as a mask. -/
def setN (p : Nat → Bool) : Nat → Nat
  | 0 => 0
  | k + 1 => setN p k ||| (if p k then 2 ^ k else 0)
theorem setN_test (p : Nat → Bool) (i : Nat) : ∀ k, (setN p k).testBit i = (decide (i < k) && p i)
  | 0 => by simp [setN]
  | k + 1 => by
    rw [setN, Nat.testBit_or, setN_test p i k]
    by_cases h : i = k
    · subst h
      by_cases hp : p i = true
      · rw [hp]; simp [Nat.testBit_two_pow_self]
      · have hp : p i = false := by simpa using hp
        rw [hp]; simp
    · have e : (if p k then 2 ^ k else 0).testBit i = false := by
        split
        · exact Nat.testBit_two_pow_of_ne (fun e => h e.symm)
        · exact Nat.zero_testBit i
      rw [e, Bool.or_false]
      by_cases h2 : i < k
      · rw [decide_eq_true h2, decide_eq_true (by omega : i < k + 1)]
      · rw [decide_eq_false h2, decide_eq_false (by omega : ¬ i < k + 1)]
theorem setN_eq {p : Nat → Bool} {k m : Nat} (h : ∀ i, m.testBit i = (decide (i < k) && p i)) : m = setN p k := Nat.eq_of_testBit_eq fun i => by rw [h i, setN_test]
theorem setN_lt (p : Nat → Bool) : ∀ k, setN p k < 2 ^ k
  | 0 => by simp [setN]
  | k + 1 => by
    have h := setN_lt p k
    rw [setN]
    refine Nat.or_lt_two_pow (Nat.lt_of_lt_of_le h (Nat.pow_le_pow_right (by decide) (by omega))) ?_
    split
    · exact Nat.pow_lt_pow_right (by decide) (by omega)
    · exact Nat.two_pow_pos _
theorem setN_ext {p q : Nat → Bool} {k : Nat} : setN p k = setN q k ↔ ∀ i, i < k → p i = q i := by
  constructor
  · intro h i hi
    have h1 := setN_test p i k
    rw [h, setN_test q i k, decide_eq_true hi] at h1
    simpa using h1.symm
  · intro h
    refine setN_eq fun i => ?_
    rw [setN_test]
    by_cases hi : i < k
    · rw [h i hi]
    · rw [decide_eq_false hi, Bool.false_and, Bool.false_and]
/-- the nodes that are reached. -/
noncomputable def rchN (n1 : Nat) (fs : List Q4) (gone : Nat) (x : Int) : Nat := setN (fun v => pb (Cn fs gone x (v : Int))) n1
/-- labels of the nodes: the smallest one of each part. -/
structure LabP (n1 : Nat) (fs : List Q4) (gone : Nat) (L : List Int) : Prop where
  len : L.length = n1
  cn : ∀ i, i < n1 → Cn fs gone (i : Int) (L.getD i 0)
  least : ∀ i j, i < n1 → j < n1 → Cn fs gone (i : Int) (j : Int) → L.getD i 0 ≤ (j : Int)
  bd : ∀ i, i < n1 → 0 ≤ L.getD i 0 ∧ L.getD i 0 < n1
theorem LabP.same {n1 : Nat} {fs : List Q4} {gone : Nat} {L : List Int} (h : LabP n1 fs gone L) {i j : Nat} (hi : i < n1) (hj : j < n1) : L.getD i 0 = L.getD j 0 ↔ Cn fs gone (i : Int) (j : Int) := by
  constructor
  · intro e
    have h1 := h.cn i hi
    have h2 := h.cn j hj
    rw [e] at h1
    exact h1.trans h2.symm
  · intro hc
    have h1 := h.cn i hi
    have h2 := h.cn j hj
    have b1 := h.bd i hi
    have b2 := h.bd j hj
    have l1 := h.least i (L.getD j 0).toNat hi (by omega) (by rw [show ((L.getD j 0).toNat : Int) = L.getD j 0 by omega]; exact hc.trans h2)
    have l2 := h.least j (L.getD i 0).toNat hj (by omega) (by rw [show ((L.getD i 0).toNat : Int) = L.getD i 0 by omega]; exact hc.symm.trans h1)
    omega
end Go.Proofs.Ytlgkjidginibdaa
