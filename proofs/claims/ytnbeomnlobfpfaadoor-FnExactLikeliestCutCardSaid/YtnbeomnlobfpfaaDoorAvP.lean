/- States of a network: sums of weights, unions of chosen sets; the parts of a network as lists. Plain mathematics, no condition but those typed. -/
import Derived.Test.YtnbeomnlobfpfaaDoorWt
import Derived.Test.YtnbeomnlobfpfaaDoorLab
namespace Go.Proofs.YtnbeomnlobfpfaaDoor
open Go.ChangeShapes Go.WideShapes Go.ChangeAt Go.RowKit

/-- the union of the sets that are chosen. -/
def orN (p : Nat → Bool) (m : Nat → Nat) : Nat → Nat
  | 0 => 0
  | k + 1 => if p k then orN p m k ||| m k else orN p m k
theorem orN_yes {p : Nat → Bool} {m : Nat → Nat} {k : Nat} (h : p k = true) : orN p m (k + 1) = orN p m k ||| m k := by rw [orN, if_pos h]
theorem orN_no {p : Nat → Bool} {m : Nat → Nat} {k : Nat} (h : p k = false) : orN p m (k + 1) = orN p m k := by rw [orN, h]; rfl
theorem orN_test {p : Nat → Bool} {m : Nat → Nat} {i : Nat} : ∀ {k : Nat}, (orN p m k).testBit i = true ↔ ∃ j, j < k ∧ p j = true ∧ (m j).testBit i = true
  | 0 => by
    constructor
    · intro h; have h2 : (0 : Nat).testBit i = true := h; rw [Nat.zero_testBit] at h2; cases h2
    · rintro ⟨j, hj, _⟩; omega
  | k + 1 => by
    have ih := orN_test (p := p) (m := m) (i := i) (k := k)
    cases hp : p k with
    | true =>
      rw [orN_yes hp, Nat.testBit_or, Bool.or_eq_true, ih]
      constructor
      · rintro (⟨j, hj, h1, h2⟩ | h)
        · exact ⟨j, by omega, h1, h2⟩
        · exact ⟨k, by omega, hp, h⟩
      · rintro ⟨j, hj, h1, h2⟩
        by_cases e : j = k
        · subst e; exact .inr h2
        · exact .inl ⟨j, by omega, h1, h2⟩
    | false =>
      rw [orN_no hp, ih]
      constructor
      · rintro ⟨j, hj, h1, h2⟩; exact ⟨j, by omega, h1, h2⟩
      · rintro ⟨j, hj, h1, h2⟩
        by_cases e : j = k
        · subst e; rw [hp] at h1; cases h1
        · exact ⟨j, by omega, h1, h2⟩
theorem orN_lt {p : Nat → Bool} {m : Nat → Nat} {B : Nat} : ∀ {k : Nat}, (∀ j, j < k → m j < 2 ^ B) → orN p m k < 2 ^ B
  | 0, _ => Nat.two_pow_pos B
  | k + 1, h => by
    have ih := orN_lt (p := p) (k := k) (fun j hj => h j (by omega))
    cases hp : p k with
    | true => rw [orN_yes hp]; exact Nat.or_lt_two_pow ih (h k (by omega))
    | false => rw [orN_no hp]; exact ih
theorem orN_zero {p : Nat → Bool} {m : Nat → Nat} {k : Nat} (h : ∀ j, j < k → p j = false) : orN p m k = 0 := by
  refine Nat.eq_of_testBit_eq fun i => ?_
  rw [Nat.zero_testBit]
  refine Bool.eq_false_iff.2 fun e => ?_
  obtain ⟨j, hj, h1, _⟩ := orN_test.1 e
  rw [h j hj] at h1; cases h1
theorem orN_ext {p q : Nat → Bool} {m m' : Nat → Nat} : ∀ {k : Nat}, (∀ j, j < k → p j = q j) → (∀ j, j < k → m j = m' j) → orN p m k = orN q m' k
  | 0, _, _ => rfl
  | k + 1, h, h2 => by
    have ih := orN_ext (k := k) (fun j hj => h j (by omega)) (fun j hj => h2 j (by omega))
    unfold orN
    rw [ih, h k (by omega), h2 k (by omega)]
/-- one that is chosen is taken out. -/
theorem orN_take {p q : Nat → Bool} {m : Nat → Nat} {k t : Nat} (ht : t < k) (hp : p t = true) (hq : ∀ i, q i = (p i && decide (i ≠ t))) : m t ||| orN q m k = orN p m k := by
  refine Nat.eq_of_testBit_eq fun i => ?_
  rw [Nat.testBit_or, Bool.eq_iff_iff, Bool.or_eq_true, orN_test, orN_test]
  constructor
  · rintro (h | ⟨j, hj, h1, h2⟩)
    · exact ⟨t, ht, hp, h⟩
    · rw [hq, Bool.and_eq_true] at h1; exact ⟨j, hj, h1.1, h2⟩
  · rintro ⟨j, hj, h1, h2⟩
    by_cases e : j = t
    · subst e; exact .inl h2
    · exact .inr ⟨j, hj, by rw [hq, h1, decide_eq_true e]; rfl, h2⟩

/-- sums. -/
def sumW (g : Nat → Int) : Nat → Int
  | 0 => 0
  | f + 1 => sumW g f + g f
theorem sumW_add (g : Nat → Int) (a : Nat) : ∀ b, sumW g (a + b) = sumW g a + sumW (fun i => g (a + i)) b
  | 0 => by show sumW g a = sumW g a + 0; omega
  | b + 1 => by
    have ih := sumW_add g a b
    show sumW g (a + b) + g (a + b) = sumW g a + (sumW (fun i => g (a + i)) b + g (a + b))
    omega
theorem sumW_mul (g : Nat → Int) (c : Int) : ∀ n, sumW (fun f => g f * c) n = sumW g n * c
  | 0 => by show (0 : Int) = 0 * c; omega
  | n + 1 => by
    have ih := sumW_mul g c n
    show sumW (fun f => g f * c) n + g n * c = (sumW g n + g n) * c
    rw [ih, Int.add_mul]
theorem sumW_ext {g h : Nat → Int} : ∀ {n : Nat}, (∀ i, i < n → g i = h i) → sumW g n = sumW h n
  | 0, _ => rfl
  | n + 1, e => by
    show sumW g n + g n = sumW h n + h n
    rw [sumW_ext (n := n) (fun i hi => e i (by omega)), e n (by omega)]
theorem sumW_mono {g : Nat → Int} (h : ∀ i, 0 ≤ g i) (a : Nat) : ∀ b, sumW g a ≤ sumW g (a + b)
  | 0 => Int.le_refl _
  | b + 1 => by
    have ih := sumW_mono h a b
    have := h (a + b)
    show sumW g a ≤ sumW g (a + b) + g (a + b)
    omega
theorem wtN_ext {u : Int} {ds : List Int} {f f' : Nat} : ∀ {k : Nat}, (∀ j, j < k → f.testBit j = f'.testBit j) → wtN u ds f k = wtN u ds f' k
  | 0, _ => rfl
  | k + 1, h => by
    unfold wtN
    rw [wtN_ext (k := k) (fun j hj => h j (by omega)), h k (by omega)]
theorem sum_wt (u : Int) (ds : List Int) : ∀ k, sumW (fun f => wtN u ds f k) (2 ^ k) = u ^ k
  | 0 => by simp [sumW, wtN]
  | k + 1 => by
    have ih := sum_wt u ds k
    have e1 : sumW (fun f => wtN u ds f (k + 1)) (2 ^ k) = u ^ k * (u - nth ds k) := by
      rw [← ih, ← sumW_mul]
      refine sumW_ext fun i hi => ?_
      show wtN u ds i k * (if i.testBit k then nth ds k else u - nth ds k) = _
      rw [Nat.testBit_lt_two_pow hi]; rfl
    have e2 : sumW (fun i => wtN u ds (2 ^ k + i) (k + 1)) (2 ^ k) = u ^ k * nth ds k := by
      rw [← ih, ← sumW_mul]
      refine sumW_ext fun i hi => ?_
      show wtN u ds (2 ^ k + i) k * (if (2 ^ k + i).testBit k then nth ds k else u - nth ds k) = _
      rw [Nat.testBit_two_pow_add_eq, Nat.testBit_lt_two_pow hi, wtN_ext (f' := i) (fun j hj => Nat.testBit_two_pow_add_gt hj i)]; rfl
    rw [show (2 : Nat) ^ (k + 1) = 2 ^ k + 2 ^ k by rw [Nat.pow_succ]; omega, sumW_add, e1, e2, Int.pow_succ, ← Int.mul_add]
    congr 1; omega
/-- the weights of the states that are good. -/
def avN (wt : Nat → Int) (good : Nat → Bool) : Nat → Int
  | 0 => 0
  | f + 1 => avN wt good f + (if good f then wt f else 0)
theorem av_yes {wt : Nat → Int} {good : Nat → Bool} {f : Nat} (h : good f = true) : avN wt good (f + 1) = avN wt good f + wt f := by rw [avN, if_pos h]
theorem av_no {wt : Nat → Int} {good : Nat → Bool} {f : Nat} (h : good f = false) : avN wt good (f + 1) = avN wt good f := by rw [avN, h]; show _ + 0 = _; omega
theorem av_zero {wt : Nat → Int} {good : Nat → Bool} {f : Nat} (h : wt f = 0) : avN wt good (f + 1) = avN wt good f := by
  rw [avN, h]; split <;> omega
theorem av_ext {wt wt' : Nat → Int} {good good' : Nat → Bool} : ∀ {f : Nat}, (∀ i, i < f → wt i = wt' i) → (∀ i, i < f → good i = good' i) → avN wt good f = avN wt' good' f
  | 0, _, _ => rfl
  | f + 1, h1, h2 => by
    unfold avN
    rw [av_ext (f := f) (fun i hi => h1 i (by omega)) (fun i hi => h2 i (by omega)), h1 f (by omega), h2 f (by omega)]
theorem av_in {wt : Nat → Int} {good : Nat → Bool} (h : ∀ i, 0 ≤ wt i) : ∀ f, 0 ≤ avN wt good f ∧ avN wt good f ≤ sumW wt f
  | 0 => ⟨Int.le_refl _, Int.le_refl _⟩
  | f + 1 => by
    have ih := av_in (good := good) h f
    have := h f
    show 0 ≤ avN wt good f + (if good f then wt f else 0) ∧ avN wt good f + (if good f then wt f else 0) ≤ sumW wt f + wt f
    split <;> omega
/-- what a sum of weights may be. -/
theorem av_bd {u : Int} {ds : List Int} {n : Nat} (hu0 : 0 ≤ u) (hu : u ≤ 20) (hd : ∀ j, j < n → 0 ≤ nth ds j ∧ nth ds j ≤ u) (hn : n ≤ 14) (good : Nat → Bool) {f : Nat} (hf : f < 2 ^ n) :
    0 ≤ avN (fun x => wtN u ds x n) good f ∧ 0 ≤ wtN u ds f n ∧ avN (fun x => wtN u ds x n) good f + wtN u ds f n ≤ 20 ^ 14 := by
  have hp : ∀ i, 0 ≤ (fun x => wtN u ds x n) i := fun i => (wtN_in hu0 hu hd).1
  have h1 := av_in (good := good) hp f
  have h2 := sumW_mono hp (f + 1) (2 ^ n - (f + 1))
  rw [show f + 1 + (2 ^ n - (f + 1)) = 2 ^ n by omega, sum_wt] at h2
  have h3 : sumW (fun x => wtN u ds x n) (f + 1) = sumW (fun x => wtN u ds x n) f + wtN u ds f n := rfl
  have h4 : u ^ n ≤ 20 ^ 14 := by
    obtain ⟨un, rfl⟩ : ∃ un : Nat, u = un := ⟨u.toNat, by omega⟩
    have a1 : un ^ n ≤ 20 ^ n := Nat.pow_le_pow_left (by omega) n
    have a2 : 20 ^ n ≤ 20 ^ 14 := Nat.pow_le_pow_right (by decide) hn
    exact_mod_cast Nat.le_trans a1 a2
  have h5 := hp f
  exact ⟨h1.1, h5, by simp only at h5; omega⟩

/-- all nodes are connected with the first one. -/
def allC (n1 : Nat) (fs : List Q4) (gone : Nat) : Prop := ∀ i, i < n1 → Cn fs gone 0 (i : Int)
theorem setN_full (p : Nat → Bool) (k : Nat) : setN p k = 2 ^ k - 1 ↔ ∀ i, i < k → p i = true := by
  constructor
  · intro e i hi
    have h1 := setN_test p i k
    rw [e, Nat.testBit_two_pow_sub_one, decide_eq_true hi, Bool.true_and] at h1
    exact h1.symm
  · intro h
    refine Nat.eq_of_testBit_eq fun i => ?_
    rw [setN_test, Nat.testBit_two_pow_sub_one]
    by_cases hi : i < k
    · rw [h i hi, Bool.and_true]
    · rw [decide_eq_false hi, Bool.false_and]
theorem rch_full (n1 : Nat) (fs : List Q4) (gone : Nat) : rchN n1 fs gone 0 = 2 ^ n1 - 1 ↔ allC n1 fs gone := by
  unfold rchN
  rw [setN_full]
  exact ⟨fun h i hi => of_pb (h i hi), fun h i hi => pb_true (h i hi)⟩
/-- all labels are 0 where all nodes are connected. -/
theorem lab_all {n1 : Nat} {fs : List Q4} {gone : Nat} {L : List Int} (h : LabP n1 fs gone L) (h0 : 0 < n1) : (∀ i, i < n1 → L.getD i 0 = 0) ↔ allC n1 fs gone := by
  have b0 := h.bd 0 h0
  have l0 := h.least 0 0 h0 h0 (Cn.refl _)
  constructor
  · intro hz i hi
    exact (h.same h0 hi).1 (by rw [hz 0 h0, hz i hi])
  · intro ha i hi
    rw [← (h.same h0 hi).2 (ha i hi)]
    have : L.getD 0 0 ≤ ((0 : Nat) : Int) := l0
    omega
/-- the labels, told by the first node of each part. -/
theorem lab_bit {n1 : Nat} {fs : List Q4} {gone : Nat} {L : List Int} (h : LabP n1 fs gone L) {i : Nat} (hi : i < n1) : (rchN n1 fs gone (i : Int)).testBit (L.getD i 0).toNat = true ∧ ∀ j, j < (L.getD i 0).toNat → (rchN n1 fs gone (i : Int)).testBit j = false := by
  have hb := h.bd i hi
  have hc := h.cn i hi
  unfold rchN
  constructor
  · rw [setN_test, decide_eq_true (by omega), Bool.true_and]
    exact pb_true (by rw [show ((L.getD i 0).toNat : Int) = L.getD i 0 by omega]; exact hc)
  · intro j hj
    rw [setN_test, decide_eq_true (by omega), Bool.true_and]
    refine pb_false fun hcn => ?_
    have := h.least i j hi (by omega) hcn
    omega
end Go.Proofs.YtnbeomnlobfpfaaDoor
