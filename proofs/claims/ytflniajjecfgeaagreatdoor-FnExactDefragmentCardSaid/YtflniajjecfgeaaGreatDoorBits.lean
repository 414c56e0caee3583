/- Pure: masks of 24 slots as natural numbers; where a block fits; the last place. No condition but those typed. -/
import Derived.Laws.BitsLemmas
import Derived.Lib.BitFns
import Derived.Test.YtflniajjecfgeaaGreatDoorDBase
namespace Go.Proofs.YtflniajjecfgeaaGreatDoor
open Go

theorem wraps_i64 (n : Int) (h0 : 0 ≤ n) (h1 : n < 2 ^ 62) : IntKind.i64.wrap n = n := by rw [IntKind.wrap_i64]; omega
theorem and_i64 (a b : Nat) (ha : a < 2 ^ 62) (hb : b < 2 ^ 62) : bits .and .i64 (a : Int) (b : Int) = ((a &&& b : Nat) : Int) := (bits_nat .i64 62 (by decide) wraps_i64 a b ha hb).1
def freeN (m : Nat) : Nat := (BitVec.ofNat 64 16777215 &&& ~~~ BitVec.ofNat 64 m).toNat
theorem ones24 (i : Nat) : Nat.testBit 16777215 i = decide (i < 24) := by
  have := Nat.testBit_two_pow_sub_one 24 i
  simpa using this
theorem freeN_bit (m i : Nat) : (freeN m).testBit i = (decide (i < 24) && !m.testBit i) := by
  unfold freeN
  rw [BitVec.testBit_toNat, BitVec.getLsbD_and, BitVec.getLsbD_not, BitVec.getLsbD_ofNat, BitVec.getLsbD_ofNat, ones24]
  by_cases h : i < 24
  · have h2 : i < 64 := by omega
    simp [h, h2]
  · simp [h]
theorem freeN_lt (m : Nat) : freeN m < 16777216 := by
  unfold freeN
  rw [BitVec.toNat_and]
  have h := @Nat.and_le_left (BitVec.ofNat 64 16777215).toNat (~~~ BitVec.ofNat 64 m).toNat
  have e : (BitVec.ofNat 64 16777215).toNat = 16777215 := by decide
  omega
theorem bits_free (m : Nat) : bits .andNot .i64 16777215 (m : Int) = (freeN m : Int) := by
  have h := freeN_lt m
  show IntKind.i64.wrap ((BitVec.ofInt 64 ((16777215 : Nat) : Int) &&& ~~~ BitVec.ofInt 64 (m : Int)).toNat : Int) = _
  rw [BitVec.ofInt_natCast, BitVec.ofInt_natCast]
  exact wraps_i64 _ (Int.natCast_nonneg _) (by unfold freeN at h; omega)
def begN (m : Nat) : Nat → Nat
  | 0 => freeN m
  | k + 1 => begN m k &&& (freeN m / 2 ^ (k + 1))
theorem begN_lt (m : Nat) : ∀ k, begN m k < 16777216
  | 0 => freeN_lt m
  | k + 1 => Nat.lt_of_le_of_lt Nat.and_le_left (begN_lt m k)
theorem begN_bit (m i : Nat) : ∀ k, (begN m k).testBit i = true ↔ ∀ j, j ≤ k → (freeN m).testBit (i + j) = true
  | 0 => ⟨fun h j hj => by obtain rfl : j = 0 := by omega
                           exact h, fun h => h 0 (Nat.le_refl _)⟩
  | k + 1 => by
    unfold begN
    rw [Nat.testBit_and, Nat.testBit_div_two_pow, Bool.and_eq_true, begN_bit m i k]
    constructor
    · rintro ⟨h1, h2⟩ j hj
      by_cases hjk : j ≤ k
      · exact h1 j hjk
      · obtain rfl : j = k + 1 := by omega
        first | exact h2 | (rw [Nat.add_comm]; exact h2)
    · intro h
      refine ⟨fun j hj => h j (by omega), ?_⟩
      have := h (k + 1) (Nat.le_refl _)
      first | exact this | (rw [Nat.add_comm]; exact this)
theorem beg_step (m k f : Nat) (hf : freeN m = f) : bits .and .i64 (begN m k : Int) ((f : Int) / 2 ^ (k + 1)) = (begN m (k + 1) : Int) := by
  have h1 := begN_lt m k
  have h2 := freeN_lt m
  have e : (f : Int) / 2 ^ (k + 1) = ((f / 2 ^ (k + 1) : Nat) : Int) := by simp
  have h3 : f / 2 ^ (k + 1) ≤ f := Nat.div_le_self _ _
  rw [e, and_i64 _ _ (by omega) (by omega), ← hf]
  rfl
theorem top_bit (x : Nat) (h0 : x ≠ 0) (h : x < 2 ^ 64) : 1 ≤ Lib.bitLen x ∧ 2 ^ (Lib.bitLen x - 1) ≤ x ∧ x < 2 ^ Lib.bitLen x := by
  induction x using Nat.strongRecOn with
  | _ x ih =>
    rw [Lib.bitLen_half x h0 h]
    by_cases h2 : x / 2 = 0
    · have hx : x = 1 := by omega
      subst hx
      decide
    · obtain ⟨a, b, c⟩ := ih (x / 2) (by omega) h2 (by omega)
      obtain ⟨t, ht⟩ : ∃ t, Lib.bitLen (x / 2) = t + 1 := ⟨Lib.bitLen (x / 2) - 1, by omega⟩
      rw [ht] at b c ⊢
      have e1 : 1 + (t + 1) - 1 = t + 1 := by omega
      have e2 : 1 + (t + 1) = (t + 1) + 1 := by omega
      rw [e1, e2, Nat.pow_succ 2 (t + 1)]
      have e3 : t + 1 - 1 = t := by omega
      rw [e3] at b
      have e4 : 2 ^ (t + 1) = 2 ^ t * 2 := Nat.pow_succ 2 t
      omega
theorem filter_last (p : Nat → Bool) (t : Nat) (hp : p t = true) : ∀ n, t < n → (∀ i, t < i → i < n → p i = false) → (List.range n).filter p = (List.range t).filter p ++ [t]
  | 0, h, _ => absurd h (by omega)
  | n + 1, h, hall => by
    rw [List.range_succ, List.filter_append]
    by_cases e : t = n
    · subst e
      simp [hp]
    · have e2 : p n = false := hall n (by omega) (by omega)
      rw [filter_last p t hp n (by omega) (fun i h1 h2 => hall i h1 (by omega))]
      simp [e2]
theorem last_none (p : Nat → Bool) (n x : Nat) (hx : ∀ s, x.testBit s = true ↔ s < n ∧ p s = true) (h : x = 0) : (List.range n).filter p = [] := by
  subst h
  rw [List.filter_eq_nil_iff]
  intro s hs hps
  have := (hx s).2 ⟨by simpa using hs, hps⟩
  simp at this
theorem last_some (p : Nat → Bool) (n x : Nat) (hx : ∀ s, x.testBit s = true ↔ s < n ∧ p s = true) (h : x ≠ 0) (hl : x < 2 ^ 64) : 1 ≤ Lib.bitLen x ∧ (List.range n).filter p = (List.range (Lib.bitLen x - 1)).filter p ++ [Lib.bitLen x - 1] := by
  obtain ⟨h1, h2, h3⟩ := top_bit x h hl
  obtain ⟨t, ht⟩ : ∃ t, Lib.bitLen x = t + 1 := ⟨Lib.bitLen x - 1, by omega⟩
  rw [ht] at h2 h3 ⊢
  rw [Nat.add_sub_cancel] at h2 ⊢
  have hb : x.testBit t = true := Nat.testBit_of_two_pow_le_and_two_pow_add_one_gt h2 h3
  obtain ⟨b1, b2⟩ := (hx t).1 hb
  refine ⟨by omega, filter_last p t b2 n b1 fun i hi hin => ?_⟩
  have hf : x.testBit i = false := Nat.testBit_lt_two_pow (Nat.lt_of_lt_of_le h3 (Nat.pow_le_pow_right (by decide) hi))
  cases hpi : p i with
  | false => rfl
  | true => exact absurd ((hx i).2 ⟨hin, hpi⟩) (by rw [hf]; decide)
def fitB (m c s : Nat) : Bool := decide (m &&& ((2 ^ c - 1) * 2 ^ s) = 0)
theorem ones_bit (c s i : Nat) : ((2 ^ c - 1) * 2 ^ s).testBit i = (decide (s ≤ i) && decide (i - s < c)) := by
  rw [← Nat.shiftLeft_eq, Nat.testBit_shiftLeft, Nat.testBit_two_pow_sub_one]
theorem fitB_iff (m c s : Nat) : fitB m c s = true ↔ ∀ j, j < c → m.testBit (s + j) = false := by
  unfold fitB
  rw [decide_eq_true_iff]
  constructor
  · intro h j hj
    have e : (m &&& ((2 ^ c - 1) * 2 ^ s)).testBit (s + j) = false := by rw [h]; simp
    rw [Nat.testBit_and, ones_bit] at e
    have e2 : decide (s + j - s < c) = true := decide_eq_true (by omega)
    rw [e2, decide_eq_true (by omega : s ≤ s + j), Bool.and_true, Bool.and_true] at e
    exact e
  · intro h
    apply Nat.eq_of_testBit_eq
    intro i
    rw [Nat.testBit_and, ones_bit, Nat.zero_testBit]
    by_cases h1 : s ≤ i ∧ i - s < c
    · have := h (i - s) h1.2
      have e : s + (i - s) = i := by omega
      rw [e] at this
      simp [this]
    · by_cases h2 : s ≤ i
      · have h3 : ¬ i - s < c := fun h => h1 ⟨h2, h⟩
        simp [h3]
      · simp [h2]
theorem beg_iff (m c : Nat) (hc : 1 ≤ c) (hc2 : c ≤ 24) (s : Nat) : (begN m (c - 1)).testBit s = true ↔ s < 25 - c ∧ fitB m c s = true := by
  rw [begN_bit, fitB_iff]
  constructor
  · intro h
    have h1 := h (c - 1) (Nat.le_refl _)
    rw [freeN_bit] at h1
    simp only [Bool.and_eq_true, decide_eq_true_eq] at h1
    refine ⟨by omega, fun j hj => ?_⟩
    have h2 := h j (by omega)
    rw [freeN_bit] at h2
    rw [Bool.and_eq_true] at h2
    have h3 := h2.2
    cases hb : m.testBit (s + j) with
    | false => rfl
    | true => rw [hb] at h3; exact absurd h3 (by decide)
  · rintro ⟨h1, h2⟩ j hj
    rw [freeN_bit, h2 j (by omega), decide_eq_true (by omega : s + j < 24)]
    rfl
theorem bitsV_nat : ∀ c s : Fin 25, bitsV (s.val : Int) (c.val : Int) = (((2 ^ c.val - 1) * 2 ^ s.val : Nat) : Int) := by decide +kernel
theorem pow25 : ∀ c s : Fin 25, (2 ^ c.val - 1) * 2 ^ s.val < 2 ^ 62 := by decide +kernel
theorem fit_test (m c s : Nat) (hm : m ≤ 16777215) (hc : c ≤ 24) (hs : s ≤ 24) : bits .and .i64 (m : Int) (bitsV (s : Int) (c : Int)) = ((m &&& ((2 ^ c - 1) * 2 ^ s) : Nat) : Int) := by
  rw [bitsV_nat ⟨c, by omega⟩ ⟨s, by omega⟩]
  exact and_i64 _ _ (by omega) (pow25 ⟨c, by omega⟩ ⟨s, by omega⟩)
def fitK (m c k : Nat) : List Int := ((List.range k).filter (fitB m c)).map fun i : Nat => ((i : Nat) : Int)
theorem fitK_step (m c k : Nat) : fitK m c (k + 1) = fitK m c k ++ (if fitB m c k then [(k : Int)] else []) := by
  unfold fitK
  rw [List.range_succ, List.filter_append, List.map_append]
  congr 1
  cases h : fitB m c k <;> simp [h]
theorem fitK_len (m c k : Nat) : (fitK m c k).length ≤ k := by
  unfold fitK; rw [List.length_map]; exact Nat.le_trans (List.length_filter_le _ _) (by simp)
theorem fit_none (m c : Nat) (hc : 1 ≤ c) (hc2 : c ≤ 24) (h : begN m (c - 1) = 0) : fitK m c (25 - c) = [] := by
  unfold fitK; rw [last_none _ _ _ (beg_iff m c hc hc2) h]; rfl
theorem fit_some (m c : Nat) (hc : 1 ≤ c) (hc2 : c ≤ 24) (h : begN m (c - 1) ≠ 0) : ∃ ys : List Int, fitK m c (25 - c) = ys ++ [(Lib.bitLen (begN m (c - 1)) : Int) - 1] ∧ 1 ≤ Lib.bitLen (begN m (c - 1)) := by
  have hl := begN_lt m (c - 1)
  obtain ⟨h1, h2⟩ := last_some _ _ _ (beg_iff m c hc hc2) h (by omega)
  have e : ((Lib.bitLen (begN m (c - 1)) - 1 : Nat) : Int) = (Lib.bitLen (begN m (c - 1)) : Int) - 1 := by omega
  refine ⟨((List.range (Lib.bitLen (begN m (c - 1)) - 1)).filter (fitB m c)).map fun i : Nat => ((i : Nat) : Int), ?_, h1⟩
  unfold fitK
  rw [h2, List.map_append, List.map_cons, List.map_nil, e]
theorem fit_some' (m c : Nat) (hc : 1 ≤ c) (hc2 : c ≤ 24) (h : begN m (c - 1) ≠ 0) : ∃ ys : List Int, fitK m c (25 - c) = ys ++ [(Lib.bitLen (begN m (c - 1)) : Int) - 1] := by
  obtain ⟨ys, h1, _⟩ := fit_some m c hc hc2 h
  exact ⟨ys, h1⟩
end Go.Proofs.YtflniajjecfgeaaGreatDoor
