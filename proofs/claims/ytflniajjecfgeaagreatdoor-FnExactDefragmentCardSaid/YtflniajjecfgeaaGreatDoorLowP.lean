/- Pure: the lowest start of a light's block, two ways to say it. No condition but those typed. -/
import Derived.Test.YtflniajjecfgeaaGreatDoorGD
import Derived.Test.YtflniajjecfgeaaGreatDoorBoth
import Derived.Test.YtflniajjecfgeaaGreatDoorFirst
namespace Go.Proofs.YtflniajjecfgeaaGreatDoor
open Go.ChangeShapes Go.WideShapes Go.ChangeAt Go.RowKit

/-- the slots in the light's way: its own as well where the move is hitless. -/
def lowK (ds : List LtD) (a : Nat) (hl : Bool) : Nat → Nat
  | 0 => 0
  | k + 1 => lowK ds a hl k ||| (if (decide (k ≠ a) || hl) && usesB (dn ds a) (dn ds k) then bitN (dn ds k) else 0)
theorem low_lt {ds : List LtD} {a : Nat} {hl : Bool} : ∀ {k : Nat}, (∀ t, t < k → blkP (dn ds t).q0 (dn ds t).q1) → lowK ds a hl k < 2 ^ 24
  | 0, _ => by rw [lowK]; decide
  | k + 1, h => by
    have h1 := low_lt (a := a) (hl := hl) (k := k) (fun t ht => h t (by omega))
    have h2 := bitN_lt (h k (by omega))
    rw [lowK]
    refine Nat.or_lt_two_pow h1 ?_
    split
    · exact h2
    · decide
theorem low_and {ds : List LtD} {a : Nat} {hl : Bool} {b : Nat} : ∀ {k : Nat}, lowK ds a hl k &&& b = 0 ↔ ∀ t, t < k → (decide (t ≠ a) || hl) = true → usesB (dn ds a) (dn ds t) = true → bitN (dn ds t) &&& b = 0
  | 0 => by rw [lowK]; simp
  | k + 1 => by
    have ih := low_and (ds := ds) (a := a) (hl := hl) (b := b) (k := k)
    rw [lowK, Nat.and_or_distrib_right, Nat.or_eq_zero_iff, ih]
    constructor
    · intro ⟨h1, h2⟩ t ht hx hy
      by_cases htk : t < k
      · exact h1 t htk hx hy
      · obtain rfl : t = k := by omega
        rwa [if_pos (by rw [hx, hy]; rfl)] at h2
    · intro h
      refine ⟨fun t ht hx => h t (by omega) hx, ?_⟩
      cases hx : (decide (k ≠ a) || hl)
      · rw [Bool.false_and, if_neg Bool.false_ne_true, Nat.zero_and]
      · cases hy : usesB (dn ds a) (dn ds k)
        · rw [Bool.and_false, if_neg Bool.false_ne_true, Nat.zero_and]
        · rw [Bool.and_true, if_pos rfl]; exact h k (by omega) hx hy
theorem along_and {ds : List LtD} {fl : List Int} {b : Nat} : ∀ {k : Nat}, k ≤ fl.length → (alongK ds fl k &&& b = 0 ↔ ∀ i (h : i < fl.length), i < k → usedK ds ds.length fl[i] &&& b = 0)
  | 0, _ => by rw [alongK]; simp
  | k + 1, hk => by
    have ih := along_and (ds := ds) (fl := fl) (b := b) (k := k) (by omega)
    rw [along_at (show k < fl.length by omega) rfl, Nat.and_or_distrib_right, Nat.or_eq_zero_iff, ih]
    constructor
    · intro ⟨h1, h2⟩ i hi hik
      by_cases htk : i < k
      · exact h1 i hi htk
      · obtain rfl : i = k := by omega
        exact h2
    · intro h
      exact ⟨fun i hi hik => h i hi (by omega), h k (by omega) (by omega)⟩
theorem along_lt {ds : List LtD} {fl : List Int} (hb : ∀ t, t < ds.length → blkP (dn ds t).q0 (dn ds t).q1) : ∀ {k : Nat}, alongK ds fl k < 2 ^ 24
  | 0 => by rw [alongK]; decide
  | k + 1 => by rw [alongK]; exact Nat.or_lt_two_pow (along_lt hb) (used_lt hb)
/-- the lights but the a-th. -/
def outD (ds : List LtD) (a : Nat) : List LtD := ds.take a ++ ds.drop (a + 1)
theorem outD_len {ds : List LtD} {a : Nat} (ha : a < ds.length) : (outD ds a).length + 1 = ds.length := by unfold outD; rw [List.length_append, List.length_take, List.length_drop]; omega
theorem outD_low {ds : List LtD} {a t : Nat} (ha : a < ds.length) (h : t < a) : dn (outD ds a) t = dn ds t := by
  unfold dn outD
  rw [List.getD_eq_getElem?_getD, List.getD_eq_getElem?_getD, List.getElem?_append_left (by rw [List.length_take]; omega), List.getElem?_take, if_pos h]
theorem outD_high {ds : List LtD} {a t : Nat} (ha : a < ds.length) (h : a ≤ t) : dn (outD ds a) t = dn ds (t + 1) := by
  unfold dn outD
  rw [List.getD_eq_getElem?_getD, List.getD_eq_getElem?_getD, List.getElem?_append_right (by rw [List.length_take]; omega), List.getElem?_drop, List.length_take]
  congr 2
  omega
theorem outD_all {ds : List LtD} {a : Nat} (ha : a < ds.length) {p : LtD → Prop} : (∀ t, t < (outD ds a).length → p (dn (outD ds a) t)) ↔ ∀ t, t < ds.length → t ≠ a → p (dn ds t) := by
  have hl := outD_len ha
  constructor
  · intro h t ht hne
    by_cases hlt : t < a
    · have := h t (by omega)
      rwa [outD_low ha hlt] at this
    · have := h (t - 1) (by omega)
      rw [outD_high ha (by omega), show t - 1 + 1 = t by omega] at this
      exact this
  · intro h t ht
    by_cases hlt : t < a
    · rw [outD_low ha hlt]; exact h t (by omega) (by omega)
    · rw [outD_high ha (by omega)]; exact h (t + 1) (by omega) (by omega)
theorem out_and {ds : List LtD} {a b : Nat} (ha : a < ds.length) : alongK (outD ds a) (dn ds a).zs (dn ds a).zs.length &&& b = 0 ↔ ∀ t, t < ds.length → t ≠ a → usesB (dn ds a) (dn ds t) = true → bitN (dn ds t) &&& b = 0 := by
  have h := outD_all ha (p := fun d => usesB (dn ds a) d = true → bitN d &&& b = 0)
  rw [← h, along_and (Nat.le_refl _)]
  constructor
  · intro h1 t ht hu
    obtain ⟨f, hf1, hf2⟩ := uses_iff.1 hu
    obtain ⟨i, hi, e⟩ := List.getElem_of_mem hf1
    have h2 := h1 i hi hi
    rw [e] at h2
    exact used_and.1 h2 t ht hf2
  · intro h1 i hi _
    refine used_and.2 fun t ht hx => h1 t ht (uses_iff.2 ⟨_, List.getElem_mem hi, hx⟩)
theorem own_and : ∀ c f s : Fin 25, 1 ≤ c.val → (((2 ^ c.val - 1) * 2 ^ f.val) &&& ((2 ^ c.val - 1) * 2 ^ s.val) = 0 ↔ s.val + c.val ≤ f.val ∨ f.val + c.val ≤ s.val) := by decide +kernel
/-- no own slot in the way, and behind it. -/
def lowQ (M c f : Nat) (hl : Bool) (s : Nat) : Bool := fitB M c s && (!hl || decide (s + c ≤ f))
def IsLow (q : Nat → Bool) (f r : Nat) : Prop := r ≤ f ∧ (r < f → q r = true) ∧ ∀ s, s < r → q s = false
theorem low_one {q : Nat → Bool} {f r r' : Nat} (h : IsLow q f r) (h' : IsLow q f r') : r = r' := by
  rcases Nat.lt_trichotomy r r' with hlt | he | hlt
  · have h1 := h.2.1 (by have := h'.1; omega)
    rw [h'.2.2 r hlt] at h1; cases h1
  · exact he
  · have h1 := h'.2.1 (by have := h.1; omega)
    rw [h.2.2 r' hlt] at h1; cases h1
def lowF (q : Nat → Bool) : Nat → Nat
  | 0 => 0
  | f + 1 => if lowF q f < f ∨ q f = true then lowF q f else f + 1
theorem lowF_is (q : Nat → Bool) : ∀ f, IsLow q f (lowF q f)
  | 0 => ⟨Nat.le_refl _, fun h => absurd h (by simp [lowF]), fun s h => absurd h (by simp [lowF])⟩
  | f + 1 => by
    obtain ⟨h1, h2, h3⟩ := lowF_is q f
    unfold lowF
    split
    · rename_i h
      refine ⟨by omega, fun _ => ?_, h3⟩
      rcases h with h | h
      · exact h2 h
      · by_cases hlt : lowF q f < f
        · exact h2 hlt
        · rw [show lowF q f = f by omega]; exact h
    · rename_i h
      refine ⟨Nat.le_refl _, fun h => absurd h (by omega), fun s hs => ?_⟩
      have hff : lowF q f = f := by omega
      by_cases hsf : s = f
      · subst hsf
        cases hq : q s
        · rfl
        · exact absurd (.inr hq) h
      · exact h3 s (by omega)
/-- the answer. -/
def lowV (ds : List LtD) (a : Nat) (hl : Bool) : Nat := lowF (lowQ (alongK (outD ds a) (dn ds a).zs (dn ds a).zs.length) (dn ds a).q1.toNat (dn ds a).q0.toNat hl) (dn ds a).q0.toNat
/-- what the mask of the program says, below the block's own start. -/
theorem low_fit {ds : List LtD} {a : Nat} {hl : Bool} (ha : a < ds.length) (hb : blkP (dn ds a).q0 (dn ds a).q1) (hz : (dn ds a).zs ≠ []) {s : Nat} (hs : s < (dn ds a).q0.toNat) :
    fitB (lowK ds a hl ds.length) (dn ds a).q1.toNat s = lowQ (alongK (outD ds a) (dn ds a).zs (dn ds a).zs.length) (dn ds a).q1.toNat (dn ds a).q0.toNat hl s := by
  have hself : usesB (dn ds a) (dn ds a) = true := by
    obtain ⟨x, hx⟩ := List.exists_mem_of_ne_nil _ hz
    exact uses_iff.2 ⟨x, hx, hx⟩
  unfold blkP at hb
  have ho := own_and ⟨(dn ds a).q1.toNat, by omega⟩ ⟨(dn ds a).q0.toNat, by omega⟩ ⟨s, by omega⟩ (by show 1 ≤ (dn ds a).q1.toNat; omega)
  simp only at ho
  unfold lowQ fitB
  obtain ⟨B, hB⟩ : ∃ B, (2 ^ (dn ds a).q1.toNat - 1) * 2 ^ s = B := ⟨_, rfl⟩
  rw [hB] at ho ⊢
  have hbn : bitN (dn ds a) = (2 ^ (dn ds a).q1.toNat - 1) * 2 ^ (dn ds a).q0.toNat := rfl
  rw [← hbn] at ho
  have e1 := low_and (ds := ds) (a := a) (hl := hl) (b := B) (k := ds.length)
  have e2 := out_and (b := B) ha
  cases hl
  · rw [Bool.not_false, Bool.true_or, Bool.and_true]
    refine decide_eq_decide.2 (e1.trans (Iff.trans ?_ e2.symm))
    constructor
    · intro h t ht hne hu; exact h t ht (by simp [hne]) hu
    · intro h t ht hne hu; exact h t ht (by simpa using hne) hu
  · rw [Bool.not_true, Bool.false_or, ← Bool.decide_and]
    refine decide_eq_decide.2 (e1.trans (Iff.trans ?_ (and_congr_left' e2.symm)))
    constructor
    · intro h
      refine ⟨fun t ht _ hu => h t ht (by simp) hu, ?_⟩
      rcases ho.1 (h a ha (by simp) hself) with h1 | h1
      · exact h1
      · omega
    · rintro ⟨h1, h2⟩ t ht _ hu
      by_cases hta : t = a
      · subst hta; exact ho.2 (.inl h2)
      · exact h1 t ht hta hu
/-- what FirstFit tells of a mask below a start. -/
theorem first_low {q : Nat → Bool} {I c f : Nat} (hc : 1 ≤ c) (hf : f + c ≤ 24) (hq : ∀ s, s < f → fitB I c s = q s) :
    (begN I (c - 1) = 0 → IsLow q f f) ∧ (begN I (c - 1) ≠ 0 → (f < Lib.ctz 64 (begN I (c - 1)) → IsLow q f f) ∧ (Lib.ctz 64 (begN I (c - 1)) ≤ f → IsLow q f (Lib.ctz 64 (begN I (c - 1))))) := by
  have hl := begN_lt I (c - 1)
  have hx := beg_iff I c hc (by omega)
  have hno : ∀ s, s < 25 - c → (begN I (c - 1)).testBit s = false → fitB I c s = false := by
    intro s hs h
    cases hp : fitB I c s with
    | false => rfl
    | true => rw [(hx s).2 ⟨hs, hp⟩] at h; cases h
  constructor
  · intro h0
    refine ⟨Nat.le_refl _, fun h => absurd h (Nat.lt_irrefl _), fun s hs => ?_⟩
    rw [← hq s hs]
    exact hno s (by omega) (by rw [h0, Nat.zero_testBit])
  · intro h0
    obtain ⟨h1, h2⟩ := low_bit _ h0 (by omega)
    obtain ⟨b1, b2⟩ := (hx _).1 h1
    obtain ⟨t, ht⟩ : ∃ t, Lib.ctz 64 (begN I (c - 1)) = t := ⟨_, rfl⟩
    rw [ht] at h1 h2 b1 b2 ⊢
    constructor
    · intro hlt
      exact ⟨Nat.le_refl _, fun h => absurd h (Nat.lt_irrefl _), fun s hs => by rw [← hq s hs]; exact hno s (by omega) (h2 s (by omega))⟩
    · intro hle
      exact ⟨hle, fun h => by rw [← hq t h]; exact b2, fun s hs => by rw [← hq s (by omega)]; exact hno s (by omega) (h2 s hs)⟩
theorem fitK_sorted (M c n : Nat) : ((List.range n).filter (fitB M c)).Pairwise (· < ·) := List.Pairwise.filter _ (List.pairwise_lt_range)
/-- the loop over the places that fit, as it ends. -/
theorem fits_low {M c f n k : Nat} {hl : Bool} (hf : f ≤ n) {L : List Nat} (hL : (List.range n).filter (fitB M c) = L) (hall : ∀ j (h : j < L.length), j < k → L[j] < f ∧ (!hl || decide (L[j] + c ≤ f)) = false) (hk : k ≤ L.length) :
    ((h : k < L.length) → L[k] < f → (!hl || decide (L[k] + c ≤ f)) = true → IsLow (lowQ M c f hl) f L[k]) ∧ (((h : k < L.length) → f ≤ L[k]) → IsLow (lowQ M c f hl) f f) := by
  have hs : L.Pairwise (· < ·) := by rw [← hL]; exact fitK_sorted M c n
  have hlow : ∀ s, s < f → (∀ (h : k < L.length), s < L[k]) → lowQ M c f hl s = false := by
    intro s hs1 hs2
    unfold lowQ
    cases hfit : fitB M c s
    · rfl
    · have hm : s ∈ L := by rw [← hL]; exact List.mem_filter.2 ⟨List.mem_range.2 (by omega), hfit⟩
      obtain ⟨j, hj, e⟩ := List.getElem_of_mem hm
      rw [Bool.true_and]
      by_cases hjk : j < k
      · rw [← e]; exact (hall j hj hjk).2
      · exfalso
        have hkl : k < L.length := by omega
        have h3 := hs2 hkl
        by_cases hke : k = j
        · subst hke; omega
        · have := List.pairwise_iff_getElem.1 hs k j hkl hj (by omega)
          omega
  constructor
  · intro h h1 h2
    refine ⟨by omega, fun _ => ?_, fun s hs1 => hlow s (by omega) (fun _ => hs1)⟩
    have hm : L[k] ∈ (List.range n).filter (fitB M c) := by rw [hL]; exact List.getElem_mem h
    unfold lowQ
    rw [(List.mem_filter.1 hm).2, h2]; rfl
  · intro h
    exact ⟨Nat.le_refl _, fun h => absurd h (Nat.lt_irrefl _), fun s hs1 => hlow s hs1 (fun h9 => by have := h h9; omega)⟩
end Go.Proofs.YtflniajjecfgeaaGreatDoor
