/- Plain facts on decimal texts: the value of digits, reading a number from the front, which text is a number's. No program, no condition. -/
import Derived.Test.YtbfbkedndnekpaaDoorNum
namespace Go.Proofs.YtbfbkedndnekpaaDoor
open Go.Lib (decDigits itoa)

def digB (c : UInt8) : Bool := decide (48 ≤ c.toNat ∧ c.toNat ≤ 57)
def dv : Int → List UInt8 → Int
  | a, [] => a
  | a, c :: r => dv (10 * a + ((c.toNat : Int) - 48)) r
theorem dv_snoc (a : Int) (l : List UInt8) (c : UInt8) : dv a (l ++ [c]) = 10 * dv a l + ((c.toNat : Int) - 48) := by
  induction l generalizing a with
  | nil => rfl
  | cons d r ih => exact ih _
theorem dig_val (d : Nat) (h : d < 10) : (UInt8.ofNat (48 + d)).toNat = 48 + d := by
  rw [UInt8.toNat_ofNat']; omega
theorem dig_ok (d : Nat) (h : d < 10) : digB (UInt8.ofNat (48 + d)) = true := by
  unfold digB; rw [dig_val d h]; simp; omega
theorem itoa_dv (f : Nat) : ∀ m : Int, 0 ≤ m → m.toNat ≤ f → dv 0 (itoa m) = m ∧ (itoa m).all digB = true ∧ 1 ≤ (itoa m).length := by
  induction f with
  | zero =>
    intro m h0 hf
    obtain rfl : m = 0 := by omega
    rw [itoa_small 0 (by omega) (by omega)]; decide
  | succ f ih =>
    intro m h0 hf
    by_cases hs : m < 10
    · rw [itoa_small m h0 hs]
      refine ⟨?_, ?_, by simp⟩
      · simp only [dv]; rw [dig_val _ (by omega)]; omega
      · simp only [List.all_cons, List.all_nil, Bool.and_true]; exact dig_ok _ (by omega)
    · obtain ⟨h1, h2, h3⟩ := ih (m / 10) (by omega) (by omega)
      rw [itoa_big m (by omega)]
      refine ⟨?_, ?_, by simp⟩
      · rw [dv_snoc, h1, dig_val _ (by omega)]; omega
      · rw [List.all_append, h2]; simp only [List.all_cons, List.all_nil, Bool.and_true, Bool.true_and]; exact dig_ok _ (by omega)
theorem dv_bound : ∀ (l : List UInt8) (a : Int) (k : Nat), l.all digB = true → 0 ≤ a → a < 10 ^ k → 0 ≤ dv a l ∧ dv a l < 10 ^ (k + l.length)
  | [], a, k, _, h0, h1 => ⟨h0, h1⟩
  | c :: r, a, k, h, h0, h1 => by
    simp only [List.all_cons, Bool.and_eq_true] at h
    have hc := h.1
    unfold digB at hc
    simp only [decide_eq_true_eq] at hc
    have := dv_bound r (10 * a + ((c.toNat : Int) - 48)) (k + 1) h.2 (by omega) (by rw [Int.pow_succ]; omega)
    simp only [dv, List.length_cons]
    rw [show k + (r.length + 1) = k + 1 + r.length by omega]
    exact this
theorem dv6 (l : List UInt8) (h : l.all digB = true) (hl : l.length ≤ 6) : 0 ≤ dv 0 l ∧ dv 0 l ≤ 999999 := by
  obtain ⟨h1, h2⟩ := dv_bound l 0 0 h (by omega) (by decide)
  refine ⟨h1, ?_⟩
  have hc : l.length = 0 ∨ l.length = 1 ∨ l.length = 2 ∨ l.length = 3 ∨ l.length = 4 ∨ l.length = 5 ∨ l.length = 6 := by omega
  rcases hc with e | e | e | e | e | e | e <;> (rw [e] at h2; simp at h2; omega)
theorem dv5 (l : List UInt8) (h : l.all digB = true) (hl : l.length ≤ 5) : 0 ≤ dv 0 l ∧ dv 0 l ≤ 99999 := by
  obtain ⟨h1, h2⟩ := dv_bound l 0 0 h (by omega) (by decide)
  refine ⟨h1, ?_⟩
  have hc : l.length = 0 ∨ l.length = 1 ∨ l.length = 2 ∨ l.length = 3 ∨ l.length = 4 ∨ l.length = 5 := by omega
  rcases hc with e | e | e | e | e | e <;> (rw [e] at h2; simp at h2; omega)

/-- reading a number from the front, as far as it goes: the value and the sign. -/
def ld : Bool → Int → Int → List UInt8 → Int × Int
  | _, n, sg, [] => (n, sg)
  | f, n, sg, c :: r =>
    if f = true ∧ c.toNat = 45 then ld false n (-1) r
    else if c.toNat < 48 ∨ 57 < c.toNat ∨ 999999 < n then (n, sg)
    else ld false (10 * n + ((c.toNat : Int) - 48)) sg r
def lead (l : List UInt8) : Int := (ld true 0 1 l).2 * (ld true 0 1 l).1
theorem ld_itoa (g : Nat) : ∀ (m : Int) (f : Bool) (sg : Int) (r : List UInt8), 0 ≤ m → m ≤ 999999 → m.toNat ≤ g → ld f 0 sg (itoa m ++ r) = ld false m sg r := by
  induction g with
  | zero =>
    intro m f sg r h0 h1 hf
    obtain rfl : m = 0 := by omega
    rw [itoa_small 0 (by omega) (by omega)]
    cases f <;> simp [ld]
  | succ g ih =>
    intro m f sg r h0 h1 hf
    by_cases hs : m < 10
    · rw [itoa_small m h0 hs]
      simp only [List.cons_append, List.nil_append, ld]
      rw [dig_val _ (by omega), if_neg (by omega), if_neg (by omega)]
      congr 1; omega
    · rw [itoa_big m (by omega), List.append_assoc, ih (m / 10) f sg _ (by omega) (by omega) (by omega)]
      simp only [List.cons_append, List.nil_append, ld]
      rw [dig_val _ (by omega), if_neg (by omega), if_neg (by omega)]
      congr 1; omega
theorem lead_itoa (m : Int) (h0 : -999999 ≤ m) (h1 : m ≤ 999999) : lead (itoa m) = m := by
  unfold lead
  by_cases hn : 0 ≤ m
  · have := ld_itoa m.toNat m true 1 [] hn h1 (Nat.le_refl _)
    rw [List.append_nil] at this
    rw [this]; simp [ld]
  · rw [itoa_neg m (by omega)]
    have := ld_itoa (-m).toNat (-m) false (-1) [] (by omega) (by omega) (Nat.le_refl _)
    rw [List.append_nil] at this
    simp only [ld]
    rw [if_pos (by decide), this]
    simp [ld]
theorem itoa_inj (m n : Int) (hm : -999999 ≤ m ∧ m ≤ 999999) (hn : -999999 ≤ n ∧ n ≤ 999999) (h : itoa m = itoa n) : m = n := by
  rw [← lead_itoa m hm.1 hm.2, h, lead_itoa n hn.1 hn.2]

/-- what reading a text as a number answers. -/
def PR (s : ByteArray) (r : Int) (b : Bool) : Prop :=
  (b = true ∧ -999999 ≤ r ∧ r ≤ 999999 ∧ (⟨(itoa r).toArray⟩ : ByteArray) = s) ∨
  (b = false ∧ r = 0 ∧ ∀ n : Int, -999999 ≤ n → n ≤ 999999 → (⟨(itoa n).toArray⟩ : ByteArray) ≠ s)
theorem bytes_inj {a b : List UInt8} (h : (⟨a.toArray⟩ : ByteArray) = ⟨b.toArray⟩) : a = b := by
  injection h with h; simpa using congrArg Array.toList h
theorem PR_one {s : ByteArray} {r r' : Int} {b b' : Bool} (h : PR s r b) (h' : PR s r' b') : r = r' ∧ b = b' := by
  rcases h with ⟨rfl, h1, h2, h3⟩ | ⟨rfl, rfl, h3⟩ <;> rcases h' with ⟨rfl, h1', h2', h3'⟩ | ⟨rfl, rfl, h3'⟩
  · exact ⟨itoa_inj r r' ⟨h1, h2⟩ ⟨h1', h2'⟩ (bytes_inj (h3.trans h3'.symm)), rfl⟩
  · exact absurd h3 (h3' r h1 h2)
  · exact absurd h3' (h3 r' h1' h2')
  · exact ⟨rfl, rfl⟩

theorem of_bytes {l : List UInt8} {s : ByteArray} : (⟨l.toArray⟩ : ByteArray) = s ↔ l = s.data.toList := by
  constructor
  · rintro rfl; simp
  · intro h; subst h; rfl
theorem itoa_pos (m : Int) (h0 : 0 ≤ m) (h1 : m ≤ 999999) : 1 ≤ (itoa m).length ∧ (itoa m).length ≤ 6 ∧ (itoa m).all digB = true ∧ dv 0 (itoa m) = m := by
  obtain ⟨a, b, c⟩ := itoa_dv m.toNat m h0 (Nat.le_refl _)
  exact ⟨c, itoa_dec 5 m h0 (by have : (10 : Int) ^ (5 + 1) = 1000000 := by decide
                                omega), b, a⟩
theorem head_dig {l : List UInt8} (h : l.all digB = true) : ∀ c, l[0]? = some c → c.toNat ≠ 45 := by
  intro c hc
  have := List.all_eq_true.1 h c (List.mem_of_getElem? hc)
  unfold digB at this; simp only [decide_eq_true_eq] at this; omega
/-- a text that begins with '-' and goes on. -/
def isNeg (l : List UInt8) : Prop := 1 < l.length ∧ ∃ c, l[0]? = some c ∧ c.toNat = 45
theorem neg_of_itoa {m : Int} (h0 : -999999 ≤ m) (h1 : m ≤ 999999) : (0 ≤ m ∧ ¬ isNeg (itoa m)) ∨ (m < 0 ∧ isNeg (itoa m) ∧ (itoa m).drop 1 = itoa (-m)) := by
  by_cases hn : 0 ≤ m
  · refine .inl ⟨hn, ?_⟩
    rintro ⟨_, c, hc, h45⟩
    exact head_dig (itoa_pos m hn h1).2.2.1 c hc h45
  · refine .inr ⟨by omega, ?_, ?_⟩
    · rw [itoa_neg m (by omega)]
      have := (itoa_pos (-m) (by omega) (by omega)).1
      exact ⟨by simp only [List.length_cons]; omega, 45, rfl, rfl⟩
    · rw [itoa_neg m (by omega)]; rfl
theorem none_pos {l : List UInt8} (hn : ¬ isNeg l) (hb : ¬ (1 ≤ l.length ∧ l.length ≤ 6 ∧ l.all digB = true ∧ itoa (dv 0 l) = l)) : ∀ n : Int, -999999 ≤ n → n ≤ 999999 → itoa n ≠ l := by
  rintro n h0 h1 rfl
  rcases neg_of_itoa h0 h1 with ⟨h, _⟩ | ⟨_, h, _⟩
  · obtain ⟨a, b, c, d⟩ := itoa_pos n h h1
    exact hb ⟨a, b, c, by rw [d]⟩
  · exact hn h
theorem none_neg {l : List UInt8} (hn : isNeg l) (hb : ¬ (1 ≤ (l.drop 1).length ∧ (l.drop 1).length ≤ 6 ∧ (l.drop 1).all digB = true ∧ itoa (-(dv 0 (l.drop 1))) = l)) : ∀ n : Int, -999999 ≤ n → n ≤ 999999 → itoa n ≠ l := by
  rintro n h0 h1 rfl
  rcases neg_of_itoa h0 h1 with ⟨_, h⟩ | ⟨h, _, hd⟩
  · exact h hn
  · rw [hd] at hb
    obtain ⟨a, b, c, d⟩ := itoa_pos (-n) (by omega) (by omega)
    exact hb ⟨a, b, c, by rw [d, Int.neg_neg]⟩
theorem PR_no {s : ByteArray} (h : ∀ n : Int, -999999 ≤ n → n ≤ 999999 → itoa n ≠ s.data.toList) : PR s 0 false :=
  .inr ⟨rfl, rfl, fun n h0 h1 e => h n h0 h1 (of_bytes.1 e)⟩
theorem PR_yes {s : ByteArray} {r : Int} (h0 : -999999 ≤ r) (h1 : r ≤ 999999) (h : itoa r = s.data.toList) : PR s r true :=
  .inl ⟨rfl, h0, h1, of_bytes.2 h⟩
theorem PR_lead_no {s : ByteArray} (h : ¬ (-999999 ≤ lead s.data.toList ∧ lead s.data.toList ≤ 999999 ∧ itoa (lead s.data.toList) = s.data.toList)) : PR s 0 false :=
  PR_no fun n h0 h1 e => h (by rw [← e, lead_itoa n h0 h1]; exact ⟨h0, h1, rfl⟩)
theorem all_snoc (l : List UInt8) (k : Nat) (h : k < l.length) : (l.take (k + 1)).all digB = ((l.take k).all digB && digB l[k]) := by
  rw [List.take_succ_eq_append_getElem h, List.all_append]; simp
theorem dv_take (l : List UInt8) (k : Nat) (h : k < l.length) : dv 0 (l.take (k + 1)) = 10 * dv 0 (l.take k) + ((l[k].toNat : Int) - 48) := by
  rw [List.take_succ_eq_append_getElem h, dv_snoc]
theorem not_all (l : List UInt8) (k : Nat) (h : k < l.length) (hd : digB l[k] = false) : l.all digB ≠ true := by
  intro ha
  have := List.all_eq_true.1 ha l[k] (List.getElem_mem h)
  rw [hd] at this; cases this
theorem tl_ne {a b : ByteArray} (h : a ≠ b) : (a.toList == b.toList) = false := by
  rw [beq_eq_false_iff_ne, ByteArray.toList_eq, ByteArray.toList_eq]
  exact fun e => h (Go.WideShapes.bytes_inj e)
theorem tl_not {a b : ByteArray} (h : a ≠ b) : (!a.toList == b.toList) = true := by rw [tl_ne h]; rfl
end Go.Proofs.YtbfbkedndnekpaaDoor
