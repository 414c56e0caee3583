/- Nodes reached from a node without a set of fibers: contract of impl.reachable, impl.areConnected. No condition but those typed. -/
import Derived.Test.YtlgkjidginibdaaCn
import Derived.Test.YtlgkjidginibdaaGB
namespace Go.Proofs.Ytlgkjidginibdaa
open Go.ChangeShapes Go.WideShapes Go.ChangeAt Go.RowKit

/-- what a set of nodes that is being filled keeps. -/
def RI (n1 : Nat) (fs : List Q4) (gone x m : Nat) : Prop := m < 2 ^ 8 ∧ m.testBit x = true ∧ ∀ v, m.testBit v = true → v < n1 ∧ Cn fs gone (x : Int) (v : Int)
def ClosedP (fs : List Q4) (gone k m : Nat) : Prop := ∀ i a b : Nat, i < k → gone.testBit i = false → Ends fs i (a : Int) (b : Int) → m.testBit a = true → m.testBit b = true
theorem RI.start {n1 : Nat} {fs : List Q4} {gone x : Nat} (hx : x < n1) (h8 : n1 ≤ 8) : RI n1 fs gone x (2 ^ x) :=
  ⟨Nat.pow_lt_pow_right (by decide) (by omega), Nat.testBit_two_pow_self, fun v hv => by
    by_cases e : x = v
    · subst e; exact ⟨hx, Cn.refl _⟩
    · rw [Nat.testBit_two_pow_of_ne e] at hv; cases hv⟩
theorem Ends.nat {ss : List ByteArray} {fs : List Q4} (hv : netP ss fs) {i : Nat} {a b : Int} (h : Ends fs i a b) : ∃ a' b' : Nat, a = a' ∧ b = b' ∧ a' < ss.length ∧ b' < ss.length ∧ a' ≠ b' := by
  have hf := (hv.2.2.2 i h.1 h.1).1
  have e : fibI fs (i : Int) = fs[i]'h.1 := fib_at h.1
  have h2 := h.2
  simp only [e] at h2
  obtain ⟨f1, f2, f3, _⟩ := hf
  rcases h2 with ⟨h3, h4⟩ | ⟨h3, h4⟩
  · exact ⟨a.toNat, b.toNat, by omega, by omega, by omega, by omega, by omega⟩
  · exact ⟨a.toNat, b.toNat, by omega, by omega, by omega, by omega, by omega⟩
/-- a full set. -/
theorem RI.full {ss : List ByteArray} {fs : List Q4} (hv : netP ss fs) {gone x m : Nat} (h : RI ss.length fs gone x m) (hx : x < ss.length) (hc : ClosedP fs gone fs.length m) : m = rchN ss.length fs gone (x : Int) := by
  unfold rchN
  refine setN_eq fun v => ?_
  by_cases hm : m.testBit v = true
  · obtain ⟨h1, h2⟩ := h.2.2 v hm
    rw [hm, decide_eq_true h1, pb_true h2]; rfl
  · have hm : m.testBit v = false := by simpa using hm
    rw [hm]
    by_cases hl : v < ss.length
    · have : ¬ Cn fs gone (x : Int) (v : Int) := fun hcn => by
        have hS := hcn.closed (S := fun y => ∃ y' : Nat, y = (y' : Int) ∧ m.testBit y' = true) (fun i a b hg he ⟨a', ea, ha⟩ => by
          subst ea
          obtain ⟨_, b', _, rfl, _, _, _⟩ := he.nat hv
          exact ⟨b', rfl, hc i a' b' he.1 hg he ha⟩) ⟨x, rfl, h.2.1⟩
        obtain ⟨v', e, hv'⟩ := hS
        have : v' = v := by omega
        subst this
        rw [hm] at hv'; cases hv'
      rw [pb_false this, Bool.and_false]
    · rw [decide_eq_false hl, Bool.false_and]
theorem two_and {m a b : Nat} : (m &&& (2 ^ a ||| 2 ^ b)) = (if m.testBit a then 2 ^ a else 0) ||| (if m.testBit b then 2 ^ b else 0) := by
  refine Nat.eq_of_testBit_eq fun i => ?_
  rw [Nat.testBit_and, Nat.testBit_or, Nat.testBit_or]
  have e : ∀ c : Nat, (if m.testBit c then 2 ^ c else 0).testBit i = (m.testBit i && (2 ^ c).testBit i) := by
    intro c
    by_cases h : i = c
    · subst h
      by_cases hm : m.testBit i = true
      · rw [if_pos hm, hm]; simp
      · rw [if_neg hm]; have hm : m.testBit i = false := by simpa using hm
        rw [hm]; simp
    · have h2 : (2 ^ c).testBit i = false := Nat.testBit_two_pow_of_ne (fun e => h e.symm)
      rw [h2, Bool.and_false]
      split
      · exact h2
      · exact Nat.zero_testBit i
  rw [e, e, ← Bool.and_or_distrib_left]
theorem and_sub {m a b : Nat} : m &&& (2 ^ a ||| 2 ^ b) < 2 ^ a ||| 2 ^ b ∨ m &&& (2 ^ a ||| 2 ^ b) = 2 ^ a ||| 2 ^ b := by
  rcases Nat.lt_or_eq_of_le (Nat.and_le_right (n := m) (m := 2 ^ a ||| 2 ^ b)) with h | h
  · exact .inl h
  · exact .inr h
theorem met_none {m a b : Nat} (ha : m.testBit a = false) (hb : m.testBit b = false) : m &&& (2 ^ a ||| 2 ^ b) = 0 := by rw [two_and, ha, hb]; simp
theorem met_both {m a b : Nat} (ha : m.testBit a = true) (hb : m.testBit b = true) : m &&& (2 ^ a ||| 2 ^ b) = 2 ^ a ||| 2 ^ b := by rw [two_and, ha, hb]; simp
theorem met_some {m a b : Nat} (h : m.testBit a ≠ m.testBit b) : m &&& (2 ^ a ||| 2 ^ b) ≠ 0 ∧ m &&& (2 ^ a ||| 2 ^ b) ≠ 2 ^ a ||| 2 ^ b := by
  have hne : a ≠ b := fun e => h (by rw [e])
  have ta : (m &&& (2 ^ a ||| 2 ^ b)).testBit a = m.testBit a := by rw [Nat.testBit_and, Nat.testBit_or, Nat.testBit_two_pow_self, Bool.true_or, Bool.and_true]
  have tb : (m &&& (2 ^ a ||| 2 ^ b)).testBit b = m.testBit b := by rw [Nat.testBit_and, Nat.testBit_or, Nat.testBit_two_pow_self, Bool.or_true, Bool.and_true]
  have sa : (2 ^ a ||| 2 ^ b).testBit a = true := by rw [Nat.testBit_or, Nat.testBit_two_pow_self, Bool.true_or]
  have sb : (2 ^ a ||| 2 ^ b).testBit b = true := by rw [Nat.testBit_or, Nat.testBit_two_pow_self, Bool.or_true]
  constructor
  · intro e
    rw [e, Nat.zero_testBit] at ta tb
    exact h (by rw [← ta, ← tb])
  · intro e
    rw [e] at ta tb
    exact h (by rw [← ta, ← tb, sa, sb])
theorem or_more {m a b : Nat} (h : m.testBit a ≠ m.testBit b) : m < m ||| (2 ^ a ||| 2 ^ b) := by
  rcases Nat.lt_or_eq_of_le (Nat.left_le_or (n := m) (m := 2 ^ a ||| 2 ^ b)) with h1 | h1
  · exact h1
  · exfalso
    have ta : (m ||| (2 ^ a ||| 2 ^ b)).testBit a = true := by rw [Nat.testBit_or, Nat.testBit_or, Nat.testBit_two_pow_self]; simp
    have tb : (m ||| (2 ^ a ||| 2 ^ b)).testBit b = true := by rw [Nat.testBit_or, Nat.testBit_or, Nat.testBit_two_pow_self]; simp
    rw [← h1] at ta tb
    exact h (by rw [ta, tb])
theorem RI.grow {n1 : Nat} {fs : List Q4} {gone x m a b i : Nat} (h : RI n1 fs gone x m) (hg : gone.testBit i = false) (he : Ends fs i (a : Int) (b : Int)) (ha : a < n1) (hb : b < n1) (h8 : n1 ≤ 8) (hm : m.testBit a ≠ m.testBit b) : RI n1 fs gone x (m ||| (2 ^ a ||| 2 ^ b)) := by
  have hab : Cn fs gone (x : Int) (a : Int) ∧ Cn fs gone (x : Int) (b : Int) := by
    cases h1 : m.testBit a with
    | true => exact ⟨(h.2.2 a h1).2, (h.2.2 a h1).2.trans (Cn.one hg he)⟩
    | false =>
      cases h2 : m.testBit b with
      | true => exact ⟨(h.2.2 b h2).2.trans (Cn.one hg he.symm), (h.2.2 b h2).2⟩
      | false => rw [h1, h2] at hm; exact absurd rfl hm
  refine ⟨Nat.or_lt_two_pow h.1 (Nat.or_lt_two_pow (Nat.pow_lt_pow_right (by decide) (by omega)) (Nat.pow_lt_pow_right (by decide) (by omega))), ?_, fun v hv => ?_⟩
  · rw [Nat.testBit_or, h.2.1, Bool.true_or]
  · rw [Nat.testBit_or, Nat.testBit_or] at hv
    cases h1 : m.testBit v with
    | true => exact h.2.2 v h1
    | false =>
      rw [h1, Bool.false_or] at hv
      by_cases e1 : a = v
      · subst e1; exact ⟨ha, hab.1⟩
      · by_cases e2 : b = v
        · subst e2; exact ⟨hb, hab.2⟩
        · rw [Nat.testBit_two_pow_of_ne e1, Nat.testBit_two_pow_of_ne e2] at hv; cases hv
theorem closed_step {fs : List Q4} {gone k m a b : Nat} (h : ClosedP fs gone k m) (he : Ends fs k (a : Int) (b : Int)) (hk : gone.testBit k = true ∨ m.testBit a = m.testBit b) : ClosedP fs gone (k + 1) m := by
  intro i a' b' hi hg he' ha
  by_cases e : i = k
  · subst e
    rcases hk with hk | hk
    · rw [hg] at hk; cases hk
    · have : (a' = a ∧ b' = b) ∨ (a' = b ∧ b' = a) := by
        rcases he.2 with ⟨e1, e2⟩ | ⟨e1, e2⟩ <;> rcases he'.2 with ⟨e3, e4⟩ | ⟨e3, e4⟩ <;> omega
      rcases this with ⟨rfl, rfl⟩ | ⟨rfl, rfl⟩
      · rw [← hk]; exact ha
      · rw [hk]; exact ha
  · exact h i a' b' (by omega) hg he' ha
theorem bit_of (m i : Nat) (hm : m < 2 ^ 62) : bits .and .i64 ((m : Int) / (2 : Int) ^ i) 1 = if m.testBit i then 1 else 0 := by
  have e : (m : Int) / (2 : Int) ^ i = ((m / 2 ^ i : Nat) : Int) := by
    rw [show (2 : Int) ^ i = ((2 ^ i : Nat) : Int) by simp]; omega
  rw [e, and_i64m _ (Nat.lt_of_le_of_lt (Nat.div_le_self _ _) hm)]
  rw [Nat.testBit_eq_decide_div_mod_eq]
  by_cases h : m / 2 ^ i % 2 = 1
  · rw [h]; simp
  · have : m / 2 ^ i % 2 = 0 := by omega
    rw [this]; simp
theorem and_i64q (a b : Nat) (ha : a < 2 ^ 62) (hb : b < 2 ^ 62) : bits .and .i64 (a : Int) (b : Int) = ((a &&& b : Nat) : Int) := by
  have wr : ∀ n : Int, 0 ≤ n → n < 2 ^ 62 → IntKind.i64.wrap n = n := by intro n h0 h1; rw [IntKind.wrap_i64]; omega
  exact (bits_nat .i64 62 (by decide) wr a b ha hb).1
def boolN : Value → Nat
  | .bool true => 1
  | _ => 0
theorem boolN_t : boolN (.bool true) = 1 := rfl
theorem boolN_f : boolN (.bool false) = 0 := rfl
theorem pow_int (a : Nat) : (2 : Int) ^ a = ((2 ^ a : Nat) : Int) := by simp

end Go.Proofs.Ytlgkjidginibdaa
