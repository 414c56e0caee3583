/- Nodes reached from a node without a set of fibers: contract of impl.reachable, impl.areConnected. No condition but those typed. -/
import Derived.Test.YtnbeomnlobfpfaaDoorCn
import Derived.Test.YtnbeomnlobfpfaaDoorGB
namespace Go.Proofs.YtnbeomnlobfpfaaDoor
open Go.ChangeShapes Go.WideShapes Go.ChangeAt Go.RowKit

/-- what a set of nodes that is being filled keeps. -/
def RI (n1 : Nat) (fs : List Q4) (gone x m : Nat) : Prop := m < 2 ^ 8 ∧ m.testBit x = true ∧ ∀ v, m.testBit v = true → v < n1 ∧ Cn fs gone (x : Int) (v : Int)
def ClosedP (fs : List Q4) (gone k m : Nat) : Prop := ∀ i a b : Nat, i < k → gone.testBit i = false → Ends fs i (a : Int) (b : Int) → m.testBit a = true → m.testBit b = true
theorem RI.start {n1 : Nat} {fs : List Q4} {gone x : Nat} (hx : x < n1) (h8 : n1 ≤ 8) : RI n1 fs gone x (2 ^ x) :=
  ⟨Nat.pow_lt_pow_right (by decide) (by omega), Nat.testBit_two_pow_self, fun v hv => by
    by_cases e : x = v
    · subst e; exact ⟨hx, Cn.refl _⟩
    · rw [Nat.testBit_two_pow_of_ne e] at hv; cases hv⟩
theorem Ends.nat {ss : List ByteArray} {fs : List Q4} (hv : netP ss fs) {i : Nat} {a b : Int} (h : Ends fs i a b) : ∃ a' b' : Nat, a = a' ∧ b = b' ∧ a' < ss.length ∧ b' < ss.length ∧ a' ≠ b' := by
  have hf := (hv.2.2.2 i h.1 h.1).1
  have e : fibI fs (i : Int) = fs[i]'h.1 := fib_at h.1
  have h2 := h.2
  simp only [e] at h2
  obtain ⟨f1, f2, f3, _⟩ := hf
  rcases h2 with ⟨h3, h4⟩ | ⟨h3, h4⟩
  · exact ⟨a.toNat, b.toNat, by omega, by omega, by omega, by omega, by omega⟩
  · exact ⟨a.toNat, b.toNat, by omega, by omega, by omega, by omega, by omega⟩
/-- a full set. -/
theorem RI.full {ss : List ByteArray} {fs : List Q4} (hv : netP ss fs) {gone x m : Nat} (h : RI ss.length fs gone x m) (hx : x < ss.length) (hc : ClosedP fs gone fs.length m) : m = rchN ss.length fs gone (x : Int) := by
  unfold rchN
  refine setN_eq fun v => ?_
  by_cases hm : m.testBit v = true
  · obtain ⟨h1, h2⟩ := h.2.2 v hm
    rw [hm, decide_eq_true h1, pb_true h2]; rfl
  · have hm : m.testBit v = false := by simpa using hm
    rw [hm]
    by_cases hl : v < ss.length
    · have : ¬ Cn fs gone (x : Int) (v : Int) := fun hcn => by
        have hS := hcn.closed (S := fun y => ∃ y' : Nat, y = (y' : Int) ∧ m.testBit y' = true) (fun i a b hg he ⟨a', ea, ha⟩ => by
          subst ea
          obtain ⟨_, b', _, rfl, _, _, _⟩ := he.nat hv
          exact ⟨b', rfl, hc i a' b' he.1 hg he ha⟩) ⟨x, rfl, h.2.1⟩
        obtain ⟨v', e, hv'⟩ := hS
        have : v' = v := by omega
        subst this
        rw [hm] at hv'; cases hv'
      rw [pb_false this, Bool.and_false]
    · rw [decide_eq_false hl, Bool.false_and]
theorem two_and {m a b : Nat} : (m &&& (2 ^ a ||| 2 ^ b)) = (if m.testBit a then 2 ^ a else 0) ||| (if m.testBit b then 2 ^ b else 0) := by
  refine Nat.eq_of_testBit_eq fun i => ?_
  rw [Nat.testBit_and, Nat.testBit_or, Nat.testBit_or]
  have e : ∀ c : Nat, (if m.testBit c then 2 ^ c else 0).testBit i = (m.testBit i && (2 ^ c).testBit i) := by
    intro c
    by_cases h : i = c
    · subst h
      by_cases hm : m.testBit i = true
      · rw [if_pos hm, hm]; simp
      · rw [if_neg hm]; have hm : m.testBit i = false := by simpa using hm
        rw [hm]; simp
    · have h2 : (2 ^ c).testBit i = false := Nat.testBit_two_pow_of_ne (fun e => h e.symm)
      rw [h2, Bool.and_false]
      split
      · exact h2
      · exact Nat.zero_testBit i
  rw [e, e, ← Bool.and_or_distrib_left]
theorem and_sub {m a b : Nat} : m &&& (2 ^ a ||| 2 ^ b) < 2 ^ a ||| 2 ^ b ∨ m &&& (2 ^ a ||| 2 ^ b) = 2 ^ a ||| 2 ^ b := by
  rcases Nat.lt_or_eq_of_le (Nat.and_le_right (n := m) (m := 2 ^ a ||| 2 ^ b)) with h | h
  · exact .inl h
  · exact .inr h
theorem met_none {m a b : Nat} (ha : m.testBit a = false) (hb : m.testBit b = false) : m &&& (2 ^ a ||| 2 ^ b) = 0 := by rw [two_and, ha, hb]; simp
theorem met_both {m a b : Nat} (ha : m.testBit a = true) (hb : m.testBit b = true) : m &&& (2 ^ a ||| 2 ^ b) = 2 ^ a ||| 2 ^ b := by rw [two_and, ha, hb]; simp
theorem met_some {m a b : Nat} (h : m.testBit a ≠ m.testBit b) : m &&& (2 ^ a ||| 2 ^ b) ≠ 0 ∧ m &&& (2 ^ a ||| 2 ^ b) ≠ 2 ^ a ||| 2 ^ b := by
  have hne : a ≠ b := fun e => h (by rw [e])
  have ta : (m &&& (2 ^ a ||| 2 ^ b)).testBit a = m.testBit a := by rw [Nat.testBit_and, Nat.testBit_or, Nat.testBit_two_pow_self, Bool.true_or, Bool.and_true]
  have tb : (m &&& (2 ^ a ||| 2 ^ b)).testBit b = m.testBit b := by rw [Nat.testBit_and, Nat.testBit_or, Nat.testBit_two_pow_self, Bool.or_true, Bool.and_true]
  have sa : (2 ^ a ||| 2 ^ b).testBit a = true := by rw [Nat.testBit_or, Nat.testBit_two_pow_self, Bool.true_or]
  have sb : (2 ^ a ||| 2 ^ b).testBit b = true := by rw [Nat.testBit_or, Nat.testBit_two_pow_self, Bool.or_true]
  constructor
  · intro e
    rw [e, Nat.zero_testBit] at ta tb
    exact h (by rw [← ta, ← tb])
  · intro e
    rw [e] at ta tb
    exact h (by rw [← ta, ← tb, sa, sb])
theorem or_more {m a b : Nat} (h : m.testBit a ≠ m.testBit b) : m < m ||| (2 ^ a ||| 2 ^ b) := by
  rcases Nat.lt_or_eq_of_le (Nat.left_le_or (n := m) (m := 2 ^ a ||| 2 ^ b)) with h1 | h1
  · exact h1
  · exfalso
    have ta : (m ||| (2 ^ a ||| 2 ^ b)).testBit a = true := by rw [Nat.testBit_or, Nat.testBit_or, Nat.testBit_two_pow_self]; simp
    have tb : (m ||| (2 ^ a ||| 2 ^ b)).testBit b = true := by rw [Nat.testBit_or, Nat.testBit_or, Nat.testBit_two_pow_self]; simp
    rw [← h1] at ta tb
    exact h (by rw [ta, tb])
theorem RI.grow {n1 : Nat} {fs : List Q4} {gone x m a b i : Nat} (h : RI n1 fs gone x m) (hg : gone.testBit i = false) (he : Ends fs i (a : Int) (b : Int)) (ha : a < n1) (hb : b < n1) (h8 : n1 ≤ 8) (hm : m.testBit a ≠ m.testBit b) : RI n1 fs gone x (m ||| (2 ^ a ||| 2 ^ b)) := by
  have hab : Cn fs gone (x : Int) (a : Int) ∧ Cn fs gone (x : Int) (b : Int) := by
    cases h1 : m.testBit a with
    | true => exact ⟨(h.2.2 a h1).2, (h.2.2 a h1).2.trans (Cn.one hg he)⟩
    | false =>
      cases h2 : m.testBit b with
      | true => exact ⟨(h.2.2 b h2).2.trans (Cn.one hg he.symm), (h.2.2 b h2).2⟩
      | false => rw [h1, h2] at hm; exact absurd rfl hm
  refine ⟨Nat.or_lt_two_pow h.1 (Nat.or_lt_two_pow (Nat.pow_lt_pow_right (by decide) (by omega)) (Nat.pow_lt_pow_right (by decide) (by omega))), ?_, fun v hv => ?_⟩
  · rw [Nat.testBit_or, h.2.1, Bool.true_or]
  · rw [Nat.testBit_or, Nat.testBit_or] at hv
    cases h1 : m.testBit v with
    | true => exact h.2.2 v h1
    | false =>
      rw [h1, Bool.false_or] at hv
      by_cases e1 : a = v
      · subst e1; exact ⟨ha, hab.1⟩
      · by_cases e2 : b = v
        · subst e2; exact ⟨hb, hab.2⟩
        · rw [Nat.testBit_two_pow_of_ne e1, Nat.testBit_two_pow_of_ne e2] at hv; cases hv
theorem closed_step {fs : List Q4} {gone k m a b : Nat} (h : ClosedP fs gone k m) (he : Ends fs k (a : Int) (b : Int)) (hk : gone.testBit k = true ∨ m.testBit a = m.testBit b) : ClosedP fs gone (k + 1) m := by
  intro i a' b' hi hg he' ha
  by_cases e : i = k
  · subst e
    rcases hk with hk | hk
    · rw [hg] at hk; cases hk
    · have : (a' = a ∧ b' = b) ∨ (a' = b ∧ b' = a) := by
        rcases he.2 with ⟨e1, e2⟩ | ⟨e1, e2⟩ <;> rcases he'.2 with ⟨e3, e4⟩ | ⟨e3, e4⟩ <;> omega
      rcases this with ⟨rfl, rfl⟩ | ⟨rfl, rfl⟩
      · rw [← hk]; exact ha
      · rw [hk]; exact ha
  · exact h i a' b' (by omega) hg he' ha
theorem bit_of (m i : Nat) (hm : m < 2 ^ 62) : bits .and .i64 ((m : Int) / (2 : Int) ^ i) 1 = if m.testBit i then 1 else 0 := by
  have e : (m : Int) / (2 : Int) ^ i = ((m / 2 ^ i : Nat) : Int) := by
    rw [show (2 : Int) ^ i = ((2 ^ i : Nat) : Int) by simp]; omega
  rw [e, and_i64m _ (Nat.lt_of_le_of_lt (Nat.div_le_self _ _) hm)]
  rw [Nat.testBit_eq_decide_div_mod_eq]
  by_cases h : m / 2 ^ i % 2 = 1
  · rw [h]; simp
  · have : m / 2 ^ i % 2 = 0 := by omega
    rw [this]; simp
theorem and_i64q (a b : Nat) (ha : a < 2 ^ 62) (hb : b < 2 ^ 62) : bits .and .i64 (a : Int) (b : Int) = ((a &&& b : Nat) : Int) := by
  have wr : ∀ n : Int, 0 ≤ n → n < 2 ^ 62 → IntKind.i64.wrap n = n := by intro n h0 h1; rw [IntKind.wrap_i64]; omega
  exact (bits_nat .i64 62 (by decide) wr a b ha hb).1
def boolN : Value → Nat
  | .bool true => 1
  | _ => 0
theorem boolN_t : boolN (.bool true) = 1 := rfl
theorem boolN_f : boolN (.bool false) = 0 := rfl
theorem pow_int (a : Nat) : (2 : Int) ^ a = ((2 ^ a : Nat) : Int) := by simp

set_option maxRecDepth 100000 in
set_option maxHeartbeats 8000000 in
theorem reach_ {g1 g2 n1 n2 c1 c2 : Nat} {ss : List ByteArray} {fs : List Q4} {w : World} (h : NetAt g1 g2 n1 n2 c1 c2 ss fs w) (hv : netP ss fs) (x gone : Nat) (hx : x < n1) (hgo : gone < 2 ^ 20) :
    Calls Tryd.prog 105 #[.agg #[.slice (some ⟨g1, 0, none⟩) n1 c1, .slice (some ⟨g2, 0, none⟩) n2 c2], .int .i64 (x : Int), .int .i64 (gone : Int)] w (RetP (.int .i64 (rchN n1 fs gone (x : Int) : Nat)) w) := by
  have HNT := Lib.hid h; have HV := Lib.hid hv
  have HL1 := Lib.hid h.ln1
  have HL2 := Lib.hid h.ln2
  have hn8 : n1 ≤ 8 := by have := hv.1; have := h.ln1; omega
  have hn14 : n2 ≤ 14 := by have := hv.2.1; have := h.ln2; omega
  have HFULL : Hid (∀ m, RI n1 fs gone x m → ClosedP fs gone n2 m → m = rchN n1 fs gone (x : Int)) := Lib.hid (fun m h1 h2 => by
    rw [← HL1.out] at h1 hx ⊢
    rw [← HL2.out] at h2
    exact RI.full HV.out h1 hx h2)
  clear h hv
  obtain ⟨R, hR⟩ : ∃ R, rchN n1 fs gone (x : Int) = R := ⟨_, rfl⟩
  rw [hR] at HFULL ⊢
  clear hR
  have hp1 : (2 : Int) ^ x ≤ 256 := by rw [pow_int]; have : 2 ^ x < 2 ^ 8 := Nat.pow_lt_pow_right (by decide) (by omega); omega
  have hp0 : 0 ≤ (2 : Int) ^ x := Int.pow_nonneg (by omega)
  go_enter Tryd.func105, Tryd.ntmps105
  go_wp2
  obtain ⟨W0, hW0⟩ : ∃ W0, (w.alloc (Obj.cells #[.slice (some ⟨g1, 0, none⟩) n1 c1, .slice (some ⟨g2, 0, none⟩) n2 c2] 32)) = W0 := ⟨_, rfl⟩
  have hb0 : Below w.heap.size w W0 := by rw [← hW0]; exact (Below.refl _ _).alloc (Nat.le_refl _) _
  have k1 : W0.cell? ⟨w.heap.size, 1, none⟩ = some (.slice (some ⟨g2, 0, none⟩) n2 c2) := by rw [← hW0]; simp [go_sem]
  have hz0 : w.heap.size < W0.heap.size := by rw [← hW0]; simp
  have HB0 := Lib.hid hb0; have HK1 := Lib.hid k1; have HZB := Lib.hid hz0
  rw [hW0]
  clear hW0 hb0 k1 hz0
  go_loopw [8, 7] (fun g r wr => ∃ (gr : Bool) (m : Nat), g = .bool gr ∧ r = .int .i64 m ∧ m < 2 ^ 8 ∧ Hid (RI n1 fs gone x m) ∧ Hid (gr = false → ClosedP fs gone n2 m) ∧ Below W0.heap.size W0 wr) (fun g r _ => 2 * (256 - (intOf r).toNat) + boolN g)
  case atStart => exact ⟨true, 2 ^ x, rfl, by rw [pow_int], Nat.pow_lt_pow_right (by decide) (by omega), Lib.hid (RI.start hx hn8), Lib.hid (fun h => by cases h), Below.refl _ _⟩
  case round =>
    obtain ⟨gr, m, rfl, rfl, hm8, HRI, HCL, hb⟩ := hrel
    have HBW := Lib.hid (HB0.out.trans (hb.mono HB0.out.size))
    have HBR := Lib.hid hb
    have l1 := (hb.cell (p := ⟨w.heap.size, 1, none⟩) HZB.out).trans HK1.out
    have hg0 : w.heap.size < wr.heap.size := by have := hb.size; have := HZB.out; omega
    clear hb
    cases gr
    case false =>
      have HE := Lib.hid (HFULL.out m HRI.out (HCL.out rfl))
      clear l1 hg0
      go_wp2
      go_ret
      exact ⟨reti (congrArg _ HE.out), HBW.out⟩
    case true =>
    go_wp2
    clear l1 hg0
    obtain ⟨wo, rfl⟩ : ∃ wo, wo = wr := ⟨wr, rfl⟩
    go_loopw [19, 8, 7] (fun i g r wv => ∃ (k m2 : Nat) (g2 : Bool), k ≤ n2 ∧ i = .int .i64 k ∧ g = .bool g2 ∧ r = .int .i64 m2 ∧ m2 < 2 ^ 8 ∧ Hid (RI n1 fs gone x m2) ∧ Hid (g2 = false → m2 = m ∧ ClosedP fs gone k m) ∧ Hid (g2 = true → m < m2) ∧ Below wo.heap.size wo wv) (fun i _ _ _ => n2 - (intOf i).toNat)
    case atStart => exact ⟨0, m, false, Nat.zero_le _, rfl, rfl, rfl, hm8, HRI, Lib.hid (fun _ => ⟨rfl, fun i a b hi => by omega⟩), Lib.hid (fun h => by cases h), Below.refl _ _⟩
    case round =>
      obtain ⟨k, m2, g2, hk, rfl, rfl, rfl, hm2, HRI2, HC2, HG2, hb⟩ := hrel
      have HBV := Lib.hid (HBW.out.trans (hb.mono HBW.out.size))
      have HBX := Lib.hid (HBR.out.trans (hb.mono HBR.out.size))
      have hbz := hb.size
      have HBY := Lib.hid hb
      clear hb
      by_cases hlt : k < n2
      case neg =>
        have hkn : k = n2 := by omega
        have HCF : Hid (g2 = false → ClosedP fs gone n2 m2) := Lib.hid (fun hf => by
          obtain ⟨e, hc⟩ := HC2.out hf
          rw [e, ← hkn]; exact hc)
        have HMS : Hid (2 * (256 - m2) + boolN (.bool g2) < 2 * (256 - m) + 1) := Lib.hid (by
          cases g2 with
          | true => have := HG2.out rfl; rw [boolN_t]; omega
          | false => obtain ⟨e, _⟩ := HC2.out rfl; subst e; rw [boolN_f]; omega)
        go_wp2
        go_roundw
        case rel => exact ⟨g2, m2, rfl, rfl, hm2, HRI2, HCF, HBX.out⟩
        case measure => (have h9 := HMS.out; rw [boolN_t]; simp [intOf]; omega)
      case pos =>
      have hks : k < fs.length := by have := HL2.out; omega
      have HEN : Hid (Ends fs k ((fibI fs (k : Int)).a) ((fibI fs (k : Int)).b)) := Lib.hid ⟨hks, .inl ⟨rfl, rfl⟩⟩
      have hr := (HNT.out.moved HBV.out).rd2.q4c hks
      obtain ⟨q, hq⟩ : ∃ q, fs[k]'hks = q := ⟨_, rfl⟩
      have hfq : fibI fs (k : Int) = q := by unfold fibI; rw [show ((k : Int)).toNat = k by omega, List.getD_eq_getElem?_getD, List.getElem?_eq_getElem hks, hq]; rfl
      rw [hfq] at HEN
      rw [Nat.zero_add, hq] at hr
      obtain ⟨a, b, ea, eb, hab1, hab2, hne⟩ := HEN.out.nat HV.out
      obtain ⟨qa, qb, qc, qd⟩ := q
      simp only at ea eb hr HEN
      subst ea eb
      obtain ⟨hgv, f0, f1, f2, f3⟩ := hr
      have ha8 : a < 8 := by have := HL1.out; omega
      have hb8 : b < 8 := by have := HL1.out; omega
      have HA1 : Hid (a < n1 ∧ b < n1) := Lib.hid (by have := HL1.out; omega)
      have pa0 : 0 ≤ (2 : Int) ^ a := Int.pow_nonneg (by omega)
      have pb0 : 0 ≤ (2 : Int) ^ b := Int.pow_nonneg (by omega)
      have pna : 2 ^ a < 2 ^ 8 := Nat.pow_lt_pow_right (by decide) ha8
      have pnb : 2 ^ b < 2 ^ 8 := Nat.pow_lt_pow_right (by decide) hb8
      have pa1 : (2 : Int) ^ a ≤ 256 := by rw [pow_int]; omega
      have pb1 : (2 : Int) ^ b ≤ 256 := by rw [pow_int]; omega
      have hor : bits .or .i64 ((2 : Int) ^ a) ((2 : Int) ^ b) = ((2 ^ a ||| 2 ^ b : Nat) : Int) := by rw [pow_int, pow_int]; exact or_i64_ _ _ (by omega) (by omega)
      have he8 : 2 ^ a ||| 2 ^ b < 2 ^ 8 := Nat.or_lt_two_pow pna pnb
      have hand : bits .and .i64 (m2 : Int) ((2 ^ a ||| 2 ^ b : Nat) : Int) = ((m2 &&& (2 ^ a ||| 2 ^ b) : Nat) : Int) := and_i64q _ _ (by omega) (by omega)
      have hbit := bit_of gone k (by omega)
      have hor2 : bits .or .i64 (m2 : Int) ((2 ^ a ||| 2 ^ b : Nat) : Int) = ((m2 ||| (2 ^ a ||| 2 ^ b) : Nat) : Int) := or_i64_ _ _ (by omega) (by omega)
      have hmo : m2 ||| (2 ^ a ||| 2 ^ b) < 2 ^ 8 := Nat.or_lt_two_pow hm2 he8
      have HMO : Hid (m2.testBit a ≠ m2.testBit b → m2 < m2 ||| (2 ^ a ||| 2 ^ b)) := Lib.hid or_more
      have HN0 : Hid (m2.testBit a = false → m2.testBit b = false → m2 &&& (2 ^ a ||| 2 ^ b) = 0) := Lib.hid met_none
      have HN1 : Hid (m2.testBit a = true → m2.testBit b = true → m2 &&& (2 ^ a ||| 2 ^ b) = 2 ^ a ||| 2 ^ b) := Lib.hid met_both
      have HN2 : Hid (m2.testBit a ≠ m2.testBit b → m2 &&& (2 ^ a ||| 2 ^ b) ≠ 0 ∧ m2 &&& (2 ^ a ||| 2 ^ b) ≠ 2 ^ a ||| 2 ^ b) := Lib.hid met_some
      have HGR : Hid (gone.testBit k = false → m2.testBit a ≠ m2.testBit b → RI n1 fs gone x (m2 ||| (2 ^ a ||| 2 ^ b))) := Lib.hid (fun hg hm => HRI2.out.grow hg HEN.out HA1.out.1 HA1.out.2 hn8 hm)
      obtain ⟨e, he⟩ : ∃ e, 2 ^ a ||| 2 ^ b = e := ⟨_, rfl⟩
      rw [he] at hor he8 hand hor2 hmo HMO HN0 HN1 HN2 HGR
      obtain ⟨d, hd⟩ : ∃ d, m2 &&& e = d := ⟨_, rfl⟩
      rw [hd] at hand HN0 HN1 HN2
      obtain ⟨m3, hm3⟩ : ∃ m3, m2 ||| e = m3 := ⟨_, rfl⟩
      rw [hm3] at hor2 hmo HMO HGR
      have hdl : d < 2 ^ 8 := by rw [← hd]; exact Nat.lt_of_le_of_lt Nat.and_le_right he8
      have hbn := ((Below.refl wr.heap.size wr).alloc (Nat.le_refl _) (Obj.cells #[.int .i64 (a : Int), .int .i64 (b : Int), .int .i64 qc, .int .i64 qd] 103))
      clear hks hq hfq hab1 hab2 hne pna pnb he hd hm3
      have STAY : Hid ((gone.testBit k = true ∨ m2.testBit a = m2.testBit b) → g2 = false → m2 = m ∧ ClosedP fs gone (k + 1) m) := Lib.hid (fun hs hf => by
        obtain ⟨e1, e2⟩ := HC2.out hf
        refine ⟨e1, closed_step e2 HEN.out ?_⟩
        rw [← e1]; exact hs)
      have HBN : Hid (Below wo.heap.size wo (wr.alloc (Obj.cells #[.int .i64 (a : Int), .int .i64 (b : Int), .int .i64 qc, .int .i64 qd] 103))) := Lib.hid (HBY.out.alloc hbz _)
      cases hgk : gone.testBit k
      case true =>
        rw [hgk, if_pos rfl] at hbit
        have HST := Lib.hid (STAY.out (.inl hgk))
        clear hgk
        go_wp2_with fail
        go_quiet (fail)
        go_wp2
        go_roundw
        case rel => exact ⟨k + 1, m2, g2, by omega, by go_num, rfl, rfl, hm2, HRI2, HST, HG2, drewN_below_ HBN.out _⟩
        case measure => simp [intOf]; omega
      case false =>
      rw [hgk, if_neg (by decide)] at hbit
      by_cases heq : m2.testBit a = m2.testBit b
      case pos =>
        have HST := Lib.hid (STAY.out (.inr heq))
        cases ha : m2.testBit a
        case false =>
          have hd0 : d = 0 := HN0.out ha (by rw [← heq]; exact ha)
          subst hd0
          clear hgk heq ha
          go_wp2_with fail
          go_quiet (fail)
          go_wp2
          go_roundw
          case rel => exact ⟨k + 1, m2, g2, by omega, by go_num, rfl, rfl, hm2, HRI2, HST, HG2, drewN_below_ HBN.out _⟩
          case measure => simp [intOf]; omega
        case true =>
          have hd0 : d = e := HN1.out ha (by rw [← heq]; exact ha)
          subst hd0
          clear hgk heq ha
          by_cases hdz : d = 0
          case pos =>
            subst hdz
            go_wp2_with fail
            go_quiet (fail)
            go_wp2
            go_roundw
            case rel => exact ⟨k + 1, m2, g2, by omega, by go_num, rfl, rfl, hm2, HRI2, HST, HG2, drewN_below_ HBN.out _⟩
            case measure => simp [intOf]; omega
          case neg =>
            have hdn : ((d : Int) != 0) = true := by simp; omega
            clear hdz
            go_wp2_with fail
            go_quiet (fail)
            go_wp2
            go_roundw
            case rel => exact ⟨k + 1, m2, g2, by omega, by go_num, rfl, rfl, hm2, HRI2, HST, HG2, drewN_below_ HBN.out _⟩
            case measure => simp [intOf]; omega
      case neg =>
        obtain ⟨hdz, hde⟩ := HN2.out heq
        have HR3 := Lib.hid (HGR.out hgk heq)
        have HG3 : Hid ((true : Bool) = true → m < m3) := Lib.hid (fun _ => by
          have h1 := HMO.out heq
          cases g2 with
          | true => have := HG2.out rfl; omega
          | false => have := (HC2.out rfl).1; omega)
        have hdn : ((d : Int) != 0) = true := by simp; omega
        have hdm : ((d : Int) != (e : Int)) = true := by simp; omega
        clear hgk heq hdz hde
        go_wp2_with fail
        go_quiet (fail)
        go_wp2
        go_roundw
        case rel => exact ⟨k + 1, m3, true, by omega, by go_num, rfl, rfl, hmo, HR3, Lib.hid (fun h => by cases h), Lib.hid (fun _ => HG3.out trivial), drewN_below_ HBN.out _⟩
        case measure => simp [intOf]; omega

set_option maxRecDepth 100000 in
set_option maxHeartbeats 4000000 in
theorem areCon_ {g1 g2 n1 n2 c1 c2 : Nat} {ss : List ByteArray} {fs : List Q4} {w : World} (h : NetAt g1 g2 n1 n2 c1 c2 ss fs w) (hv : netP ss fs) (x y gone : Nat) (hx : x < n1) (hy : y < n1) (hgo : gone < 2 ^ 20) :
    Calls Tryd.prog 68 #[.agg #[.slice (some ⟨g1, 0, none⟩) n1 c1, .slice (some ⟨g2, 0, none⟩) n2 c2], .int .i64 (x : Int), .int .i64 (y : Int), .int .i64 (gone : Int)] w (RetP (.bool (pb (Cn fs gone (x : Int) (y : Int)))) w) := by
  have hn8 : n1 ≤ 8 := by have := hv.1; have := h.ln1; omega
  have hb0 := (Below.refl w.heap.size w).alloc (Nat.le_refl _) (Obj.cells #[.slice (some ⟨g1, 0, none⟩) n1 c1, .slice (some ⟨g2, 0, none⟩) n2 c2] 32)
  have HB := Lib.hid hb0
  have CR := Lib.hid (reach_ (h.moved hb0) hv x gone hx hgo)
  have ht : (rchN n1 fs gone (x : Int)).testBit y = pb (Cn fs gone (x : Int) (y : Int)) := by unfold rchN; rw [setN_test, decide_eq_true hy, Bool.true_and]
  have hl : rchN n1 fs gone (x : Int) < 2 ^ 8 := Nat.lt_of_lt_of_le (setN_lt _ _) (Nat.pow_le_pow_right (by decide) hn8)
  obtain ⟨R, hR⟩ : ∃ R, rchN n1 fs gone (x : Int) = R := ⟨_, rfl⟩
  rw [hR] at CR ht hl
  have hbit := bit_of R y (by omega)
  rw [ht] at hbit
  clear h hv hb0 hR ht
  cases hp : pb (Cn fs gone (x : Int) (y : Int))
  case true =>
    rw [hp, if_pos rfl] at hbit
    go_enter Tryd.func68, Tryd.ntmps68
    go_wp2_with fail
    refine CR.out.mono ?_
    rintro e w1 ⟨rfl, hb1⟩
    have HB1 := Lib.hid (HB.out.trans (hb1.mono HB.out.size))
    clear hb1
    go_wp2
    go_ret
    exact ⟨rfl, HB1.out⟩
  case false =>
    rw [hp, if_neg (by decide)] at hbit
    go_enter Tryd.func68, Tryd.ntmps68
    go_wp2_with fail
    refine CR.out.mono ?_
    rintro e w1 ⟨rfl, hb1⟩
    have HB1 := Lib.hid (HB.out.trans (hb1.mono HB.out.size))
    clear hb1
    go_wp2
    go_ret
    exact ⟨rfl, HB1.out⟩
end Go.Proofs.YtnbeomnlobfpfaaDoor
