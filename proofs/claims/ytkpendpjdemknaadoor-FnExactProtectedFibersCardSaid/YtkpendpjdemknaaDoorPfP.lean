/- Rings: fibers that are protected: plain words. No condition. -/
import Derived.Test.YtkpendpjdemknaaDoorRgR
import Derived.Test.YtkpendpjdemknaaDoorRch
import Derived.Test.YtkpendpjdemknaaDoorLst
namespace Go.Proofs.YtkpendpjdemknaaDoor
open Go.ChangeShapes Go.WideShapes Go.ChangeAt Go.RowKit

theorem maskL_lt {zs : List Int} : ∀ {k : Nat}, (∀ j, j < k → 0 ≤ nth zs j ∧ nth zs j < 20) → maskN zs k < 2 ^ 20
  | 0, _ => Nat.two_pow_pos 20
  | k + 1, h => by
    unfold maskN
    have h0 := h k (by omega)
    exact Nat.or_lt_two_pow (maskL_lt fun j hj => h j (by omega)) (Nat.pow_lt_pow_right (by decide) (by omega))
/-- the bits of x that y lacks. -/
def clM (x y : Nat) : Nat := x &&& (2 ^ 64 - (y + 1))
theorem clM_bit {x y : Nat} (hx : x < 2 ^ 62) (hy : y < 2 ^ 62) (i : Nat) : (clM x y).testBit i = (x.testBit i && !y.testBit i) := by
  unfold clM
  have hp : (2 : Nat) ^ 62 ≤ 2 ^ 64 := Nat.pow_le_pow_right (by decide) (by decide)
  rw [Nat.testBit_and, Nat.testBit_two_pow_sub_succ (Nat.lt_of_lt_of_le hy hp)]
  by_cases hi : i < 64
  · rw [decide_eq_true hi, Bool.true_and]
  · have h1 : x.testBit i = false := Nat.testBit_lt_two_pow (Nat.lt_of_lt_of_le (Nat.lt_of_lt_of_le hx hp) (Nat.pow_le_pow_right (by decide) (by omega)))
    rw [h1]; simp
theorem clM_i64 (x y : Nat) (hx : x < 2 ^ 62) (hy : y < 2 ^ 62) : bits .andNot .i64 (x : Int) (y : Int) = ((clM x y : Nat) : Int) := by
  have hp : (2 : Nat) ^ 62 ≤ 2 ^ 64 := Nat.pow_le_pow_right (by decide) (by decide)
  have hx' : x % 2 ^ 64 = x := Nat.mod_eq_of_lt (Nat.lt_of_lt_of_le hx hp)
  have hy' : y % 2 ^ 64 = y := Nat.mod_eq_of_lt (Nat.lt_of_lt_of_le hy hp)
  have hl : clM x y < 2 ^ 62 := Nat.lt_of_le_of_lt Nat.and_le_left hx
  show IntKind.i64.wrap ((BitVec.ofInt 64 (x : Int) &&& ~~~ BitVec.ofInt 64 (y : Int)).toNat : Int) = _
  rw [BitVec.ofInt_natCast, BitVec.ofInt_natCast, BitVec.toNat_and, BitVec.toNat_not, BitVec.toNat_ofNat, BitVec.toNat_ofNat, hx', hy']
  rw [show 2 ^ 64 - 1 - y = 2 ^ 64 - (y + 1) by omega]
  show IntKind.i64.wrap ((clM x y : Nat) : Int) = _
  rw [IntKind.wrap_i64]
  have : ((clM x y : Nat) : Int) < 2 ^ 62 := by exact_mod_cast hl
  omega
def ownQ (fl : List Int) (i : Nat) : Bool := decide ((i : Int) ∈ fl)
def strQ (fs : List Q4) (vs : List Int) (i : Nat) : Bool := decide ((fibI fs (i : Int)).a ∈ vs) && decide ((fibI fs (i : Int)).b ∈ vs)
def crsQ (fs : List Q4) (fl vs : List Int) (i : Nat) : Bool := !ownQ fl i && strQ fs vs i
theorem walkR_nodes {ss : List ByteArray} {fs : List Q4} (hv : netP ss fs) : ∀ {fl ns vs : List Int}, walkR fs fl ns = some vs → (∀ v ∈ ns, 0 ≤ v ∧ v < (ss.length : Int)) → ∀ v ∈ vs, 0 ≤ v ∧ v < (ss.length : Int)
  | [], ns, vs, h, hn => by rw [walkR] at h; injection h with h; subst h; exact hn
  | x :: r, ns, vs, h, hn => by
    cases hs : stepO fs ns x with
    | none => rw [walkR_none hs] at h; exact absurd h (by simp)
    | some nx =>
      rw [walkR_some hs] at h
      refine walkR_nodes hv h ?_
      intro v hvm
      rcases List.mem_cons.1 hvm with rfl | hvm
      · unfold stepO at hs
        split at hs
        · rename_i hc
          injection hs with hs
          subst hs
          have hk : x.toNat < fs.length := by have := hc.1; omega
          have hf := (hv.2.2.2 x.toNat hk hk).1
          unfold fibP at hf
          have hq : fibI fs x = fs[x.toNat] := by unfold fibI; rw [List.getD_eq_getElem?_getD, List.getElem?_eq_getElem hk]; rfl
          rw [← hq] at hf
          rcases acr_two hc.2.1 with ⟨_, e⟩ | ⟨_, e⟩ <;> rw [e] <;> omega
        · exact absurd hs (by simp)
      · exact hn v hvm
theorem ring_facts {ss : List ByteArray} {fs : List Q4} {fl : List Int} (h : irB ss fs fl = true) : netP ss fs ∧ 2 ≤ fl.length ∧ (∀ x ∈ fl, 0 ≤ x ∧ x < (fs.length : Int)) ∧ (∃ vs, rgI fs fl = some vs ∧ rgnL ss fs fl = vs.reverse) ∧ ∀ v ∈ rgnL ss fs fl, 0 ≤ v ∧ v < (ss.length : Int) := by
  have hq : ∃ vs, rgQ ss fs fl = some vs := by
    unfold irB at h
    cases hq : rgQ ss fs fl with
    | none => rw [hq] at h; cases h
    | some vs => exact ⟨vs, rfl⟩
  obtain ⟨vs, hvs⟩ := hq
  have hpv : pb (netP ss fs) = true ∧ rgI fs fl = some vs := by
    unfold rgQ at hvs
    cases hp : pb (netP ss fs) with
    | false => rw [hp] at hvs; cases hvs
    | true => rw [hp] at hvs; exact ⟨rfl, hvs⟩
  have hv := of_pb hpv.1
  have hL : rgnL ss fs fl = vs.reverse := by unfold rgnL; rw [hvs]; rfl
  obtain ⟨f0, mid, last, e, h0, h1, _, h3, _, _, _⟩ := rg_some hpv.2
  have hfa : 0 ≤ (fibI fs f0).a ∧ (fibI fs f0).a < (ss.length : Int) := by
    have hk : f0.toNat < fs.length := by omega
    have hf := (hv.2.2.2 f0.toNat hk hk).1
    unfold fibP at hf
    have hq : fibI fs f0 = fs[f0.toNat] := by unfold fibI; rw [List.getD_eq_getElem?_getD, List.getElem?_eq_getElem hk]; rfl
    rw [← hq] at hf
    omega
  refine ⟨hv, by rw [e]; simp, ?_, ⟨vs, hpv.2, hL⟩, ?_⟩
  · intro x hx
    rw [e] at hx
    rcases List.mem_append.1 hx with hx | hx
    · exact walkR_mem h1 x hx
    · rw [List.mem_singleton.1 hx]; exact h3
  · intro v hvm
    rw [hL] at hvm
    exact walkR_nodes hv h1 (fun z hz => by rw [List.mem_singleton.1 hz]; exact hfa) v (List.mem_reverse.1 hvm)
noncomputable def prO (ss : List ByteArray) (fs : List Q4) (fl : List Int) : List Int := if irB ss fs fl then selK (ownQ fl) fs.length else []
noncomputable def prC (ss : List ByteArray) (fs : List Q4) (fl : List Int) : List Int := if irB ss fs fl then selK (crsQ fs fl (rgnL ss fs fl)) fs.length else []
theorem pr_no {ss : List ByteArray} {fs : List Q4} {fl : List Int} (h : irB ss fs fl = false) : prO ss fs fl = [] ∧ prC ss fs fl = [] := by
  unfold prO prC; rw [h]; exact ⟨rfl, rfl⟩
theorem pr_yes {ss : List ByteArray} {fs : List Q4} {fl : List Int} (h : irB ss fs fl = true) : prO ss fs fl = selK (ownQ fl) fs.length ∧ prC ss fs fl = selK (crsQ fs fl (rgnL ss fs fl)) fs.length := by
  unfold prO prC; rw [h]; exact ⟨rfl, rfl⟩
theorem pr_len (ss : List ByteArray) (fs : List Q4) (fl : List Int) : (prO ss fs fl).length ≤ fs.length ∧ (prC ss fs fl).length ≤ fs.length := by
  cases h : irB ss fs fl with
  | false => obtain ⟨e1, e2⟩ := pr_no h; rw [e1, e2]; exact ⟨Nat.zero_le _, Nat.zero_le _⟩
  | true => obtain ⟨e1, e2⟩ := pr_yes h; rw [e1, e2]; exact ⟨sel_len _ _, sel_len _ _⟩
theorem nth_of {fl : List Int} {N : Int} (h : ∀ x ∈ fl, 0 ≤ x ∧ x < N) : ∀ k, k < fl.length → 0 ≤ nth fl k ∧ nth fl k < N := fun k hk => by
  rw [← nth_eq hk]; exact h _ (List.getElem_mem hk)
theorem mask_mem {fl : List Int} (h : ∀ x ∈ fl, 0 ≤ x) (i : Nat) : (maskN fl fl.length).testBit i = decide ((i : Int) ∈ fl) := by
  rw [mask_test fun j hj => by rw [← nth_eq hj]; exact h _ (List.getElem_mem hj)]
  exact decide_eq_decide.2 mem_nth.symm
theorem lt_of_bits {m n : Nat} (h : ∀ i, n ≤ i → m.testBit i = false) : m < 2 ^ n := by
  apply Nat.lt_of_not_le
  intro hle
  obtain ⟨i, hi, hb⟩ := Nat.exists_ge_and_testBit_of_ge_two_pow hle
  rw [h i hi] at hb; cases hb
theorem own_bl {fl : List Int} {N : Nat} (hN : N ≤ 20) (h : ∀ x ∈ fl, 0 ≤ x ∧ x < (N : Int)) : bl (maskN fl fl.length) = selK (ownQ fl) N ∧ maskN fl fl.length < 2 ^ N := by
  have hb := mask_mem (fl := fl) (fun x hx => (h x hx).1)
  have hl : maskN fl fl.length < 2 ^ N := lt_of_bits (fun i hi => by
    rw [hb]; exact decide_eq_false (fun hm => by have := h _ hm; omega))
  refine ⟨?_, hl⟩
  rw [bl_sel (by omega) hl]
  exact sel_ext fun i hi => hb i
theorem setN_lt9 {p : Nat → Bool} {N : Nat} : setN p N < 2 ^ N := lt_of_bits (fun i hi => by rw [setN_test, decide_eq_false (by omega)]; rfl)
theorem crs_bl {fs : List Q4} {fl vs : List Int} {N : Nat} (hN : N ≤ 20) (h : ∀ x ∈ fl, 0 ≤ x ∧ x < (N : Int)) : bl (clM (setN (strQ fs vs) N) (maskN fl fl.length)) = selK (crsQ fs fl vs) N ∧ clM (setN (strQ fs vs) N) (maskN fl fl.length) < 2 ^ N := by
  have hb := mask_mem (fl := fl) (fun x hx => (h x hx).1)
  have hp : 2 ^ N ≤ 2 ^ 62 := Nat.pow_le_pow_right (by decide) (by omega)
  have h1 : setN (strQ fs vs) N < 2 ^ 62 := Nat.lt_of_lt_of_le setN_lt9 hp
  have h2 : maskN fl fl.length < 2 ^ 62 := Nat.lt_of_lt_of_le (own_bl hN h).2 hp
  have ht : ∀ i, (clM (setN (strQ fs vs) N) (maskN fl fl.length)).testBit i = (decide (i < N) && crsQ fs fl vs i) := fun i => by
    rw [clM_bit h1 h2, setN_test, hb]
    unfold crsQ ownQ
    cases decide (i < N) <;> cases strQ fs vs i <;> cases decide ((i : Int) ∈ fl) <;> rfl
  have hl : clM (setN (strQ fs vs) N) (maskN fl fl.length) < 2 ^ N := lt_of_bits (fun i hi => by rw [ht, decide_eq_false (by omega)]; rfl)
  refine ⟨?_, hl⟩
  rw [bl_sel (by omega) hl]
  exact sel_ext fun i hi => by rw [ht, decide_eq_true hi]; rfl
theorem setN_in {p : Nat → Bool} {k : Nat} (h : p k = true) : setN p (k + 1) = setN p k ||| 2 ^ k := by rw [setN, h]; rfl
theorem setN_out {p : Nat → Bool} {k : Nat} (h : p k = false) : setN p (k + 1) = setN p k := by rw [setN, h]; simp
end Go.Proofs.YtkpendpjdemknaaDoor
