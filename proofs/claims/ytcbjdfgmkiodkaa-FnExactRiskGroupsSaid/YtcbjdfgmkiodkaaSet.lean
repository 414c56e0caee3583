/- Sets of small numbers: contracts of spec.l1Rising, impl.isSetBelow, impl.maskOf, spec.l1Has. No condition but those typed. -/
import Derived.Test.YtcbjdfgmkiodkaaInts
import Derived.Test.YtcbjdfgmkiodkaaAll
import Derived.Laws.BitsLemmas
namespace Go.Proofs.Ytcbjdfgmkiodkaa
open Go.ChangeShapes Go.WideShapes Go.ChangeAt Go.RowKit

theorem or_i64_ (a b : Nat) (ha : a < 2 ^ 62) (hb : b < 2 ^ 62) : bits .or .i64 (a : Int) (b : Int) = ((a ||| b : Nat) : Int) := by
  have hp : (2 : Nat) ^ 62 ≤ 2 ^ 64 := Nat.pow_le_pow_right (by decide) (by decide)
  have ha' : a % 2 ^ 64 = a := Nat.mod_eq_of_lt (Nat.lt_of_lt_of_le ha hp)
  have hb' : b % 2 ^ 64 = b := Nat.mod_eq_of_lt (Nat.lt_of_lt_of_le hb hp)
  have hx := Nat.or_lt_two_pow (n := 62) ha hb
  show IntKind.i64.wrap ((BitVec.ofInt 64 (a : Int) ||| BitVec.ofInt 64 (b : Int)).toNat : Int) = _
  rw [BitVec.ofInt_natCast, BitVec.ofInt_natCast, BitVec.toNat_or, BitVec.toNat_ofNat, BitVec.toNat_ofNat, ha', hb']
  rw [IntKind.wrap_i64]
  have : ((a ||| b : Nat) : Int) < 2 ^ 62 := by exact_mod_cast hx
  have := Int.natCast_nonneg (a ||| b)
  omega
theorem and_i64m (x : Nat) (h : x < 2 ^ 62) : bits .and .i64 (x : Int) 1 = ((x % 2 : Nat) : Int) := by
  have wr : ∀ n : Int, 0 ≤ n → n < 2 ^ 62 → IntKind.i64.wrap n = n := by intro n h0 h1; rw [IntKind.wrap_i64]; omega
  have := (bits_nat .i64 62 (by decide) wr x 1 h (by decide)).1
  rw [Nat.and_one_is_mod] at this
  exact this
def nth (zs : List Int) (k : Nat) : Int := zs.getD k 0
theorem nth_eq {zs : List Int} {k : Nat} (h : k < zs.length) : zs[k] = nth zs k := by unfold nth; rw [List.getD_eq_getElem?_getD, List.getElem?_eq_getElem h]; rfl
def lastN (zs : List Int) : Nat → Int
  | 0 => -1
  | k + 1 => nth zs k
def risN (zs : List Int) (lim : Int) : Nat → Bool
  | 0 => true
  | k + 1 => risN zs lim k && decide (lastN zs k < nth zs k ∧ nth zs k < lim)
def risB (zs : List Int) (lim : Int) : Bool := risN zs lim zs.length
theorem ris_last {zs : List Int} {lim : Int} : ∀ {k : Nat}, risN zs lim k = true → -1 ≤ lastN zs k ∧ (k = 0 ∨ (0 ≤ lastN zs k ∧ lastN zs k < lim))
  | 0, _ => ⟨Int.le_refl _, .inl rfl⟩
  | k + 1, h => by
    unfold risN at h
    simp only [Bool.and_eq_true, decide_eq_true_eq] at h
    obtain ⟨h1, h2, h3⟩ := h
    have := (ris_last h1).1
    exact ⟨by show -1 ≤ nth zs k; omega, .inr ⟨by show 0 ≤ nth zs k; omega, h3⟩⟩
theorem ris_yes {zs : List Int} {lim : Int} {k : Nat} (h : risN zs lim k = true) (h1 : lastN zs k < nth zs k) (h2 : nth zs k < lim) : risN zs lim (k + 1) = true := by
  unfold risN; rw [h, decide_eq_true ⟨h1, h2⟩]; rfl
theorem ris_down {zs : List Int} {lim : Int} {k : Nat} : ∀ d, risN zs lim (k + d) = true → risN zs lim k = true
  | 0, h => h
  | d + 1, h => by
    have h' : risN zs lim (k + d + 1) = true := h
    unfold risN at h'
    simp only [Bool.and_eq_true] at h'
    exact ris_down d h'.1
theorem ris_no {zs : List Int} {lim : Int} {k : Nat} (hk : k < zs.length) (h : ¬ (lastN zs k < nth zs k ∧ nth zs k < lim)) : risB zs lim = false := by
  cases hb : risB zs lim with
  | false => rfl
  | true =>
    unfold risB at hb
    rw [show zs.length = k + 1 + (zs.length - (k + 1)) by omega] at hb
    have := ris_down _ hb
    unfold risN at this
    simp only [Bool.and_eq_true, decide_eq_true_eq] at this
    exact absurd this.2 h
theorem ris_end {zs : List Int} {lim : Int} {n : Nat} (hn : zs.length = n) (h : risN zs lim n = true) : risB zs lim = true := by unfold risB; rw [hn]; exact h
theorem ris_all {zs : List Int} {lim : Int} (h : risB zs lim = true) : ∀ k, k < zs.length → 0 ≤ nth zs k ∧ nth zs k < lim := by
  intro k hk
  unfold risB at h
  rw [show zs.length = k + 1 + (zs.length - (k + 1)) by omega] at h
  have := (ris_last (ris_down _ h)).2
  rcases this with h0 | h0
  · omega
  · exact h0

theorem drewN_below_ {w w' : World} {B : Nat} (h : Below B w w') (m : Nat) : Below B w (w'.drewN m) := drewN_below h m
theorem pred_wrap_ (k m : Nat) (h : k = m + 1) (hk : k ≤ 1048576) : IntKind.i64.wrap ((k : Int) - 1) = (m : Int) := by
  rw [IntWalk.i64_in _ (by omega)]; omega
set_option maxHeartbeats 1000000 in
theorem isSet_ (A : Option Addr) (n c : Nat) (zs : List Int) (lim : Int) (w : World) (hn : zs.length = n) (hs : n ≤ 1048576) (hr : Rd w w.heap.size A (zs.map (Value.int .i64))) :
    Calls Try.prog 137 #[.slice A n c, .int .i64 lim] w fun e w' => e = .returned (.bool (risB zs lim)) ∧ w = w' := by
  have HN := Lib.hid hn; clear hn
  obtain ⟨R, hR⟩ : ∃ r, risB zs lim = r := ⟨_, rfl⟩
  rw [hR]
  have HR := Lib.hid hR; clear hR
  go_enter Try.func137, Try.ntmps137
  go_wp2
  go_loop [5, 10] (fun l i => ∃ (k : Nat) (x : Int), k ≤ n ∧ i = .int .i64 k ∧ l = .int .i64 x ∧ Hid (risN zs lim k = true ∧ lastN zs k = x)) (fun _ i => n - (intOf i).toNat)
  case atStart => exact ⟨0, -1, Nat.zero_le _, rfl, rfl, Lib.hid ⟨rfl, rfl⟩⟩
  case round =>
    obtain ⟨k, x, hk, rfl, rfl, HA⟩ := hrel
    by_cases hlt : k < n
    case neg =>
      obtain rfl : k = n := by omega
      obtain rfl : R = true := HR.out.symm.trans (ris_end HN.out HA.out.1)
      clear hlt
      go_wp2
      go_ret
      exact ⟨rfl, rfl⟩
    case pos =>
    have hks : k < zs.length := by have := HN.out; omega
    obtain ⟨ad, rfl, _, f0⟩ := hr.got (k := k) (by simpa using hks)
    simp only [List.getElem_map] at f0
    rw [nth_eq hks] at f0
    obtain ⟨z, hz⟩ : ∃ z, nth zs k = z := ⟨_, rfl⟩
    rw [hz] at f0
    by_cases h1 : z ≤ x
    · obtain rfl : R = false := HR.out.symm.trans (ris_no hks (by rw [HA.out.2, hz]; omega))
      clear hz
      go_wp2
      go_ret
      exact ⟨rfl, rfl⟩
    · have h1' : x < z := by omega
      have d1 : decide (z ≤ x) = false := decide_eq_false h1
      by_cases h2 : z < lim
      · have HS : Hid (risN zs lim (k + 1) = true ∧ lastN zs (k + 1) = z) := Lib.hid ⟨ris_yes HA.out.1 (by rw [HA.out.2, hz]; exact h1') (by rw [hz]; exact h2), hz⟩
        clear hz h1 HA
        go_wp2
        go_round
        case rel => exact ⟨k + 1, z, by omega, by go_num, rfl, HS⟩
        case measure => simp [intOf]; omega
      · obtain rfl : R = false := HR.out.symm.trans (ris_no hks (by rw [hz]; omega))
        have h2' : lim ≤ z := by omega
        clear hz h1 h2
        go_wp2
        go_ret
        exact ⟨rfl, rfl⟩

set_option maxRecDepth 100000 in
set_option maxHeartbeats 2000000 in
theorem rising_ (A : Option Addr) (n c : Nat) (zs : List Int) (hi : Int) (w : World) (hn : zs.length = n) (hs : n ≤ 1048576) (hr : Rd w w.heap.size A (zs.map (Value.int .i64))) :
    Calls Try.prog 134 #[.slice A n c, .int .i64 0, .int .i64 hi] w (RetV (.bool (risB zs (hi + 1))) w) := by
  have HN := Lib.hid hn; clear hn
  obtain ⟨R, hR⟩ : ∃ r, risB zs (hi + 1) = r := ⟨_, rfl⟩
  rw [hR]
  have HR := Lib.hid hR; clear hR
  go_enter Try.func134, Try.ntmps134
  go_wp2
  go_loopw [7] (fun i wr => ∃ k : Nat, k ≤ n ∧ i = .int .i64 k ∧ Hid (risN zs (hi + 1) k = true) ∧ Below w.heap.size w wr) (fun i _ => n - (intOf i).toNat)
  case atStart => exact ⟨0, Nat.zero_le _, rfl, Lib.hid rfl, Below.refl _ _⟩
  case round =>
    obtain ⟨k, hk, rfl, HA, hb⟩ := hrel
    by_cases hlt : k < n
    case neg =>
      obtain rfl : k = n := by omega
      obtain rfl : R = true := HR.out.symm.trans (ris_end HN.out HA.out)
      clear hlt
      go_wp2
      go_ret
      exact retB rfl hb
    case pos =>
    have hks : k < zs.length := by have := HN.out; omega
    have hrw := hr.over hb
    obtain ⟨ad, rfl, _, f0⟩ := hrw.got (k := k) (by simpa using hks)
    simp only [List.getElem_map] at f0
    rw [nth_eq hks] at f0
    obtain ⟨z, hz⟩ : ∃ z, nth zs k = z := ⟨_, rfl⟩
    rw [hz] at f0
    have HZ := Lib.hid hz
    have CI := Lib.hid (fun W => in_ z 0 hi W)
    cases hin : inB z 0 hi
    case false =>
      obtain rfl : R = false := HR.out.symm.trans (ris_no hks (by
        have h1 := inB_false hin
        have h2 := (ris_last HA.out).1
        rw [hz]; omega))
      rw [hin] at CI
      clear hz hin HA
      go_wp2
      go_quiet ((go_at_call 140; exact Calls.quiet_of_same ((CI.out _).mono fun e w' h => ⟨h.1, h.2.symm⟩)))
      go_wp2
      go_ret
      exact retB rfl (drewN_below_ hb _)
    case true =>
      rw [hin] at CI
      have HI := Lib.hid (inB_true hin)
      clear hin
      by_cases h0 : k = 0
      · subst h0
        have HS : Hid (risN zs (hi + 1) (0 + 1) = true) := Lib.hid (ris_yes HA.out (by show -1 < nth zs 0; have := HI.out; omega) (by have := HI.out; omega))
        clear hz HA
        have ea : ad.add 0 = ad := by unfold Addr.add; simp
        rw [ea] at f0
        clear ea
        go_wp2
        go_quiet ((go_at_call 140; exact Calls.quiet_of_same ((CI.out _).mono fun e w' h => ⟨h.1, h.2.symm⟩)))
        go_wp2
        go_roundw
        case rel => exact ⟨0 + 1, by omega, rfl, HS, drewN_below_ hb _⟩
        case measure => simp [intOf]; omega
      · obtain ⟨m, hkm⟩ : ∃ m, k = m + 1 := ⟨k - 1, by omega⟩
        have hwr := pred_wrap_ k m hkm (by omega)
        have hms : m < zs.length := by omega
        have hmn : (m : Int) < n := by omega
        have hd0 : decide (0 < k) = true := decide_eq_true (by omega)
        obtain ⟨ad', e', _, f1⟩ := hrw.got (k := m) (by simpa using hms)
        obtain rfl : ad = ad' := by injection e'
        simp only [List.getElem_map] at f1
        rw [nth_eq hms] at f1
        obtain ⟨x, hx⟩ : ∃ x, nth zs m = x := ⟨_, rfl⟩
        rw [hx] at f1
        have HL : Hid (lastN zs k = x) := Lib.hid (by rw [hkm]; exact hx)
        clear hx hkm e'
        by_cases h1 : x < z
        · have HS : Hid (risN zs (hi + 1) (k + 1) = true) := Lib.hid (ris_yes HA.out (by rw [HL.out, HZ.out]; exact h1) (by have := HI.out; rw [HZ.out]; omega))
          have d1 : decide (z ≤ x) = false := decide_eq_false (by omega)
          clear hz HA HL h0
          go_wp2
          go_quiet ((go_at_call 140; exact Calls.quiet_of_same ((CI.out _).mono fun e w' h => ⟨h.1, h.2.symm⟩)))
          clear hwr
          go_wp2
          go_roundw
          case rel => exact ⟨k + 1, by omega, by go_num, HS, drewN_below_ hb _⟩
          case measure => simp [intOf]; omega
        · obtain rfl : R = false := HR.out.symm.trans (ris_no hks (by rw [HL.out, HZ.out]; omega))
          have h1' : z ≤ x := by omega
          clear hz HA HL h0 h1
          go_wp2
          go_quiet ((go_at_call 140; exact Calls.quiet_of_same ((CI.out _).mono fun e w' h => ⟨h.1, h.2.symm⟩)))
          clear hwr
          go_wp2
          go_ret
          exact retB rfl (drewN_below_ hb _)

def maskN (zs : List Int) : Nat → Nat
  | 0 => 0
  | k + 1 => maskN zs k ||| 2 ^ (nth zs k).toNat
theorem mask_test {zs : List Int} {i : Nat} : ∀ {k : Nat}, (∀ j, j < k → 0 ≤ nth zs j) → (maskN zs k).testBit i = decide (∃ j, j < k ∧ nth zs j = (i : Int))
  | 0, _ => by rw [decide_eq_false (by rintro ⟨j, h, _⟩; omega)]; exact Nat.zero_testBit i
  | k + 1, h => by
    have ih := mask_test (i := i) (k := k) (fun j hj => h j (by omega))
    unfold maskN
    rw [Nat.testBit_or, ih, Nat.testBit_two_pow]
    have h0 := h k (by omega)
    by_cases h1 : nth zs k = (i : Int)
    · rw [decide_eq_true (show (nth zs k).toNat = i by omega), Bool.or_true]
      exact (decide_eq_true ⟨k, by omega, h1⟩).symm
    · rw [decide_eq_false (show ¬ (nth zs k).toNat = i by omega), Bool.or_false]
      by_cases h2 : ∃ j, j < k ∧ nth zs j = (i : Int)
      · rw [decide_eq_true h2]; obtain ⟨j, hj, e⟩ := h2; exact (decide_eq_true ⟨j, by omega, e⟩).symm
      · rw [decide_eq_false h2]
        refine (decide_eq_false ?_).symm
        rintro ⟨j, hj, e⟩
        by_cases hjk : j < k
        · exact h2 ⟨j, hjk, e⟩
        · obtain rfl : j = k := by omega
          exact h1 e
theorem mem_nth {zs : List Int} {x : Int} : x ∈ zs ↔ ∃ j, j < zs.length ∧ nth zs j = x := by
  constructor
  · intro h
    obtain ⟨j, hj, e⟩ := List.getElem_of_mem h
    exact ⟨j, hj, by rw [← nth_eq hj]; exact e⟩
  · rintro ⟨j, hj, e⟩
    rw [← e, ← nth_eq hj]; exact List.getElem_mem hj
/-- the bit of a number in the mask of a set. -/
theorem mask_bit {zs : List Int} {n a : Nat} (hn : zs.length = n) (h : ∀ k, k < n → 0 ≤ nth zs k ∧ nth zs k < 20) (hm : maskN zs n < 2 ^ 20) :
    bits .and .i64 ((maskN zs n : Int) / (2 : Int) ^ a) 1 = if (a : Int) ∈ zs then 1 else 0 := by
  have e := and_i64m (maskN zs n / 2 ^ a) (Nat.lt_of_le_of_lt (Nat.div_le_self _ _) (by omega))
  have e2 : ((maskN zs n / 2 ^ a : Nat) : Int) = (maskN zs n : Int) / (2 : Int) ^ a := by simp
  rw [e2] at e
  rw [e]
  have ht : (maskN zs n).testBit a = decide ((a : Int) ∈ zs) := by
    rw [mask_test (fun j hj => (h j hj).1)]
    exact decide_eq_decide.2 (by rw [mem_nth, hn])
  rw [Nat.testBit_eq_decide_div_mod_eq] at ht
  by_cases hm' : (a : Int) ∈ zs
  · rw [decide_eq_true hm'] at ht
    rw [if_pos hm', of_decide_eq_true ht]; rfl
  · rw [decide_eq_false hm'] at ht
    have := of_decide_eq_false ht
    rw [if_neg hm', show maskN zs n / 2 ^ a % 2 = 0 by omega]; rfl
set_option maxHeartbeats 1000000 in
theorem maskOf_ (A : Option Addr) (n c : Nat) (zs : List Int) (w : World) (hn : zs.length = n) (hs : n ≤ 1048576) (hr : Rd w w.heap.size A (zs.map (Value.int .i64))) (hz : ∀ k, k < n → 0 ≤ nth zs k ∧ nth zs k < 20) :
    Calls Try.prog 139 #[.slice A n c] w fun e w' => e = .returned (.int .i64 (maskN zs n : Nat)) ∧ w = w' := by
  have HN := Lib.hid hn; clear hn
  have HZ := Lib.hid hz; clear hz
  go_enter Try.func139, Try.ntmps139
  go_wp2
  go_loop [3, 8] (fun l i => ∃ (k m : Nat), k ≤ n ∧ i = .int .i64 k ∧ l = .int .i64 m ∧ Hid (maskN zs k = m ∧ m < 2 ^ 20)) (fun _ i => n - (intOf i).toNat)
  case atStart => exact ⟨0, 0, Nat.zero_le _, rfl, rfl, Lib.hid ⟨rfl, by decide⟩⟩
  case round =>
    obtain ⟨k, m, hk, rfl, rfl, HA⟩ := hrel
    by_cases hlt : k < n
    case neg =>
      obtain rfl : k = n := by omega
      obtain rfl : maskN zs k = m := HA.out.1
      clear hlt
      go_wp2
      go_ret
      exact ⟨rfl, rfl⟩
    case pos =>
    have hks : k < zs.length := by have := HN.out; omega
    obtain ⟨ad, rfl, _, f0⟩ := hr.got (k := k) (by simpa using hks)
    simp only [List.getElem_map] at f0
    rw [nth_eq hks] at f0
    obtain ⟨y, hy⟩ : ∃ y : Nat, nth zs k = (y : Int) := ⟨(nth zs k).toNat, by have := HZ.out k hlt; omega⟩
    have hy20 : y < 20 := by have := HZ.out k hlt; omega
    rw [hy] at f0
    have hp : 2 ^ y < 2 ^ 20 := Nat.pow_lt_pow_right (by decide) hy20
    have HX : Hid (bits .or .i64 (m : Int) ((2 : Int) ^ y) = ((m ||| 2 ^ y : Nat) : Int)) := Lib.hid (by
      have := or_i64_ m (2 ^ y) (by have := HA.out.2; omega) (by omega)
      rw [show ((2 ^ y : Nat) : Int) = (2 : Int) ^ y by simp] at this
      exact this)
    have HS : Hid (maskN zs (k + 1) = m ||| 2 ^ y ∧ m ||| 2 ^ y < 2 ^ 20) := Lib.hid ⟨by unfold maskN; rw [HA.out.1, hy, Int.toNat_natCast], Nat.or_lt_two_pow HA.out.2 hp⟩
    have hw1 : (2 : Int) ^ y ≤ 1048575 := by
      have : ((2 ^ y : Nat) : Int) ≤ 1048575 := by omega
      simpa using this
    have hw0 : 0 ≤ (2 : Int) ^ y := Int.pow_nonneg (by omega)
    clear hy HA hp
    go_wp2
    go_round
    case rel => exact ⟨k + 1, m ||| 2 ^ y, by omega, by go_num, congrArg _ HX.out, HS⟩
    case measure => simp [intOf]; omega
end Go.Proofs.Ytcbjdfgmkiodkaa
