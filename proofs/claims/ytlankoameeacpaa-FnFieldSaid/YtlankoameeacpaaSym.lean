/- Words of our own: products of symbols, tables read by columns. Contracts: symbols, products, inverses. No condition but those typed. -/
import Derived.Test.YtlankoameeacpaaInts
import Derived.Test.YtlankoameeacpaaAll
import Derived.Laws.BitsLemmas
namespace Go.Proofs.Ytlankoameeacpaa
open Go.ChangeShapes Go.WideShapes Go.ChangeAt Go.RowKit

def mul1 (a b : Nat) : Nat → Nat
  | 0 => 0
  | k + 1 => if b / 2 ^ k % 2 = 1 then mul1 a b k ^^^ (a * 2 ^ k) else mul1 a b k
def mul2 (a b : Nat) : Nat → Nat
  | 0 => mul1 a b 4
  | k + 1 => if mul2 a b k / 2 ^ (6 - k) % 2 = 1 then mul2 a b k ^^^ (19 * 2 ^ (2 - k)) else mul2 a b k
def mulN (a b : Nat) : Nat := mul2 a b 3
theorem shl_lt {a k : Nat} (ha : a < 16) (hk : k < 4) : a * 2 ^ k < 128 := by
  have h : k = 0 ∨ k = 1 ∨ k = 2 ∨ k = 3 := by omega
  rcases h with rfl | rfl | rfl | rfl <;> omega
theorem mul1_lt {a b : Nat} (ha : a < 16) : ∀ k, k ≤ 4 → mul1 a b k < 128
  | 0, _ => by unfold mul1; omega
  | k + 1, hk => by
    unfold mul1
    have ih := mul1_lt (b := b) ha k (by omega)
    split
    · exact Nat.xor_lt_two_pow (n := 7) ih (shl_lt ha (by omega))
    · exact ih
theorem mul2_lt {a b : Nat} (ha : a < 16) : ∀ k, k ≤ 3 → mul2 a b k < 128
  | 0, _ => by unfold mul2; exact mul1_lt ha 4 (Nat.le_refl _)
  | k + 1, hk => by
    unfold mul2
    have ih := mul2_lt (b := b) ha k (by omega)
    split
    · refine Nat.xor_lt_two_pow (n := 7) ih ?_
      have h : k = 0 ∨ k = 1 ∨ k = 2 := by omega
      rcases h with rfl | rfl | rfl <;> decide
    · exact ih
theorem mulN_lt : ∀ a, a < 16 → ∀ b, b < 16 → mulN a b < 16 := by decide +kernel
def invFrom (a : Nat) : Nat → Nat → Nat
  | 0, b => b
  | f + 1, b => if mulN a b = 1 then b else invFrom a f (b + 1)
def invN (a : Nat) : Nat := invFrom a 15 1
theorem inv_ok : ∀ a, a < 16 → a ≠ 0 → 1 ≤ invN a ∧ invN a < 16 ∧ mulN a (invN a) = 1 ∧ ∀ b, b < invN a → 1 ≤ b → mulN a b ≠ 1 := by decide +kernel

theorem wrap_i64_ (n : Int) (h0 : 0 ≤ n) (h1 : n < 2 ^ 62) : IntKind.i64.wrap n = n := by rw [IntKind.wrap_i64]; omega
theorem and_i64_ (a b : Nat) (ha : a < 2 ^ 62) (hb : b < 2 ^ 62) : bits .and .i64 (a : Int) (b : Int) = ((a &&& b : Nat) : Int) := (bits_nat .i64 62 (by decide) wrap_i64_ a b ha hb).1
theorem and_one_ (x : Nat) (h : x < 2 ^ 62) : bits .and .i64 (x : Int) 1 = ((x % 2 : Nat) : Int) := by
  have := and_i64_ x 1 h (by decide)
  rw [Nat.and_one_is_mod] at this
  exact this
def symB (x : Int) : Bool := inB x 0 15
theorem symB_nat {x : Int} (h : symB x = true) : ∃ a : Nat, x = (a : Int) ∧ a < 16 := by
  have := inB_true h
  exact ⟨x.toNat, by omega, by omega⟩

theorem xor_i64_ (a b : Nat) (ha : a < 2 ^ 62) (hb : b < 2 ^ 62) : bits .xor .i64 (a : Int) (b : Int) = ((a ^^^ b : Nat) : Int) := by
  have hp : (2 : Nat) ^ 62 ≤ 2 ^ 64 := Nat.pow_le_pow_right (by decide) (by decide)
  have ha' : a % 2 ^ 64 = a := Nat.mod_eq_of_lt (Nat.lt_of_lt_of_le ha hp)
  have hb' : b % 2 ^ 64 = b := Nat.mod_eq_of_lt (Nat.lt_of_lt_of_le hb hp)
  have hx := Nat.xor_lt_two_pow (n := 62) ha hb
  show IntKind.i64.wrap ((BitVec.ofInt 64 (a : Int) ^^^ BitVec.ofInt 64 (b : Int)).toNat : Int) = _
  rw [BitVec.ofInt_natCast, BitVec.ofInt_natCast, BitVec.toNat_xor, BitVec.toNat_ofNat, BitVec.toNat_ofNat, ha', hb']
  exact wrap_i64_ _ (Int.natCast_nonneg _) (by exact_mod_cast hx)
theorem bit_yes (b m : Nat) (hb : b < 2 ^ 62) (h : b / m % 2 = 1) : (bits .and .i64 ((b : Int) / (m : Int)) 1 == 1) = true := by
  have e := and_one_ (b / m) (Nat.lt_of_le_of_lt (Nat.div_le_self _ _) hb)
  rw [h] at e
  have e2 : ((b / m : Nat) : Int) = (b : Int) / (m : Int) := by simp
  rw [e2] at e
  rw [e]; rfl
theorem bit_no (b m : Nat) (hb : b < 2 ^ 62) (h : ¬ b / m % 2 = 1) : (bits .and .i64 ((b : Int) / (m : Int)) 1 == 1) = false := by
  have e := and_one_ (b / m) (Nat.lt_of_le_of_lt (Nat.div_le_self _ _) hb)
  have h0 : b / m % 2 = 0 := by omega
  rw [h0] at e
  have e2 : ((b / m : Nat) : Int) = (b : Int) / (m : Int) := by simp
  rw [e2] at e
  rw [e]; rfl
set_option maxHeartbeats 4000000 in
theorem iMul (a b : Nat) (ha : a < 16) (hb : b < 16) (w : World) : Calls Try.prog 52 #[.int .i64 a, .int .i64 b] w fun e w' => e = .returned (.int .i64 (mulN a b : Nat)) ∧ w = w' := by
  go_enter Try.func52, Try.ntmps52
  go_wp2
  go_loop [5, 8] (fun p i => ∃ (k o : Nat), k ≤ 4 ∧ i = .int .i64 k ∧ p = .int .i64 o ∧ o < 128 ∧ Hid (mul1 a b k = o)) (fun _ i => 4 - (intOf i).toNat)
  case atStart => exact ⟨0, 0, by omega, rfl, rfl, by omega, Lib.hid rfl⟩
  case round =>
    obtain ⟨k, o, hk, rfl, rfl, ho, HO⟩ := hrel
    by_cases hlt : k < 4
    case pos =>
      have hlt' : (k : Int) < 4 := by omega
      have hsh := shl_lt ha hlt
      have s0 : 0 ≤ (a : Int) * 2 ^ k := Int.mul_nonneg (by omega) (Int.pow_nonneg (by omega))
      have s1 : (a : Int) * 2 ^ k ≤ 127 := by have : ((a * 2 ^ k : Nat) : Int) ≤ 127 := by omega
                                              simpa using this
      have ex := xor_i64_ o (a * 2 ^ k) (by omega) (by omega)
      rw [show ((a * 2 ^ k : Nat) : Int) = (a : Int) * 2 ^ k by simp] at ex
      have HE := Lib.hid ex
      by_cases hbit : b / 2 ^ k % 2 = 1
      · have q1 : (bits .and .i64 ((b : Int) / 2 ^ k) 1 == 1) = true := by simpa using bit_yes b (2 ^ k) (by omega) hbit
        have HN : Hid (mul1 a b (k + 1) = o ^^^ (a * 2 ^ k)) := Lib.hid (by show (if b / 2 ^ k % 2 = 1 then _ else _) = _; rw [if_pos hbit, HO.out])
        have hl : o ^^^ (a * 2 ^ k) < 128 := Nat.xor_lt_two_pow (n := 7) ho hsh
        clear ex hbit
        go_wp2
        go_round
        case rel => exact ⟨k + 1, _, by omega, by go_num, congrArg _ HE.out, hl, HN⟩
        case measure => simp [intOf]; omega
      · have q1 : (bits .and .i64 ((b : Int) / 2 ^ k) 1 == 1) = false := by simpa using bit_no b (2 ^ k) (by omega) hbit
        have HN : Hid (mul1 a b (k + 1) = o) := Lib.hid (by show (if b / 2 ^ k % 2 = 1 then _ else _) = _; rw [if_neg hbit, HO.out])
        clear ex hbit s0 s1
        go_wp2
        go_round
        case rel => exact ⟨k + 1, o, by omega, by go_num, rfl, ho, HN⟩
        case measure => simp [intOf]; omega
    case neg =>
    obtain rfl : k = 4 := by omega
    go_wp2
    go_loop [5, 7] (fun p i => ∃ (j o : Nat) (x : Int), j ≤ 3 ∧ i = .int .i64 x ∧ p = .int .i64 o ∧ o < 128 ∧ Hid (x = 6 - (j : Int)) ∧ Hid (mul2 a b j = o)) (fun _ i => (intOf i).toNat)
    case atStart => exact ⟨0, o, 6, by omega, rfl, rfl, ho, Lib.hid (by omega), Lib.hid (by unfold mul2; exact HO.out)⟩
    case round =>
      clear HO ho
      obtain ⟨j, o2, x, hj, rfl, rfl, ho, HX, HO⟩ := hrel
      have hcs : j = 0 ∨ j = 1 ∨ j = 2 ∨ j = 3 := by omega
      rcases hcs with rfl | rfl | rfl | rfl
      case inr.inr.inr =>
        obtain rfl : x = 3 := by have := HX.out; omega
        obtain rfl : mulN a b = o2 := HO.out
        go_wp2
        go_ret
        exact ⟨rfl, rfl⟩
      case inl =>
        obtain rfl : x = 6 := by have := HX.out; omega
        by_cases hbit : o2 / 64 % 2 = 1
        · have q1 : (bits .and .i64 ((o2 : Int) / 64) 1 == 1) = true := bit_yes o2 64 (by omega) hbit
          have HN : Hid (mul2 a b 1 = o2 ^^^ 76) := Lib.hid (by show (if mul2 a b 0 / 2 ^ (6 - 0) % 2 = 1 then _ else _) = _; rw [HO.out, if_pos hbit])
          have hl : o2 ^^^ 76 < 128 := by have := mul2_lt (b := b) ha 1 (by omega); rw [HN.out] at this; exact this
          have ex := xor_i64_ o2 76 (by omega) (by decide)
          have HE := Lib.hid ex
          clear ex hbit
          go_wp2
          go_round
          case rel => exact ⟨1, _, 5, by omega, rfl, congrArg _ HE.out, hl, Lib.hid (by omega), HN⟩
          case measure => simp [intOf]
        · have q1 : (bits .and .i64 ((o2 : Int) / 64) 1 == 1) = false := bit_no o2 64 (by omega) hbit
          have HN : Hid (mul2 a b 1 = o2) := Lib.hid (by show (if mul2 a b 0 / 2 ^ (6 - 0) % 2 = 1 then _ else _) = _; rw [HO.out, if_neg hbit])
          clear hbit
          go_wp2
          go_round
          case rel => exact ⟨1, _, 5, by omega, rfl, rfl, ho, Lib.hid (by omega), HN⟩
          case measure => simp [intOf]
      case inr.inl =>
        obtain rfl : x = 5 := by have := HX.out; omega
        by_cases hbit : o2 / 32 % 2 = 1
        · have q1 : (bits .and .i64 ((o2 : Int) / 32) 1 == 1) = true := bit_yes o2 32 (by omega) hbit
          have HN : Hid (mul2 a b 2 = o2 ^^^ 38) := Lib.hid (by show (if mul2 a b 1 / 2 ^ (6 - 1) % 2 = 1 then _ else _) = _; rw [HO.out, if_pos hbit])
          have hl : o2 ^^^ 38 < 128 := by have := mul2_lt (b := b) ha 2 (by omega); rw [HN.out] at this; exact this
          have ex := xor_i64_ o2 38 (by omega) (by decide)
          have HE := Lib.hid ex
          clear ex hbit
          go_wp2
          go_round
          case rel => exact ⟨2, _, 4, by omega, rfl, congrArg _ HE.out, hl, Lib.hid (by omega), HN⟩
          case measure => simp [intOf]
        · have q1 : (bits .and .i64 ((o2 : Int) / 32) 1 == 1) = false := bit_no o2 32 (by omega) hbit
          have HN : Hid (mul2 a b 2 = o2) := Lib.hid (by show (if mul2 a b 1 / 2 ^ (6 - 1) % 2 = 1 then _ else _) = _; rw [HO.out, if_neg hbit])
          clear hbit
          go_wp2
          go_round
          case rel => exact ⟨2, _, 4, by omega, rfl, rfl, ho, Lib.hid (by omega), HN⟩
          case measure => simp [intOf]
      case inr.inr.inl =>
        obtain rfl : x = 4 := by have := HX.out; omega
        by_cases hbit : o2 / 16 % 2 = 1
        · have q1 : (bits .and .i64 ((o2 : Int) / 16) 1 == 1) = true := bit_yes o2 16 (by omega) hbit
          have HN : Hid (mul2 a b 3 = o2 ^^^ 19) := Lib.hid (by show (if mul2 a b 2 / 2 ^ (6 - 2) % 2 = 1 then _ else _) = _; rw [HO.out, if_pos hbit])
          have hl : o2 ^^^ 19 < 128 := by have := mul2_lt (b := b) ha 3 (by omega); rw [HN.out] at this; exact this
          have ex := xor_i64_ o2 19 (by omega) (by decide)
          have HE := Lib.hid ex
          clear ex hbit
          go_wp2
          go_round
          case rel => exact ⟨3, _, 3, by omega, rfl, congrArg _ HE.out, hl, Lib.hid (by omega), HN⟩
          case measure => simp [intOf]
        · have q1 : (bits .and .i64 ((o2 : Int) / 16) 1 == 1) = false := bit_no o2 16 (by omega) hbit
          have HN : Hid (mul2 a b 3 = o2) := Lib.hid (by show (if mul2 a b 2 / 2 ^ (6 - 2) % 2 = 1 then _ else _) = _; rw [HO.out, if_neg hbit])
          clear hbit
          go_wp2
          go_round
          case rel => exact ⟨3, _, 3, by omega, rfl, rfl, ho, Lib.hid (by omega), HN⟩
          case measure => simp [intOf]
set_option maxHeartbeats 4000000 in
theorem sMul (a b : Nat) (ha : a < 16) (hb : b < 16) (w : World) : Calls Try.prog 54 #[.int .i64 a, .int .i64 b] w fun e w' => e = .returned (.int .i64 (mulN a b : Nat)) ∧ w = w' := by
  go_enter Try.func54, Try.ntmps54
  go_wp2
  go_loop [5, 6] (fun p i => ∃ (k o : Nat), k ≤ 4 ∧ i = .int .i64 k ∧ p = .int .i64 o ∧ o < 128 ∧ Hid (mul1 a b k = o)) (fun _ i => 4 - (intOf i).toNat)
  case atStart => exact ⟨0, 0, by omega, rfl, rfl, by omega, Lib.hid rfl⟩
  case round =>
    obtain ⟨k, o, hk, rfl, rfl, ho, HO⟩ := hrel
    by_cases hlt : k < 4
    case pos =>
      have hlt' : (k : Int) < 4 := by omega
      have hsh := shl_lt ha hlt
      have s0 : 0 ≤ (a : Int) * 2 ^ k := Int.mul_nonneg (by omega) (Int.pow_nonneg (by omega))
      have s1 : (a : Int) * 2 ^ k ≤ 127 := by have : ((a * 2 ^ k : Nat) : Int) ≤ 127 := by omega
                                              simpa using this
      have ex := xor_i64_ o (a * 2 ^ k) (by omega) (by omega)
      rw [show ((a * 2 ^ k : Nat) : Int) = (a : Int) * 2 ^ k by simp] at ex
      have HE := Lib.hid ex
      by_cases hbit : b / 2 ^ k % 2 = 1
      · have q1 : (bits .and .i64 ((b : Int) / 2 ^ k) 1 == 1) = true := by simpa using bit_yes b (2 ^ k) (by omega) hbit
        have HN : Hid (mul1 a b (k + 1) = o ^^^ (a * 2 ^ k)) := Lib.hid (by show (if b / 2 ^ k % 2 = 1 then _ else _) = _; rw [if_pos hbit, HO.out])
        have hl : o ^^^ (a * 2 ^ k) < 128 := Nat.xor_lt_two_pow (n := 7) ho hsh
        clear ex hbit
        go_wp2
        go_round
        case rel => exact ⟨k + 1, _, by omega, by go_num, congrArg _ HE.out, hl, HN⟩
        case measure => simp [intOf]; omega
      · have q1 : (bits .and .i64 ((b : Int) / 2 ^ k) 1 == 1) = false := by simpa using bit_no b (2 ^ k) (by omega) hbit
        have HN : Hid (mul1 a b (k + 1) = o) := Lib.hid (by show (if b / 2 ^ k % 2 = 1 then _ else _) = _; rw [if_neg hbit, HO.out])
        clear ex hbit s0 s1
        go_wp2
        go_round
        case rel => exact ⟨k + 1, o, by omega, by go_num, rfl, ho, HN⟩
        case measure => simp [intOf]; omega
    case neg =>
    obtain rfl : k = 4 := by omega
    go_wp2
    go_loop [5, 7] (fun p i => ∃ (j o : Nat) (x : Int), j ≤ 3 ∧ i = .int .i64 x ∧ p = .int .i64 o ∧ o < 128 ∧ Hid (x = 6 - (j : Int)) ∧ Hid (mul2 a b j = o)) (fun _ i => (intOf i).toNat)
    case atStart => exact ⟨0, o, 6, by omega, rfl, rfl, ho, Lib.hid (by omega), Lib.hid (by unfold mul2; exact HO.out)⟩
    case round =>
      clear HO ho
      obtain ⟨j, o2, x, hj, rfl, rfl, ho, HX, HO⟩ := hrel
      have hcs : j = 0 ∨ j = 1 ∨ j = 2 ∨ j = 3 := by omega
      rcases hcs with rfl | rfl | rfl | rfl
      case inr.inr.inr =>
        obtain rfl : x = 3 := by have := HX.out; omega
        obtain rfl : mulN a b = o2 := HO.out
        go_wp2
        go_ret
        exact ⟨rfl, rfl⟩
      case inl =>
        obtain rfl : x = 6 := by have := HX.out; omega
        by_cases hbit : o2 / 64 % 2 = 1
        · have q1 : (bits .and .i64 ((o2 : Int) / 64) 1 == 1) = true := bit_yes o2 64 (by omega) hbit
          have HN : Hid (mul2 a b 1 = o2 ^^^ 76) := Lib.hid (by show (if mul2 a b 0 / 2 ^ (6 - 0) % 2 = 1 then _ else _) = _; rw [HO.out, if_pos hbit])
          have hl : o2 ^^^ 76 < 128 := by have := mul2_lt (b := b) ha 1 (by omega); rw [HN.out] at this; exact this
          have ex := xor_i64_ o2 76 (by omega) (by decide)
          have HE := Lib.hid ex
          clear ex hbit
          go_wp2
          go_round
          case rel => exact ⟨1, _, 5, by omega, rfl, congrArg _ HE.out, hl, Lib.hid (by omega), HN⟩
          case measure => simp [intOf]
        · have q1 : (bits .and .i64 ((o2 : Int) / 64) 1 == 1) = false := bit_no o2 64 (by omega) hbit
          have HN : Hid (mul2 a b 1 = o2) := Lib.hid (by show (if mul2 a b 0 / 2 ^ (6 - 0) % 2 = 1 then _ else _) = _; rw [HO.out, if_neg hbit])
          clear hbit
          go_wp2
          go_round
          case rel => exact ⟨1, _, 5, by omega, rfl, rfl, ho, Lib.hid (by omega), HN⟩
          case measure => simp [intOf]
      case inr.inl =>
        obtain rfl : x = 5 := by have := HX.out; omega
        by_cases hbit : o2 / 32 % 2 = 1
        · have q1 : (bits .and .i64 ((o2 : Int) / 32) 1 == 1) = true := bit_yes o2 32 (by omega) hbit
          have HN : Hid (mul2 a b 2 = o2 ^^^ 38) := Lib.hid (by show (if mul2 a b 1 / 2 ^ (6 - 1) % 2 = 1 then _ else _) = _; rw [HO.out, if_pos hbit])
          have hl : o2 ^^^ 38 < 128 := by have := mul2_lt (b := b) ha 2 (by omega); rw [HN.out] at this; exact this
          have ex := xor_i64_ o2 38 (by omega) (by decide)
          have HE := Lib.hid ex
          clear ex hbit
          go_wp2
          go_round
          case rel => exact ⟨2, _, 4, by omega, rfl, congrArg _ HE.out, hl, Lib.hid (by omega), HN⟩
          case measure => simp [intOf]
        · have q1 : (bits .and .i64 ((o2 : Int) / 32) 1 == 1) = false := bit_no o2 32 (by omega) hbit
          have HN : Hid (mul2 a b 2 = o2) := Lib.hid (by show (if mul2 a b 1 / 2 ^ (6 - 1) % 2 = 1 then _ else _) = _; rw [HO.out, if_neg hbit])
          clear hbit
          go_wp2
          go_round
          case rel => exact ⟨2, _, 4, by omega, rfl, rfl, ho, Lib.hid (by omega), HN⟩
          case measure => simp [intOf]
      case inr.inr.inl =>
        obtain rfl : x = 4 := by have := HX.out; omega
        by_cases hbit : o2 / 16 % 2 = 1
        · have q1 : (bits .and .i64 ((o2 : Int) / 16) 1 == 1) = true := bit_yes o2 16 (by omega) hbit
          have HN : Hid (mul2 a b 3 = o2 ^^^ 19) := Lib.hid (by show (if mul2 a b 2 / 2 ^ (6 - 2) % 2 = 1 then _ else _) = _; rw [HO.out, if_pos hbit])
          have hl : o2 ^^^ 19 < 128 := by have := mul2_lt (b := b) ha 3 (by omega); rw [HN.out] at this; exact this
          have ex := xor_i64_ o2 19 (by omega) (by decide)
          have HE := Lib.hid ex
          clear ex hbit
          go_wp2
          go_round
          case rel => exact ⟨3, _, 3, by omega, rfl, congrArg _ HE.out, hl, Lib.hid (by omega), HN⟩
          case measure => simp [intOf]
        · have q1 : (bits .and .i64 ((o2 : Int) / 16) 1 == 1) = false := bit_no o2 16 (by omega) hbit
          have HN : Hid (mul2 a b 3 = o2) := Lib.hid (by show (if mul2 a b 2 / 2 ^ (6 - 2) % 2 = 1 then _ else _) = _; rw [HO.out, if_neg hbit])
          clear hbit
          go_wp2
          go_round
          case rel => exact ⟨3, _, 3, by omega, rfl, rfl, ho, Lib.hid (by omega), HN⟩
          case measure => simp [intOf]
end Go.Proofs.Ytlankoameeacpaa
