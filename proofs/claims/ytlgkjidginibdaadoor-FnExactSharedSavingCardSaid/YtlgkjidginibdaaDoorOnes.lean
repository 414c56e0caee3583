/- Contract: math/bits.OnesCount of a mask of 24 slots: how many bits are one. No condition but the mask's bound. -/
import Derived.Test.YtlgkjidginibdaaDoorRch
import Derived.Laws.Bits64b
namespace Go.Proofs.YtlgkjidginibdaaDoor
open Go.ChangeShapes Go.WideShapes Go.ChangeAt Go.RowKit

/-- the one bits among the first k. -/
def popN (m : Nat) : Nat → Nat
  | 0 => 0
  | k + 1 => popN m k + m / 2 ^ k % 2
theorem popN_le (m : Nat) : ∀ k, popN m k ≤ k
  | 0 => Nat.le_refl _
  | k + 1 => by have := popN_le m k; unfold popN; omega
theorem popN_cut (m : Nat) : ∀ j, popN m (8 + j) = popN (m % 256) 8 + popN (m / 256) j
  | 0 => by simp only [popN, Nat.add_zero]; omega
  | j + 1 => by
    have ih := popN_cut m j
    show popN m (8 + j) + m / 2 ^ (8 + j) % 2 = popN (m % 256) 8 + (popN (m / 256) j + m / 256 / 2 ^ j % 2)
    rw [ih, Nat.pow_add, show (2 : Nat) ^ 8 = 256 from rfl, ← Nat.div_div_eq_div_mul]; omega
theorem popN_bytes (m : Nat) : popN m 24 = popN (m % 256) 8 + popN (m / 256 % 256) 8 + popN (m / 256 / 256 % 256) 8 := by
  rw [show (24 : Nat) = 8 + 16 from rfl, popN_cut, show (16 : Nat) = 8 + 8 from rfl, popN_cut, show popN (m / 256 / 256) 8 = popN (m / 256 / 256) (8 + 0) from rfl, popN_cut]
  simp only [popN]; omega
theorem and_byte (x k l : Nat) (hl : l < 256) : x &&& (256 * k + l) = (x % 256 &&& l) + 256 * (x / 256 &&& k) := by
  have h1 : (x &&& (256 * k + l)) % 2 ^ 8 = (x % 2 ^ 8 &&& (256 * k + l) % 2 ^ 8) := Nat.and_mod_two_pow
  have h2 : (x &&& (256 * k + l)) / 2 ^ 8 = (x / 2 ^ 8 &&& (256 * k + l) / 2 ^ 8) := Nat.and_div_two_pow
  have p8 : (2 : Nat) ^ 8 = 256 := rfl
  rw [p8] at h1 h2
  rw [show (256 * k + l) % 256 = l by omega] at h1
  rw [show (256 * k + l) / 256 = k by omega] at h2
  have h3 := Nat.div_add_mod (x &&& (256 * k + l)) 256
  rw [h1, h2] at h3
  omega
/-- a constant of eight equal bytes, at a number of three. -/
theorem and_three (x l K c : Nat) (hl : l < 256) (hc : c = 256 * (256 * (256 * K + l) + l) + l) (hx : x < 16777216) :
    x &&& c = (x % 256 &&& l) + 256 * (x / 256 % 256 &&& l) + 65536 * (x / 256 / 256 % 256 &&& l) := by
  rw [hc, and_byte _ _ _ hl, and_byte _ _ _ hl, and_byte _ _ _ hl, show x / 256 / 256 / 256 = 0 by omega, Nat.zero_and]
  omega
def q1 (x : Nat) : Nat := (x / 2 &&& 85) + (x &&& 85)
def q2 (x : Nat) : Nat := (x / 4 &&& 51) + (x &&& 51)
theorem q1_all : ∀ y : Fin 512, ((y : Nat) / 2 % 256 &&& 85) + ((y : Nat) % 256 &&& 85) = q1 ((y : Nat) % 256) := by decide +kernel
theorem q2_all : ∀ y : Fin 1024, ((y : Nat) / 4 % 256 &&& 51) + ((y : Nat) % 256 &&& 51) = q2 ((y : Nat) % 256) := by decide +kernel
theorem q1_lt : ∀ y : Fin 256, q1 y < 256 := by decide +kernel
theorem q2_lt : ∀ y : Fin 256, q2 (q1 y) < 69 := by decide +kernel
theorem q2_lo : ∀ y : Fin 256, q2 (q1 y) % 16 < 5 := by decide +kernel
theorem q3_all : ∀ y : Fin 256, ∀ t : Fin 5, (q2 (q1 y) + q2 (q1 y) / 16 + 16 * t &&& 15) = popN y 8 ∧ q2 (q1 y) + q2 (q1 y) / 16 + 16 * t < 256 := by decide +kernel
theorem step1 (m : Nat) (h : m < 16777216) : (m / 2 &&& 6148914691236517205) + (m &&& 6148914691236517205) = q1 (m % 256) + 256 * q1 (m / 256 % 256) + 65536 * q1 (m / 256 / 256 % 256) := by
  have a := q1_all ⟨m % 512, by omega⟩
  have b := q1_all ⟨m / 256 % 512, by omega⟩
  have c := q1_all ⟨m / 256 / 256 % 512, by omega⟩
  simp only at a b c
  rw [show m % 512 / 2 % 256 = m / 2 % 256 by omega, show m % 512 % 256 = m % 256 by omega] at a
  rw [show m / 256 % 512 / 2 % 256 = m / 2 / 256 % 256 by omega, show m / 256 % 512 % 256 = m / 256 % 256 by omega] at b
  rw [show m / 256 / 256 % 512 / 2 % 256 = m / 2 / 256 / 256 % 256 by omega, show m / 256 / 256 % 512 % 256 = m / 256 / 256 % 256 by omega] at c
  rw [and_three (m / 2) 85 366503875925 _ (by omega) (by rfl) (by omega), and_three m 85 366503875925 _ (by omega) (by rfl) h, ← a, ← b, ← c]
  omega
theorem step2 (m : Nat) (h : m < 16777216) : (m / 4 &&& 3689348814741910323) + (m &&& 3689348814741910323) = q2 (m % 256) + 256 * q2 (m / 256 % 256) + 65536 * q2 (m / 256 / 256 % 256) := by
  have a := q2_all ⟨m % 1024, by omega⟩
  have b := q2_all ⟨m / 256 % 1024, by omega⟩
  have c := q2_all ⟨m / 256 / 256 % 1024, by omega⟩
  simp only at a b c
  rw [show m % 1024 / 4 % 256 = m / 4 % 256 by omega, show m % 1024 % 256 = m % 256 by omega] at a
  rw [show m / 256 % 1024 / 4 % 256 = m / 4 / 256 % 256 by omega, show m / 256 % 1024 % 256 = m / 256 % 256 by omega] at b
  rw [show m / 256 / 256 % 1024 / 4 % 256 = m / 4 / 256 / 256 % 256 by omega, show m / 256 / 256 % 1024 % 256 = m / 256 / 256 % 256 by omega] at c
  rw [and_three (m / 4) 51 219902325555 _ (by omega) (by rfl) (by omega), and_three m 51 219902325555 _ (by omega) (by rfl) h, ← a, ← b, ← c]
  omega
theorem sum3 (i o l : Nat) (hi : i ≤ 8) (ho : o ≤ 8) (hl : l ≤ 8) :
    ((i + 256 * o + 65536 * l) + (i + 256 * o + 65536 * l) / 256 + ((i + 256 * o + 65536 * l) + (i + 256 * o + 65536 * l) / 256) / 65536 + ((i + 256 * o + 65536 * l) + (i + 256 * o + 65536 * l) / 256 + ((i + 256 * o + 65536 * l) + (i + 256 * o + 65536 * l) / 256) / 65536) / 4294967296) % 2 ^ 7 = i + o + l := by
  rw [show (i + 256 * o + 65536 * l) / 256 = o + 256 * l by omega, show (i + 256 * o + 65536 * l + (o + 256 * l)) / 65536 = l by omega, show (i + 256 * o + 65536 * l + (o + 256 * l) + l) / 4294967296 = 0 by omega]
  omega
theorem ones_nat (m : Nat) (h : m < 16777216) : ∃ a b c d e s1 s2 s3 : Nat,
    m / 2 &&& 6148914691236517205 = a ∧ m &&& 6148914691236517205 = b ∧ a + b = s1 ∧ s1 / 4 &&& 3689348814741910323 = c ∧ s1 &&& 3689348814741910323 = d ∧ c + d = s2 ∧ s2 / 16 + s2 = e ∧ e &&& 1085102592571150095 = s3
    ∧ s1 < 16777216 ∧ s2 < 16777216 ∧ e < 16777216 ∧ s3 < 16777216
    ∧ (s3 + s3 / 256 + (s3 + s3 / 256) / 65536 + (s3 + s3 / 256 + (s3 + s3 / 256) / 65536) / 4294967296) &&& 127 = popN m 24 := by
  refine ⟨_, _, _, _, _, _, _, _, rfl, rfl, rfl, rfl, rfl, rfl, rfl, rfl, ?_⟩
  rw [step1 m h, popN_bytes]
  obtain ⟨x, hx⟩ : ∃ x, m % 256 = x := ⟨_, rfl⟩
  obtain ⟨y, hy⟩ : ∃ y, m / 256 % 256 = y := ⟨_, rfl⟩
  obtain ⟨z, hz⟩ : ∃ z, m / 256 / 256 % 256 = z := ⟨_, rfl⟩
  rw [hx, hy, hz]
  have x1 := q1_lt ⟨x, by omega⟩; have y1 := q1_lt ⟨y, by omega⟩; have z1 := q1_lt ⟨z, by omega⟩
  have x2 := q2_lt ⟨x, by omega⟩; have y2 := q2_lt ⟨y, by omega⟩; have z2 := q2_lt ⟨z, by omega⟩
  have y3 := q2_lo ⟨y, by omega⟩; have z3 := q2_lo ⟨z, by omega⟩
  simp only at x1 y1 z1 x2 y2 z2 y3 z3
  have xa := q3_all ⟨x, by omega⟩ ⟨q2 (q1 y) % 16, y3⟩
  have ya := q3_all ⟨y, by omega⟩ ⟨q2 (q1 z) % 16, z3⟩
  have za := q3_all ⟨z, by omega⟩ ⟨0, by omega⟩
  simp only at xa ya za
  have px := popN_le x 8; have py := popN_le y 8; have pz := popN_le z 8
  obtain ⟨s1, hs1⟩ : ∃ s, q1 x + 256 * q1 y + 65536 * q1 z = s := ⟨_, rfl⟩
  rw [hs1]
  have l1 : s1 < 16777216 := by omega
  rw [step2 s1 l1, show s1 % 256 = q1 x by omega, show s1 / 256 % 256 = q1 y by omega, show s1 / 256 / 256 % 256 = q1 z by omega]
  clear hs1 hx hy hz
  obtain ⟨u, hu⟩ : ∃ u, q2 (q1 x) = u := ⟨_, rfl⟩
  obtain ⟨v, hv⟩ : ∃ v, q2 (q1 y) = v := ⟨_, rfl⟩
  obtain ⟨t, ht⟩ : ∃ t, q2 (q1 z) = t := ⟨_, rfl⟩
  rw [hu] at x2 xa; rw [hv] at y2 xa y3 ya; rw [ht] at z2 ya z3 za
  rw [hu, hv, ht]
  obtain ⟨A, hA⟩ : ∃ A, u + u / 16 + 16 * (v % 16) = A := ⟨_, rfl⟩
  obtain ⟨B, hB⟩ : ∃ B, v + v / 16 + 16 * (t % 16) = B := ⟨_, rfl⟩
  obtain ⟨C, hC⟩ : ∃ C, t + t / 16 + 16 * 0 = C := ⟨_, rfl⟩
  have he : (u + 256 * v + 65536 * t) / 16 + (u + 256 * v + 65536 * t) = A + 256 * B + 65536 * C := by
    have h16 : (u + 256 * v + 65536 * t) / 16 = u / 16 + 16 * v + 4096 * t := by omega
    omega
  rw [hA] at xa; rw [hB] at ya; rw [hC] at za
  rw [he]
  clear he hA hB hC hu hv ht
  obtain ⟨A1, A2⟩ := xa; obtain ⟨B1, B2⟩ := ya; obtain ⟨C1, C2⟩ := za
  rw [and_three (A + 256 * B + 65536 * C) 15 64677154575 _ (by omega) (by rfl) (by omega), show (A + 256 * B + 65536 * C) % 256 = A by omega, show (A + 256 * B + 65536 * C) / 256 % 256 = B by omega, show (A + 256 * B + 65536 * C) / 256 / 256 % 256 = C by omega, A1, B1, C1]
  refine ⟨l1, by omega, by omega, by omega, ?_⟩
  rw [show (127 : Nat) = 2 ^ 7 - 1 from rfl, Nat.and_two_pow_sub_one_eq_mod]
  exact sum3 _ _ _ px py pz
end Go.Proofs.YtlgkjidginibdaaDoor
