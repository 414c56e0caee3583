/- Pure: a table read column by column. No condition. -/
import Derived.Test.YtgaankdmppoghaaInts
namespace Go.Proofs.Ytgaankdmppoghaa

def srcN (R C p : Nat) : Nat := (p % R) * C + p / R
def turnL (R C : Nat) (zs : List Int) (k : Nat) : List Int := (List.range k).map fun p => zs.getD (srcN R C p) 0
def fillT (R C : Nat) (zs : List Int) (i n : Nat) : List Int := (List.range n).map fun p => if srcN R C p < i then zs.getD (srcN R C p) 0 else 0
theorem srcN_at {R C k i : Nat} (h : i < R) : srcN R C (k * R + i) = i * C + k := by
  unfold srcN
  have h0 : 0 < R := by omega
  rw [Nat.add_comm (k * R) i, Nat.add_mul_mod_self_right, Nat.mod_eq_of_lt h, Nat.add_mul_div_right _ _ h0, Nat.div_eq_of_lt h, Nat.zero_add]
theorem turn_step {R C k i : Nat} (zs : List Int) (h : i < R) : turnL R C zs (k * R + i + 1) = turnL R C zs (k * R + i) ++ [zs.getD (i * C + k) 0] := by
  unfold turnL; rw [List.range_succ, List.map_append, List.map_singleton, srcN_at h]
theorem turnL_len (R C : Nat) (zs : List Int) (k : Nat) : (turnL R C zs k).length = k := by unfold turnL; simp
theorem fillT_len (R C : Nat) (zs : List Int) (i n : Nat) : (fillT R C zs i n).length = n := by unfold fillT; simp
theorem dst_lt {R C i n : Nat} (hn : n = R * C) (h : i < n) : i % C * R + i / C < n := by
  have hC : 0 < C := by rcases Nat.eq_zero_or_pos C with h0 | h0; (subst h0; simp at hn; omega); exact h0
  have h1 : i / C < R := (Nat.div_lt_iff_lt_mul hC).2 (by omega)
  have h2 : i % C + 1 ≤ C := Nat.mod_lt _ hC
  have h3 : (i % C + 1) * R ≤ C * R := Nat.mul_le_mul_right R h2
  rw [Nat.succ_mul, Nat.mul_comm C R] at h3
  omega
theorem src_dst {R C i n : Nat} (hn : n = R * C) (h : i < n) : srcN R C (i % C * R + i / C) = i := by
  have hC : 0 < C := by rcases Nat.eq_zero_or_pos C with h0 | h0; (subst h0; simp at hn; omega); exact h0
  have h1 : i / C < R := (Nat.div_lt_iff_lt_mul hC).2 (by omega)
  rw [srcN_at h1, Nat.mul_comm]
  exact Nat.div_add_mod i C
theorem dst_src {R C p n : Nat} (hn : n = R * C) (h : p < n) : (srcN R C p) % C * R + (srcN R C p) / C = p := by
  have hR : 0 < R := by rcases Nat.eq_zero_or_pos R with h0 | h0; (subst h0; simp at hn; omega); exact h0
  have h1 : p / R < C := (Nat.div_lt_iff_lt_mul hR).2 (by rw [Nat.mul_comm C R]; omega)
  have hC : 0 < C := Nat.lt_of_le_of_lt (Nat.zero_le _) h1
  unfold srcN
  rw [Nat.add_comm (p % R * C), Nat.add_mul_mod_self_right, Nat.mod_eq_of_lt h1, Nat.add_mul_div_right _ _ hC, Nat.div_eq_of_lt h1, Nat.zero_add, Nat.mul_comm]
  exact Nat.div_add_mod p R
theorem fillT_get {R C i n p : Nat} (zs : List Int) (h : p < n) : (fillT R C zs i n)[p]? = some (if srcN R C p < i then zs.getD (srcN R C p) 0 else 0) := by
  unfold fillT; rw [List.getElem?_map, List.getElem?_range h]; rfl
theorem fillT_set {R C i n : Nat} (zs : List Int) (hn : n = R * C) (h : i < n) : (fillT R C zs i n).set (i % C * R + i / C) (zs.getD i 0) = fillT R C zs (i + 1) n := by
  apply List.ext_getElem?
  intro p
  by_cases hp : p < n
  · rw [fillT_get zs hp, List.getElem?_set]
    by_cases e : i % C * R + i / C = p
    · rw [if_pos e, if_pos (by rw [fillT_len]; omega)]
      have := src_dst hn h
      rw [e] at this
      rw [this, if_pos (by omega)]
    · rw [if_neg e, fillT_get zs hp]
      have hne : srcN R C p ≠ i := fun e2 => e (by rw [← e2]; exact dst_src hn hp)
      by_cases h2 : srcN R C p < i
      · rw [if_pos h2, if_pos (by omega)]
      · rw [if_neg h2, if_neg (by omega)]
  · rw [List.getElem?_eq_none (by rw [List.length_set, fillT_len]; omega), List.getElem?_eq_none (by rw [fillT_len]; omega)]
theorem fillT_zero (R C : Nat) (zs : List Int) (n : Nat) : fillT R C zs 0 n = List.replicate n 0 := by
  unfold fillT
  apply List.ext_getElem?
  intro p
  by_cases hp : p < n
  · simp [hp]
  · simp [hp]
theorem fillT_end {R C : Nat} (zs : List Int) {n : Nat} (hn : n = R * C) : fillT R C zs n n = turnL R C zs n := by
  unfold fillT turnL
  apply List.map_congr_left
  intro p hp
  have hp' : p < n := by simpa using hp
  have hlt : srcN R C p < n := by
    have hR : 0 < R := by rcases Nat.eq_zero_or_pos R with h0 | h0; (subst h0; simp at hn; omega); exact h0
    have h1 : p / R < C := (Nat.div_lt_iff_lt_mul hR).2 (by rw [Nat.mul_comm C R]; omega)
    have h2 : p % R + 1 ≤ R := Nat.mod_lt _ hR
    have h3 : (p % R + 1) * C ≤ R * C := Nat.mul_le_mul_right C h2
    unfold srcN
    rw [Nat.succ_mul] at h3
    omega
  rw [if_pos hlt]
end Go.Proofs.Ytgaankdmppoghaa
