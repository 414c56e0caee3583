/- Weights of states: contracts of impl.weightOf, spec.l16Weight, and of StateWeight, both sides. No condition but those typed. -/
import Derived.Test.YtbnfogedmjjiaaaOutS
import Derived.Test.YtbnfogedmjjiaaaGB
import Derived.Test.YtbnfogedmjjiaaaSplit6
namespace Go.Proofs.Ytbnfogedmjjiaaa
open Go.ChangeShapes Go.WideShapes Go.ChangeAt Go.RowKit

/-- the product of the first k risk groups' parts. -/
def wtN (u : Int) (ds : List Int) (f : Nat) : Nat → Int
  | 0 => 1
  | k + 1 => wtN u ds f k * (if f.testBit k then nth ds k else u - nth ds k)
theorem wtN_in {u : Int} {ds : List Int} {f : Nat} (hu0 : 0 ≤ u) (hu : u ≤ 20) : ∀ {k : Nat}, (∀ j, j < k → 0 ≤ nth ds j ∧ nth ds j ≤ u) → 0 ≤ wtN u ds f k ∧ wtN u ds f k ≤ 20 ^ k
  | 0, _ => ⟨by show (0 : Int) ≤ 1; decide, by show (1 : Int) ≤ 20 ^ 0; decide⟩
  | k + 1, h => by
    have ih := wtN_in hu0 hu (f := f) (k := k) (fun j hj => h j (by omega))
    have hk := h k (by omega)
    have hf : 0 ≤ (if f.testBit k then nth ds k else u - nth ds k) ∧ (if f.testBit k then nth ds k else u - nth ds k) ≤ 20 := by split <;> omega
    refine ⟨Int.mul_nonneg ih.1 hf.1, ?_⟩
    show wtN u ds f k * _ ≤ 20 ^ k * 20
    exact Int.mul_le_mul ih.2 hf.2 hf.1 (Int.pow_nonneg (by decide))
theorem wtN_lt {u : Int} {ds : List Int} {f k : Nat} (hu0 : 0 ≤ u) (hu : u ≤ 20) (h : ∀ j, j < k → 0 ≤ nth ds j ∧ nth ds j ≤ u) (hk : k ≤ 14) : 0 ≤ wtN u ds f k ∧ wtN u ds f k ≤ 20 ^ 14 := by
  have h1 := wtN_in hu0 hu (f := f) h
  have h2 : (20 : Int) ^ k ≤ 20 ^ 14 := by
    have : (20 : Nat) ^ k ≤ 20 ^ 14 := Nat.pow_le_pow_right (by decide) hk
    exact_mod_cast this
  exact ⟨h1.1, Int.le_trans h1.2 h2⟩
theorem wt_wrap {m d p : Int} (e : m * d = p) (h0 : 0 ≤ p) (h1 : p ≤ 20 ^ 14) : IntKind.i64.wrap (m * d) = p := by
  rw [e]; exact IntWalk.i64_in _ (by have : (20 : Int) ^ 14 = 1638400000000000000 := by decide
                                     omega)
end Go.Proofs.Ytbnfogedmjjiaaa
