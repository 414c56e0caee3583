/- Contract: impl.BestFit answers as spec.BestFit. Condition: the table of math/bits holds what Go's text lays. -/
import Derived.Test.YtnbeomnlobfpfaaDoorBest2
namespace Go.Proofs.YtnbeomnlobfpfaaDoor
open Go.ChangeShapes Go.WideShapes Go.ChangeAt Go.RowKit

/-- a freeRuns variable, laid and filled: its cells read. -/
theorem runs_laid {w W : World} {b : Nat} {acc : List (Nat × Nat)} (hr : W.rangeAt b 0 (rcells acc)) (k : Nat) (hk : k < 25) : W.cell? ⟨b, k, none⟩ = some (.int .i64 (rcell acc k)) := by
  have h : (rcells acc)[k]? = some (.int .i64 (rcell acc k)) := by
    unfold rcells; rw [List.getElem?_map, List.getElem?_range hk]; rfl
  have := hr k _ h
  rwa [Nat.zero_add] at this
theorem rcell_even (acc : List (Nat × Nat)) (k : Nat) (hk : k < acc.length) (h12 : acc.length ≤ 12) : rcell acc (k * 2) = ((acc[k]).1 : Int) := by
  unfold rcell
  rw [if_neg (by omega), if_pos (by omega), show k * 2 / 2 = k by omega, List.getElem?_eq_getElem hk]; rfl
theorem rcell_odd (acc : List (Nat × Nat)) (k : Nat) (hk : k < acc.length) (h12 : acc.length ≤ 12) : rcell acc (k * 2 + 1) = ((acc[k]).2 : Int) := by
  unfold rcell
  rw [if_neg (by omega), if_neg (by omega), show (k * 2 + 1) / 2 = k by omega, List.getElem?_eq_getElem hk]; rfl
theorem rcell_24 (acc : List (Nat × Nat)) : rcell acc 24 = (acc.length : Int) := rfl

end Go.Proofs.YtnbeomnlobfpfaaDoor
