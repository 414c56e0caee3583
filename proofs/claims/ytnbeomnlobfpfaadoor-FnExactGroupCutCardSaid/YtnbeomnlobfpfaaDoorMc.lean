/- The smallest set of fibers without which two nodes are not connected: contracts of MinimumCut, both sides. Condition: the table of math/bits holds what Go's text lays (on impl's side). -/
import Derived.Test.YtnbeomnlobfpfaaDoorFw
import Derived.Test.YtnbeomnlobfpfaaDoorEnds
import Derived.Test.YtnbeomnlobfpfaaDoorGB
import Derived.OwnWalk
import Derived.Deep.CutBlock
import Derived.Deep.DeepCutAuto
namespace Go.Proofs.YtnbeomnlobfpfaaDoor
open Go.ChangeShapes Go.WideShapes Go.ChangeAt Go.RowKit

def sgN (k : Nat) : List Nat := (List.range k).map fun i => 2 ^ i
def sgZ (k : Nat) : List Int := (sgN k).map fun s : Nat => (s : Int)
theorem sgN_len (k : Nat) : (sgN k).length = k := by unfold sgN; simp
theorem sgZ_len (k : Nat) : (sgZ k).length = k := by unfold sgZ; rw [List.length_map, sgN_len]
theorem sgZ_succ (k : Nat) : sgZ (k + 1) = sgZ k ++ [((2 ^ k : Nat) : Int)] := by unfold sgZ sgN; rw [List.range_succ]; simp
theorem sgZ_row (k : Nat) : (sgZ k).map (Value.int .i64) = (sgN k).map fun s : Nat => Value.int .i64 (s : Int) := by unfold sgZ; rw [List.map_map]; rfl
theorem sgN_bd {n : Nat} (hn : n ≤ 20) : ∀ k, k < n → (sgN n).getD k 0 < 2 ^ 20 := fun k hk => by
  unfold sgN
  rw [List.getD_eq_getElem?_getD, List.getElem?_map, List.getElem?_range hk]
  exact Nat.pow_lt_pow_right (by decide) (by omega)
def filZ (n k : Nat) : List Int := sgZ k ++ List.replicate (n - k) 0
theorem filZ_len {n k : Nat} (h : k ≤ n) : (filZ n k).length = n := by unfold filZ; rw [List.length_append, sgZ_len, List.length_replicate]; omega
theorem filZ_step {n k : Nat} (h : k < n) : (filZ n k).set k ((2 ^ k : Nat) : Int) = filZ n (k + 1) := by
  unfold filZ
  rw [List.set_append_right _ _ (by rw [sgZ_len]; exact Nat.le_refl _), sgZ_len, Nat.sub_self, show n - k = (n - (k + 1)) + 1 by omega, List.replicate_succ, List.set_cons_zero, sgZ_succ, List.append_assoc]; rfl
theorem filZ_end (n : Nat) : filZ n n = sgZ n := by unfold filZ; rw [Nat.sub_self]; simp
noncomputable def mcL (ss : List ByteArray) (fs : List Q4) (x y : Int) : List Int := if pb (endP ss fs x y) then fewL fs x.toNat y.toNat (sgN fs.length) else []
theorem mc_no {ss : List ByteArray} {fs : List Q4} {x y : Int} (h : ¬ endP ss fs x y) : mcL ss fs x y = [] ∧ pb (endP ss fs x y) = false := by
  have e := pb_false h
  exact ⟨by unfold mcL; rw [e]; rfl, e⟩
theorem mc_yes {ss : List ByteArray} {fs : List Q4} {x y : Int} (h : endP ss fs x y) : mcL ss fs x y = fewL fs x.toNat y.toNat (sgN fs.length) ∧ pb (endP ss fs x y) = true := by
  have e := pb_true h
  exact ⟨by unfold mcL; rw [e]; rfl, e⟩
theorem mcL_len (ss : List ByteArray) (fs : List Q4) (x y : Int) : (mcL ss fs x y).length ≤ fs.length := by
  unfold mcL; split
  · exact Nat.le_trans (fewL_len _ _ _ _) (by rw [sgN_len]; exact Nat.le_refl _)
  · simp
end Go.Proofs.YtnbeomnlobfpfaaDoor
