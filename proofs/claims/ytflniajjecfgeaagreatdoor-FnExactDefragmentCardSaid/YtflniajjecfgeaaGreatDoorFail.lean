/- Contracts: impl.FailingWith and spec.FailingWith answer the same list and the same word, in memory of the call's own. No condition but those typed. -/
import Derived.Test.YtflniajjecfgeaaGreatDoorGB
namespace Go.Proofs.YtflniajjecfgeaaGreatDoor
open Go.ChangeShapes Go.WideShapes Go.ChangeAt Go.RowKit

def rkK (fs : List Q4) (r : Int) (k : Nat) : List Int := ((List.range k).filter fun i => decide ((fs.getD i ⟨0, 0, 0, 0⟩).d = r)).map fun i : Nat => ((i : Nat) : Int)
theorem rkK_step (fs : List Q4) (r : Int) (k : Nat) (q : Q4) (hk : k < fs.length) (hq : fs[k] = q) : rkK fs r (k + 1) = rkK fs r k ++ (if q.d = r then [(k : Int)] else []) := by
  unfold rkK
  rw [List.range_succ, List.filter_append, List.map_append]
  congr 1
  have e : fs.getD k ⟨0, 0, 0, 0⟩ = q := by rw [List.getD_eq_getElem?_getD, List.getElem?_eq_getElem hk, hq]; rfl
  simp only [List.filter_cons, List.filter_nil, e]
  by_cases h : q.d = r <;> simp [h]
theorem rkK_len (fs : List Q4) (r : Int) (k : Nat) : (rkK fs r k).length ≤ k := by
  unfold rkK; rw [List.length_map]; exact Nat.le_trans (List.length_filter_le _ _) (by simp)
def grpL (fs : List Q4) (k : Nat) (q : Q4) : List Int := if q.d = 0 then [(k : Int)] else rkK fs q.d fs.length
/-- a list of ints in memory of the call's own. -/
def IntP (zs : List Int) (w : World) (e : Ending) (w' : World) : Prop :=
  ∃ (A : Option Addr) (N c : Nat), e = .returned (.slice A N c) ∧ Hid (N = zs.length) ∧ w'.ownsRow w.heap.size 3 1 (.slice A N c) N (zs.map (Value.int .i64)) ∧ Below w.heap.size w w'

theorem ownD {w : World} {B E s n : Nat} {v : Value} {xs : List Value} (h : w.ownsRow B E s v n xs) (m : Nat) : (w.drewN m).ownsRow B E s v n xs := h
theorem ownA {w : World} {B E s n : Nat} {v : Value} {xs : List Value} {o : Obj} (h : w.ownsRow B E s v n xs) : (w.alloc o).ownsRow B E s v n xs := h.alloc o

def failP (ss : List ByteArray) (fs : List Q4) (i : Int) : Prop := netP ss fs ∧ 0 ≤ i ∧ i < fs.length
noncomputable def failB (ss : List ByteArray) (fs : List Q4) (i : Int) : Bool := pb (failP ss fs i)
noncomputable def failL (ss : List ByteArray) (fs : List Q4) (i : Int) : List Int := if failB ss fs i then grpL fs i.toNat (fibI fs i) else []
theorem fail_no {ss : List ByteArray} {fs : List Q4} {i : Int} (h : ¬ failP ss fs i) : failB ss fs i = false ∧ failL ss fs i = [] := by
  unfold failL failB; rw [pb_false h]; exact ⟨rfl, rfl⟩
theorem fail_yes {ss : List ByteArray} {fs : List Q4} {i : Int} (h : failP ss fs i) : failB ss fs i = true ∧ failL ss fs i = grpL fs i.toNat (fibI fs i) := by
  unfold failL failB; rw [pb_true h]; exact ⟨rfl, rfl⟩
theorem failL_len (ss : List ByteArray) (fs : List Q4) (i : Int) : (failL ss fs i).length ≤ fs.length := by
  by_cases h : failP ss fs i
  · rw [(fail_yes h).2]
    have h2 := h.2
    unfold grpL
    split
    · simp; omega
    · exact rkK_len _ _ _
  · rw [(fail_no h).2]; simp
theorem fibI_at {fs : List Q4} {k : Nat} {q : Q4} (hk : k < fs.length) (hq : fs[k] = q) : fibI fs (k : Int) = q := by
  unfold fibI
  rw [List.getD_eq_getElem?_getD, show ((k : Int)).toNat = k from by omega, List.getElem?_eq_getElem hk, hq]; rfl

end Go.Proofs.YtflniajjecfgeaaGreatDoor
