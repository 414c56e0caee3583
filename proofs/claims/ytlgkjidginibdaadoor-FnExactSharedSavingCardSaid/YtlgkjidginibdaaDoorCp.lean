/- Requests: which of them are in conflict: contracts of ConflictPairs, both sides. No condition but those typed. -/
import Derived.Test.YtlgkjidginibdaaDoorCaH
import Derived.Test.YtlgkjidginibdaaDoorGB
import Derived.Test.YtlgkjidginibdaaDoorRws
namespace Go.Proofs.YtlgkjidginibdaaDoor
open Go.ChangeShapes Go.WideShapes Go.ChangeAt Go.RowKit Go.Maps

theorem new_two (W : World) (E : TypeId) (u0 u1 : Value) (b : Nat) (hb : W.heap.size = b) : ∀ (j : Nat) (u : Value), [u0, u1][j]? = some u → (W.alloc (.cells #[u0, u1] E)).cell? ⟨b, j, none⟩ = some u := by
  subst hb
  intro j u hu
  match j, hu with
  | 0, hu => simp at hu; subst hu; simp [go_sem]
  | 1, hu => simp at hu; subst hu; simp [go_sem]
theorem two_one (a b : Int) : ∀ u ∈ [Value.int .i64 a, Value.int .i64 b], u.oneCell' = true := by
  intro u hu; simp at hu; rcases hu with rfl | rfl <;> rfl
def cpR (ds : List RqD) (i k : Nat) : List Q2 := ((List.range k).filter fun j => decide (i < j) && cfB (rqn ds i) (rqn ds j)).map fun (j : Nat) => ⟨(i : Int), (j : Int)⟩
theorem cp_start (ds : List RqD) (i : Nat) : cpR ds i (i + 1) = [] := by
  unfold cpR
  rw [List.filter_eq_nil_iff.2 (fun j hj => by have := List.mem_range.1 hj; simp; omega)]; rfl
theorem cp_yes {ds : List RqD} {i k : Nat} (hi : i < k) (h : cfB (rqn ds i) (rqn ds k) = true) : cpR ds i (k + 1) = cpR ds i k ++ [⟨(i : Int), (k : Int)⟩] := by
  unfold cpR
  rw [List.range_succ, List.filter_append, List.map_append]
  simp [hi, h]
theorem cp_no {ds : List RqD} {i k : Nat} (h : cfB (rqn ds i) (rqn ds k) = false) : cpR ds i (k + 1) = cpR ds i k := by
  unfold cpR
  rw [List.range_succ, List.filter_append, List.map_append]
  simp [h]
theorem cpR_len (ds : List RqD) (i k : Nat) : (cpR ds i k).length ≤ k := by
  unfold cpR
  rw [List.length_map]
  exact Nat.le_trans (List.length_filter_le _ _) (by rw [List.length_range]; exact Nat.le_refl _)
def cpA (ds : List RqD) (i : Nat) : List Q2 := (List.range i).flatMap fun a => cpR ds a ds.length
theorem cpA_snoc (ds : List RqD) (i : Nat) : cpA ds (i + 1) = cpA ds i ++ cpR ds i ds.length := by
  unfold cpA; rw [List.range_succ, List.flatMap_append]; simp
theorem cpA_len (ds : List RqD) : ∀ i, (cpA ds i).length ≤ i * ds.length
  | 0 => by unfold cpA; simp
  | i + 1 => by
    have ih := cpA_len ds i
    have := cpR_len ds i ds.length
    rw [cpA_snoc, List.length_append, Nat.succ_mul]; omega
noncomputable def cpL (ss : List ByteArray) (fs : List Q4) (ds : List RqD) : List Q2 := if reqsB ss fs ds then cpA ds ds.length else []
theorem cpL_no {ss : List ByteArray} {fs : List Q4} {ds : List RqD} (h : reqsB ss fs ds = false) : cpL ss fs ds = [] := by unfold cpL; rw [h]; rfl
theorem cpL_yes {ss : List ByteArray} {fs : List Q4} {ds : List RqD} (h : reqsB ss fs ds = true) : cpL ss fs ds = cpA ds ds.length := by unfold cpL; rw [h]; rfl
theorem cpL_len (ss : List ByteArray) (fs : List Q4) (ds : List RqD) : (cpL ss fs ds).length ≤ 49 := by
  cases h : reqsB ss fs ds
  · rw [cpL_no h]; simp
  · rw [cpL_yes h]
    have h1 := (reqs_facts h).2.1
    have h2 := cpA_len ds ds.length
    have h3 := Nat.mul_le_mul h1 h1
    omega

end Go.Proofs.YtlgkjidginibdaaDoor
