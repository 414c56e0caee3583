/- The law's helpers over a slice of pairs of ints: compared, marked, asked for their marks, nil let in. No condition but those typed. -/
import Derived.Test.YtlgkjidginibdaaDoorCp
import Derived.Test.YtlgkjidginibdaaDoorGB
namespace Go.Proofs.YtlgkjidginibdaaDoor
open Go.ChangeShapes Go.WideShapes Go.ChangeAt Go.RowKit

theorem rdOwnA {w : World} {B E s n c : Nat} {A : Option Addr} {xs : List Value} (h : w.ownsRow B E s (.slice A n c) n xs) : Rd w w.heap.size A xs := by
  rcases h.2 with ⟨hv, h0⟩ | ⟨g, cap, cur, hv, _⟩
  · injection hv with hA
    subst hA
    have hl := h.1
    rw [h0, Nat.zero_mul] at hl
    intro k u hu
    rw [List.length_eq_zero_iff.1 hl] at hu
    simp at hu
  · injection hv with hA _ hC
    subst hA hC
    exact Rd.ofOwnK h
theorem q2_ints (l : List Q2) : ∃ zs : List Int, l.flatMap Q2.cells = zs.map (Value.int .i64) ∧ zs.length = 2 * l.length := by
  refine ⟨l.flatMap fun q => [q.a, q.b], ?_, ?_⟩
  · induction l with
    | nil => rfl
    | cons q r ih => rw [List.flatMap_cons, List.flatMap_cons, List.map_append, ih]; rfl
  · induction l with
    | nil => rfl
    | cons q r ih => rw [List.flatMap_cons, List.length_append, ih, List.length_cons]; simp; omega
theorem a2_snoc {zs : List Int} {m : Nat} (h : m < zs.length) : ((marks 1 m ++ zs.drop m).map (Value.int .i64)).set m (.int .i64 (1 + (m : Int))) = (marks 1 (m + 1) ++ zs.drop (m + 1)).map (Value.int .i64) := by
  have hml := marks_len 1 m
  rw [List.drop_eq_getElem_cons h, List.map_append, List.map_cons, List.set_append_right _ _ (by simp [hml]), List.length_map, hml, Nat.sub_self, List.set_cons_zero]
  have em : marks 1 (m + 1) = marks 1 m ++ [((1 + m : Nat) : Int)] := by
    unfold marks; rw [List.range_succ, List.map_append]; rfl
  rw [em]
  simp

theorem belAtA {w W w2 : World} {p : Addr} (h : Bel w W) (hb2 : Below W.heap.size W w2) (hg : p.block < w.heap.size) : w2.cell? p = W.cell? p := hb2.cell (Nat.lt_of_lt_of_le hg (Below.size (Bel.out h)))
end Go.Proofs.YtlgkjidginibdaaDoor
