/- Contracts: spec.BestFit and impl.BestFit answer the same block. Condition: the table of math/bits holds what Go's text lays. -/
import Derived.Test.YtnbeomnlobfpfaaDoorBest
import Derived.Test.YtnbeomnlobfpfaaDoorFirst
namespace Go.Proofs.YtnbeomnlobfpfaaDoor
open Go.ChangeShapes Go.WideShapes Go.ChangeAt Go.RowKit

noncomputable def bestF (m c : Int) : Int := if firstB m c then ((bestN m.toNat c.toNat).1 : Int) else 0
noncomputable def bestR (m c : Int) : Value := .tuple #[.agg #[.int .i64 (bestF m c), .int .i64 (firstC m c)], .bool (firstB m c)]
theorem best_no {m c : Int} (h : ¬ firstP m c) : (.tuple #[.agg #[.int .i64 0, .int .i64 0], .bool false] : Value) = bestR m c := by
  unfold bestR bestF firstC firstB; rw [pb_false h, if_neg Bool.false_ne_true, if_neg Bool.false_ne_true]
theorem best_yes {m c : Nat} (h : firstP m c) : (.tuple #[.agg #[.int .i64 ((bestN m c).1 : Int), .int .i64 (c : Int)], .bool true] : Value) = bestR m c := by
  unfold bestR bestF firstC firstB; rw [pb_true h, if_pos rfl, if_pos rfl]; rfl
theorem best_rel (m c : Nat) (hc : 1 ≤ c) : ((bestN m c).2 = 0 ∧ begN m (c - 1) = 0) ∨ (0 < (bestN m c).2 ∧ begN m (c - 1) ≠ 0 ∧ foI c (sp (fr m) 25).1 (sp (fr m) 25).1.length = bestN m c) := by
  have h24 : ∀ q, q ∈ (sp (fr m) 25).1 → q.2 ≤ 24 := by
    intro q hq
    obtain ⟨h1, h2, h3⟩ := sp_runs (fr m) 25 q hq
    apply Nat.le_of_not_lt
    intro hlt
    have h4 := h3 (24 - q.1) (by omega)
    have e : q.1 + (24 - q.1) = 24 := by omega
    rw [e] at h4
    have h5 : fr m 24 = false := by unfold fr; rw [freeN_bit]; rfl
    rw [h5] at h4
    exact absurd h4 (by decide)
  have hi := runs_iff m c hc
  rcases fo_rel c hc (sp (fr m) 25).1 h24 _ (Nat.le_refl _) with ⟨e1, e2, e3⟩ | ⟨e1, e2, q, e3, e4⟩
  · left
    refine ⟨by unfold bestN; rw [e1], ?_⟩
    apply Classical.byContradiction
    intro hne
    obtain ⟨q, hq, hqc⟩ := hi.2 hne
    have := e3 q (by rw [List.take_length]; exact hq)
    omega
  · right
    refine ⟨by unfold bestN; exact e2, hi.1 ⟨q, (by rw [List.take_length] at e3; exact e3), e4⟩, e1.symm⟩

theorem fld1 (a b : Int) (W : World) : Sem.run Tryd.prog (Instr.field 121 (.agg #[.int .i64 a, .int .i64 b]) 1) W = .ok (.int .i64 b) W := by kernel_rfl
end Go.Proofs.YtnbeomnlobfpfaaDoor
