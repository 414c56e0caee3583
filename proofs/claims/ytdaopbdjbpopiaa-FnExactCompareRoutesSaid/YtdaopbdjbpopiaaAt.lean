/- Contracts: impl.FibersAt and spec.FibersAt answer the same list and the same word, in memory of the call's own. No condition but those typed. -/
import Derived.Test.YtdaopbdjbpopiaaOther
import Derived.Test.YtdaopbdjbpopiaaDem
import Derived.Test.YtdaopbdjbpopiaaMark2
import Derived.Laws.OwnMore
namespace Go.Proofs.Ytdaopbdjbpopiaa
open Go.ChangeShapes Go.WideShapes Go.ChangeAt Go.RowKit

theorem Try.inf_int : (Try.prog.info? 3).map (fun i => (i.zero, i.size, i.bytes)) = some (some (.int .i64 0), 1, 8) := by kernel_rfl
def meets (q : Q4) (x : Int) : Bool := decide (q.a = x ∨ q.b = x)
def atK (fs : List Q4) (x : Int) (k : Nat) : List Int := ((List.range k).filter fun i => meets (fs.getD i ⟨0, 0, 0, 0⟩) x).map fun i : Nat => ((i : Nat) : Int)
theorem atK_step (fs : List Q4) (x : Int) (k : Nat) (q : Q4) (hk : k < fs.length) (hq : fs[k] = q) : atK fs x (k + 1) = atK fs x k ++ (if meets q x then [(k : Int)] else []) := by
  unfold atK
  rw [List.range_succ, List.filter_append, List.map_append]
  congr 1
  have e : fs.getD k ⟨0, 0, 0, 0⟩ = q := by rw [List.getD_eq_getElem?_getD, List.getElem?_eq_getElem hk, hq]; rfl
  simp only [List.filter_cons, List.filter_nil, e]
  by_cases h : meets q x <;> simp [h]
theorem atK_len (fs : List Q4) (x : Int) (k : Nat) : (atK fs x k).length ≤ k := by
  unfold atK; rw [List.length_map]; exact Nat.le_trans (List.length_filter_le _ _) (by simp)
def atP (ss : List ByteArray) (fs : List Q4) (x : Int) : Prop := netP ss fs ∧ 0 ≤ x ∧ x ≤ (ss.length : Int) - 1
noncomputable def atB (ss : List ByteArray) (fs : List Q4) (x : Int) : Bool := pb (atP ss fs x)
noncomputable def atL (ss : List ByteArray) (fs : List Q4) (x : Int) : List Int := if atB ss fs x then atK fs x fs.length else []
theorem at_no {ss : List ByteArray} {fs : List Q4} {x : Int} (h : ¬ atP ss fs x) : atB ss fs x = false ∧ atL ss fs x = [] := by
  unfold atL atB; rw [pb_false h]; exact ⟨rfl, rfl⟩
theorem at_yes {ss : List ByteArray} {fs : List Q4} {x : Int} (h : atP ss fs x) : atB ss fs x = true ∧ atL ss fs x = atK fs x fs.length := by
  unfold atL atB; rw [pb_true h]; exact ⟨rfl, rfl⟩
/-- a list of ints in memory of the call's own, and a word. -/
def IntsP (zs : List Int) (b : Bool) (w : World) (e : Ending) (w' : World) : Prop :=
  ∃ (A : Option Addr) (N c : Nat), e = .returned (.tuple #[.slice A N c, .bool b]) ∧ Hid (N = zs.length) ∧ w'.ownsRow w.heap.size 3 1 (.slice A N c) N (zs.map (Value.int .i64)) ∧ Below w.heap.size w w'
theorem formOf {w : World} {base : Nat} {e : TypeId} {size : Nat} {v : Value} {n : Nat} {xs : List Value} (h : w.ownsRow base e size v n xs) : ∃ A c, v = .slice A n c := by
  rcases h.2 with ⟨rfl, rfl⟩ | ⟨g, cap, cur, rfl, _⟩
  · exact ⟨none, 0, rfl⟩
  · exact ⟨_, _, rfl⟩
theorem new_one (w : World) (E : TypeId) (u0 : Value) : ∀ (j : Nat) (u : Value), [u0][j]? = some u → (w.alloc (.cells #[u0] E)).cell? ((⟨w.heap.size, 0, none⟩ : Addr).add j) = some u := by
  intro j u hu
  match j, hu with
  | 0, hu => simp at hu; subst hu; exact cell_of_row _ w.heap.size 0 #[u0] E (0, 0) (heap_alloc_new w _)
theorem new_int (z : Int) : ∀ u ∈ [Value.int .i64 z], u.oneCell' = true := by
  intro u hu; simp at hu; subst hu; rfl
theorem other_meets {q : Q4} {n : Nat} {x : Int} (h : fibP q n) : meets q x = decide (0 ≤ otherV q x) := by
  obtain ⟨h1, h2, h3, _⟩ := h
  unfold meets otherV
  by_cases e1 : x = q.a
  · rw [if_pos e1, decide_eq_true (.inl e1.symm), decide_eq_true (by omega)]
  · rw [if_neg e1]
    by_cases e2 : x = q.b
    · rw [if_pos e2, decide_eq_true (.inr e2.symm), decide_eq_true (by omega)]
    · rw [if_neg e2, decide_eq_false (fun h => h.elim (fun h => e1 h.symm) (fun h => e2 h.symm)), decide_eq_false (by omega)]

end Go.Proofs.Ytdaopbdjbpopiaa
