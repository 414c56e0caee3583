/- Contracts: spec.l8Best, spec.BestFit and impl.BestFit: the shortest free run with room. Condition: the table of math/bits holds what Go's text lays. -/
import Derived.Test.YtnbeomnlobfpfaaDoorBestP
namespace Go.Proofs.YtnbeomnlobfpfaaDoor
open Go.ChangeShapes Go.WideShapes Go.ChangeAt Go.RowKit

theorem one_row (w : World) (a b : Value) {base : Nat} (hb : base ≤ w.heap.size) : (w.alloc (.cells #[a, b] 121)).ownsRow base 121 2 (.slice (some ⟨w.heap.size, 0, none⟩) 1 1) 1 [a, b] := by
  have := World.ownsRow_lit (base := base) (e := 121) (size := 2) w #[a, b] 1 hb (by unfold maxLen; omega) rfl
  simpa using this
theorem blk_at {w : World} {B N cc k : Nat} {A : Option Addr} {l : List (Nat × Nat)} (h : w.ownsRow B 121 2 (.slice A N cc) N (bcells l)) (hk : k < l.length) :
    ∃ g, A = some ⟨g, 0, none⟩ ∧ B ≤ g ∧ g < w.heap.size ∧ w.cell? ⟨g, k * 2, none⟩ = some (.int .i64 (l[k].1 : Int)) ∧ w.cell? ⟨g, k * 2 + 1, none⟩ = some (.int .i64 (l[k].2 : Int)) := by
  have e : bcells l = (l.map fun q => (⟨(q.1 : Int), (q.2 : Int)⟩ : Q2)).flatMap Q2.cells := by unfold bcells; rw [List.flatMap_map]; rfl
  have hr := Rd.ofOwnK h
  rw [e] at hr
  rcases h.2 with ⟨_, h0⟩ | ⟨g, cap, cur, hv, hg, hh, _⟩
  · subst h0
    have h1 := h.1
    rw [e, flat_len Q2.cells 2 _ (fun _ _ => rfl)] at h1
    simp at h1
    omega
  · injection hv with hA
    subst hA
    obtain ⟨h1, h2, h3⟩ := hr.q2c (k := k) (by simpa using hk)
    simp only [Nat.zero_add, List.getElem_map] at h2 h3
    exact ⟨g, rfl, hg, h1, h2, h3⟩
theorem own_heap {w w' : World} {B E s n : Nat} {v : Value} {xs : List Value} (e : w'.heap = w.heap) (h : w.ownsRow B E s v n xs) : w'.ownsRow B E s v n xs := by
  refine ⟨h.1, ?_⟩
  rw [e]
  exact h.2
theorem own_drewN {w : World} {B E s n : Nat} {v : Value} {xs : List Value} (h : w.ownsRow B E s v n xs) (k : Nat) : (w.drewN k).ownsRow B E s v n xs := h
def bestN (m c : Nat) : Nat × Nat := foS c (sp (fr m) 25).1 (sp (fr m) 25).1.length
def bestL (m c : Nat) : Value := .agg #[.int .i64 ((bestN m c).1 : Int), .int .i64 (if 0 < (bestN m c).2 then (c : Int) else 0)]
theorem bestL_of {m c : Nat} {y1 y2 : Int} (h1 : y1 = ((bestN m c).1 : Int)) (h2 : y2 = ((bestN m c).2 : Int)) (h : 0 < y2) : (.agg #[.int .i64 y1, .int .i64 (c : Int)] : Value) = bestL m c := by
  unfold bestL; rw [if_pos (by omega), h1]
theorem bestL_no {m c : Nat} {y1 y2 : Int} (h1 : y1 = ((bestN m c).1 : Int)) (h2 : y2 = ((bestN m c).2 : Int)) (h : ¬ 0 < y2) : (.agg #[.int .i64 y1, .int .i64 y2] : Value) = bestL m c := by
  have h3 : y2 = 0 := by omega
  unfold bestL; rw [if_neg (by omega), h1, h3]

end Go.Proofs.YtnbeomnlobfpfaaDoor
