/- Words of our own: a Bool asked of all rows, row by row; a number between two others; an answer and what it leaves. No condition. -/
import Derived.Test.YtcbjdfgmkiodkaaFill
import Derived.Deep.QuietTactic
import Derived.BigQuiet
import Derived.IntWalk
namespace Go.Proofs.Ytcbjdfgmkiodkaa
open Go.ChangeShapes Go.WideShapes Go.ChangeAt Go.RowKit

def RetV (v : Value) (w : World) (e : Ending) (w' : World) : Prop := e = .returned v ∧ Below w.heap.size w w'
theorem retV {u v : Value} {w w' : World} (h : u = v) (hb : Below w.heap.size w w') : RetV v w (.returned u) w' := ⟨by rw [h], hb⟩
theorem retB {a b : Bool} {w w' : World} (h : b = a) (hb : Below w.heap.size w w') : RetV (.bool b) w (.returned (.bool a)) w' := ⟨by rw [h], hb⟩
section
variable {α : Type} {f : α → Bool} {qs : List α}
theorem all_zero : (qs.take 0).all f = true := by simp
theorem all_snoc {k : Nat} (hk : k < qs.length) (h : (qs.take k).all f = true) (hf : f qs[k] = true) : (qs.take (k + 1)).all f = true := by
  rw [List.take_succ_eq_append_getElem hk, List.all_append, h]; simp [hf]
theorem all_end {n : Nat} (hn : qs.length = n) (h : (qs.take n).all f = true) : qs.all f = true := by
  rw [List.take_of_length_le (by omega)] at h; exact h
theorem all_no {k : Nat} (hk : k < qs.length) (hf : f qs[k] = false) : qs.all f = false := by
  cases h : qs.all f with
  | false => rfl
  | true => rw [List.all_eq_true.1 h _ (List.getElem_mem hk)] at hf; exact absurd hf (by decide)
end
def inB (x a b : Int) : Bool := decide (a ≤ x ∧ x ≤ b)
theorem inB_true {x a b : Int} (h : inB x a b = true) : a ≤ x ∧ x ≤ b := of_decide_eq_true h
theorem inB_false {x a b : Int} (h : inB x a b = false) : x < a ∨ b < x := by have := of_decide_eq_false h; omega
theorem inB_mk {x a b : Int} (h1 : a ≤ x) (h2 : x ≤ b) : inB x a b = true := decide_eq_true ⟨h1, h2⟩
theorem inB_no {x a b : Int} (h : x < a ∨ b < x) : inB x a b = false := decide_eq_false (by omega)
theorem in_ (x a b : Int) (w : World) : Calls Try.prog 140 #[.int .i64 x, .int .i64 a, .int .i64 b] w fun e w' => e = .returned (.bool (inB x a b)) ∧ w = w' := by
  by_cases h1 : a ≤ x
  · by_cases h2 : x ≤ b
    · rw [inB_mk h1 h2]
      go_enter Try.func140, Try.ntmps140
      go_wp2
      go_ret
      exact ⟨rfl, rfl⟩
    · rw [inB_no (.inr (by omega))]
      have h2' : decide (x ≤ b) = false := by simpa using h2
      clear h2
      go_enter Try.func140, Try.ntmps140
      go_wp2
      go_ret
      exact ⟨rfl, rfl⟩
  · rw [inB_no (.inl (by omega))]
    have h1' : x < a := by omega
    clear h1
    go_enter Try.func140, Try.ntmps140
    go_wp2
    go_ret
    exact ⟨rfl, rfl⟩
end Go.Proofs.Ytcbjdfgmkiodkaa
