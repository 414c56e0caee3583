/- Words of our own for slices that read as lists: 'Rd w A xs': the cells of the slice value at A read as xs, below the heap's end; how it is kept over what the call lays; and contracts of the law's helpers over a slice of strings. No condition but those typed. -/
import Derived.Test.YtcbjdfgmkiodkaaRows
import Derived.WalkKit
import Derived.ProofKit
import Derived.LoopTactic
import Derived.Lib.Hide
import Derived.OwnWalk
import Derived.Below
import Derived.Laws.OwnMore
import Derived.Deep.Draws
import Derived.SliceStrings
import Derived.Outline
namespace Go.Proofs.Ytcbjdfgmkiodkaa
open Go.ChangeShapes Go.WideShapes Go.ChangeAt Go.RowKit

/-- the cells at A read as xs; each lies below block B. -/
def Rd (w : World) (B : Nat) (A : Option Addr) (xs : List Value) : Prop :=
  ∀ k u, xs[k]? = some u → ∃ ad, A = some ad ∧ ad.block < B ∧ w.cell? (ad.add k) = some u

theorem addBlock (a : Addr) (n : Nat) : (a.add n).block = a.block := by unfold Addr.add; split <;> rfl

theorem Rd.got {w : World} {B : Nat} {A : Option Addr} {xs : List Value} (h : Rd w B A xs) {k : Nat} (hk : k < xs.length) :
    ∃ ad, A = some ad ∧ ad.block < B ∧ w.cell? (ad.add k) = some xs[k] := h k _ (List.getElem?_eq_getElem hk)
theorem Rd.over {w w' : World} {B : Nat} {A : Option Addr} {xs : List Value} (h : Rd w B A xs) (hb : Below B w w') : Rd w' B A xs := by
  intro k u hu
  obtain ⟨ad, e, hl, hc⟩ := h k u hu
  exact ⟨ad, e, hl, by rw [hb.cell (by rw [addBlock]; exact hl)]; exact hc⟩
theorem Rd.wider {w : World} {B B' : Nat} {A : Option Addr} {xs : List Value} (h : Rd w B A xs) (hB : B ≤ B') : Rd w B' A xs := by
  intro k u hu
  obtain ⟨ad, e, hl, hc⟩ := h k u hu
  exact ⟨ad, e, by omega, hc⟩
theorem Rd.draws {w : World} {B : Nat} {A : Option Addr} {xs : List Value} (h : Rd w B A xs) (n : Nat) : Rd (w.drewN n) B A xs := h
theorem Rd.ofOwn {w : World} {base : Nat} {E : TypeId} {A : Option Addr} {n c : Nat} {xs : List Value} (h : w.ownsRow base E 1 (.slice A n c) n xs) : Rd w w.heap.size A xs := by
  intro k u hu
  have hlt := h.lt
  rcases A with _ | ad
  · rcases h.2 with ⟨_, h0⟩ | ⟨g, cap, cur, hv, _⟩
    · subst h0
      have : xs = [] := List.eq_nil_of_length_eq_zero (by simpa using h.1)
      subst this; simp at hu
    · simp at hv
  · have hc := h.cells (g := ad.block) rfl k u hu
    obtain ⟨_, hl⟩ := hlt ad.block rfl
    rcases h.2 with ⟨h0, _⟩ | ⟨g, cap, cur, hv, _⟩
    · simp at h0
    · simp only [Value.slice.injEq, Option.some.injEq] at hv
      obtain ⟨rfl, _, _⟩ := hv
      exact ⟨_, rfl, hl, hc⟩
theorem drewN_below {B : Nat} {a w : World} (h : Below B a w) (n : Nat) : Below B a (w.drewN n) := ⟨h.os, h.tape, h.output, h.size, h.block⟩
theorem strGet (ss : List ByteArray) (k : Nat) (h : k < ss.length) : (ss.map Value.string)[k]'(by simpa using h) = .string ss[k] := by simp
end Go.Proofs.Ytcbjdfgmkiodkaa
