/- Words of our own: a row of structs of ints, filled from the front. No condition. -/
import Derived.Test.YtcbjdfgmkiodkaaArg
import Derived.Laws.OwnMore
import Derived.Below
namespace Go.Proofs.Ytcbjdfgmkiodkaa
open Go.RowKit
theorem ownB {w w' : World} {B e size n : Nat} {v : Value} {xs : List Value} (h : w.ownsRow B e size v n xs) (hb : Below w.heap.size w w') : w'.ownsRow B e size v n xs := by
  refine ⟨h.1, ?_⟩
  rcases h.2 with hn | ⟨g, cap, cur, rfl, hg, hgg, rest⟩
  · exact .inl hn
  · exact .inr ⟨g, cap, cur, rfl, hg, (hb.block g (Array.getElem?_eq_some_iff.1 hgg).1).trans hgg, rest⟩
/-- nothing that w held has changed in W. -/
def Bel (w W : World) : Prop := Below w.heap.size w W
theorem Bel.step {w W w2 : World} (h : Bel w W) (hb2 : Below W.heap.size W w2) : Bel w w2 := Below.trans h (hb2.mono (Below.size h))
theorem Bel.at_ {w W w2 : World} {g o : Nat} (h : Bel w W) (hb2 : Below W.heap.size W w2) (hg : g < w.heap.size) : w2.cell? ⟨g, o, none⟩ = W.cell? ⟨g, o, none⟩ :=
  hb2.cell (p := ⟨g, o, none⟩) (Nat.lt_of_lt_of_le hg (Below.size h))
theorem Bel.of {w W : World} (h : Below w.heap.size w W) : Bel w W := h
theorem Bel.out {w W : World} (h : Bel w W) : Below w.heap.size w W := h
theorem bcell {W w1 : World} (hb : Below W.heap.size W w1) : (∀ b o, b < W.heap.size → w1.cell? ⟨b, o, none⟩ = W.cell? ⟨b, o, none⟩) ∧ (∀ b o, b < W.heap.size → w1.frozen? ⟨b, o, none⟩ = W.frozen? ⟨b, o, none⟩) :=
  ⟨fun b o h => hb.cell (p := ⟨b, o, none⟩) h, fun b o h => hb.frozen (p := ⟨b, o, none⟩) h⟩
theorem Rd.moved {w w' : World} {A : Option Addr} {xs : List Value} (h : Rd w w.heap.size A xs) (hb : Below w.heap.size w w') : Rd w' w'.heap.size A xs := (h.over hb).wider hb.size
abbrev z0 : Value := .int .i64 0
theorem made2 (n : Nat) : (madeCells #[z0, z0] (n * 2)).toList = List.replicate (n * 2) z0 := by
  apply List.ext_getElem?
  intro j
  by_cases hj : j < n * 2
  · have h2 : j % 2 = 0 ∨ j % 2 = 1 := by omega
    rcases h2 with h | h <;> simp [madeCells, hj, h]
  · simp [madeCells, hj]
theorem made4 (n : Nat) : (madeCells #[z0, z0, z0, z0] (n * 4)).toList = List.replicate (n * 4) z0 := by
  apply List.ext_getElem?
  intro j
  by_cases hj : j < n * 4
  · have h2 : j % 4 = 0 ∨ j % 4 = 1 ∨ j % 4 = 2 ∨ j % 4 = 3 := by omega
    rcases h2 with h | h | h | h <;> simp [madeCells, hj, h]
  · simp [madeCells, hj]
def fill {α : Type} (g : α → List Value) (s : Nat) (xs : List α) (k n : Nat) : List Value := (xs.take k).flatMap g ++ List.replicate ((n - k) * s) z0
theorem fill_pre {α : Type} (g : α → List Value) (s : Nat) (xs : List α) (k n : Nat) (hg : ∀ x, (g x).length = s) (hn : xs.length = n) (hk : k < n) : ((xs.take k).flatMap g).length = k * s := by
  rw [flat_len g s _ (fun r _ => hg r), List.length_take]; congr 1; omega
theorem fill_get {α : Type} (g : α → List Value) (s : Nat) (xs : List α) (k n j : Nat) (hg : ∀ x, (g x).length = s) (hn : xs.length = n) (hk : k < n) (hj : j < s) : (fill g s xs k n)[k * s + j]? = some z0 := by
  have hp := fill_pre g s xs k n hg hn hk
  have h1 : s ≤ (n - k) * s := Nat.le_mul_of_pos_left s (by omega)
  unfold fill
  rw [List.getElem?_append_right (by omega), List.getElem?_replicate, if_pos (by omega)]
theorem fill_get0 {α : Type} (g : α → List Value) (s : Nat) (xs : List α) (k n : Nat) (hg : ∀ x, (g x).length = s) (hn : xs.length = n) (hk : k < n) (hj : 0 < s) : (fill g s xs k n)[k * s]? = some z0 := fill_get g s xs k n 0 hg hn hk hj
theorem fill_all {α : Type} (g : α → List Value) (s : Nat) (xs : List α) (n : Nat) (hn : xs.length = n) : fill g s xs n n = xs.flatMap g := by
  unfold fill; rw [List.take_of_length_le (by omega), Nat.sub_self, Nat.zero_mul, List.replicate_zero, List.append_nil]
theorem fill_zero {α : Type} (g : α → List Value) (s : Nat) (xs : List α) (n : Nat) : fill g s xs 0 n = List.replicate (n * s) z0 := by
  unfold fill; simp
theorem set_pre (p r : List Value) (m : Nat) (u : Value) (hp : p.length = m) (j : Nat) : (p ++ r).set (m + j) u = p ++ r.set j u := by
  rw [List.set_append_right _ _ (by omega), hp, Nat.add_sub_cancel_left]
theorem set_pre0 (p r : List Value) (m : Nat) (u : Value) (hp : p.length = m) : (p ++ r).set m u = p ++ r.set 0 u := set_pre p r m u hp 0
theorem fill_set2 (xs : List Q2) (k n : Nat) (hn : xs.length = n) (hk : k < n) :
    ((fill Q2.cells 2 xs k n).set (k * 2) (.int .i64 (xs[k]'(by omega)).a)).set (k * 2 + 1) (.int .i64 (xs[k]'(by omega)).b) = fill Q2.cells 2 xs (k + 1) n := by
  have hp := fill_pre Q2.cells 2 xs k n (fun _ => rfl) hn hk
  have e : (n - k) * 2 = (n - (k + 1)) * 2 + 1 + 1 := by omega
  unfold fill
  rw [set_pre0 _ _ _ _ hp, set_pre _ _ _ _ hp, e, List.replicate_succ, List.replicate_succ, List.take_succ_eq_append_getElem (by omega)]
  simp only [Q2.cells, List.flatMap_append, List.flatMap_cons, List.flatMap_nil, List.append_nil, List.append_assoc, List.set_cons_zero, List.set_cons_succ, List.cons_append, List.nil_append]
theorem fill_set4 (xs : List Q4) (k n : Nat) (hn : xs.length = n) (hk : k < n) :
    ((((fill Q4.cells 4 xs k n).set (k * 4) (.int .i64 (xs[k]'(by omega)).a)).set (k * 4 + 1) (.int .i64 (xs[k]'(by omega)).b)).set (k * 4 + 2) (.int .i64 (xs[k]'(by omega)).c)).set (k * 4 + 3) (.int .i64 (xs[k]'(by omega)).d) = fill Q4.cells 4 xs (k + 1) n := by
  have hp := fill_pre Q4.cells 4 xs k n (fun _ => rfl) hn hk
  have e : (n - k) * 4 = (n - (k + 1)) * 4 + 1 + 1 + 1 + 1 := by omega
  unfold fill
  rw [set_pre0 _ _ _ _ hp, set_pre _ _ _ _ hp, set_pre _ _ _ _ hp, set_pre _ _ _ _ hp, e, List.replicate_succ, List.replicate_succ, List.replicate_succ, List.replicate_succ, List.take_succ_eq_append_getElem (by omega)]
  simp only [Q4.cells, List.flatMap_append, List.flatMap_cons, List.flatMap_nil, List.append_nil, List.append_assoc, List.set_cons_zero, List.set_cons_succ, List.cons_append, List.nil_append]
end Go.Proofs.Ytcbjdfgmkiodkaa
