/- The law's helpers over a slice of Frame: arguments, copy, compare, size. No condition but those typed. -/
import Derived.Test.YtcbjdfgmkiodkaaNest
namespace Go.Proofs.Ytcbjdfgmkiodkaa
open Go.ChangeShapes Go.WideShapes Go.ChangeAt Go.RowKit Go.Deep

/-- a struct as it lies in memory. -/
structure Fr where
  p0 : Int
  p1 : Int
  A : Option Addr
  n : Nat
  c : Nat
  zs : List Int
def Fr.cells (x : Fr) : List Value := [.int .i64 x.p0, .int .i64 x.p1, .slice x.A x.n x.c]
theorem Fr.cells_len (x : Fr) : x.cells.length = 3 := rfl
/-- what it says. -/
structure FrD where
  p0 : Int
  p1 : Int
  zs : List Int
def Fr.d (x : Fr) : FrD := ⟨x.p0, x.p1, x.zs⟩
def FrIn (w : World) (x : Fr) : Prop := x.zs.length = x.n ∧ x.n ≤ maxLen ∧ Rd w w.heap.size x.A (x.zs.map (Value.int .i64))
def FrAt (w : World) (x : Fr) : Prop := x.zs.length = x.n ∧ x.n ≤ 1048576 ∧ Rd w w.heap.size x.A (x.zs.map (Value.int .i64))
theorem FrIn.moved {w w' : World} {x : Fr} (h : FrIn w x) (hb : Below w.heap.size w w') : FrIn w' x := ⟨h.1, h.2.1, h.2.2.moved hb⟩
theorem FrAt.moved {w w' : World} {x : Fr} (h : FrAt w x) (hb : Below w.heap.size w w') : FrAt w' x := ⟨h.1, h.2.1, h.2.2.moved hb⟩
theorem FrAt.zs {w : World} {x : Fr} (h : FrAt w x) : x.d.zs.length = x.n := h.1
def Frtot (xs : List Fr) : Nat := (xs.map Fr.n).sum
theorem Frtot_snoc (xs : List Fr) (k : Nat) (h : k < xs.length) : Frtot (xs.take (k + 1)) = Frtot (xs.take k) + xs[k].n := by
  unfold Frtot; rw [List.take_succ_eq_append_getElem h, List.map_append, List.sum_append]; simp
theorem Frtot_le {xs : List Fr} {x : Fr} (h : x ∈ xs) : x.n ≤ Frtot xs := by
  induction xs with
  | nil => simp at h
  | cons y ys ih =>
    have e : Frtot (y :: ys) = y.n + Frtot ys := by unfold Frtot; simp
    rcases List.mem_cons.1 h with rfl | h
    · omega
    · have := ih h; omega
theorem Rd.fr {w : World} {B : Nat} {A : Option Addr} {xs : List Fr} (h : Rd w B A (xs.flatMap Fr.cells)) {k : Nat} (hk : k < xs.length) :
    ∃ ad, A = some ad ∧ ad.block < B ∧ w.cell? (ad.add (k * 3)) = some (.int .i64 xs[k].p0) ∧ w.cell? ⟨(ad.add (k * 3)).block, (ad.add (k * 3)).off + 1, none⟩ = some (.int .i64 xs[k].p1) ∧ w.cell? ⟨(ad.add (k * 3)).block, (ad.add (k * 3)).off + 2, none⟩ = some (.slice xs[k].A xs[k].n xs[k].c) := by
  obtain ⟨ad, e, hb, hc⟩ := h.rowK Fr.cells_len (by decide) hk
  have h0 := hc 0 (by decide)
  rw [Nat.add_zero] at h0
  have h1 := hc 1 (by decide)
  rw [add_next] at h1
  have h2 := hc 2 (by decide)
  rw [add_next] at h2
  exact ⟨ad, e, hb, h0, h1, h2⟩
theorem Rd.frc {w : World} {B b o : Nat} {xs : List Fr} (h : Rd w B (some ⟨b, o, none⟩) (xs.flatMap Fr.cells)) {k : Nat} (hk : k < xs.length) :
    b < B ∧ w.cell? ⟨b, o + k * 3, none⟩ = some (.int .i64 xs[k].p0) ∧ w.cell? ⟨b, o + k * 3 + 1, none⟩ = some (.int .i64 xs[k].p1) ∧ w.cell? ⟨b, o + k * 3 + 2, none⟩ = some (.slice xs[k].A xs[k].n xs[k].c) := by
  obtain ⟨ad, e, hb, h0, h1, h2⟩ := h.fr hk
  injection e with e; subst e
  have ea : (⟨b, o, none⟩ : Addr).add (k * 3) = ⟨b, o + k * 3, none⟩ := by unfold Addr.add; by_cases h : k * 3 = 0 <;> simp [h]
  rw [ea] at h0 h1 h2
  exact ⟨hb, h0, h1, h2⟩
section
variable {H : Type} {enc : TypeId × Value → H} {w : World} {held : Bool}
end
def FrSz (left : Int) (n : Nat) (w : World) (e : Ending) (w' : World) : Prop := ∃ v : Int, e = .returned (.int .i64 v) ∧ Below w.heap.size w w' ∧ -1 ≤ v ∧ v ≤ left ∧ (0 ≤ v → v + n ≤ left)
def FrOut (x : Fr) (w : World) (e : Ending) (w' : World) : Prop := ∃ g, e = .returned (.agg #[.int .i64 x.p0, .int .i64 x.p1, .slice (some ⟨g, 0, none⟩) x.n x.n]) ∧ w.heap.size ≤ g ∧
  w'.ownsRow w.heap.size 3 1 (.slice (some ⟨g, 0, none⟩) x.n x.n) x.n (x.zs.map (Value.int .i64)) ∧ Below w.heap.size w w'
/-- a copy's row: its ints in a block of their own. -/
def FrOwn (B g0 : Nat) (w : World) (y : Fr) : Prop := ∃ q, y.A = some ⟨q, 0, none⟩ ∧ y.c = y.n ∧ y.zs.length = y.n ∧ y.n ≤ 1048576 ∧ q ≠ g0 ∧ w.ownsRow B 3 1 (.slice (some ⟨q, 0, none⟩) y.n y.n) y.n (y.zs.map (Value.int .i64))
theorem FrOwn.at_ {B g0 : Nat} {w : World} {y : Fr} (h : FrOwn B g0 w y) : FrAt w y := by
  obtain ⟨q, e, e2, h1, h2, _, ho⟩ := h
  exact ⟨h1, h2, by rw [e]; exact Rd.ofOwnK ho⟩
theorem FrOwn.moved {B g0 : Nat} {w w' : World} {y : Fr} (h : FrOwn B g0 w y) (hb : Below w.heap.size w w') : FrOwn B g0 w' y := by
  obtain ⟨q, e, e2, h1, h2, h3, ho⟩ := h
  exact ⟨q, e, e2, h1, h2, h3, ownB ho hb⟩
theorem FrOwn.base {B B' g0 : Nat} {w : World} {y : Fr} (h : FrOwn B g0 w y) (hB : B' ≤ B) : FrOwn B' g0 w y := by
  obtain ⟨q, e, e2, h1, h2, h3, ho⟩ := h
  exact ⟨q, e, e2, h1, h2, h3, own_base ho hB⟩
theorem FrOwn.set_ {B g0 : Nat} {w : World} {y : Fr} (h : FrOwn B g0 w y) (o : Nat) (u : Value) : FrOwn B g0 (w.setCell ⟨g0, o, none⟩ u) y := by
  obtain ⟨q, e, e2, h1, h2, h3, ho⟩ := h
  exact ⟨q, e, e2, h1, h2, h3, own_set ho (p := ⟨g0, o, none⟩) (fun h => h3 h.symm) u⟩
def Frz : List Value := [.int .i64 0, .int .i64 0, .slice none 0 0]
theorem Fr_set (ys : List Fr) (m : Nat) (y : Fr) (hm : 0 < m) : (((fillG Fr.cells Frz ys m).set (ys.length * 3) (.int .i64 y.p0)).set (ys.length * 3 + 1) (.int .i64 y.p1)).set (ys.length * 3 + 2) (.slice y.A y.n y.c) = fillG Fr.cells Frz (ys ++ [y]) (m - 1) := by
  obtain ⟨m, rfl⟩ : ∃ j, m = j + 1 := ⟨m - 1, by omega⟩
  have hp := fillG_pre Fr.cells_len ys
  unfold fillG
  rw [set_pre0 _ _ _ _ hp, set_pre _ _ _ _ hp, set_pre _ _ _ _ hp, List.replicate_succ, Nat.add_sub_cancel]
  simp only [Frz, Fr.cells, List.flatMap_append, List.flatMap_cons, List.flatMap_nil, List.append_nil, List.append_assoc, List.set_cons_zero, List.set_cons_succ, List.cons_append, List.nil_append]
theorem Fr_snoc {α β : Type} {f : α → β} {xs : List α} {ys : List α} {k : Nat} (h : ys.map f = (xs.take k).map f) (hk : k < xs.length) {y : α} (hy : f y = f xs[k]) : (ys ++ [y]).map f = (xs.take (k + 1)).map f := by
  rw [List.take_succ_eq_append_getElem hk, List.map_append, List.map_append, h]; simp [hy]
theorem Fr_same {x y : Fr} (h : x.d = y.d) : x.p0 = y.p0 ∧ x.p1 = y.p1 ∧ x.zs = y.zs := by
  unfold Fr.d at h
  injection h with e0 e1 e2
  exact ⟨e0, e1, e2⟩
end Go.Proofs.Ytcbjdfgmkiodkaa
