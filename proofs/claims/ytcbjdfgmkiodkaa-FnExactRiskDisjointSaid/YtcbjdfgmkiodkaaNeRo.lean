/- The law's helpers over a slice of Route: arguments, copy, compare, size. No condition but those typed. -/
import Derived.Test.YtcbjdfgmkiodkaaNest
namespace Go.Proofs.Ytcbjdfgmkiodkaa
open Go.ChangeShapes Go.WideShapes Go.ChangeAt Go.RowKit Go.Deep

/-- a struct as it lies in memory. -/
structure Ro where
  p0 : Int
  A : Option Addr
  n : Nat
  c : Nat
  zs : List Int
def Ro.cells (x : Ro) : List Value := [.int .i64 x.p0, .slice x.A x.n x.c]
theorem Ro.cells_len (x : Ro) : x.cells.length = 2 := rfl
/-- what it says. -/
structure RoD where
  p0 : Int
  zs : List Int
def Ro.d (x : Ro) : RoD := ⟨x.p0, x.zs⟩
def RoIn (w : World) (x : Ro) : Prop := x.zs.length = x.n ∧ x.n ≤ maxLen ∧ Rd w w.heap.size x.A (x.zs.map (Value.int .i64))
def RoAt (w : World) (x : Ro) : Prop := x.zs.length = x.n ∧ x.n ≤ 1048576 ∧ Rd w w.heap.size x.A (x.zs.map (Value.int .i64))
theorem RoIn.moved {w w' : World} {x : Ro} (h : RoIn w x) (hb : Below w.heap.size w w') : RoIn w' x := ⟨h.1, h.2.1, h.2.2.moved hb⟩
theorem RoAt.moved {w w' : World} {x : Ro} (h : RoAt w x) (hb : Below w.heap.size w w') : RoAt w' x := ⟨h.1, h.2.1, h.2.2.moved hb⟩
theorem RoAt.zs {w : World} {x : Ro} (h : RoAt w x) : x.d.zs.length = x.n := h.1
def Rotot (xs : List Ro) : Nat := (xs.map Ro.n).sum
theorem Rotot_snoc (xs : List Ro) (k : Nat) (h : k < xs.length) : Rotot (xs.take (k + 1)) = Rotot (xs.take k) + xs[k].n := by
  unfold Rotot; rw [List.take_succ_eq_append_getElem h, List.map_append, List.sum_append]; simp
theorem Rotot_le {xs : List Ro} {x : Ro} (h : x ∈ xs) : x.n ≤ Rotot xs := by
  induction xs with
  | nil => simp at h
  | cons y ys ih =>
    have e : Rotot (y :: ys) = y.n + Rotot ys := by unfold Rotot; simp
    rcases List.mem_cons.1 h with rfl | h
    · omega
    · have := ih h; omega
theorem Rd.ro {w : World} {B : Nat} {A : Option Addr} {xs : List Ro} (h : Rd w B A (xs.flatMap Ro.cells)) {k : Nat} (hk : k < xs.length) :
    ∃ ad, A = some ad ∧ ad.block < B ∧ w.cell? (ad.add (k * 2)) = some (.int .i64 xs[k].p0) ∧ w.cell? ⟨(ad.add (k * 2)).block, (ad.add (k * 2)).off + 1, none⟩ = some (.slice xs[k].A xs[k].n xs[k].c) := by
  obtain ⟨ad, e, hb, hc⟩ := h.rowK Ro.cells_len (by decide) hk
  have h0 := hc 0 (by decide)
  rw [Nat.add_zero] at h0
  have h1 := hc 1 (by decide)
  rw [add_next] at h1
  exact ⟨ad, e, hb, h0, h1⟩
theorem Rd.roc {w : World} {B b o : Nat} {xs : List Ro} (h : Rd w B (some ⟨b, o, none⟩) (xs.flatMap Ro.cells)) {k : Nat} (hk : k < xs.length) :
    b < B ∧ w.cell? ⟨b, o + k * 2, none⟩ = some (.int .i64 xs[k].p0) ∧ w.cell? ⟨b, o + k * 2 + 1, none⟩ = some (.slice xs[k].A xs[k].n xs[k].c) := by
  obtain ⟨ad, e, hb, h0, h1⟩ := h.ro hk
  injection e with e; subst e
  have ea : (⟨b, o, none⟩ : Addr).add (k * 2) = ⟨b, o + k * 2, none⟩ := by unfold Addr.add; by_cases h : k * 2 = 0 <;> simp [h]
  rw [ea] at h0 h1
  exact ⟨hb, h0, h1⟩
section
variable {H : Type} {enc : TypeId × Value → H} {w : World} {held : Bool}
set_option maxRecDepth 100000 in
theorem trod_Ro {fuel : Nat} {cs : List Value} {x : DataW H × List MemPlace} (h : DataW.trod enc Try.prog w 0 (fun _ => true) held fuel 41 cs = some x) : ∃ r : Ro, cs = r.cells ∧ RoIn w r := by
  obtain ⟨ys, n, _, _, hl, hlen, hg⟩ := DataW.trod_struct Try.underlying41 h
  have hC : Try.prog.cellsOf 41 = 2 := by kernel_rfl
  rw [hC] at hl
  match cs, hl with
  | [x0, x1], _ =>
    have g0 := hg 0 _ rfl
    have hs0 : ∃ y, ys[0]? = some y := ⟨_, List.getElem?_eq_getElem (by rw [hlen]; decide)⟩
    obtain ⟨y0, hy0⟩ := hs0
    rw [hy0] at g0
    have g0' : DataW.trod enc Try.prog w 0 (fun _ => true) held n _ [x0] = some y0 := g0
    obtain ⟨z0, rfl, _⟩ := tr_int Try.underlying3 g0'
    have g1 := hg 1 _ rfl
    have hs1 : ∃ y, ys[1]? = some y := ⟨_, List.getElem?_eq_getElem (by rw [hlen]; decide)⟩
    obtain ⟨y1, hy1⟩ := hs1
    rw [hy1] at g1
    have g1' : DataW.trod enc Try.prog w 0 (fun _ => true) held n _ [x1] = some y1 := g1
    obtain ⟨A, nn, c, zs, e1, hz1, hz2, hz3, _⟩ := rd_ints Try.underlying39 Try.underlying3 (by kernel_rfl) g1'
    injection e1 with e1; subst e1
    exact ⟨⟨z0, A, nn, c, zs⟩, rfl, hz1, hz2, hz3⟩
end
def RoSz (left : Int) (n : Nat) (w : World) (e : Ending) (w' : World) : Prop := ∃ v : Int, e = .returned (.int .i64 v) ∧ Below w.heap.size w w' ∧ -1 ≤ v ∧ v ≤ left ∧ (0 ≤ v → v + n ≤ left)
/-- a copy's row: its ints in a block of their own. -/
def RoOwn (B g0 : Nat) (w : World) (y : Ro) : Prop := ∃ q, y.A = some ⟨q, 0, none⟩ ∧ y.c = y.n ∧ y.zs.length = y.n ∧ y.n ≤ 1048576 ∧ q ≠ g0 ∧ w.ownsRow B 3 1 (.slice (some ⟨q, 0, none⟩) y.n y.n) y.n (y.zs.map (Value.int .i64))
theorem RoOwn.at_ {B g0 : Nat} {w : World} {y : Ro} (h : RoOwn B g0 w y) : RoAt w y := by
  obtain ⟨q, e, e2, h1, h2, _, ho⟩ := h
  exact ⟨h1, h2, by rw [e]; exact Rd.ofOwnK ho⟩
theorem RoOwn.moved {B g0 : Nat} {w w' : World} {y : Ro} (h : RoOwn B g0 w y) (hb : Below w.heap.size w w') : RoOwn B g0 w' y := by
  obtain ⟨q, e, e2, h1, h2, h3, ho⟩ := h
  exact ⟨q, e, e2, h1, h2, h3, ownB ho hb⟩
theorem RoOwn.base {B B' g0 : Nat} {w : World} {y : Ro} (h : RoOwn B g0 w y) (hB : B' ≤ B) : RoOwn B' g0 w y := by
  obtain ⟨q, e, e2, h1, h2, h3, ho⟩ := h
  exact ⟨q, e, e2, h1, h2, h3, own_base ho hB⟩
theorem RoOwn.set_ {B g0 : Nat} {w : World} {y : Ro} (h : RoOwn B g0 w y) (o : Nat) (u : Value) : RoOwn B g0 (w.setCell ⟨g0, o, none⟩ u) y := by
  obtain ⟨q, e, e2, h1, h2, h3, ho⟩ := h
  exact ⟨q, e, e2, h1, h2, h3, own_set ho (p := ⟨g0, o, none⟩) (fun h => h3 h.symm) u⟩
/-- a copied slice: row and inner rows of the call's own, no two inner rows in one block. -/
structure Ros (B g n : Nat) (ys : List Ro) (w : World) : Prop where
  len : ys.length = n
  row : w.ownsRow B 45 2 (.slice (some ⟨g, 0, none⟩) n n) n (ys.flatMap Ro.cells)
  own : ∀ y ∈ ys, RoOwn B g w y
  apart : ys.Pairwise fun y y' => y.A ≠ y'.A
theorem Ros.moved {B g n : Nat} {ys : List Ro} {w w' : World} (h : Ros B g n ys w) (hb : Below w.heap.size w w') : Ros B g n ys w' := ⟨h.len, ownB h.row hb, fun y hy => (h.own y hy).moved hb, h.apart⟩
theorem Ros.base {B B' g n : Nat} {ys : List Ro} {w : World} (h : Ros B g n ys w) (hB : B' ≤ B) : Ros B' g n ys w := ⟨h.len, own_base h.row hB, fun y hy => (h.own y hy).base hB, h.apart⟩
theorem Ros.rd {B g n : Nat} {ys : List Ro} {w : World} (h : Ros B g n ys w) : Rd w w.heap.size (some ⟨g, 0, none⟩) (ys.flatMap Ro.cells) := Rd.ofOwnK h.row
theorem Ros.at_ {B g n : Nat} {ys : List Ro} {w : World} (h : Ros B g n ys w) : ∀ y ∈ ys, RoAt w y := fun y hy => (h.own y hy).at_
theorem Try.inf_Ro : (Try.prog.info? 45).map (fun i => (i.zero, i.size, i.bytes)) = some (some (.agg #[.int .i64 0, .slice none 0 0]), 2, 32) := by kernel_rfl
def Roz : List Value := [.int .i64 0, .slice none 0 0]
theorem Ro_set (ys : List Ro) (m : Nat) (y : Ro) (hm : 0 < m) : ((fillG Ro.cells Roz ys m).set (ys.length * 2) (.int .i64 y.p0)).set (ys.length * 2 + 1) (.slice y.A y.n y.c) = fillG Ro.cells Roz (ys ++ [y]) (m - 1) := by
  obtain ⟨m, rfl⟩ : ∃ j, m = j + 1 := ⟨m - 1, by omega⟩
  have hp := fillG_pre Ro.cells_len ys
  unfold fillG
  rw [set_pre0 _ _ _ _ hp, set_pre _ _ _ _ hp, List.replicate_succ, Nat.add_sub_cancel]
  simp only [Roz, Ro.cells, List.flatMap_append, List.flatMap_cons, List.flatMap_nil, List.append_nil, List.append_assoc, List.set_cons_zero, List.set_cons_succ, List.cons_append, List.nil_append]
def RosOut (xs : List Ro) (n : Nat) (w : World) (e : Ending) (w' : World) : Prop := ∃ (g : Nat) (ys : List Ro), e = .returned (.slice (some ⟨g, 0, none⟩) n n) ∧ w.heap.size ≤ g ∧ ys.map Ro.d = xs.map Ro.d ∧ Ros w.heap.size g n ys w' ∧ Below w.heap.size w w'
theorem Ro_snoc {α β : Type} {f : α → β} {xs : List α} {ys : List α} {k : Nat} (h : ys.map f = (xs.take k).map f) (hk : k < xs.length) {y : α} (hy : f y = f xs[k]) : (ys ++ [y]).map f = (xs.take (k + 1)).map f := by
  rw [List.take_succ_eq_append_getElem hk, List.map_append, List.map_append, h]; simp [hy]
theorem Ro_same {x y : Ro} (h : x.d = y.d) : x.p0 = y.p0 ∧ x.zs = y.zs := by
  unfold Ro.d at h
  injection h with e0 e1
  exact ⟨e0, e1⟩
end Go.Proofs.Ytcbjdfgmkiodkaa
