/- Lights in memory of the call's own, whatever the capacities of their rows. No condition but those typed. -/
import Derived.Test.YtkpendpjdemknaaGC
import Derived.Test.YtkpendpjdemknaaRws
namespace Go.Proofs.Ytkpendpjdemknaa
open Go.ChangeShapes Go.WideShapes Go.ChangeAt Go.RowKit

def ltv (y : Lt) : Value := .slice y.A y.n y.c
def LtO (B : Nat) (w : World) (y : Lt) : Prop := y.zs.length = y.n ∧ y.n ≤ 1048576 ∧ w.ownsRow B 3 1 (.slice y.A y.n y.c) y.n (y.zs.map (Value.int .i64))
theorem LtO.base {B B' : Nat} {w : World} {y : Lt} (h : LtO B w y) (hB : B' ≤ B) : LtO B' w y := ⟨h.1, h.2.1, own_base h.2.2 hB⟩
theorem LtO.moved {B : Nat} {w w' : World} {y : Lt} (h : LtO B w y) (hb : Below w.heap.size w w') : LtO B w' y := ⟨h.1, h.2.1, ownB h.2.2 hb⟩
theorem LtO.at_ {B : Nat} {w : World} {y : Lt} (h : LtO B w y) : LtAt w y := ⟨h.1, h.2.1, Rd.ofOwn h.2.2⟩
/-- the lights, the row of each in memory of its own, and the row of them. -/
structure LtC (B : Nat) (A : Option Addr) (n c : Nat) (ys : List Lt) (w : World) : Prop where
  len : ys.length = n
  row : w.ownsRow B 120 5 (.slice A n c) n (ys.flatMap Lt.cells)
  own : ∀ y ∈ ys, LtO B w y
  apart : ys.Pairwise fun y y' => Apart (ltv y) (ltv y')
theorem LtC.nil (B : Nat) (w : World) : LtC B none 0 0 [] w := ⟨rfl, World.ownsRow_nil _ _ _ _, fun y hy => by simp at hy, List.Pairwise.nil⟩
theorem LtC.moved {B : Nat} {A : Option Addr} {n c : Nat} {ys : List Lt} {w w' : World} (h : LtC B A n c ys w) (hb : Below w.heap.size w w') : LtC B A n c ys w' := ⟨h.len, ownB h.row hb, fun y hy => (h.own y hy).moved hb, h.apart⟩
theorem LtC.base {B B' : Nat} {A : Option Addr} {n c : Nat} {ys : List Lt} {w : World} (h : LtC B A n c ys w) (hB : B' ≤ B) : LtC B' A n c ys w := ⟨h.len, own_base h.row hB, fun y hy => (h.own y hy).base hB, h.apart⟩
theorem LtC.alloc {B : Nat} {A : Option Addr} {n c : Nat} {ys : List Lt} {w : World} (h : LtC B A n c ys w) (o : Obj) : LtC B A n c ys (w.alloc o) := h.moved ((Below.refl _ _).alloc (Nat.le_refl _) o)
theorem LtC.low {B b o : Nat} {A : Option Addr} {n c : Nat} {ys : List Lt} {w : World} (h : LtC B A n c ys w) (hb : b < B) (u : Value) : LtC B A n c ys (w.setCell ⟨b, o, none⟩ u) :=
  ⟨h.len, ownsRow_setCell_below h.row (a := ⟨b, o, none⟩) hb _, fun y hy => ⟨(h.own y hy).1, (h.own y hy).2.1, ownsRow_setCell_below (h.own y hy).2.2 (a := ⟨b, o, none⟩) hb _⟩, h.apart⟩
theorem LtC.rd {B : Nat} {A : Option Addr} {n c : Nat} {ys : List Lt} {w : World} (h : LtC B A n c ys w) : Rd w w.heap.size A (ys.flatMap Lt.cells) := Rd.ofOwnK h.row
theorem LtC.ap {B : Nat} {A : Option Addr} {n c : Nat} {ys : List Lt} {w : World} (h : LtC B A n c ys w) {y : Lt} (hy : LtO B w y) : Apart (ltv y) (.slice A n c) := own_type_apart hy.2.2 h.row (by decide)
theorem LtC.push {B : Nat} {A : Option Addr} {n c : Nat} {ys : List Lt} {w : World} (h : LtC B A n c ys w) {y : Lt} (hy : LtO B w y) (hap : ∀ x ∈ ys, Apart (ltv x) (ltv y)) {w' : World} {A2 : Option Addr} {n2 c2 : Nat} (hn2 : n2 = n + 1)
    (ho : w'.ownsRow B 120 5 (.slice A2 n2 c2) n2 (ys.flatMap Lt.cells ++ y.cells)) (hg : w.grownBy w' (Value.slice A n c).ownBlock) : LtC B A2 n2 c2 (ys ++ [y]) w' :=
  ⟨by rw [List.length_append, h.len, hn2]; rfl, by rw [List.flatMap_append]; simpa using ho, fun x hx => by
    rcases List.mem_append.1 hx with hx | hx
    · exact ⟨(h.own x hx).1, (h.own x hx).2.1, (h.ap (h.own x hx)).kept (h.own x hx).2.2 hg⟩
    · rw [List.mem_singleton.1 hx]; exact ⟨hy.1, hy.2.1, (h.ap hy).kept hy.2.2 hg⟩, List.pairwise_append.2 ⟨h.apart, List.pairwise_singleton _ _, fun x hx x' hx' => by rw [List.mem_singleton.1 hx']; exact hap x hx⟩⟩
theorem LtC.newer {B : Nat} {A : Option Addr} {n c : Nat} {ys : List Lt} {w w' : World} (h : LtC B A n c ys w) {B' : Nat} {y : Lt} (hy : LtO B' w' y) (hB : w.heap.size ≤ B') : ∀ x ∈ ys, Apart (ltv x) (ltv y) :=
  fun x hx => (apart_new (h.own x hx).2.2 hy.2.2 hB).symm
theorem LtC.heapW {B : Nat} {A : Option Addr} {n c : Nat} {ys : List Lt} {w w' : World} (h : LtC B A n c ys w) (e : w'.heap = w.heap) : LtC B A n c ys w' := ⟨h.len, own_heapW e h.row, fun y hy => ⟨(h.own y hy).1, (h.own y hy).2.1, own_heapW e (h.own y hy).2.2⟩, h.apart⟩
theorem news5 (W : World) (E : TypeId) (a b c d e : Value) (g : Nat) (hg : W.heap.size = g) : ∀ (j : Nat) (u : Value), [a, b, c, d, e][j]? = some u → (W.alloc (.cells #[a, b, c, d, e] E)).cell? ((⟨g, 0, none⟩ : Addr).add j) = some u := by
  subst hg
  intro j u hu
  have e0 : (⟨W.heap.size, 0, none⟩ : Addr).add j = ⟨W.heap.size, j, none⟩ := by unfold Addr.add; split <;> simp_all
  rw [e0]
  match j, hu with
  | 0, hu => simp at hu; subst hu; simp [go_sem]
  | 1, hu => simp at hu; subst hu; simp [go_sem]
  | 2, hu => simp at hu; subst hu; simp [go_sem]
  | 3, hu => simp at hu; subst hu; simp [go_sem]
  | 4, hu => simp at hu; subst hu; simp [go_sem]
theorem one_lt (y : Lt) : ∀ u ∈ y.cells, u.oneCell' = true := by
  intro u hu
  simp only [Lt.cells, List.mem_cons, List.not_mem_nil, or_false] at hu
  rcases hu with rfl | rfl | rfl | rfl | rfl <;> rfl
theorem Lt_map_snoc {xs ys : List Lt} {k : Nat} (h : ys.map Lt.d = (xs.take k).map Lt.d) (hk : k < xs.length) {y : Lt} (hy : y.d = (xs[k]).d) : (ys ++ [y]).map Lt.d = (xs.take (k + 1)).map Lt.d := by
  rw [List.map_append, h, List.take_succ_eq_append_getElem hk, List.map_append]; simp [hy]
end Go.Proofs.Ytkpendpjdemknaa
