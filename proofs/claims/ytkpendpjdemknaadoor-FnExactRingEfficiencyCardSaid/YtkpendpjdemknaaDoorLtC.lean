/- Lights in memory of the call's own, whatever the capacities of their rows. No condition but those typed. -/
import Derived.Test.YtkpendpjdemknaaDoorGC
import Derived.Test.YtkpendpjdemknaaDoorRws
namespace Go.Proofs.YtkpendpjdemknaaDoor
open Go.ChangeShapes Go.WideShapes Go.ChangeAt Go.RowKit

def ltv (y : Lt) : Value := .slice y.A y.n y.c
def LtO (B : Nat) (w : World) (y : Lt) : Prop := y.zs.length = y.n ∧ y.n ≤ 1048576 ∧ w.ownsRow B 3 1 (.slice y.A y.n y.c) y.n (y.zs.map (Value.int .i64))
theorem LtO.base {B B' : Nat} {w : World} {y : Lt} (h : LtO B w y) (hB : B' ≤ B) : LtO B' w y := ⟨h.1, h.2.1, own_base h.2.2 hB⟩
theorem LtO.moved {B : Nat} {w w' : World} {y : Lt} (h : LtO B w y) (hb : Below w.heap.size w w') : LtO B w' y := ⟨h.1, h.2.1, ownB h.2.2 hb⟩
theorem LtO.at_ {B : Nat} {w : World} {y : Lt} (h : LtO B w y) : LtAt w y := ⟨h.1, h.2.1, Rd.ofOwn h.2.2⟩
theorem news5 (W : World) (E : TypeId) (a b c d e : Value) (g : Nat) (hg : W.heap.size = g) : ∀ (j : Nat) (u : Value), [a, b, c, d, e][j]? = some u → (W.alloc (.cells #[a, b, c, d, e] E)).cell? ((⟨g, 0, none⟩ : Addr).add j) = some u := by
  subst hg
  intro j u hu
  have e0 : (⟨W.heap.size, 0, none⟩ : Addr).add j = ⟨W.heap.size, j, none⟩ := by unfold Addr.add; split <;> simp_all
  rw [e0]
  match j, hu with
  | 0, hu => simp at hu; subst hu; simp [go_sem]
  | 1, hu => simp at hu; subst hu; simp [go_sem]
  | 2, hu => simp at hu; subst hu; simp [go_sem]
  | 3, hu => simp at hu; subst hu; simp [go_sem]
  | 4, hu => simp at hu; subst hu; simp [go_sem]
theorem one_lt (y : Lt) : ∀ u ∈ y.cells, u.oneCell' = true := by
  intro u hu
  simp only [Lt.cells, List.mem_cons, List.not_mem_nil, or_false] at hu
  rcases hu with rfl | rfl | rfl | rfl | rfl <;> rfl
theorem Lt_map_snoc {xs ys : List Lt} {k : Nat} (h : ys.map Lt.d = (xs.take k).map Lt.d) (hk : k < xs.length) {y : Lt} (hy : y.d = (xs[k]).d) : (ys ++ [y]).map Lt.d = (xs.take (k + 1)).map Lt.d := by
  rw [List.map_append, h, List.take_succ_eq_append_getElem hk, List.map_append]; simp [hy]
end Go.Proofs.YtkpendpjdemknaaDoor
