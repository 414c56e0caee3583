/- Routes: contract of impl.IsValidRoute. No condition but those typed. -/
import Derived.Test.YtcbjdfgmkiodkaaWk4
namespace Go.Proofs.Ytcbjdfgmkiodkaa
open Go.ChangeShapes Go.WideShapes Go.ChangeAt Go.RowKit

/-- one route laid as a slice of one. -/
theorem one_rt (w : World) (st : Int) (A : Option Addr) (n c : Nat) (zs : List Int) (T : TypeId) : Rd (w.alloc (.cells #[.int .i64 st, .slice A n c] T)) (w.alloc (.cells #[.int .i64 st, .slice A n c] T)).heap.size (some ⟨w.heap.size, 0, none⟩) ([(⟨st, A, n, c, zs⟩ : Rt)].flatMap Rt.cells) := by
  intro k u hu
  refine ⟨_, rfl, by simp, ?_⟩
  match k, hu with
  | 0, hu =>
    have e : u = .int .i64 st := by have := hu; simp [Rt.cells] at this; exact this.symm
    subst e
    exact cell_of_row _ w.heap.size 0 _ T (0, 0) (heap_alloc_new w _)
  | 1, hu =>
    have e : u = .slice A n c := by have := hu; simp [Rt.cells] at this; exact this.symm
    subst e
    exact cell_of_row _ w.heap.size 1 _ T (0, 0) (heap_alloc_new w _)
  | k + 2, hu => simp [Rt.cells] at hu
def OneP (n1 : Nat) (fs : List Q4) (st : Int) (fl : List Int) (w : World) (e : Ending) (w' : World) : Prop :=
  Below w.heap.size w w' ∧ ((routeN n1 fs st fl = none ∧ e = .returned (.tuple #[.slice none 0 0, .bool false])) ∨
    ∃ (gw g : Nat) (vs : List Int), routeN n1 fs st fl = some vs ∧ e = .returned (.tuple #[.slice (some ⟨gw, 0, none⟩) 1 1, .bool true]) ∧ w.heap.size ≤ gw ∧ gw < w'.heap.size ∧ w'.cell? ⟨gw, 0, none⟩ = some (.pointer (some ⟨g, 0, none⟩)) ∧ Lk fs w' g fl.reverse vs)
/-- walksAlong at one route. -/
theorem walks_one {g1 g2 n1 n2 c1 c2 : Nat} {ss : List ByteArray} {fs : List Q4} {w : World} (h : NetAt g1 g2 n1 n2 c1 c2 ss fs w) (hv : netP ss fs) {gr cr : Nat} {st : Int} {A : Option Addr} {n c : Nat} {fl : List Int}
    (hr : Rd w w.heap.size (some ⟨gr, 0, none⟩) ([(⟨st, A, n, c, fl⟩ : Rt)].flatMap Rt.cells)) (hrt : RtAt w ⟨st, A, n, c, fl⟩) :
    Calls Try.prog 129 #[.agg #[.slice (some ⟨g1, 0, none⟩) n1 c1, .slice (some ⟨g2, 0, none⟩) n2 c2], .slice (some ⟨gr, 0, none⟩) 1 cr] w (OneP n1 fs st fl w) := by
  refine (walks_ (nr := 1) h hv rfl (by omega) hr (fun r hr => by rw [List.mem_singleton] at hr; rw [hr]; exact hrt)).mono ?_
  rintro e w' ⟨hb, h⟩
  refine ⟨hb, ?_⟩
  rcases h with ⟨⟨i, hi, hn⟩, he⟩ | ⟨gw, gs, he, hl, ho, hall⟩
  · left
    have : i = 0 := by simp at hi; exact hi
    subst this
    exact ⟨hn, he⟩
  · right
    have hl1 : gs.length = 1 := hl
    obtain ⟨vs, h1, h2⟩ := hall 0 (by simp) (by omega)
    have hb2 := ho.lt gw rfl
    have h3 := ho.cellAt 0 (by simp)
    rw [List.getElem?_map, List.getElem?_eq_getElem (by omega)] at h3
    exact ⟨gw, gs[0], vs, h1, he, hb2.1, hb2.2, h3, h2⟩

end Go.Proofs.Ytcbjdfgmkiodkaa
