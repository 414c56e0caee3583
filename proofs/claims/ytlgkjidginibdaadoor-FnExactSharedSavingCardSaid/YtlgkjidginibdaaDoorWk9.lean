/- Routes: the reverse of a route: a contract of the implementation. No condition but those typed. -/
import Derived.Test.YtlgkjidginibdaaDoorWk8
namespace Go.Proofs.YtlgkjidginibdaaDoor
open Go.ChangeShapes Go.WideShapes Go.ChangeAt Go.RowKit

theorem below_setCellsW (B b : Nat) (hB : B ≤ b) {a : World} : ∀ (vs : List Value) (o : Nat) (w : World), Below B a w → Below B a (w.setCells b o vs)
  | [], _, _, h => h
  | v :: r, o, w, h => below_setCellsW B b hB r (o + 1) (w.setCell ⟨b, o, none⟩ v) (h.setCell (p := ⟨b, o, none⟩) hB v)
def setL (xs : List Value) (o : Nat) : List Value → List Value
  | [] => xs
  | v :: r => setL (xs.set o v) (o + 1) r
  termination_by vs => vs.length
theorem setL_len (o : Nat) (vs xs : List Value) : (setL xs o vs).length = xs.length := by
  induction vs generalizing xs o with
  | nil => simp [setL]
  | cons v r ih => rw [setL, ih, List.length_set]
theorem setL_all (vs : List Value) : ∀ (xs : List Value) (o : Nat), o + vs.length = xs.length → setL xs o vs = xs.take o ++ vs := by
  induction vs with
  | nil => intro xs o h; simp at h; rw [setL, List.append_nil, List.take_of_length_le (by omega)]
  | cons v r ih =>
    intro xs o h
    rw [List.length_cons] at h
    have ho : o < (xs.set o v).length := by rw [List.length_set]; omega
    rw [setL, ih (xs.set o v) (o + 1) (by rw [List.length_set]; omega), List.take_succ_eq_append_getElem ho, List.getElem_set_self, List.take_set_of_le (Nat.le_refl _), List.append_assoc]
    rfl
theorem own_setCells {B g n c : Nat} {E : TypeId} : ∀ (vs xs : List Value) (o : Nat) (w : World), w.ownsRow B E 1 (.slice (some ⟨g, 0, none⟩) n c) n xs → (w.setCells g o vs).ownsRow B E 1 (.slice (some ⟨g, 0, none⟩) n c) n (setL xs o vs)
  | [], xs, o, w, h => by rw [setL]; exact h
  | v :: r, xs, o, w, h => by
    rw [setL]
    exact own_setCells r (xs.set o v) (o + 1) (w.setCell ⟨g, o, none⟩ v) (h.stored o v).1

/-- a route whose fibers lie in memory of the call's own, and a word. -/
def RtP (s : Int) (zs : List Int) (b : Bool) (w : World) (e : Ending) (w' : World) : Prop :=
  ∃ (A : Option Addr) (N c : Nat), e = .returned (.tuple #[.agg #[.int .i64 s, .slice A N c], .bool b]) ∧ Hid (N = zs.length) ∧ w'.ownsRow w.heap.size 3 1 (.slice A N c) N (zs.map (Value.int .i64)) ∧ Below w.heap.size w w'
noncomputable def rrevS (ss : List ByteArray) (fs : List Q4) (st : Int) (fl : List Int) : Int := if routeB ss fs st fl then ((routeN ss.length fs st fl).getD []).headD 0 else 0
noncomputable def rrevL (ss : List ByteArray) (fs : List Q4) (st : Int) (fl : List Int) : List Int := if routeB ss fs st fl then fl.reverse else []
theorem rrev_no {ss : List ByteArray} {fs : List Q4} {st : Int} {fl : List Int} (h : routeB ss fs st fl = false) : rrevS ss fs st fl = 0 ∧ rrevL ss fs st fl = [] := by unfold rrevS rrevL; rw [h]; exact ⟨rfl, rfl⟩
theorem rrev_yes {ss : List ByteArray} {fs : List Q4} {st : Int} {fl vs : List Int} (h : routeB ss fs st fl = true) (hv : routeN ss.length fs st fl = some vs) : rrevS ss fs st fl = vs.headD 0 ∧ rrevL ss fs st fl = fl.reverse := by
  unfold rrevS rrevL; rw [h, hv]; exact ⟨rfl, rfl⟩
theorem one_rowR (w : World) (a b : Value) (ha : a.oneCell' = true) (hb' : b.oneCell' = true) {base : Nat} (hb : base ≤ w.heap.size) : (w.alloc (.cells #[a, b] 64)).ownsRow base 64 2 (.slice (some ⟨w.heap.size, 0, none⟩) 1 1) 1 [a, b] := by
  have := World.ownsRow_lit (base := base) (e := 64) (size := 2) w #[a, b] 1 hb (by unfold maxLen; omega) rfl
  simpa using this

end Go.Proofs.YtlgkjidginibdaaDoor
