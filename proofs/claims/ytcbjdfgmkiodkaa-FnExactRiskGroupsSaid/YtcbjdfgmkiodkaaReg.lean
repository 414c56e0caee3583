/- Routes: the nodes at which a signal is regenerated: contracts of RegeneratorsFor, both sides. No condition but those typed. -/
import Derived.Test.YtcbjdfgmkiodkaaWk7
import Derived.Test.YtcbjdfgmkiodkaaApdN
import Derived.Test.YtcbjdfgmkiodkaaWk5
namespace Go.Proofs.Ytcbjdfgmkiodkaa
open Go.ChangeShapes Go.WideShapes Go.ChangeAt Go.RowKit

noncomputable def lnK (fs : List Q4) (fl : List Int) (k : Nat) : Int := (fibI fs (fl.getD k 0)).c
noncomputable def rgS (fs : List Q4) (fl vs : List Int) (h : Int) : Nat → Int × List Int
  | 0 => (0, [])
  | k + 1 => if h < (rgS fs fl vs h k).1 + lnK fs fl k then (lnK fs fl k, (rgS fs fl vs h k).2 ++ [vs.getD k 0]) else ((rgS fs fl vs h k).1 + lnK fs fl k, (rgS fs fl vs h k).2)
theorem rg_over {fs : List Q4} {fl vs : List Int} {h : Int} {k : Nat} {s l v : Int} {L : List Int} (e : rgS fs fl vs h k = (s, L)) (el : lnK fs fl k = l) (ev : vs.getD k 0 = v) (ho : h < s + l) : rgS fs fl vs h (k + 1) = (l, L ++ [v]) := by
  rw [rgS, e, el, ev]; exact if_pos ho
theorem rg_fits {fs : List Q4} {fl vs : List Int} {h : Int} {k : Nat} {s l : Int} {L : List Int} (e : rgS fs fl vs h k = (s, L)) (el : lnK fs fl k = l) (ho : ¬ h < s + l) : rgS fs fl vs h (k + 1) = (s + l, L) := by
  rw [rgS, e, el]; exact if_neg ho
theorem rg_len (fs : List Q4) (fl vs : List Int) (h : Int) : ∀ k, (rgS fs fl vs h k).2.length ≤ k
  | 0 => Nat.le_refl _
  | k + 1 => by
    have := rg_len fs fl vs h k
    rw [rgS]
    split
    · rw [List.length_append]; exact Nat.succ_le_succ this
    · exact Nat.le_succ_of_le this
noncomputable def regP (ss : List ByteArray) (fs : List Q4) (st : Int) (fl : List Int) (h : Int) : Prop := routeB ss fs st fl = true ∧ (1 ≤ h ∧ h ≤ 20000) ∧ ∀ k, k < fl.length → lnK fs fl k ≤ h
noncomputable def regB (ss : List ByteArray) (fs : List Q4) (st : Int) (fl : List Int) (h : Int) : Bool := pb (regP ss fs st fl h)
noncomputable def regL (ss : List ByteArray) (fs : List Q4) (st : Int) (fl : List Int) (h : Int) : List Int := if regB ss fs st fl h then (rgS fs fl (rnodL ss fs st fl) h fl.length).2 else []
theorem reg_no {ss : List ByteArray} {fs : List Q4} {st : Int} {fl : List Int} {h : Int} (e : ¬ regP ss fs st fl h) : regL ss fs st fl h = [] ∧ regB ss fs st fl h = false := by
  have hb : regB ss fs st fl h = false := pb_false e
  exact ⟨by unfold regL; rw [hb]; rfl, hb⟩
theorem reg_yes {ss : List ByteArray} {fs : List Q4} {st : Int} {fl : List Int} {h : Int} (e : regP ss fs st fl h) : regL ss fs st fl h = (rgS fs fl (rnodL ss fs st fl) h fl.length).2 ∧ regB ss fs st fl h = true := by
  have hb : regB ss fs st fl h = true := pb_true e
  exact ⟨by unfold regL; rw [hb]; rfl, hb⟩
theorem regL_len (ss : List ByteArray) (fs : List Q4) (st : Int) (fl : List Int) (h : Int) : (regL ss fs st fl h).length ≤ fl.length := by
  unfold regL
  split
  · exact rg_len _ _ _ _ _
  · simp
/-- worlds one after the other. -/
theorem belT {a b c : World} (h : Below a.heap.size a b) (k : Below b.heap.size b c) : Below a.heap.size a c := h.trans (k.mono h.size)
theorem own_some {w : World} {B E s n c : Nat} {A : Option Addr} {xs : List Value} (h : w.ownsRow B E s (.slice A n c) n xs) (hn : 0 < n) : ∃ g, A = some ⟨g, 0, none⟩ := by
  rcases h.2 with ⟨e, e2⟩ | ⟨g, cap, cur, e, _, hh, _⟩
  · omega
  · injection e with e1
    exact ⟨g, e1⟩
theorem apart_new {w w' : World} {B E s n B' E' s' n' : Nat} {v v' : Value} {xs xs' : List Value} (h : w.ownsRow B E s v n xs) (h' : w'.ownsRow B' E' s' v' n' xs') (hB : w.heap.size ≤ B') : Apart v' v := fun g hg e => by
  have h1 := (h.lt g e).2
  have h2 := (h'.lt g hg).1
  omega
theorem apart_loc {v v' v1 : Value} {B E s n K : Nat} {xs : List Value} {w : World} (h : Apart v v') (ho : w.ownsRow B E s v n xs) (hK : w.heap.size ≤ K) (hloc : v1.ownBlock = v'.ownBlock ∨ v1.ownBlock = some K) : Apart v v1 := by
  intro g hg e
  rcases hloc with hl | hl
  · exact h g hg (by rw [← hl]; exact e)
  · have := (ho.lt g hg).2
    rw [hl] at e
    injection e with e
    omega
theorem new_at_ (W : World) (E : TypeId) (u : Value) (b : Nat) (hb : W.heap.size = b) : (W.alloc (.cells #[u] E)).cell? ⟨b, 0, none⟩ = some u := by subst hb; simp [go_sem]
/-- the cell of an int row of the call's own. -/
theorem own_int {w : World} {B E g n c k : Nat} {zs : List Int} (h : w.ownsRow B E 1 (.slice (some ⟨g, 0, none⟩) n c) n (zs.map (Value.int .i64))) (hn : n = zs.length) (hk : k < n) {v : Int} (hv : zs.getD k 0 = v) : w.cell? ⟨g, k, none⟩ = some (.int .i64 v) := by
  have h1 := h.cellAt k (by omega)
  have hk' : k < zs.length := by omega
  rw [List.getD_eq_getElem?_getD, List.getElem?_eq_getElem hk'] at hv
  simp only [Option.getD_some] at hv
  rw [List.getElem?_map, List.getElem?_eq_getElem hk', hv] at h1
  exact h1

theorem ints_no {L : List Int} {b : Bool} {w w' : World} (h : L = [] ∧ b = false) (hb : Below w.heap.size w w') : IntsP L b w (.returned (.tuple #[.slice none 0 0, .bool false])) w' := by
  obtain ⟨rfl, rfl⟩ := h; exact ints_nilB false hb
theorem ints_lit {L : List Int} {b : Bool} {w w' : World} (h : L = [] ∧ b = false) (hb : Below w.heap.size w w') {g : Nat} (hg : w'.heap.size = g) : IntsP L b w (.returned (.tuple #[.slice (some ⟨g, 0, none⟩) 0 0, .bool false])) (w'.alloc (Obj.cells #[] 3)) := by
  obtain ⟨rfl, rfl⟩ := h
  subst hg
  exact ⟨_, 0, _, rfl, Lib.hid rfl, World.ownsRow_lit (base := w.heap.size) (e := 3) (size := 1) w' #[] 0 hb.size (by unfold maxLen; omega) rfl, hb.alloc hb.size _⟩

end Go.Proofs.Ytcbjdfgmkiodkaa
