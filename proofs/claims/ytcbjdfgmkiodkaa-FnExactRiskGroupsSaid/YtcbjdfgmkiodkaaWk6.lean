/- Routes: their length and their nodes: contracts of the specification and of the implementation. No condition but those typed. -/
import Derived.Test.YtcbjdfgmkiodkaaWk5
import Derived.Test.YtcbjdfgmkiodkaaIntW
import Derived.StillTailTactics
namespace Go.Proofs.Ytcbjdfgmkiodkaa
open Go.ChangeShapes Go.WideShapes Go.ChangeAt Go.RowKit

theorem walkR_mem {fs : List Q4} : ∀ {fl ns vs : List Int}, walkR fs fl ns = some vs → ∀ x ∈ fl, 0 ≤ x ∧ x < fs.length
  | [], _, _, _, x, hx => by simp at hx
  | y :: r, ns, vs, h, x, hx => by
    cases hs : stepO fs ns y with
    | none => rw [walkR_none hs] at h; exact absurd h (by simp)
    | some nx =>
      rw [walkR_some hs] at h
      rcases List.mem_cons.1 hx with rfl | hx
      · unfold stepO at hs
        split at hs
        · rename_i hc; exact hc.1
        · exact absurd hs (by simp)
      · exact walkR_mem h x hx
theorem routeN_mem {n1 : Nat} {fs : List Q4} {st : Int} {fl vs : List Int} (h : routeN n1 fs st fl = some vs) : ∀ x ∈ fl, 0 ≤ x ∧ x < fs.length := by
  unfold routeN at h
  split at h
  · exact walkR_mem h
  · exact absurd h (by simp)
theorem walkR_len {fs : List Q4} : ∀ {fl ns vs : List Int}, walkR fs fl ns = some vs → vs.length = fl.length + ns.length
  | [], ns, vs, h => by rw [walkR] at h; injection h with h; subst h; simp
  | y :: r, ns, vs, h => by
    cases hs : stepO fs ns y with
    | none => rw [walkR_none hs] at h; exact absurd h (by simp)
    | some nx =>
      rw [walkR_some hs] at h
      have := walkR_len h
      rw [this, List.length_cons, List.length_cons]; omega
theorem routeN_len {n1 : Nat} {fs : List Q4} {st : Int} {fl vs : List Int} (h : routeN n1 fs st fl = some vs) : vs.length = fl.length + 1 := by
  unfold routeN at h
  split at h
  · exact walkR_len h
  · exact absurd h (by simp)
theorem lenX_app (fs : List Q4) (a b : List Int) : lenX fs (a ++ b) = lenX fs a + lenX fs b := by unfold lenX; rw [List.map_append, List.sum_append]
theorem lenX_rev (fs : List Q4) : ∀ a : List Int, lenX fs a.reverse = lenX fs a
  | [] => rfl
  | x :: a => by rw [List.reverse_cons, lenX_app, lenX_rev fs a, lenX_cons, lenX_cons]; unfold lenX; simp; omega
theorem lenX_snoc (fs : List Q4) (fl : List Int) (k : Nat) (h : k < fl.length) : lenX fs (fl.take (k + 1)) = lenX fs (fl.take k) + (fibI fs fl[k]).c := by
  rw [List.take_succ_eq_append_getElem h, lenX_app]; unfold lenX; simp
noncomputable def rlenI (ss : List ByteArray) (fs : List Q4) (st : Int) (fl : List Int) : Int := if routeB ss fs st fl then lenX fs fl else 0
noncomputable def rlenR (ss : List ByteArray) (fs : List Q4) (st : Int) (fl : List Int) : Value := .tuple #[.int .i64 (rlenI ss fs st fl), .bool (routeB ss fs st fl)]
theorem rlen_no {ss : List ByteArray} {fs : List Q4} {st : Int} {fl : List Int} (h : routeB ss fs st fl = false) : (.tuple #[.int .i64 0, .bool false] : Value) = rlenR ss fs st fl := by
  unfold rlenR rlenI; rw [h]; rfl
theorem rlen_yes {ss : List ByteArray} {fs : List Q4} {st : Int} {fl : List Int} (h : routeB ss fs st fl = true) : (.tuple #[.int .i64 (lenX fs fl), .bool true] : Value) = rlenR ss fs st fl := by
  unfold rlenR rlenI; rw [h]; rfl
theorem routeB_yes {ss : List ByteArray} {fs : List Q4} {st : Int} {fl : List Int} (h : routeB ss fs st fl = true) : netP ss fs ∧ ∃ vs, routeN ss.length fs st fl = some vs := by
  unfold routeB at h
  rw [Bool.and_eq_true] at h
  exact ⟨of_pb h.1, Option.isSome_iff_exists.1 h.2⟩
theorem routeB_no {ss : List ByteArray} {fs : List Q4} {st : Int} {fl : List Int} (hv : netP ss fs) (h : routeN ss.length fs st fl = none) : routeB ss fs st fl = false := by
  unfold routeB; rw [h]; exact Bool.and_false _
theorem routeB_some {ss : List ByteArray} {fs : List Q4} {st : Int} {fl vs : List Int} (hv : netP ss fs) (h : routeN ss.length fs st fl = some vs) : routeB ss fs st fl = true := by
  unfold routeB; rw [h, pb_true hv]; rfl
theorem routeB_net {ss : List ByteArray} {fs : List Q4} {st : Int} {fl : List Int} (hv : ¬ netP ss fs) : routeB ss fs st fl = false := by
  unfold routeB; rw [pb_false hv]; rfl

end Go.Proofs.Ytcbjdfgmkiodkaa
