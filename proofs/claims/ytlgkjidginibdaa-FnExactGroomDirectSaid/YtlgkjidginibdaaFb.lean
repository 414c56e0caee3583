/- The greatest sum of the counts of requests over a fiber: contracts of FiberBound, both sides. No condition but those typed. -/
import Derived.Test.YtlgkjidginibdaaReq
import Derived.Test.YtlgkjidginibdaaGB
import Derived.Test.YtlgkjidginibdaaShelf
import Derived.Test.YtlgkjidginibdaaGA
import Derived.Test.YtlgkjidginibdaaCmp
import Derived.OwnWalk
namespace Go.Proofs.Ytlgkjidginibdaa
open Go.ChangeShapes Go.WideShapes Go.ChangeAt Go.RowKit

def rqZ : RqD := ⟨0, [], 0⟩
def rqn (ds : List RqD) (k : Nat) : RqD := ds.getD k rqZ
theorem rqn_at {ys : List Rq} {ds : List RqD} (h : ys.map Rq.d = ds) {k : Nat} (hk : k < ys.length) {y : Rq} (hy : ys[k] = y) : rqn ds k = y.d := by
  unfold rqn
  rw [← h, List.getD_eq_getElem?_getD, List.getElem?_map, List.getElem?_eq_getElem hk, hy]; rfl
/-- the sum of the counts of the first k requests that use fiber f. -/
def fbF (ds : List RqD) (f : Nat) : Nat → Int
  | 0 => 0
  | k + 1 => fbF ds f k + (if (f : Int) ∈ (rqn ds k).zs then (rqn ds k).q0 else 0)
/-- the greatest sum among the first f fibers, and the first fiber with it. -/
def fbM (ds : List RqD) : Nat → Int × Nat
  | 0 => (0, 0)
  | f + 1 => if (fbM ds f).1 < fbF ds f ds.length then (fbF ds f ds.length, f) else fbM ds f
noncomputable def fbV (ss : List ByteArray) (fs : List Q4) (ds : List RqD) : Int := if reqsB ss fs ds then (fbM ds fs.length).1 else 0
noncomputable def fbI (ss : List ByteArray) (fs : List Q4) (ds : List RqD) : Int := if reqsB ss fs ds then ((fbM ds fs.length).2 : Int) else 0
noncomputable def fbR (ss : List ByteArray) (fs : List Q4) (ds : List RqD) : Value := .tuple #[.int .i64 (fbV ss fs ds), .int .i64 (fbI ss fs ds), .bool (reqsB ss fs ds)]
theorem fb_no {ss : List ByteArray} {fs : List Q4} {ds : List RqD} (h : reqsB ss fs ds = false) : (.tuple #[.int .i64 0, .int .i64 0, .bool false] : Value) = fbR ss fs ds := by unfold fbR fbV fbI; rw [h]; rfl
theorem fb_yes {ss : List ByteArray} {fs : List Q4} {ds : List RqD} (h : reqsB ss fs ds = true) : (.tuple #[.int .i64 (fbM ds fs.length).1, .int .i64 ((fbM ds fs.length).2 : Int), .bool true] : Value) = fbR ss fs ds := by unfold fbR fbV fbI; rw [h]; rfl
theorem reqs_facts {ss : List ByteArray} {fs : List Q4} {ds : List RqD} (h : reqsB ss fs ds = true) : netP ss fs ∧ ds.length ≤ 7 ∧ ∀ k, k < ds.length → 1 ≤ (rqn ds k).q0 ∧ (rqn ds k).q0 ≤ 24 := by
  unfold reqsB at h
  rw [Bool.and_eq_true, Bool.and_eq_true, List.all_eq_true] at h
  refine ⟨of_pb h.1.1, of_decide_eq_true h.1.2, fun k hk => ?_⟩
  have h1 := h.2 ds[k] (List.getElem_mem hk)
  unfold rqB at h1
  rw [Bool.and_eq_true] at h1
  have h2 := of_decide_eq_true h1.2
  have e : rqn ds k = ds[k] := by unfold rqn; rw [List.getD_eq_getElem?_getD, List.getElem?_eq_getElem hk]; rfl
  rw [e]; exact h2
theorem fbF_in {ds : List RqD} {f : Nat} (h : ∀ k, k < ds.length → 1 ≤ (rqn ds k).q0 ∧ (rqn ds k).q0 ≤ 24) : ∀ {k : Nat}, k ≤ ds.length → 0 ≤ fbF ds f k ∧ fbF ds f k ≤ 24 * (k : Int)
  | 0, _ => ⟨by show (0 : Int) ≤ 0; omega, by show (0 : Int) ≤ 24 * ((0 : Nat) : Int); omega⟩
  | k + 1, hk => by
    have ih := fbF_in (f := f) h (k := k) (by omega)
    have hq := h k (by omega)
    have e : fbF ds f (k + 1) = fbF ds f k + (if (f : Int) ∈ (rqn ds k).zs then (rqn ds k).q0 else 0) := rfl
    rw [e]
    split <;> omega
theorem fbM_in {ds : List RqD} (h : ∀ k, k < ds.length → 1 ≤ (rqn ds k).q0 ∧ (rqn ds k).q0 ≤ 24) (hl : ds.length ≤ 7) : ∀ {f : Nat}, 0 ≤ (fbM ds f).1 ∧ (fbM ds f).1 ≤ 168 ∧ (fbM ds f).2 ≤ f
  | 0 => ⟨by show (0 : Int) ≤ 0; omega, by show (0 : Int) ≤ 168; omega, Nat.le_refl _⟩
  | f + 1 => by
    have ih := fbM_in h hl (f := f)
    have h2 := fbF_in (f := f) h (Nat.le_refl ds.length)
    unfold fbM
    split
    · exact ⟨h2.1, by omega, by omega⟩
    · exact ⟨ih.1, ih.2.1, by omega⟩
theorem fbM_gt {ds : List RqD} {f : Nat} (h : (fbM ds f).1 < fbF ds f ds.length) : fbM ds (f + 1) = (fbF ds f ds.length, f) := by rw [fbM, if_pos h]
theorem fbM_le {ds : List RqD} {f : Nat} (h : ¬ (fbM ds f).1 < fbF ds f ds.length) : fbM ds (f + 1) = fbM ds f := by rw [fbM, if_neg h]

theorem cont_ (q n c : Nat) (zs : List Int) (x : Int) (w : World) (hn : zs.length = n) (hs : n ≤ 1048576) (hr : Rd w w.heap.size (some ⟨q, 0, none⟩) (zs.map (Value.int .i64))) :
    Calls Try.prog 136 #[.slice (some ⟨q, 0, none⟩) n c, .int .i64 x] w fun e w' => e = .returned (.bool (decide (x ∈ zs))) ∧ w' = w := by
  refine (Try.slices_Contains_int q 0 n c zs x w (by omega) (by omega) (fun j hj => ?_)).mono fun e w' h => ⟨?_, h.2⟩
  · have h9 := (hr.intc hj).2
    rw [List.getD_eq_getElem?_getD, List.getElem?_eq_getElem hj]; exact h9
  · rw [h.1, List.take_of_length_le (by omega)]
    congr 2
    by_cases hm : x ∈ zs
    · rw [decide_eq_true hm]; exact List.contains_iff_mem.2 hm
    · rw [decide_eq_false hm]; exact Bool.eq_false_iff.2 (fun h => hm (List.contains_iff_mem.1 h))

end Go.Proofs.Ytlgkjidginibdaa
