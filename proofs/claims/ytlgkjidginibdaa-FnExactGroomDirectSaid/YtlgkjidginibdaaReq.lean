/- Requests: contracts of spec.IsValidRequests and impl.IsValidRequests. No condition but those typed. -/
import Derived.Test.YtlgkjidginibdaaGC
import Derived.Test.YtlgkjidginibdaaGB
import Derived.Test.YtlgkjidginibdaaGA
namespace Go.Proofs.Ytlgkjidginibdaa
open Go.ChangeShapes Go.WideShapes Go.ChangeAt Go.RowKit

noncomputable def rqB (ss : List ByteArray) (fs : List Q4) (d : RqD) : Bool := routeB ss fs d.p0 d.zs && inB d.q0 1 24
noncomputable def reqsB (ss : List ByteArray) (fs : List Q4) (ds : List RqD) : Bool := pb (netP ss fs) && decide (ds.length ≤ 7) && ds.all (rqB ss fs)
theorem reqs_net {ss : List ByteArray} {fs : List Q4} {ds : List RqD} (h : ¬ netP ss fs) : reqsB ss fs ds = false := by unfold reqsB; rw [pb_false h]; rfl
theorem reqs_len {ss : List ByteArray} {fs : List Q4} {ds : List RqD} (h : ¬ ds.length ≤ 7) : reqsB ss fs ds = false := by unfold reqsB; rw [decide_eq_false h]; simp
theorem reqs_all {ss : List ByteArray} {fs : List Q4} {ds : List RqD} (h : netP ss fs) (hl : ds.length ≤ 7) : reqsB ss fs ds = ds.all (rqB ss fs) := by unfold reqsB; rw [pb_true h, decide_eq_true hl]; rfl
theorem rq_route {ss : List ByteArray} {fs : List Q4} {d : RqD} (h : routeB ss fs d.p0 d.zs = false) : rqB ss fs d = false := by unfold rqB; rw [h]; rfl
theorem rq_cnt {ss : List ByteArray} {fs : List Q4} {d : RqD} (h : inB d.q0 1 24 = false) : rqB ss fs d = false := by unfold rqB; rw [h]; simp
theorem rq_yes {ss : List ByteArray} {fs : List Q4} {d : RqD} (h : routeB ss fs d.p0 d.zs = true) (h2 : inB d.q0 1 24 = true) : rqB ss fs d = true := by unfold rqB; rw [h, h2]; rfl
theorem map_at {α β : Type} {f : α → β} {ys : List α} {ds : List β} (h : ys.map f = ds) {k : Nat} (hk : k < ys.length) : ∃ hk2 : k < ds.length, ds[k] = f ys[k] := by
  subst h; exact ⟨by simpa using hk, by simp⟩

end Go.Proofs.Ytlgkjidginibdaa
