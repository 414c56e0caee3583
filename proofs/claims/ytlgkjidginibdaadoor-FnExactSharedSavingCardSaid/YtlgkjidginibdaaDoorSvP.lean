/- Services in plain words. No condition but those typed. -/
import Derived.Test.YtlgkjidginibdaaDoorSvR
import Derived.Test.YtlgkjidginibdaaDoorScO
import Derived.Test.YtlgkjidginibdaaDoorScM
namespace Go.Proofs.YtlgkjidginibdaaDoor
open Go.ChangeShapes Go.WideShapes Go.ChangeAt Go.RowKit

noncomputable def endI (ss : List ByteArray) (fs : List Q4) (st : Int) (zs : List Int) : Int := ((routeN ss.length fs st zs).getD []).headD 0
def plainP (d : SvD) : Prop := (d.s2 = 0 ∧ d.us = []) ∧ d.x2 = 0 ∧ d.y2 = 0
def spareP (ss : List ByteArray) (fs : List Q4) (d : SvD) : Prop := (routeB ss fs d.s2 d.us = true ∧ blkP d.x2 d.y2) ∧ d.s2 = d.s1 ∧ endI ss fs d.s2 d.us = endI ss fs d.s1 d.zs ∧ apP fs d.zs d.us
/-- a valid service. -/
def svP (ss : List ByteArray) (fs : List Q4) (d : SvD) : Prop := ((1 ≤ d.i ∧ d.i ≤ 999) ∧ (0 ≤ d.k ∧ d.k ≤ 2)) ∧ (routeB ss fs d.s1 d.zs = true ∧ blkP d.x1 d.y1) ∧ (d.k = 0 → plainP d) ∧ (d.k ≠ 0 → spareP ss fs d)
theorem routeB_in {ss : List ByteArray} {fs : List Q4} {st : Int} {zs : List Int} (h : routeB ss fs st zs = true) : ∀ x ∈ zs, 0 ≤ x ∧ x < fs.length := by
  obtain ⟨_, vs, hvs⟩ := routeB_yes h
  exact routeN_mem hvs
theorem svP_zs {ss : List ByteArray} {fs : List Q4} {d : SvD} (h : svP ss fs d) : ∀ x ∈ d.zs, 0 ≤ x ∧ x < fs.length := routeB_in h.2.1.1
theorem svP_us {ss : List ByteArray} {fs : List Q4} {d : SvD} (h : svP ss fs d) : ∀ x ∈ d.us, 0 ≤ x ∧ x < fs.length := by
  by_cases h0 : d.k = 0
  · rw [(h.2.2.1 h0).1.2]; intro x hx; simp at hx
  · exact routeB_in (h.2.2.2 h0).1.1
theorem svP_b2 {ss : List ByteArray} {fs : List Q4} {d : SvD} (h : svP ss fs d) (hu : d.us ≠ []) : blkP d.x2 d.y2 := by
  by_cases h0 : d.k = 0
  · exact absurd (h.2.2.1 h0).1.2 hu
  · exact (h.2.2.2 h0).1.2
theorem svP_c2 {ss : List ByteArray} {fs : List Q4} {d : SvD} (h : svP ss fs d) (hu : 0 < d.y2) : blkP d.x2 d.y2 := by
  by_cases h0 : d.k = 0
  · have := (h.2.2.1 h0).2.2; omega
  · exact (h.2.2.2 h0).1.2
/-- whether two claims meet, as the implementation reckons. -/
noncomputable def svMt (xs ys : List Int) (p q : Q2) : Bool := decide ((maskN xs xs.length &&& maskN ys ys.length) ≠ 0) && pb (ovP p q)
theorem mask_nil : maskN [] 0 = 0 := rfl
theorem cl_mt {ss : List ByteArray} {fs : List Q4} (hv : netP ss fs) {xs ys : List Int} {p q : Q2} (hx : ∀ x ∈ xs, 0 ≤ x ∧ x < fs.length) (hy : ∀ x ∈ ys, 0 ≤ x ∧ x < fs.length) (hp : xs ≠ [] → blkP p.a p.b) (hq : ys ≠ [] → blkP q.a q.b) : clB xs ys p q = svMt xs ys p q := by
  unfold clB svMt
  rw [mask_meet (rfl : xs.length = xs.length) (rfl : ys.length = ys.length) (mem_bd hv rfl hx) (mem_bd hv rfl hy)]
  by_cases h0 : (maskN xs xs.length &&& maskN ys ys.length) = 0
  · rw [h0]; rfl
  · have hxn : xs ≠ [] := fun e => h0 (by rw [e]; simp [mask_nil])
    have hyn : ys ≠ [] := fun e => h0 (by rw [e]; simp [mask_nil])
    have h1 := (hp hxn).2.1
    have h2 := (hq hyn).2.1
    rw [decide_eq_true (show 0 < p.b by omega), decide_eq_true (show 0 < q.b by omega), Bool.true_and, Bool.true_and]
/-- whether two services are compatible. -/
noncomputable def coD (fs : List Q4) (d e : SvD) : Bool := coB (clB d.zs e.zs ⟨d.x1, d.y1⟩ ⟨e.x1, e.y1⟩) (clB d.zs e.us ⟨d.x1, d.y1⟩ ⟨e.x2, e.y2⟩) (clB d.us e.zs ⟨d.x2, d.y2⟩ ⟨e.x1, e.y1⟩) (decide (d.k = 2) && decide (e.k = 2)) (pb (apP fs d.zs e.zs)) (clB d.us e.us ⟨d.x2, d.y2⟩ ⟨e.x2, e.y2⟩)
end Go.Proofs.YtlgkjidginibdaaDoor
