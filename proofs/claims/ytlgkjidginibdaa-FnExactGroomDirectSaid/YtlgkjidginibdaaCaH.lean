/- Assignments: conflicts, overlaps, heights: contracts of the helpers of CheckAssignment, both sides. No condition but those typed. -/
import Derived.Test.YtlgkjidginibdaaFb
import Derived.Test.YtlgkjidginibdaaGC
import Derived.Test.YtlgkjidginibdaaGD
import Derived.Test.YtlgkjidginibdaaBoth
import Derived.Test.YtlgkjidginibdaaRch
import Derived.Laws.OwnMore
namespace Go.Proofs.Ytlgkjidginibdaa
open Go.ChangeShapes Go.WideShapes Go.ChangeAt Go.RowKit Go.Maps

theorem most_ (a b : Int) (w : World) : Calls Try.prog 123 #[.int .i64 a, .int .i64 b] w fun e w' => e = .returned (.int .i64 (max a b)) ∧ w' = w := by
  by_cases h : b < a
  · have e : max a b = a := by omega
    rw [e]; clear e
    go_enter Try.func123, Try.ntmps123
    go_wp2
    go_ret
    exact ⟨rfl, rfl⟩
  · have e : max a b = b := by omega
    have h2 : a ≤ b := by omega
    rw [e]; clear e h
    go_enter Try.func123, Try.ntmps123
    go_wp2
    go_ret
    exact ⟨rfl, rfl⟩


def hgtQ (qs : List Q2) : Nat → Int
  | 0 => 0
  | k + 1 => max (hgtQ qs k) ((qs.getD k ⟨0, 0⟩).a + (qs.getD k ⟨0, 0⟩).b)
def bkn (bs : List Q2) (k : Nat) : Q2 := bs.getD k ⟨0, 0⟩
def cfB (x y : RqD) : Bool := x.zs.any fun f => decide (f ∈ y.zs)
theorem cf_sym (x y : RqD) : cfB x y = cfB y x := by
  unfold cfB
  rw [Bool.eq_iff_iff]
  constructor
  · intro h
    obtain ⟨f, hf, h2⟩ := List.any_eq_true.1 h
    exact List.any_eq_true.2 ⟨f, of_decide_eq_true h2, decide_eq_true hf⟩
  · intro h
    obtain ⟨f, hf, h2⟩ := List.any_eq_true.1 h
    exact List.any_eq_true.2 ⟨f, of_decide_eq_true h2, decide_eq_true hf⟩
def ovP (p q : Q2) : Prop := p.a < q.a + q.b ∧ q.a < p.a + p.b
def bN (p : Q2) : Nat := (2 ^ p.b.toNat - 1) * 2 ^ p.a.toNat
theorem bN_test {p : Q2} (h : blkP p.a p.b) (i : Nat) : (bN p).testBit i = decide (p.a ≤ (i : Int) ∧ (i : Int) < p.a + p.b) := by
  unfold bN
  obtain ⟨h1, h2, h3⟩ := h
  rw [← Nat.shiftLeft_eq, Nat.testBit_shiftLeft, Nat.testBit_two_pow_sub_one, ← Bool.decide_and]
  exact decide_eq_decide.2 (by omega)
theorem bN_lt {p : Q2} (h : blkP p.a p.b) : bN p < 2 ^ 24 := by
  obtain ⟨h1, h2, h3⟩ := h
  have := bits_small ⟨p.b.toNat, by omega⟩ ⟨p.a.toNat, by omega⟩ (by show p.b.toNat + p.a.toNat ≤ 24; omega)
  exact this
theorem meet_iff {p q : Q2} (hp : blkP p.a p.b) (hq : blkP q.a q.b) : bN p &&& bN q ≠ 0 ↔ ovP p q := by
  constructor
  · intro h
    obtain ⟨i, hi⟩ := Nat.exists_testBit_of_ne_zero h
    rw [Nat.testBit_and, bN_test hp, bN_test hq, Bool.and_eq_true] at hi
    have h1 := of_decide_eq_true hi.1
    have h2 := of_decide_eq_true hi.2
    exact ⟨by omega, by omega⟩
  · intro h e
    obtain ⟨h1, h2⟩ := h
    obtain ⟨p1, p2, p3⟩ := hp
    obtain ⟨q1, q2, q3⟩ := hq
    have hx : (bN p &&& bN q).testBit (max p.a q.a).toNat = true := by
      rw [Nat.testBit_and, bN_test ⟨p1, p2, p3⟩, bN_test ⟨q1, q2, q3⟩, Bool.and_eq_true]
      exact ⟨decide_eq_true (by omega), decide_eq_true (by omega)⟩
    rw [e, Nat.zero_testBit] at hx
    cases hx
theorem reqs_mem {ss : List ByteArray} {fs : List Q4} {ds : List RqD} (h : reqsB ss fs ds = true) : ∀ k, k < ds.length → ∀ j, j < (rqn ds k).zs.length → 0 ≤ nth (rqn ds k).zs j ∧ nth (rqn ds k).zs j < 20 := by
  intro k hk j hj
  have hf := reqs_facts h
  unfold reqsB at h
  rw [Bool.and_eq_true, Bool.and_eq_true, List.all_eq_true] at h
  have h1 := h.2 ds[k] (List.getElem_mem hk)
  unfold rqB at h1
  rw [Bool.and_eq_true] at h1
  have e : rqn ds k = ds[k] := by unfold rqn; rw [List.getD_eq_getElem?_getD, List.getElem?_eq_getElem hk]; rfl
  rw [e] at hj ⊢
  have h2 := (route_nodup h1.1).2 ((ds[k]).zs[j]'hj) (List.getElem_mem hj)
  rw [nth_eq hj] at h2
  have := hf.1.2.1
  omega

set_option maxHeartbeats 1000000 in
theorem ovl_ {p q : Q2} (hp : blkP p.a p.b) (hq : blkP q.a q.b) (w : World) :
    Calls Try.prog 214 #[.agg #[.int .i64 p.a, .int .i64 p.b], .agg #[.int .i64 q.a, .int .i64 q.b]] w (RetP (.bool (pb (ovP p q))) w) := by
  obtain ⟨a, b⟩ := p
  obtain ⟨c, d⟩ := q
  obtain ⟨p1, p2, p3⟩ := hp
  obtain ⟨q1, q2, q3⟩ := hq
  simp only at p1 p2 p3 q1 q2 q3
  have hb0 := ((Below.refl w.heap.size w).alloc (Nat.le_refl _) (Obj.cells #[.int .i64 a, .int .i64 b] 42)).alloc (by simp) (Obj.cells #[.int .i64 c, .int .i64 d] 42)
  have HB := Lib.hid hb0
  clear hb0
  by_cases h1 : a < c + d
  case neg =>
    have e : pb (ovP ⟨a, b⟩ ⟨c, d⟩) = false := pb_false (fun h => h1 h.1)
    rw [e]; clear e
    go_enter Try.func214, Try.ntmps214
    go_wp2
    go_ret
    exact ⟨rfl, HB.out⟩
  case pos =>
  by_cases h2 : c < a + b
  case neg =>
    have e : pb (ovP ⟨a, b⟩ ⟨c, d⟩) = false := pb_false (fun h => h2 h.2)
    rw [e]; clear e
    have h3 : a + b ≤ c := by omega
    go_enter Try.func214, Try.ntmps214
    go_wp2
    go_ret
    exact ⟨retb (by first | rfl | (simp; done) | (simp; omega)), HB.out⟩
  case pos =>
    have e : pb (ovP ⟨a, b⟩ ⟨c, d⟩) = true := pb_true ⟨h1, h2⟩
    rw [e]; clear e
    go_enter Try.func214, Try.ntmps214
    go_wp2
    go_ret
    exact ⟨retb (by first | rfl | (simp; done) | (simp; omega)), HB.out⟩

end Go.Proofs.Ytlgkjidginibdaa
