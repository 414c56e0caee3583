/- Assignments: conflicts, overlaps, heights: contracts of the helpers of CheckAssignment, both sides. No condition but those typed. -/
import Derived.Test.YtflniajjecfgeaaGreatDoorFb
import Derived.Test.YtflniajjecfgeaaGreatDoorGC
import Derived.Test.YtflniajjecfgeaaGreatDoorGD
import Derived.Test.YtflniajjecfgeaaGreatDoorBoth
import Derived.Test.YtflniajjecfgeaaGreatDoorRch
import Derived.Laws.OwnMore
namespace Go.Proofs.YtflniajjecfgeaaGreatDoor
open Go.ChangeShapes Go.WideShapes Go.ChangeAt Go.RowKit Go.Maps

def hgtQ (qs : List Q2) : Nat → Int
  | 0 => 0
  | k + 1 => max (hgtQ qs k) ((qs.getD k ⟨0, 0⟩).a + (qs.getD k ⟨0, 0⟩).b)
def bkn (bs : List Q2) (k : Nat) : Q2 := bs.getD k ⟨0, 0⟩
def cfB (x y : RqD) : Bool := x.zs.any fun f => decide (f ∈ y.zs)
theorem cf_sym (x y : RqD) : cfB x y = cfB y x := by
  unfold cfB
  rw [Bool.eq_iff_iff]
  constructor
  · intro h
    obtain ⟨f, hf, h2⟩ := List.any_eq_true.1 h
    exact List.any_eq_true.2 ⟨f, of_decide_eq_true h2, decide_eq_true hf⟩
  · intro h
    obtain ⟨f, hf, h2⟩ := List.any_eq_true.1 h
    exact List.any_eq_true.2 ⟨f, of_decide_eq_true h2, decide_eq_true hf⟩
def ovP (p q : Q2) : Prop := p.a < q.a + q.b ∧ q.a < p.a + p.b
def bN (p : Q2) : Nat := (2 ^ p.b.toNat - 1) * 2 ^ p.a.toNat
theorem bN_test {p : Q2} (h : blkP p.a p.b) (i : Nat) : (bN p).testBit i = decide (p.a ≤ (i : Int) ∧ (i : Int) < p.a + p.b) := by
  unfold bN
  obtain ⟨h1, h2, h3⟩ := h
  rw [← Nat.shiftLeft_eq, Nat.testBit_shiftLeft, Nat.testBit_two_pow_sub_one, ← Bool.decide_and]
  exact decide_eq_decide.2 (by omega)
theorem bN_lt {p : Q2} (h : blkP p.a p.b) : bN p < 2 ^ 24 := by
  obtain ⟨h1, h2, h3⟩ := h
  have := bits_small ⟨p.b.toNat, by omega⟩ ⟨p.a.toNat, by omega⟩ (by show p.b.toNat + p.a.toNat ≤ 24; omega)
  exact this
theorem meet_iff {p q : Q2} (hp : blkP p.a p.b) (hq : blkP q.a q.b) : bN p &&& bN q ≠ 0 ↔ ovP p q := by
  constructor
  · intro h
    obtain ⟨i, hi⟩ := Nat.exists_testBit_of_ne_zero h
    rw [Nat.testBit_and, bN_test hp, bN_test hq, Bool.and_eq_true] at hi
    have h1 := of_decide_eq_true hi.1
    have h2 := of_decide_eq_true hi.2
    exact ⟨by omega, by omega⟩
  · intro h e
    obtain ⟨h1, h2⟩ := h
    obtain ⟨p1, p2, p3⟩ := hp
    obtain ⟨q1, q2, q3⟩ := hq
    have hx : (bN p &&& bN q).testBit (max p.a q.a).toNat = true := by
      rw [Nat.testBit_and, bN_test ⟨p1, p2, p3⟩, bN_test ⟨q1, q2, q3⟩, Bool.and_eq_true]
      exact ⟨decide_eq_true (by omega), decide_eq_true (by omega)⟩
    rw [e, Nat.zero_testBit] at hx
    cases hx
theorem reqs_mem {ss : List ByteArray} {fs : List Q4} {ds : List RqD} (h : reqsB ss fs ds = true) : ∀ k, k < ds.length → ∀ j, j < (rqn ds k).zs.length → 0 ≤ nth (rqn ds k).zs j ∧ nth (rqn ds k).zs j < 20 := by
  intro k hk j hj
  have hf := reqs_facts h
  unfold reqsB at h
  rw [Bool.and_eq_true, Bool.and_eq_true, List.all_eq_true] at h
  have h1 := h.2 ds[k] (List.getElem_mem hk)
  unfold rqB at h1
  rw [Bool.and_eq_true] at h1
  have e : rqn ds k = ds[k] := by unfold rqn; rw [List.getD_eq_getElem?_getD, List.getElem?_eq_getElem hk]; rfl
  rw [e] at hj ⊢
  have h2 := (route_nodup h1.1).2 ((ds[k]).zs[j]'hj) (List.getElem_mem hj)
  rw [nth_eq hj] at h2
  have := hf.1.2.1
  omega

end Go.Proofs.YtflniajjecfgeaaGreatDoor
