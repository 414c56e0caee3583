/- Assignments: conflicts, overlaps, heights: contracts of the helpers of CheckAssignment, both sides. No condition but those typed. -/
import Derived.Test.YtnbeomnlobfpfaaFb
import Derived.Test.YtnbeomnlobfpfaaGC
import Derived.Test.YtnbeomnlobfpfaaGD
import Derived.Test.YtnbeomnlobfpfaaBoth
import Derived.Test.YtnbeomnlobfpfaaRch
import Derived.Laws.OwnMore
namespace Go.Proofs.Ytnbeomnlobfpfaa
open Go.ChangeShapes Go.WideShapes Go.ChangeAt Go.RowKit Go.Maps

def hgtQ (qs : List Q2) : Nat → Int
  | 0 => 0
  | k + 1 => max (hgtQ qs k) ((qs.getD k ⟨0, 0⟩).a + (qs.getD k ⟨0, 0⟩).b)
def bkn (bs : List Q2) (k : Nat) : Q2 := bs.getD k ⟨0, 0⟩
def cfB (x y : RqD) : Bool := x.zs.any fun f => decide (f ∈ y.zs)
theorem cf_sym (x y : RqD) : cfB x y = cfB y x := by
  unfold cfB
  rw [Bool.eq_iff_iff]
  constructor
  · intro h
    obtain ⟨f, hf, h2⟩ := List.any_eq_true.1 h
    exact List.any_eq_true.2 ⟨f, of_decide_eq_true h2, decide_eq_true hf⟩
  · intro h
    obtain ⟨f, hf, h2⟩ := List.any_eq_true.1 h
    exact List.any_eq_true.2 ⟨f, of_decide_eq_true h2, decide_eq_true hf⟩
def ovP (p q : Q2) : Prop := p.a < q.a + q.b ∧ q.a < p.a + p.b
def bN (p : Q2) : Nat := (2 ^ p.b.toNat - 1) * 2 ^ p.a.toNat
theorem bN_test {p : Q2} (h : blkP p.a p.b) (i : Nat) : (bN p).testBit i = decide (p.a ≤ (i : Int) ∧ (i : Int) < p.a + p.b) := by
  unfold bN
  obtain ⟨h1, h2, h3⟩ := h
  rw [← Nat.shiftLeft_eq, Nat.testBit_shiftLeft, Nat.testBit_two_pow_sub_one, ← Bool.decide_and]
  exact decide_eq_decide.2 (by omega)
theorem bN_lt {p : Q2} (h : blkP p.a p.b) : bN p < 2 ^ 24 := by
  obtain ⟨h1, h2, h3⟩ := h
  have := bits_small ⟨p.b.toNat, by omega⟩ ⟨p.a.toNat, by omega⟩ (by show p.b.toNat + p.a.toNat ≤ 24; omega)
  exact this
theorem meet_iff {p q : Q2} (hp : blkP p.a p.b) (hq : blkP q.a q.b) : bN p &&& bN q ≠ 0 ↔ ovP p q := by
  constructor
  · intro h
    obtain ⟨i, hi⟩ := Nat.exists_testBit_of_ne_zero h
    rw [Nat.testBit_and, bN_test hp, bN_test hq, Bool.and_eq_true] at hi
    have h1 := of_decide_eq_true hi.1
    have h2 := of_decide_eq_true hi.2
    exact ⟨by omega, by omega⟩
  · intro h e
    obtain ⟨h1, h2⟩ := h
    obtain ⟨p1, p2, p3⟩ := hp
    obtain ⟨q1, q2, q3⟩ := hq
    have hx : (bN p &&& bN q).testBit (max p.a q.a).toNat = true := by
      rw [Nat.testBit_and, bN_test ⟨p1, p2, p3⟩, bN_test ⟨q1, q2, q3⟩, Bool.and_eq_true]
      exact ⟨decide_eq_true (by omega), decide_eq_true (by omega)⟩
    rw [e, Nat.zero_testBit] at hx
    cases hx
theorem reqs_mem {ss : List ByteArray} {fs : List Q4} {ds : List RqD} (h : reqsB ss fs ds = true) : ∀ k, k < ds.length → ∀ j, j < (rqn ds k).zs.length → 0 ≤ nth (rqn ds k).zs j ∧ nth (rqn ds k).zs j < 20 := by
  intro k hk j hj
  have hf := reqs_facts h
  unfold reqsB at h
  rw [Bool.and_eq_true, Bool.and_eq_true, List.all_eq_true] at h
  have h1 := h.2 ds[k] (List.getElem_mem hk)
  unfold rqB at h1
  rw [Bool.and_eq_true] at h1
  have e : rqn ds k = ds[k] := by unfold rqn; rw [List.getD_eq_getElem?_getD, List.getElem?_eq_getElem hk]; rfl
  rw [e] at hj ⊢
  have h2 := (route_nodup h1.1).2 ((ds[k]).zs[j]'hj) (List.getElem_mem hj)
  rw [nth_eq hj] at h2
  have := hf.1.2.1
  omega

set_option maxRecDepth 100000 in
set_option maxHeartbeats 4000000 in
theorem areCf_ (p0 q0 p1 q1 : Int) {A A2 : Option Addr} {n c m d : Nat} {zs ks : List Int} {w : World} (hn : zs.length = n) (hs : n ≤ 1048576) (hr : Rd w w.heap.size A (zs.map (Value.int .i64))) (hm : ks.length = m) (hs2 : m ≤ 1048576) (hr2 : Rd w w.heap.size A2 (ks.map (Value.int .i64)))
    (h1 : ∀ k, k < n → 0 ≤ nth zs k ∧ nth zs k < 20) (h2 : ∀ k, k < m → 0 ≤ nth ks k ∧ nth ks k < 20) :
    Calls Try.prog 90 #[.agg #[.int .i64 p0, .slice A n c, .int .i64 q0], .agg #[.int .i64 p1, .slice A2 m d, .int .i64 q1]] w (RetP (.bool (zs.any fun f => decide (f ∈ ks))) w) := by
  have hb0 := ((Below.refl w.heap.size w).alloc (Nat.le_refl _) (Obj.cells #[.int .i64 p0, .slice A n c, .int .i64 q0] 132)).alloc (by simp) (Obj.cells #[.int .i64 p1, .slice A2 m d, .int .i64 q1] 132)
  have hml := maskT_lt h1; have hml2 := maskT_lt h2
  have HW0 := Lib.hid hb0
  have CA : Hid (∀ W, Below w.heap.size w W → Calls Try.prog 147 #[.slice A n c] W fun e w' => e = .returned (.int .i64 (maskN zs n : Nat)) ∧ w' = W) := Lib.hid fun W hW => (maskOf_ A n c zs W hn hs (hr.moved hW) h1).mono fun _ _ h => ⟨h.1, h.2.symm⟩
  have CB : Hid (∀ W, Below w.heap.size w W → Calls Try.prog 147 #[.slice A2 m d] W fun e w' => e = .returned (.int .i64 (maskN ks m : Nat)) ∧ w' = W) := Lib.hid fun W hW => (maskOf_ A2 m d ks W hm hs2 (hr2.moved hW) h2).mono fun _ _ h => ⟨h.1, h.2.symm⟩
  rw [mask_meet hn hm h1 h2]
  obtain ⟨x, hx⟩ : ∃ x, maskN zs n = x := ⟨_, rfl⟩
  obtain ⟨y, hy⟩ : ∃ x, maskN ks m = x := ⟨_, rfl⟩
  rw [hx] at CA hml ⊢; rw [hy] at CB hml2 ⊢
  have hand := and_i64q x y (by omega) (by omega)
  obtain ⟨z, hz⟩ : ∃ z, x &&& y = z := ⟨_, rfl⟩
  rw [hz] at hand ⊢
  clear hn hr hm hr2 h1 h2 hx hy hz hb0
  go_enter Try.func90, Try.ntmps90
  go_wp2_with fail
  by_cases hzz : z = 0
  case pos =>
    subst hzz
    go_quiet (first | (go_at_call 147; with_reducible exact Calls.quiet_of_same (CA.out _ (by first | exact HW0.out | exact drewN_below_ HW0.out _))) | (go_at_call 147; with_reducible exact Calls.quiet_of_same (CB.out _ (by first | exact HW0.out | exact drewN_below_ HW0.out _))))
    go_wp2
    go_ret
    exact ⟨rfl, drewN_below_ HW0.out _⟩
  case neg =>
    have hz1 : (z : Int) ≠ 0 := by omega
    have HNE : Hid (((z : Int) != 0) = decide (z ≠ 0)) := Lib.hid (by rw [decide_eq_true hzz]; exact bne_iff_ne.2 hz1)
    go_quiet (first | (go_at_call 147; with_reducible exact Calls.quiet_of_same (CA.out _ (by first | exact HW0.out | exact drewN_below_ HW0.out _))) | (go_at_call 147; with_reducible exact Calls.quiet_of_same (CB.out _ (by first | exact HW0.out | exact drewN_below_ HW0.out _))))
    go_wp2
    go_ret
    exact ⟨retb HNE.out, drewN_below_ HW0.out _⟩

set_option maxRecDepth 100000 in
set_option maxHeartbeats 2000000 in
theorem cf12_ (p0 q0 p1 q1 : Int) {A A2 : Option Addr} {n c m d : Nat} {zs ks : List Int} {w : World} (hn : zs.length = n) (hs : n ≤ 1048576) (hr : Rd w w.heap.size A (zs.map (Value.int .i64))) (hm : ks.length = m) (hs2 : m ≤ 1048576) (hr2 : Rd w w.heap.size A2 (ks.map (Value.int .i64))) :
    Calls Try.prog 85 #[.agg #[.int .i64 p0, .slice A n c, .int .i64 q0], .agg #[.int .i64 p1, .slice A2 m d, .int .i64 q1]] w (RetP (.bool (zs.any fun f => decide (f ∈ ks))) w) := by
  have hb0 := ((Below.refl w.heap.size w).alloc (Nat.le_refl _) (Obj.cells #[.int .i64 p0, .slice A n c, .int .i64 q0] 132)).alloc (by simp) (Obj.cells #[.int .i64 p1, .slice A2 m d, .int .i64 q1] 132)
  have CU := Lib.hid (l4Uses_ p0 A n c zs A2 m d ks _ hn (hr.moved hb0) hs hm (hr2.moved hb0) hs2)
  have HB := Lib.hid hb0
  clear hn hr hm hr2 hb0
  go_enter Try.func85, Try.ntmps85
  go_wp2_with fail
  refine CU.out.mono ?_
  rintro e w1 ⟨rfl, hb1⟩
  have HB1 := Lib.hid (HB.out.trans (hb1.mono HB.out.size))
  clear hb1
  go_wp2
  go_ret
  exact ⟨rfl, HB1.out⟩

end Go.Proofs.Ytnbeomnlobfpfaa
