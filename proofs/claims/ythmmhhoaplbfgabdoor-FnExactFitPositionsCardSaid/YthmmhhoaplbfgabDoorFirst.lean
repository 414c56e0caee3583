/- Contracts: impl.FirstFit and spec.FirstFit answer the same plain words. Condition: the table of math/bits holds what Go's text lays. -/
import Derived.Test.YthmmhhoaplbfgabDoorFits
import Derived.Test.YthmmhhoaplbfgabDoorTz
namespace Go.Proofs.YthmmhhoaplbfgabDoor
open Go.ChangeShapes Go.WideShapes Go.ChangeAt Go.RowKit

theorem low_bit (x : Nat) (h0 : x ≠ 0) (h : x < 2 ^ 64) : x.testBit (Lib.ctz 64 x) = true ∧ (∀ i, i < Lib.ctz 64 x → x.testBit i = false) := by
  obtain ⟨m, hm, _⟩ := Lib.ctzFrom_spec 64 x (by omega) h
  have e : Lib.ctz 64 x = Lib.ctzFrom 64 x := by simp [Lib.ctz, h0]
  rw [e]
  obtain ⟨t, ht⟩ : ∃ t, Lib.ctzFrom 64 x = t := ⟨_, rfl⟩
  rw [ht] at hm ⊢
  constructor
  · rw [hm, Nat.mul_comm, Nat.testBit_mul_two_pow, Nat.sub_self, Nat.testBit_zero]
    simp
  · intro i hi
    rw [hm, Nat.mul_comm, Nat.testBit_mul_two_pow, decide_eq_false (by omega : ¬ t ≤ i)]
    rfl
theorem filter_first (p : Nat → Bool) (t : Nat) (hp : p t = true) (hall : ∀ i, i < t → p i = false) : ∀ n, t < n → ∃ ys, (List.range n).filter p = t :: ys
  | 0, h => absurd h (by omega)
  | n + 1, h => by
    rw [List.range_succ, List.filter_append]
    by_cases e : t = n
    · subst e
      have e0 : (List.range t).filter p = [] := by
        rw [List.filter_eq_nil_iff]
        intro s hs hps
        rw [hall s (by simpa using hs)] at hps
        exact absurd hps (by decide)
      exact ⟨[], by rw [e0]; simp [hp]⟩
    · obtain ⟨ys, hys⟩ := filter_first p t hp hall n (by omega)
      exact ⟨_, by rw [hys, List.cons_append]⟩
theorem fit_first (m c : Nat) (hc : 1 ≤ c) (hc2 : c ≤ 24) (h : begN m (c - 1) ≠ 0) : ∃ ys : List Int, fitK m c (25 - c) = (Lib.ctz 64 (begN m (c - 1)) : Int) :: ys := by
  have hl := begN_lt m (c - 1)
  have hx := beg_iff m c hc hc2
  obtain ⟨h1, h2⟩ := low_bit _ h (by omega)
  obtain ⟨b1, b2⟩ := (hx _).1 h1
  have hall : ∀ i, i < Lib.ctz 64 (begN m (c - 1)) → fitB m c i = false := by
    intro i hi
    cases hpi : fitB m c i with
    | false => rfl
    | true => exact absurd ((hx i).2 ⟨by omega, hpi⟩) (by rw [h2 i hi]; decide)
  obtain ⟨ys, hys⟩ := filter_first (fitB m c) _ b2 hall _ b1
  exact ⟨ys.map fun i : Nat => ((i : Nat) : Int), by unfold fitK; rw [hys, List.map_cons]⟩

def firstP (m c : Int) : Prop := askP m c ∧ begN m.toNat (c.toNat - 1) ≠ 0
noncomputable def firstB (m c : Int) : Bool := pb (firstP m c)
noncomputable def firstF (m c : Int) : Int := if firstB m c then (Lib.ctz 64 (begN m.toNat (c.toNat - 1)) : Int) else 0
noncomputable def firstC (m c : Int) : Int := if firstB m c then c else 0
noncomputable def firstR (m c : Int) : Value := .tuple #[.agg #[.int .i64 (firstF m c), .int .i64 (firstC m c)], .bool (firstB m c)]
theorem first_no {m c : Int} (h : ¬ firstP m c) : (.tuple #[.agg #[.int .i64 0, .int .i64 0], .bool false] : Value) = firstR m c := by
  unfold firstR firstF firstC firstB; rw [pb_false h, if_neg Bool.false_ne_true, if_neg Bool.false_ne_true]
theorem first_yes {m c : Int} (h : firstP m c) : (.tuple #[.agg #[.int .i64 ((Lib.ctz 64 (begN m.toNat (c.toNat - 1)) : Int)), .int .i64 c], .bool true] : Value) = firstR m c := by
  unfold firstR firstF firstC firstB; rw [pb_true h, if_pos rfl, if_pos rfl]

set_option maxHeartbeats 1000000 in
theorem implFirst (m c : Int) (w : World) (hT : Tab w) : Calls Tryd.prog 28 #[.int .i64 m, .int .i64 c] w (RetP (firstR m c) w) := by
  by_cases ha : askP m c
  case neg =>
    have HR := Lib.hid (first_no (m := m) (c := c) fun h => ha h.1)
    have C := Lib.hid (fun W => fits_no m c W ha)
    clear ha
    obtain ⟨r, hr⟩ : ∃ r, firstR m c = r := ⟨_, rfl⟩
    rw [hr] at HR ⊢
    clear hr
    go_enter Tryd.func28, Tryd.ntmps28
    go_wp2_with fail
    refine (C.out _).mono ?_
    rintro e w' ⟨rfl, rfl⟩
    go_wp2
    exact bodyPost_ret (v := .tuple #[.agg #[.int .i64 0, .int .i64 0], .bool false]) (by simp [results, Tryd.results28, go_sem]) rfl (retP HR.out ((Below.refl _ _).alloc (Nat.le_refl _) _))
  case pos =>
  obtain ⟨mn, rfl⟩ : ∃ mn : Nat, m = mn := ⟨m.toNat, by have := ha.1.1; omega⟩
  obtain ⟨cn, rfl⟩ : ∃ cn : Nat, c = cn := ⟨c.toNat, by have := ha.2.1; omega⟩
  have C := Lib.hid (fun W => fits_yes mn cn W ha)
  have hbl := begN_lt mn (cn - 1)
  by_cases hz : begN mn (cn - 1) = 0
  · have HR := Lib.hid (first_no (m := mn) (c := cn) fun h => h.2 hz)
    rw [hz] at C
    clear ha hz hbl
    obtain ⟨r, hr⟩ : ∃ r, firstR mn cn = r := ⟨_, rfl⟩
    rw [hr] at HR ⊢
    clear hr
    go_enter Tryd.func28, Tryd.ntmps28
    go_wp2_with fail
    refine (C.out _).mono ?_
    rintro e w' ⟨rfl, rfl⟩
    go_wp2
    exact bodyPost_ret (v := .tuple #[.agg #[.int .i64 0, .int .i64 0], .bool false]) (by simp [results, Tryd.results28, go_sem]) rfl (retP HR.out ((Below.refl _ _).alloc (Nat.le_refl _) _))
  · have hr1 := first_yes (m := mn) (c := cn) ⟨ha, hz⟩
    have e1 : ((mn : Int)).toNat = mn := by omega
    have e2 : ((cn : Int)).toNat = cn := by omega
    rw [e1, e2] at hr1
    obtain ⟨b, hb⟩ : ∃ b, begN mn (cn - 1) = b := ⟨_, rfl⟩
    rw [hb] at hr1 C hbl hz
    clear hb
    have CL0 : ∀ W, Below w.heap.size w W → Calls Tryd.prog 60 #[.int .u64 (b : Int)] W fun e w' => e = .returned (.int .i64 (Lib.ctz 64 b : Int)) ∧ W = w' := fun W hW => tz b W (by omega) hz (hT.over hW)
    obtain ⟨l, hl⟩ : ∃ l, Lib.ctz 64 b = l := ⟨_, rfl⟩
    rw [hl] at hr1 CL0
    have CL := Lib.hid CL0
    have HR := Lib.hid hr1
    have q : ((b : Int) == 0) = false := by simpa using hz
    have q2 : decide ((b : Int) = 0) = false := decide_eq_false (by omega)
    have q3 : IntKind.u64.wrap (b : Int) = b := by rw [IntKind.wrap_u64]; omega
    have q4 : 0 < (b : Int) := by omega
    clear ha hz hr1 e1 e2 hl hT CL0
    obtain ⟨r, hr⟩ : ∃ r, firstR mn cn = r := ⟨_, rfl⟩
    rw [hr] at HR ⊢
    clear hr
    go_enter Tryd.func28, Tryd.ntmps28
    go_wp2_with fail
    refine (C.out _).mono ?_
    rintro e w' ⟨rfl, rfl⟩
    go_wp2_with fail
    refine (CL.out _ ((Below.refl _ _).alloc (Nat.le_refl _) _)).mono ?_
    rintro e w' ⟨rfl, rfl⟩
    go_wp2
    exact bodyPost_ret (v := .tuple #[.agg #[.int .i64 (l : Int), .int .i64 (cn : Int)], .bool true]) (by simp [results, Tryd.results28, go_sem]) rfl (retP HR.out ((Below.refl _ _).alloc (Nat.le_refl _) _))

theorem two_cells {W : World} {g : Nat} {T : TypeId} {a b : Value} (hg : W.heap[g]? = some (.cells #[a, b] T (0, 0))) : W.cell? ⟨g, 0, none⟩ = some a ∧ W.cell? ⟨g, 1, none⟩ = some b ∧ W.frozen? ⟨g, 0, none⟩ = false ∧ W.frozen? ⟨g, 1, none⟩ = false :=
  ⟨cell_of_row W g 0 _ T _ hg, cell_of_row W g 1 _ T _ hg, frozen_of_row W g 0 _ T hg, frozen_of_row W g 1 _ T hg⟩
theorem own_at {w : World} {B E N cc k : Nat} {A : Option Addr} {xs : List Value} (h : w.ownsRow B E 1 (.slice A N cc) N xs) (hk : k < N) : ∃ g, A = some ⟨g, 0, none⟩ ∧ w.cell? ⟨g, k, none⟩ = xs[k]? := by
  rcases h.2 with ⟨e, e2⟩ | ⟨g, cap, cur, e, _⟩
  · simp at e; omega
  · injection e with e1 e2 e3
    subst e1 e3
    exact ⟨g, rfl, h.cellAt k (by omega)⟩
set_option maxHeartbeats 1000000 in
theorem specFirst (m c : Int) (w : World) : Calls Tryd.prog 27 #[.int .i64 m, .int .i64 c] w (RetP (firstR m c) w) := by
  by_cases ha : askP m c
  case neg =>
    have HR := Lib.hid (first_no (m := m) (c := c) fun h => ha h.1)
    have C := Lib.hid (fun W => ask_no m c W ha)
    clear ha
    obtain ⟨r, hr⟩ : ∃ r, firstR m c = r := ⟨_, rfl⟩
    rw [hr] at HR ⊢
    clear hr
    go_enter Tryd.func27, Tryd.ntmps27
    go_wp2_with fail
    refine (C.out _).mono ?_
    rintro e w' ⟨rfl, rfl⟩
    go_wp2
    exact bodyPost_ret (v := .tuple #[.agg #[.int .i64 0, .int .i64 0], .bool false]) (by simp [results, Tryd.results27, go_sem]) rfl (retP HR.out ((Below.refl _ _).alloc (Nat.le_refl _) _))
  case pos =>
  have C := Lib.hid (fun W => ask_yes m c W ha)
  obtain ⟨mn, rfl⟩ : ∃ mn : Nat, m = mn := ⟨m.toNat, by have := ha.1.1; omega⟩
  obtain ⟨cn, rfl⟩ : ∃ cn : Nat, c = cn := ⟨c.toNat, by have := ha.2.1; omega⟩
  have hc1 : 1 ≤ cn := by have := ha.2.1; omega
  have hc2 : cn ≤ 24 := by have := ha.2.2; omega
  have hmm : mn ≤ 16777215 := by have := ha.1.2; omega
  have CF := Lib.hid (fun W => specFits mn cn W hmm hc1 hc2)
  have hbl := begN_lt mn (cn - 1)
  by_cases hz : begN mn (cn - 1) = 0
  · have HR := Lib.hid (first_no (m := mn) (c := cn) fun h => h.2 hz)
    rw [fit_none mn cn hc1 hc2 hz] at CF
    clear ha hz hbl
    obtain ⟨r, hr⟩ : ∃ r, firstR mn cn = r := ⟨_, rfl⟩
    rw [hr] at HR ⊢
    clear hr
    go_enter Tryd.func27, Tryd.ntmps27
    go_wp2_with fail
    refine (C.out _).mono ?_
    rintro e w' ⟨rfl, rfl⟩
    go_wp2_with fail
    obtain ⟨W0, hW0⟩ : ∃ W0, (w.alloc (Obj.cells #[.int .i64 0, .int .i64 0] 53)) = W0 := ⟨_, rfl⟩
    have hg0 : W0.heap[w.heap.size]? = some (.cells #[.int .i64 0, .int .i64 0] 53 (0, 0)) := by rw [← hW0]; exact heap_alloc_new w _
    have hs0 : w.heap.size < W0.heap.size := by rw [← hW0]; simp
    have HB0 := Lib.hid ((Below.refl w.heap.size w).alloc (Nat.le_refl _) (Obj.cells #[.int .i64 0, .int .i64 0] 53))
    rw [hW0] at HB0 ⊢
    clear hW0
    refine (CF.out _).mono ?_
    rintro e w1 ⟨A, N, cc, rfl, hN, hown, hb⟩
    obtain rfl : N = 0 := hN.out
    obtain ⟨k0, k1, f0, f1⟩ := two_cells ((hb.block _ hs0).trans hg0)
    have HB1 := Lib.hid (HB0.out.trans (hb.mono HB0.out.size))
    clear hN hown hb hg0 hs0
    go_wp2
    exact bodyPost_ret (v := .tuple #[.agg #[.int .i64 0, .int .i64 0], .bool false]) (by simp [results, Tryd.results27, go_sem, k0, k1]) rfl (retP HR.out ((HB1.out.setCell (Nat.le_refl _) _).setCell (Nat.le_refl _) _))
  · have hr1 := first_yes (m := mn) (c := cn) ⟨ha, hz⟩
    obtain ⟨ys, hys⟩ := fit_first mn cn hc1 hc2 hz
    have e1 : ((mn : Int)).toNat = mn := by omega
    have e2 : ((cn : Int)).toNat = cn := by omega
    have hlen := fitK_len mn cn (25 - cn)
    rw [e1, e2] at hr1
    obtain ⟨z, hzz⟩ : ∃ z, (Lib.ctz 64 (begN mn (cn - 1)) : Int) = z := ⟨_, rfl⟩
    rw [hzz] at hr1 hys
    rw [hys] at CF hlen
    rw [List.length_cons] at hlen
    obtain ⟨k, hk⟩ : ∃ k, ys.length = k := ⟨_, rfl⟩
    rw [hk] at hlen
    have hk24 : k ≤ 24 := by omega
    have HR := Lib.hid hr1
    clear hzz hys hr1 hz ha hbl e1 e2
    obtain ⟨r, hr⟩ : ∃ r, firstR mn cn = r := ⟨_, rfl⟩
    rw [hr] at HR ⊢
    clear hr
    go_enter Tryd.func27, Tryd.ntmps27
    go_wp2_with fail
    refine (C.out _).mono ?_
    rintro e w' ⟨rfl, rfl⟩
    go_wp2_with fail
    obtain ⟨W0, hW0⟩ : ∃ W0, (w.alloc (Obj.cells #[.int .i64 0, .int .i64 0] 53)) = W0 := ⟨_, rfl⟩
    have hg0 : W0.heap[w.heap.size]? = some (.cells #[.int .i64 0, .int .i64 0] 53 (0, 0)) := by rw [← hW0]; exact heap_alloc_new w _
    have hs0 : w.heap.size < W0.heap.size := by rw [← hW0]; simp
    have HB0 := Lib.hid ((Below.refl w.heap.size w).alloc (Nat.le_refl _) (Obj.cells #[.int .i64 0, .int .i64 0] 53))
    rw [hW0] at HB0 ⊢
    clear hW0
    refine (CF.out _).mono ?_
    rintro e w1 ⟨A, N, cc, rfl, hN, hown, hb⟩
    have hN1 : N = k + 1 := by have := hN.out; rw [List.length_cons, hk] at this; exact this
    subst hN1
    have hg1 := (hb.block _ hs0).trans hg0
    have hs1 := Nat.lt_of_lt_of_le hs0 hb.size
    have HB1 := Lib.hid (HB0.out.trans (hb.mono HB0.out.size))
    clear hN hown hb hg0 hs0
    go_wp2_with fail
    refine (CF.out _).mono ?_
    rintro e w2 ⟨A, N, cc, rfl, hN, hown, hb⟩
    have hN1 : N = k + 1 := by have := hN.out; rw [List.length_cons, hk] at this; exact this
    subst hN1
    obtain ⟨k0, k1, f0, f1⟩ := two_cells ((hb.block _ hs1).trans hg1)
    have HB2 := Lib.hid (HB1.out.trans (hb.mono HB1.out.size))
    obtain ⟨g, rfl, hcell⟩ := own_at hown (Nat.succ_pos k)
    have e3 : ((z :: ys).map (Value.int .i64))[0]? = some (.int .i64 z) := rfl
    rw [e3] at hcell
    clear hN hb hg1 hs1 e3 hown
    go_wp2
    exact bodyPost_ret (v := .tuple #[.agg #[.int .i64 z, .int .i64 (cn : Int)], .bool true]) (by simp [results, Tryd.results27, go_sem, k0, k1]) rfl (retP HR.out ((HB2.out.setCell (Nat.le_refl _) _).setCell (Nat.le_refl _) _))
set_option maxHeartbeats 1000000 in
theorem eqBlk (x y : Int) (w : World) : Calls Tryd.prog 29 #[.agg #[.int .i64 x, .int .i64 y], .agg #[.int .i64 x, .int .i64 y]] w (RetP (.bool true) w) := by
  have HB := Lib.hid (((Below.refl w.heap.size w).alloc (Nat.le_refl _) (Obj.cells #[.int .i64 x, .int .i64 y] 53)).alloc (by simp) (Obj.cells #[.int .i64 x, .int .i64 y] 53))
  go_enter Tryd.func29, Tryd.ntmps29
  go_wp2
  go_ret
  exact retP rfl HB.out
end Go.Proofs.YthmmhhoaplbfgabDoor
