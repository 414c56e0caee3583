/- Contracts: impl.FirstFit and spec.FirstFit answer the same plain words. Condition: the table of math/bits holds what Go's text lays. -/
import Derived.Test.YtflniajjecfgeaaGreatDoorFits
import Derived.Test.YtflniajjecfgeaaGreatDoorTz
namespace Go.Proofs.YtflniajjecfgeaaGreatDoor
open Go.ChangeShapes Go.WideShapes Go.ChangeAt Go.RowKit

theorem low_bit (x : Nat) (h0 : x ≠ 0) (h : x < 2 ^ 64) : x.testBit (Lib.ctz 64 x) = true ∧ (∀ i, i < Lib.ctz 64 x → x.testBit i = false) := by
  obtain ⟨m, hm, _⟩ := Lib.ctzFrom_spec 64 x (by omega) h
  have e : Lib.ctz 64 x = Lib.ctzFrom 64 x := by simp [Lib.ctz, h0]
  rw [e]
  obtain ⟨t, ht⟩ : ∃ t, Lib.ctzFrom 64 x = t := ⟨_, rfl⟩
  rw [ht] at hm ⊢
  constructor
  · rw [hm, Nat.mul_comm, Nat.testBit_mul_two_pow, Nat.sub_self, Nat.testBit_zero]
    simp
  · intro i hi
    rw [hm, Nat.mul_comm, Nat.testBit_mul_two_pow, decide_eq_false (by omega : ¬ t ≤ i)]
    rfl
theorem filter_first (p : Nat → Bool) (t : Nat) (hp : p t = true) (hall : ∀ i, i < t → p i = false) : ∀ n, t < n → ∃ ys, (List.range n).filter p = t :: ys
  | 0, h => absurd h (by omega)
  | n + 1, h => by
    rw [List.range_succ, List.filter_append]
    by_cases e : t = n
    · subst e
      have e0 : (List.range t).filter p = [] := by
        rw [List.filter_eq_nil_iff]
        intro s hs hps
        rw [hall s (by simpa using hs)] at hps
        exact absurd hps (by decide)
      exact ⟨[], by rw [e0]; simp [hp]⟩
    · obtain ⟨ys, hys⟩ := filter_first p t hp hall n (by omega)
      exact ⟨_, by rw [hys, List.cons_append]⟩
theorem fit_first (m c : Nat) (hc : 1 ≤ c) (hc2 : c ≤ 24) (h : begN m (c - 1) ≠ 0) : ∃ ys : List Int, fitK m c (25 - c) = (Lib.ctz 64 (begN m (c - 1)) : Int) :: ys := by
  have hl := begN_lt m (c - 1)
  have hx := beg_iff m c hc hc2
  obtain ⟨h1, h2⟩ := low_bit _ h (by omega)
  obtain ⟨b1, b2⟩ := (hx _).1 h1
  have hall : ∀ i, i < Lib.ctz 64 (begN m (c - 1)) → fitB m c i = false := by
    intro i hi
    cases hpi : fitB m c i with
    | false => rfl
    | true => exact absurd ((hx i).2 ⟨by omega, hpi⟩) (by rw [h2 i hi]; decide)
  obtain ⟨ys, hys⟩ := filter_first (fitB m c) _ b2 hall _ b1
  exact ⟨ys.map fun i : Nat => ((i : Nat) : Int), by unfold fitK; rw [hys, List.map_cons]⟩

def firstP (m c : Int) : Prop := askP m c ∧ begN m.toNat (c.toNat - 1) ≠ 0
noncomputable def firstB (m c : Int) : Bool := pb (firstP m c)
noncomputable def firstF (m c : Int) : Int := if firstB m c then (Lib.ctz 64 (begN m.toNat (c.toNat - 1)) : Int) else 0
noncomputable def firstC (m c : Int) : Int := if firstB m c then c else 0
noncomputable def firstR (m c : Int) : Value := .tuple #[.agg #[.int .i64 (firstF m c), .int .i64 (firstC m c)], .bool (firstB m c)]
theorem first_no {m c : Int} (h : ¬ firstP m c) : (.tuple #[.agg #[.int .i64 0, .int .i64 0], .bool false] : Value) = firstR m c := by
  unfold firstR firstF firstC firstB; rw [pb_false h, if_neg Bool.false_ne_true, if_neg Bool.false_ne_true]
theorem first_yes {m c : Int} (h : firstP m c) : (.tuple #[.agg #[.int .i64 ((Lib.ctz 64 (begN m.toNat (c.toNat - 1)) : Int)), .int .i64 c], .bool true] : Value) = firstR m c := by
  unfold firstR firstF firstC firstB; rw [pb_true h, if_pos rfl, if_pos rfl]

set_option maxHeartbeats 1000000 in
theorem implFirst (m c : Int) (w : World) (hT : Tab w) : Calls Tryz.prog 108 #[.int .i64 m, .int .i64 c] w (RetP (firstR m c) w) := by
  by_cases ha : askP m c
  case neg =>
    have HR := Lib.hid (first_no (m := m) (c := c) fun h => ha h.1)
    have C := Lib.hid (fun W => fits_no m c W ha)
    clear ha
    obtain ⟨r, hr⟩ : ∃ r, firstR m c = r := ⟨_, rfl⟩
    rw [hr] at HR ⊢
    clear hr
    go_enter Tryz.func108, Tryz.ntmps108
    go_wp2_with fail
    refine (C.out _).mono ?_
    rintro e w' ⟨rfl, rfl⟩
    go_wp2
    exact bodyPost_ret (v := .tuple #[.agg #[.int .i64 0, .int .i64 0], .bool false]) (by simp [results, Tryz.results108, go_sem]) rfl (retP HR.out ((Below.refl _ _).alloc (Nat.le_refl _) _))
  case pos =>
  obtain ⟨mn, rfl⟩ : ∃ mn : Nat, m = mn := ⟨m.toNat, by have := ha.1.1; omega⟩
  obtain ⟨cn, rfl⟩ : ∃ cn : Nat, c = cn := ⟨c.toNat, by have := ha.2.1; omega⟩
  have C := Lib.hid (fun W => fits_yes mn cn W ha)
  have hbl := begN_lt mn (cn - 1)
  by_cases hz : begN mn (cn - 1) = 0
  · have HR := Lib.hid (first_no (m := mn) (c := cn) fun h => h.2 hz)
    rw [hz] at C
    clear ha hz hbl
    obtain ⟨r, hr⟩ : ∃ r, firstR mn cn = r := ⟨_, rfl⟩
    rw [hr] at HR ⊢
    clear hr
    go_enter Tryz.func108, Tryz.ntmps108
    go_wp2_with fail
    refine (C.out _).mono ?_
    rintro e w' ⟨rfl, rfl⟩
    go_wp2
    exact bodyPost_ret (v := .tuple #[.agg #[.int .i64 0, .int .i64 0], .bool false]) (by simp [results, Tryz.results108, go_sem]) rfl (retP HR.out ((Below.refl _ _).alloc (Nat.le_refl _) _))
  · have hr1 := first_yes (m := mn) (c := cn) ⟨ha, hz⟩
    have e1 : ((mn : Int)).toNat = mn := by omega
    have e2 : ((cn : Int)).toNat = cn := by omega
    rw [e1, e2] at hr1
    obtain ⟨b, hb⟩ : ∃ b, begN mn (cn - 1) = b := ⟨_, rfl⟩
    rw [hb] at hr1 C hbl hz
    clear hb
    have CL0 : ∀ W, Below w.heap.size w W → Calls Tryz.prog 131 #[.int .u64 (b : Int)] W fun e w' => e = .returned (.int .i64 (Lib.ctz 64 b : Int)) ∧ W = w' := fun W hW => tz b W (by omega) hz (hT.over hW)
    obtain ⟨l, hl⟩ : ∃ l, Lib.ctz 64 b = l := ⟨_, rfl⟩
    rw [hl] at hr1 CL0
    have CL := Lib.hid CL0
    have HR := Lib.hid hr1
    have q : ((b : Int) == 0) = false := by simpa using hz
    have q2 : decide ((b : Int) = 0) = false := decide_eq_false (by omega)
    have q3 : IntKind.u64.wrap (b : Int) = b := by rw [IntKind.wrap_u64]; omega
    have q4 : 0 < (b : Int) := by omega
    clear ha hz hr1 e1 e2 hl hT CL0
    obtain ⟨r, hr⟩ : ∃ r, firstR mn cn = r := ⟨_, rfl⟩
    rw [hr] at HR ⊢
    clear hr
    go_enter Tryz.func108, Tryz.ntmps108
    go_wp2_with fail
    refine (C.out _).mono ?_
    rintro e w' ⟨rfl, rfl⟩
    go_wp2_with fail
    refine (CL.out _ ((Below.refl _ _).alloc (Nat.le_refl _) _)).mono ?_
    rintro e w' ⟨rfl, rfl⟩
    go_wp2
    exact bodyPost_ret (v := .tuple #[.agg #[.int .i64 (l : Int), .int .i64 (cn : Int)], .bool true]) (by simp [results, Tryz.results108, go_sem]) rfl (retP HR.out ((Below.refl _ _).alloc (Nat.le_refl _) _))

theorem two_cells {W : World} {g : Nat} {T : TypeId} {a b : Value} (hg : W.heap[g]? = some (.cells #[a, b] T (0, 0))) : W.cell? ⟨g, 0, none⟩ = some a ∧ W.cell? ⟨g, 1, none⟩ = some b ∧ W.frozen? ⟨g, 0, none⟩ = false ∧ W.frozen? ⟨g, 1, none⟩ = false :=
  ⟨cell_of_row W g 0 _ T _ hg, cell_of_row W g 1 _ T _ hg, frozen_of_row W g 0 _ T hg, frozen_of_row W g 1 _ T hg⟩
theorem own_at {w : World} {B E N cc k : Nat} {A : Option Addr} {xs : List Value} (h : w.ownsRow B E 1 (.slice A N cc) N xs) (hk : k < N) : ∃ g, A = some ⟨g, 0, none⟩ ∧ w.cell? ⟨g, k, none⟩ = xs[k]? := by
  rcases h.2 with ⟨e, e2⟩ | ⟨g, cap, cur, e, _⟩
  · simp at e; omega
  · injection e with e1 e2 e3
    subst e1 e3
    exact ⟨g, rfl, h.cellAt k (by omega)⟩
end Go.Proofs.YtflniajjecfgeaaGreatDoor
