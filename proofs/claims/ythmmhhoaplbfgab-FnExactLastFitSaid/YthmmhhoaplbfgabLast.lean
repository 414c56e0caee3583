/- Contracts: impl.LastFit and spec.LastFit answer the same plain words. No condition but those typed. -/
import Derived.Test.YthmmhhoaplbfgabFits
namespace Go.Proofs.Ythmmhhoaplbfgab
open Go.ChangeShapes Go.WideShapes Go.ChangeAt Go.RowKit

def lastP (m c : Int) : Prop := askP m c ∧ begN m.toNat (c.toNat - 1) ≠ 0
noncomputable def lastB (m c : Int) : Bool := pb (lastP m c)
noncomputable def lastF (m c : Int) : Int := if lastB m c then (Lib.bitLen (begN m.toNat (c.toNat - 1)) : Int) - 1 else 0
noncomputable def lastC (m c : Int) : Int := if lastB m c then c else 0
noncomputable def lastR (m c : Int) : Value := .tuple #[.agg #[.int .i64 (lastF m c), .int .i64 (lastC m c)], .bool (lastB m c)]
theorem last_no {m c : Int} (h : ¬ lastP m c) : (.tuple #[.agg #[.int .i64 0, .int .i64 0], .bool false] : Value) = lastR m c := by
  unfold lastR lastF lastC lastB; rw [pb_false h, if_neg Bool.false_ne_true, if_neg Bool.false_ne_true]
theorem last_yes {m c : Int} (h : lastP m c) : (.tuple #[.agg #[.int .i64 ((Lib.bitLen (begN m.toNat (c.toNat - 1)) : Int) - 1), .int .i64 c], .bool true] : Value) = lastR m c := by
  unfold lastR lastF lastC lastB; rw [pb_true h, if_pos rfl, if_pos rfl]

set_option maxHeartbeats 1000000 in
theorem implLast (m c : Int) (w : World) : Calls Try.prog 19 #[.int .i64 m, .int .i64 c] w (RetP (lastR m c) w) := by
  by_cases ha : askP m c
  case neg =>
    have HR := Lib.hid (last_no (m := m) (c := c) fun h => ha h.1)
    have C := Lib.hid (fun W => fits_no m c W ha)
    clear ha
    obtain ⟨r, hr⟩ : ∃ r, lastR m c = r := ⟨_, rfl⟩
    rw [hr] at HR ⊢
    clear hr
    go_enter Try.func19, Try.ntmps19
    go_wp2_with fail
    refine (C.out _).mono ?_
    rintro e w' ⟨rfl, rfl⟩
    go_wp2
    exact bodyPost_ret (v := .tuple #[.agg #[.int .i64 0, .int .i64 0], .bool false]) (by simp [results, Try.results19, go_sem]) rfl (retP HR.out ((Below.refl _ _).alloc (Nat.le_refl _) _))
  case pos =>
  obtain ⟨mn, rfl⟩ : ∃ mn : Nat, m = mn := ⟨m.toNat, by have := ha.1.1; omega⟩
  obtain ⟨cn, rfl⟩ : ∃ cn : Nat, c = cn := ⟨c.toNat, by have := ha.2.1; omega⟩
  have C := Lib.hid (fun W => fits_yes mn cn W ha)
  have hbl := begN_lt mn (cn - 1)
  by_cases hz : begN mn (cn - 1) = 0
  · have HR := Lib.hid (last_no (m := mn) (c := cn) fun h => h.2 hz)
    rw [hz] at C
    clear ha hz hbl
    obtain ⟨r, hr⟩ : ∃ r, lastR mn cn = r := ⟨_, rfl⟩
    rw [hr] at HR ⊢
    clear hr
    go_enter Try.func19, Try.ntmps19
    go_wp2_with fail
    refine (C.out _).mono ?_
    rintro e w' ⟨rfl, rfl⟩
    go_wp2
    exact bodyPost_ret (v := .tuple #[.agg #[.int .i64 0, .int .i64 0], .bool false]) (by simp [results, Try.results19, go_sem]) rfl (retP HR.out ((Below.refl _ _).alloc (Nat.le_refl _) _))
  · have hr1 := last_yes (m := mn) (c := cn) ⟨ha, hz⟩
    obtain ⟨h1, h2, h3⟩ := top_bit _ hz (by omega)
    have h4 := Lib.bitLen_le (begN mn (cn - 1)) 24 (by decide) hbl
    have e1 : ((mn : Int)).toNat = mn := by omega
    have e2 : ((cn : Int)).toNat = cn := by omega
    rw [e1, e2] at hr1
    obtain ⟨b, hb⟩ : ∃ b, begN mn (cn - 1) = b := ⟨_, rfl⟩
    rw [hb] at hr1 C h1 h2 h3 h4 hbl hz
    clear h2 h3 hb
    obtain ⟨l, hl⟩ : ∃ l, Lib.bitLen b = l := ⟨_, rfl⟩
    rw [hl] at h1 h4
    have hbt : ((b : Nat) : Int).toNat = b := by omega
    have CL := Lib.hid (fun W => (Try.bits_Len (b : Int) W (by omega) (by omega)).mono (fun e w' (h : e = _ ∧ w' = W) => (⟨by rw [h.1, hbt, hl], h.2.symm⟩ : e = .returned (.int .i64 (l : Int)) ∧ W = w')))
    rw [hl] at hr1
    have HR := Lib.hid hr1
    have q : ((b : Int) == 0) = false := by simpa using hz
    have q2 : decide ((b : Int) = 0) = false := decide_eq_false (by omega)
    have q3 : IntKind.u64.wrap (b : Int) = b := by rw [IntKind.wrap_u64]; omega
    have q4 : 0 < (b : Int) := by omega
    clear ha hz hr1 e1 e2 hl hbt
    obtain ⟨r, hr⟩ : ∃ r, lastR mn cn = r := ⟨_, rfl⟩
    rw [hr] at HR ⊢
    clear hr
    go_enter Try.func19, Try.ntmps19
    go_wp2_with fail
    refine (C.out _).mono ?_
    rintro e w' ⟨rfl, rfl⟩
    go_wp2_with fail
    refine (CL.out _).mono ?_
    rintro e w' ⟨rfl, rfl⟩
    go_wp2
    exact bodyPost_ret (v := .tuple #[.agg #[.int .i64 ((l : Int) - 1), .int .i64 (cn : Int)], .bool true]) (by simp [results, Try.results19, go_sem]) rfl (retP HR.out ((Below.refl _ _).alloc (Nat.le_refl _) _))

theorem two_cells {W : World} {g : Nat} {T : TypeId} {a b : Value} (hg : W.heap[g]? = some (.cells #[a, b] T (0, 0))) : W.cell? ⟨g, 0, none⟩ = some a ∧ W.cell? ⟨g, 1, none⟩ = some b ∧ W.frozen? ⟨g, 0, none⟩ = false ∧ W.frozen? ⟨g, 1, none⟩ = false :=
  ⟨cell_of_row W g 0 _ T _ hg, cell_of_row W g 1 _ T _ hg, frozen_of_row W g 0 _ T hg, frozen_of_row W g 1 _ T hg⟩
theorem own_at {w : World} {B E N cc k : Nat} {A : Option Addr} {xs : List Value} (h : w.ownsRow B E 1 (.slice A N cc) N xs) (hk : k < N) : ∃ g, A = some ⟨g, 0, none⟩ ∧ w.cell? ⟨g, k, none⟩ = xs[k]? := by
  rcases h.2 with ⟨e, e2⟩ | ⟨g, cap, cur, e, _⟩
  · simp at e; omega
  · injection e with e1 e2 e3
    subst e1 e3
    exact ⟨g, rfl, h.cellAt k (by omega)⟩
set_option maxHeartbeats 1000000 in
theorem specLast (m c : Int) (w : World) : Calls Try.prog 18 #[.int .i64 m, .int .i64 c] w (RetP (lastR m c) w) := by
  by_cases ha : askP m c
  case neg =>
    have HR := Lib.hid (last_no (m := m) (c := c) fun h => ha h.1)
    have C := Lib.hid (fun W => ask_no m c W ha)
    clear ha
    obtain ⟨r, hr⟩ : ∃ r, lastR m c = r := ⟨_, rfl⟩
    rw [hr] at HR ⊢
    clear hr
    go_enter Try.func18, Try.ntmps18
    go_wp2_with fail
    refine (C.out _).mono ?_
    rintro e w' ⟨rfl, rfl⟩
    go_wp2
    exact bodyPost_ret (v := .tuple #[.agg #[.int .i64 0, .int .i64 0], .bool false]) (by simp [results, Try.results18, go_sem]) rfl (retP HR.out ((Below.refl _ _).alloc (Nat.le_refl _) _))
  case pos =>
  have C := Lib.hid (fun W => ask_yes m c W ha)
  obtain ⟨mn, rfl⟩ : ∃ mn : Nat, m = mn := ⟨m.toNat, by have := ha.1.1; omega⟩
  obtain ⟨cn, rfl⟩ : ∃ cn : Nat, c = cn := ⟨c.toNat, by have := ha.2.1; omega⟩
  have hc1 : 1 ≤ cn := by have := ha.2.1; omega
  have hc2 : cn ≤ 24 := by have := ha.2.2; omega
  have hmm : mn ≤ 16777215 := by have := ha.1.2; omega
  have CF := Lib.hid (fun W => specFits mn cn W hmm hc1 hc2)
  have hbl := begN_lt mn (cn - 1)
  by_cases hz : begN mn (cn - 1) = 0
  · have HR := Lib.hid (last_no (m := mn) (c := cn) fun h => h.2 hz)
    rw [fit_none mn cn hc1 hc2 hz] at CF
    clear ha hz hbl
    obtain ⟨r, hr⟩ : ∃ r, lastR mn cn = r := ⟨_, rfl⟩
    rw [hr] at HR ⊢
    clear hr
    go_enter Try.func18, Try.ntmps18
    go_wp2_with fail
    refine (C.out _).mono ?_
    rintro e w' ⟨rfl, rfl⟩
    go_wp2_with fail
    obtain ⟨W0, hW0⟩ : ∃ W0, (w.alloc (Obj.cells #[.int .i64 0, .int .i64 0] 38)) = W0 := ⟨_, rfl⟩
    have hg0 : W0.heap[w.heap.size]? = some (.cells #[.int .i64 0, .int .i64 0] 38 (0, 0)) := by rw [← hW0]; exact heap_alloc_new w _
    have hs0 : w.heap.size < W0.heap.size := by rw [← hW0]; simp
    have HB0 := Lib.hid ((Below.refl w.heap.size w).alloc (Nat.le_refl _) (Obj.cells #[.int .i64 0, .int .i64 0] 38))
    rw [hW0] at HB0 ⊢
    clear hW0
    refine (CF.out _).mono ?_
    rintro e w1 ⟨A, N, cc, rfl, hN, hown, hb⟩
    obtain rfl : N = 0 := hN.out
    obtain ⟨k0, k1, f0, f1⟩ := two_cells ((hb.block _ hs0).trans hg0)
    have HB1 := Lib.hid (HB0.out.trans (hb.mono HB0.out.size))
    clear hN hown hb hg0 hs0
    go_wp2
    exact bodyPost_ret (v := .tuple #[.agg #[.int .i64 0, .int .i64 0], .bool false]) (by simp [results, Try.results18, go_sem, k0, k1]) rfl (retP HR.out ((HB1.out.setCell (Nat.le_refl _) _).setCell (Nat.le_refl _) _))
  · have hr1 := last_yes (m := mn) (c := cn) ⟨ha, hz⟩
    obtain ⟨ys, hys⟩ := fit_some' mn cn hc1 hc2 hz
    have e1 : ((mn : Int)).toNat = mn := by omega
    have e2 : ((cn : Int)).toNat = cn := by omega
    have hlen := fitK_len mn cn (25 - cn)
    rw [e1, e2] at hr1
    obtain ⟨z, hzz⟩ : ∃ z, (Lib.bitLen (begN mn (cn - 1)) : Int) - 1 = z := ⟨_, rfl⟩
    rw [hzz] at hr1 hys
    rw [hys] at CF hlen
    rw [List.length_append, List.length_cons, List.length_nil] at hlen
    obtain ⟨k, hk⟩ : ∃ k, ys.length = k := ⟨_, rfl⟩
    rw [hk] at hlen
    have hk24 : k ≤ 24 := by omega
    have HR := Lib.hid hr1
    clear hzz hys hr1 hz ha hbl e1 e2
    obtain ⟨r, hr⟩ : ∃ r, lastR mn cn = r := ⟨_, rfl⟩
    rw [hr] at HR ⊢
    clear hr
    go_enter Try.func18, Try.ntmps18
    go_wp2_with fail
    refine (C.out _).mono ?_
    rintro e w' ⟨rfl, rfl⟩
    go_wp2_with fail
    obtain ⟨W0, hW0⟩ : ∃ W0, (w.alloc (Obj.cells #[.int .i64 0, .int .i64 0] 38)) = W0 := ⟨_, rfl⟩
    have hg0 : W0.heap[w.heap.size]? = some (.cells #[.int .i64 0, .int .i64 0] 38 (0, 0)) := by rw [← hW0]; exact heap_alloc_new w _
    have hs0 : w.heap.size < W0.heap.size := by rw [← hW0]; simp
    have HB0 := Lib.hid ((Below.refl w.heap.size w).alloc (Nat.le_refl _) (Obj.cells #[.int .i64 0, .int .i64 0] 38))
    rw [hW0] at HB0 ⊢
    clear hW0
    refine (CF.out _).mono ?_
    rintro e w1 ⟨A, N, cc, rfl, hN, hown, hb⟩
    have hN1 : N = k + 1 := by have := hN.out; rw [List.length_append, hk] at this; exact this
    subst hN1
    have hg1 := (hb.block _ hs0).trans hg0
    have hs1 := Nat.lt_of_lt_of_le hs0 hb.size
    have HB1 := Lib.hid (HB0.out.trans (hb.mono HB0.out.size))
    clear hN hown hb hg0 hs0
    go_wp2_with fail
    refine (CF.out _).mono ?_
    rintro e w2 ⟨A, N, cc, rfl, hN, hown, hb⟩
    have hN1 : N = k + 1 := by have := hN.out; rw [List.length_append, hk] at this; exact this
    subst hN1
    obtain ⟨k0, k1, f0, f1⟩ := two_cells ((hb.block _ hs1).trans hg1)
    have HB2 := Lib.hid (HB1.out.trans (hb.mono HB1.out.size))
    obtain ⟨g, rfl, hcell⟩ := own_at hown (Nat.lt_succ_self k)
    have e3 : ((ys ++ [z]).map (Value.int .i64))[k]? = some (.int .i64 z) := by subst hk; simp
    rw [e3] at hcell
    clear hN hb hg1 hs1 e3 hown
    go_wp2
    exact bodyPost_ret (v := .tuple #[.agg #[.int .i64 z, .int .i64 (cn : Int)], .bool true]) (by simp [results, Try.results18, go_sem, k0, k1]) rfl (retP HR.out ((HB2.out.setCell (Nat.le_refl _) _).setCell (Nat.le_refl _) _))
set_option maxHeartbeats 1000000 in
theorem eqBlk (x y : Int) (w : World) : Calls Try.prog 20 #[.agg #[.int .i64 x, .int .i64 y], .agg #[.int .i64 x, .int .i64 y]] w (RetP (.bool true) w) := by
  have HB := Lib.hid (((Below.refl w.heap.size w).alloc (Nat.le_refl _) (Obj.cells #[.int .i64 x, .int .i64 y] 38)).alloc (by simp) (Obj.cells #[.int .i64 x, .int .i64 y] 38))
  go_enter Try.func20, Try.ntmps20
  go_wp2
  go_ret
  exact retP rfl HB.out
end Go.Proofs.Ythmmhhoaplbfgab
