/- Contracts: spec.BestFit and impl.BestFit answer the same block. Condition: the table of math/bits holds what Go's text lays. -/
import Derived.Test.YteihdnjdpiejmabDoorBest
import Derived.Test.YteihdnjdpiejmabDoorFirst
namespace Go.Proofs.YteihdnjdpiejmabDoor
open Go.ChangeShapes Go.WideShapes Go.ChangeAt Go.RowKit

noncomputable def bestF (m c : Int) : Int := if firstB m c then ((bestN m.toNat c.toNat).1 : Int) else 0
noncomputable def bestR (m c : Int) : Value := .tuple #[.agg #[.int .i64 (bestF m c), .int .i64 (firstC m c)], .bool (firstB m c)]
theorem best_no {m c : Int} (h : ¬ firstP m c) : (.tuple #[.agg #[.int .i64 0, .int .i64 0], .bool false] : Value) = bestR m c := by
  unfold bestR bestF firstC firstB; rw [pb_false h, if_neg Bool.false_ne_true, if_neg Bool.false_ne_true]
theorem best_yes {m c : Nat} (h : firstP m c) : (.tuple #[.agg #[.int .i64 ((bestN m c).1 : Int), .int .i64 (c : Int)], .bool true] : Value) = bestR m c := by
  unfold bestR bestF firstC firstB; rw [pb_true h, if_pos rfl, if_pos rfl]; rfl
theorem best_rel (m c : Nat) (hc : 1 ≤ c) : ((bestN m c).2 = 0 ∧ begN m (c - 1) = 0) ∨ (0 < (bestN m c).2 ∧ begN m (c - 1) ≠ 0 ∧ foI c (sp (fr m) 25).1 (sp (fr m) 25).1.length = bestN m c) := by
  have h24 : ∀ q, q ∈ (sp (fr m) 25).1 → q.2 ≤ 24 := by
    intro q hq
    obtain ⟨h1, h2, h3⟩ := sp_runs (fr m) 25 q hq
    apply Nat.le_of_not_lt
    intro hlt
    have h4 := h3 (24 - q.1) (by omega)
    have e : q.1 + (24 - q.1) = 24 := by omega
    rw [e] at h4
    have h5 : fr m 24 = false := by unfold fr; rw [freeN_bit]; rfl
    rw [h5] at h4
    exact absurd h4 (by decide)
  have hi := runs_iff m c hc
  rcases fo_rel c hc (sp (fr m) 25).1 h24 _ (Nat.le_refl _) with ⟨e1, e2, e3⟩ | ⟨e1, e2, q, e3, e4⟩
  · left
    refine ⟨by unfold bestN; rw [e1], ?_⟩
    apply Classical.byContradiction
    intro hne
    obtain ⟨q, hq, hqc⟩ := hi.2 hne
    have := e3 q (by rw [List.take_length]; exact hq)
    omega
  · right
    refine ⟨by unfold bestN; exact e2, hi.1 ⟨q, (by rw [List.take_length] at e3; exact e3), e4⟩, e1.symm⟩

theorem fld1 (a b : Int) (W : World) : Sem.run Tryd.prog (Instr.field 29 (.agg #[.int .i64 a, .int .i64 b]) 1) W = .ok (.int .i64 b) W := by kernel_rfl
set_option maxHeartbeats 2000000 in
theorem specBestFit (m c : Int) (w : World) : Calls Tryd.prog 13 #[.int .i64 m, .int .i64 c] w (RetP (bestR m c) w) := by
  by_cases ha : askP m c
  case neg =>
    have HR := Lib.hid (best_no (m := m) (c := c) fun h => ha h.1)
    have C := Lib.hid (fun W => ask_no m c W ha)
    clear ha
    obtain ⟨r, hr⟩ : ∃ r, bestR m c = r := ⟨_, rfl⟩
    rw [hr] at HR ⊢
    clear hr
    go_enter Tryd.func13, Tryd.ntmps13
    go_wp2_with fail
    refine (C.out _).mono ?_
    rintro e w' ⟨rfl, rfl⟩
    go_wp2
    exact bodyPost_ret (v := .tuple #[.agg #[.int .i64 0, .int .i64 0], .bool false]) (by simp [results, Tryd.results13, go_sem]) rfl (retP HR.out ((Below.refl _ _).alloc (Nat.le_refl _) _))
  case pos =>
  obtain ⟨mn, rfl⟩ : ∃ mn : Nat, m = mn := ⟨m.toNat, by have := ha.1.1; omega⟩
  obtain ⟨cn, rfl⟩ : ∃ cn : Nat, c = cn := ⟨c.toNat, by have := ha.2.1; omega⟩
  have C := Lib.hid (fun W => ask_yes mn cn W ha)
  have CB := Lib.hid (fun W => specBest mn cn W (by have := ha.1.2; omega) (by have := ha.2.1; omega) (by have := ha.2.2; omega))
  rcases best_rel mn cn (by have := ha.2.1; omega) with ⟨h0, hb⟩ | ⟨h0, hb, _⟩
  · have HR := Lib.hid (best_no (m := mn) (c := cn) fun h => h.2 hb)
    have hv : bestL mn cn = .agg #[.int .i64 ((bestN mn cn).1 : Int), .int .i64 0] := by unfold bestL; rw [if_neg (by omega)]
    rw [hv] at CB
    obtain ⟨y, hy⟩ : ∃ y : Int, ((bestN mn cn).1 : Int) = y := ⟨_, rfl⟩
    rw [hy] at CB
    clear ha h0 hb hv hy
    obtain ⟨r, hr⟩ : ∃ r, bestR mn cn = r := ⟨_, rfl⟩
    rw [hr] at HR ⊢
    clear hr
    go_enter Tryd.func13, Tryd.ntmps13
    go_wp2_with fail
    refine (C.out _).mono ?_
    rintro e w' ⟨rfl, rfl⟩
    go_wp2_with fail
    have HB0 := Lib.hid ((Below.refl w.heap.size w).alloc (Nat.le_refl _) (Obj.cells #[z0, z0] 29))
    generalize hW : World.alloc w _ = W0
    have hown : W0.ownsRow w.heap.size 29 2 (.slice (some ⟨w.heap.size, 0, none⟩) 1 1) 1 [z0, z0] := by rw [← hW]; exact one_row w z0 z0 (Nat.le_refl _)
    rw [hW] at HB0
    clear hW
    have HO := Lib.hid hown; clear hown
    refine (CB.out _).mono ?_
    rintro e w1 ⟨rfl, hb1⟩
    have ho1 := ownB HO.out hb1
    have HB1 := Lib.hid (HB0.out.trans (hb1.mono HB0.out.size))
    have d0 := ho1.cellAt 0 (by omega)
    have d1 := ho1.cellAt 1 (by omega)
    simp only [List.getElem?_cons_zero, List.getElem?_cons_succ] at d0 d1
    have e0_ := ho1.frozenAt 0
    have e1_ := ho1.frozenAt 1
    have hsz := (ho1.lt w.heap.size rfl).2
    clear hb1 ho1
    have hfl := fld1 y 0
    go_wp2
    exact bodyPost_ret (v := .tuple #[.agg #[.int .i64 0, .int .i64 0], .bool false]) (by simp [results, Tryd.results13, go_sem, d0, d1, hsz]) rfl (retP HR.out ((HB1.out.setCell (p := ⟨w.heap.size, 0, none⟩) (Nat.le_refl _) _).setCell (p := ⟨w.heap.size, 1, none⟩) (Nat.le_refl _) _))
  · have HR := Lib.hid (best_yes (m := mn) (c := cn) ⟨ha, by
      have e1 : ((mn : Int)).toNat = mn := by omega
      have e2 : ((cn : Int)).toNat = cn := by omega
      rw [e1, e2]; exact hb⟩)
    have hv : bestL mn cn = .agg #[.int .i64 ((bestN mn cn).1 : Int), .int .i64 (cn : Int)] := by unfold bestL; rw [if_pos h0]
    rw [hv] at CB
    obtain ⟨y, hy⟩ : ∃ y : Int, ((bestN mn cn).1 : Int) = y := ⟨_, rfl⟩
    rw [hy] at CB HR
    have hc1 : 1 ≤ (cn : Int) := ha.2.1
    obtain ⟨ci, hci⟩ : ∃ ci : Int, (cn : Int) = ci := ⟨_, rfl⟩
    obtain ⟨r, hr⟩ : ∃ r, bestR mn cn = r := ⟨_, rfl⟩
    rw [hr] at HR ⊢
    rw [hci] at HR CB C hc1 ⊢
    have q : (ci == 0) = false := by simpa using (by omega : ¬ ci = 0)
    clear ha h0 hb hv hy hr hci
    go_enter Tryd.func13, Tryd.ntmps13
    go_wp2_with fail
    refine (C.out _).mono ?_
    rintro e w' ⟨rfl, rfl⟩
    go_wp2_with fail
    have HB0 := Lib.hid ((Below.refl w.heap.size w).alloc (Nat.le_refl _) (Obj.cells #[z0, z0] 29))
    generalize hW : World.alloc w _ = W0
    have hown : W0.ownsRow w.heap.size 29 2 (.slice (some ⟨w.heap.size, 0, none⟩) 1 1) 1 [z0, z0] := by rw [← hW]; exact one_row w z0 z0 (Nat.le_refl _)
    rw [hW] at HB0
    clear hW
    have HO := Lib.hid hown; clear hown
    refine (CB.out _).mono ?_
    rintro e w1 ⟨rfl, hb1⟩
    have HO1 := Lib.hid (ownB HO.out hb1)
    have HB1 := Lib.hid (HB0.out.trans (hb1.mono HB0.out.size))
    clear hb1
    have hfl := fld1 y ci
    go_wp2_with fail
    refine (CB.out _).mono ?_
    rintro e w2 ⟨rfl, hb2⟩
    have ho2 := ownB HO1.out hb2
    have HB2 := Lib.hid (HB1.out.trans (hb2.mono HB1.out.size))
    have d0 := ho2.cellAt 0 (by omega)
    have d1 := ho2.cellAt 1 (by omega)
    simp only [List.getElem?_cons_zero, List.getElem?_cons_succ] at d0 d1
    have e0_ := ho2.frozenAt 0
    have e1_ := ho2.frozenAt 1
    have hsz := (ho2.lt w.heap.size rfl).2
    clear hb2 ho2
    go_wp2
    exact bodyPost_ret (v := .tuple #[.agg #[.int .i64 y, .int .i64 ci], .bool true]) (by simp [results, Tryd.results13, go_sem, d0, d1, hsz]) rfl (retP HR.out ((HB2.out.setCell (p := ⟨w.heap.size, 0, none⟩) (Nat.le_refl _) _).setCell (p := ⟨w.heap.size, 1, none⟩) (Nat.le_refl _) _))
end Go.Proofs.YteihdnjdpiejmabDoor
