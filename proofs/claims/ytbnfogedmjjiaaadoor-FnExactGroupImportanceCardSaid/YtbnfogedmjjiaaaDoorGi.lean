/- An outage with another number for a group: contracts of impl.Outage.with and spec.l16With. No condition but those typed. -/
import Derived.Test.YtbnfogedmjjiaaaDoorAvD
import Derived.Test.YtbnfogedmjjiaaaDoorOwn
import Derived.Test.YtbnfogedmjjiaaaDoorLab
import Derived.OneCell
import Derived.Test.YtbnfogedmjjiaaaDoorShelf
namespace Go.Proofs.YtbnfogedmjjiaaaDoor
open Go.ChangeShapes Go.WideShapes Go.ChangeAt Go.RowKit

theorem one_rowG (w : World) (a b : Value) {base : Nat} (hb : base ≤ w.heap.size) : (w.alloc (.cells #[a, b] 60)).ownsRow base 60 2 (.slice (some ⟨w.heap.size, 0, none⟩) 1 1) 1 [a, b] := by
  have := World.ownsRow_lit (base := base) (e := 60) (size := 2) w #[a, b] 1 hb (by unfold maxLen; omega) rfl
  simpa using this
def WiP (u : Int) (L : List Int) (w : World) (e : Ending) (w' : World) : Prop :=
  ∃ (A9 : Option Addr) (N9 c9 : Nat), e = .returned (.agg #[.int .i64 u, .slice A9 N9 c9]) ∧ Hid (N9 = L.length) ∧ w'.ownsRow w.heap.size 3 1 (.slice A9 N9 c9) N9 (L.map (Value.int .i64)) ∧ Below w.heap.size w w'
set_option maxRecDepth 100000 in
set_option maxHeartbeats 2000000 in
theorem with_ (u : Int) {q n c : Nat} {ds : List Int} {w : World} (hn : ds.length = n) (hr : Rd w w.heap.size (some ⟨q, 0, none⟩) (ds.map (Value.int .i64))) (hx : n ≤ 14) (g : Nat) (hg : g < n) (d : Int) :
    Calls Tryd.prog 115 #[.agg #[.int .i64 u, .slice (some ⟨q, 0, none⟩) n c], .int .i64 (g : Int), .int .i64 d] w (WiP u (ds.set g d) w) := by
  have HN := Lib.hid hn; have HR := Lib.hid hr
  clear hn hr
  go_enter Tryd.func115, Tryd.ntmps115
  go_wp2_with fail
  obtain ⟨W0, hW0⟩ : ∃ W0, (w.alloc (Obj.cells #[.int .i64 u, .slice (some ⟨q, 0, none⟩) n c] 60)).alloc (Obj.cells #[.int .i64 0, .slice none 0 0] 60) = W0 := ⟨_, rfl⟩
  have hb0 : Below w.heap.size w W0 := by rw [← hW0]; exact ((Below.refl _ _).alloc (Nat.le_refl _) _).alloc (by simp) _
  have hsz : W0.heap.size = w.heap.size + 1 + 1 := by rw [← hW0]; simp
  have hp0 : W0.ownsRow w.heap.size 60 2 (.slice (some ⟨w.heap.size, 0, none⟩) 1 1) 1 [.int .i64 u, .slice (some ⟨q, 0, none⟩) n c] := by
    rw [← hW0]; exact (one_rowG w _ _ (Nat.le_refl _)).alloc _
  have hq0 : W0.ownsRow w.heap.size 60 2 (.slice (some ⟨w.heap.size + 1, 0, none⟩) 1 1) 1 [.int .i64 0, .slice none 0 0] := by
    rw [← hW0]
    have h9 := one_rowG (w.alloc (Obj.cells #[.int .i64 u, .slice (some ⟨q, 0, none⟩) n c] 60)) (.int .i64 0) (.slice none 0 0) (base := w.heap.size) (by simp)
    rw [show (w.alloc (Obj.cells #[.int .i64 u, .slice (some ⟨q, 0, none⟩) n c] 60)).heap.size = w.heap.size + 1 by simp] at h9
    exact h9
  have HB0 := Lib.hid hb0; have HSZ := Lib.hid hsz; have HP0 := Lib.hid hp0; have HQ0 := Lib.hid hq0
  rw [hW0]
  clear hW0 hb0 hsz hp0 hq0
  refine (Tryd.slices_Clone_int q 0 n c ds W0 (by have := HN.out; omega) (by omega) (fun j hj => by
    have h9 := ((HR.out.moved HB0.out).intc hj).2
    rw [List.getD_eq_getElem?_getD, List.getElem?_eq_getElem hj]; exact h9)).mono ?_
  rintro e w1 ⟨v', rfl, hown, _, hb1⟩
  rw [List.take_of_length_le (by have := HN.out; omega)] at hown
  obtain ⟨A9, c9, rfl⟩ := formOf hown
  obtain ⟨g9, rfl⟩ := own_some hown (by omega)
  have hlt9 := (hown.lt g9 rfl)
  have hp1 := ownB HP0.out hb1
  have hq1 := ownB HQ0.out hb1
  have HB1 := Lib.hid (HB0.out.trans (hb1.mono HB0.out.size))
  have HO1 := Lib.hid hown
  have p0 := hp1.cellAt 0 (by decide)
  have p1 := hp1.cellAt 1 (by decide)
  have q0 := hq1.cellAt 0 (by decide)
  have q1 := hq1.cellAt 1 (by decide)
  simp only [List.getElem?_cons_zero, List.getElem?_cons_succ] at p0 p1 q0 q1
  have zp := hp1.frozenAt 1
  have zq0 := hq1.frozenAt 0
  have zq1 := hq1.frozenAt 1
  obtain ⟨x, hx9⟩ : ∃ x, ds.getD g 0 = x := ⟨_, rfl⟩
  have c0 := own_int hown HN.out.symm hg hx9
  have z0 := hown.frozenAt g
  have hne1 : ¬ g9 = w.heap.size := by have := HSZ.out; omega
  have hne2 : ¬ g9 = w.heap.size + 1 := by have := HSZ.out; omega
  have hne3 : ¬ w.heap.size = g9 := by omega
  have hne4 : ¬ w.heap.size + 1 = g9 := by omega
  have hgI : (g : Int) < n := by omega
  have HLT := Lib.hid hlt9
  clear hx9 hown hp1 hq1 hb1 hlt9
  go_wp2
  refine bodyPost_ret (v := .agg #[.int .i64 u, .slice (some ⟨g9, 0, none⟩) n c9]) ?_ rfl ?_
  · simp [results, Tryd.results115, go_sem, p0, p1, q0, q1, hne1, hne2, hne3, hne4]
  · refine ⟨_, n, c9, rfl, Lib.hid (by rw [List.length_set]; exact HN.out.symm), ?_, ?_⟩
    · have h1 := HO1.out
      refine own_base ?_ HB0.out.size
      have h2 := ownsRow_setCell_other h1 (a := ⟨w.heap.size, 1, none⟩) (fun e => hne1 (Option.some.inj e)) (.slice (some ⟨g9, 0, none⟩) n c9)
      have h3 := (h2.stored g (.int .i64 d)).1
      rw [set_mapI] at h3
      exact ownsRow_setCell_other (ownsRow_setCell_other h3 (a := ⟨w.heap.size + 1, 0, none⟩) (fun e => hne2 (Option.some.inj e)) _) (a := ⟨w.heap.size + 1, 1, none⟩) (fun e => hne2 (Option.some.inj e)) _
    ·
      exact (((HB1.out.setCell (p := ⟨w.heap.size, 1, none⟩) (Nat.le_refl _) _).setCell (p := ⟨g9, g, none⟩) (by show w.heap.size ≤ g9; have := HLT.out; have := HSZ.out; omega) _).setCell (p := ⟨w.heap.size + 1, 0, none⟩) (Nat.le_succ _) _).setCell (p := ⟨w.heap.size + 1, 1, none⟩) (Nat.le_succ _) _
set_option maxRecDepth 100000 in
set_option maxHeartbeats 2000000 in
theorem l16With_ (u : Int) {q n c : Nat} {ds : List Int} {w : World} (hn : ds.length = n) (hr : Rd w w.heap.size (some ⟨q, 0, none⟩) (ds.map (Value.int .i64))) (hx : n ≤ 14) (g : Nat) (hg : g < n) (d : Int) :
    Calls Tryd.prog 114 #[.agg #[.int .i64 u, .slice (some ⟨q, 0, none⟩) n c], .int .i64 (g : Int), .int .i64 d] w (WiP u (ds.set g d) w) := by
  have HN := Lib.hid hn; have HR := Lib.hid hr
  clear hn hr
  go_enter Tryd.func114, Tryd.ntmps114
  go_wp2_with fail
  obtain ⟨W0, hW0⟩ : ∃ W0, (w.alloc (Obj.cells #[.int .i64 u, .slice (some ⟨q, 0, none⟩) n c] 60)).alloc (Obj.cells #[.int .i64 0, .slice none 0 0] 60) = W0 := ⟨_, rfl⟩
  have hb0 : Below w.heap.size w W0 := by rw [← hW0]; exact ((Below.refl _ _).alloc (Nat.le_refl _) _).alloc (by simp) _
  have hsz : W0.heap.size = w.heap.size + 1 + 1 := by rw [← hW0]; simp
  have hp0 : W0.ownsRow w.heap.size 60 2 (.slice (some ⟨w.heap.size, 0, none⟩) 1 1) 1 [.int .i64 u, .slice (some ⟨q, 0, none⟩) n c] := by
    rw [← hW0]; exact (one_rowG w _ _ (Nat.le_refl _)).alloc _
  have hq0 : W0.ownsRow w.heap.size 60 2 (.slice (some ⟨w.heap.size + 1, 0, none⟩) 1 1) 1 [.int .i64 0, .slice none 0 0] := by
    rw [← hW0]
    have h9 := one_rowG (w.alloc (Obj.cells #[.int .i64 u, .slice (some ⟨q, 0, none⟩) n c] 60)) (.int .i64 0) (.slice none 0 0) (base := w.heap.size) (by simp)
    rw [show (w.alloc (Obj.cells #[.int .i64 u, .slice (some ⟨q, 0, none⟩) n c] 60)).heap.size = w.heap.size + 1 by simp] at h9
    exact h9
  have HB0 := Lib.hid hb0; have HSZ := Lib.hid hsz; have HP0 := Lib.hid hp0; have HQ0 := Lib.hid hq0
  rw [hW0]
  clear hW0 hb0 hsz hp0 hq0
  refine (own_ ⟨q, 0, none⟩ n c ds W0 HN.out (by omega) (HR.out.moved HB0.out)).mono ?_
  rintro e w1 ⟨A9, N9, c9, rfl, HN9, hown, hb1⟩
  have e9 : n = N9 := by rw [HN9.out]; exact HN.out.symm
  subst e9
  obtain ⟨g9, rfl⟩ := own_some hown (by omega)
  have hlt9 := (hown.lt g9 rfl)
  have hp1 := ownB HP0.out hb1
  have hq1 := ownB HQ0.out hb1
  have HB1 := Lib.hid (HB0.out.trans (hb1.mono HB0.out.size))
  have HO1 := Lib.hid hown
  have p0 := hp1.cellAt 0 (by decide)
  have p1 := hp1.cellAt 1 (by decide)
  have q0 := hq1.cellAt 0 (by decide)
  have q1 := hq1.cellAt 1 (by decide)
  simp only [List.getElem?_cons_zero, List.getElem?_cons_succ] at p0 p1 q0 q1
  have zp := hp1.frozenAt 1
  have zq0 := hq1.frozenAt 0
  have zq1 := hq1.frozenAt 1
  obtain ⟨x, hx9⟩ : ∃ x, ds.getD g 0 = x := ⟨_, rfl⟩
  have c0 := own_int hown HN.out.symm hg hx9
  have z0 := hown.frozenAt g
  have hne1 : ¬ g9 = w.heap.size := by have := HSZ.out; omega
  have hne2 : ¬ g9 = w.heap.size + 1 := by have := HSZ.out; omega
  have hne3 : ¬ w.heap.size = g9 := by omega
  have hne4 : ¬ w.heap.size + 1 = g9 := by omega
  have hgI : (g : Int) < n := by omega
  have HLT := Lib.hid hlt9
  clear hx9 hown hp1 hq1 hb1 hlt9
  go_wp2
  refine bodyPost_ret (v := .agg #[.int .i64 u, .slice (some ⟨g9, 0, none⟩) n c9]) ?_ rfl ?_
  · simp [results, Tryd.results114, go_sem, p0, p1, q0, q1, hne1, hne2, hne3, hne4]
  · refine ⟨_, n, c9, rfl, Lib.hid (by rw [List.length_set]; exact HN.out.symm), ?_, ?_⟩
    · have h1 := HO1.out
      refine own_base ?_ HB0.out.size
      have h2 := h1
      have h3 := (h2.stored g (.int .i64 d)).1
      rw [set_mapI] at h3
      exact ownsRow_setCell_other (ownsRow_setCell_other h3 (a := ⟨w.heap.size + 1, 0, none⟩) (fun e => hne2 (Option.some.inj e)) _) (a := ⟨w.heap.size + 1, 1, none⟩) (fun e => hne2 (Option.some.inj e)) _
    ·
      exact ((HB1.out.setCell (p := ⟨g9, g, none⟩) (by show w.heap.size ≤ g9; have := HLT.out; have := HSZ.out; omega) _).setCell (p := ⟨w.heap.size + 1, 0, none⟩) (Nat.le_succ _) _).setCell (p := ⟨w.heap.size + 1, 1, none⟩) (Nat.le_succ _) _
end Go.Proofs.YtbnfogedmjjiaaaDoor
