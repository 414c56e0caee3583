/- Contracts: impl.FitPositions and spec.FitPositions answer the same list and the same word. Condition: the table of math/bits holds what Go's text lays. -/
import Derived.Test.YthmmhhoaplbfgabDoorPos
namespace Go.Proofs.YthmmhhoaplbfgabDoor
open Go.ChangeShapes Go.WideShapes Go.ChangeAt Go.RowKit

noncomputable def posB (m c : Int) : Bool := pb (askP m c)
noncomputable def posL (m c : Int) : List Int := if posB m c then fitK m.toNat c.toNat (25 - c.toNat) else []
theorem pos_no {m c : Int} (h : ¬ askP m c) : posB m c = false ∧ posL m c = [] := by
  unfold posL posB; rw [pb_false h]; exact ⟨rfl, rfl⟩
theorem pos_yes {m c : Int} (h : askP m c) : posB m c = true ∧ posL m c = fitK m.toNat c.toNat (25 - c.toNat) := by
  unfold posL posB; rw [pb_true h]; exact ⟨rfl, rfl⟩
theorem posL_len (m c : Int) : (posL m c).length ≤ 25 := by
  unfold posL; split
  · exact Nat.le_trans (fitK_len _ _ _) (by omega)
  · simp
set_option maxHeartbeats 1000000 in
theorem implPos (m c : Int) (w : World) (hT : Tab w) : Calls Tryd.prog 33 #[.int .i64 m, .int .i64 c] w (IntsP (posL m c) (posB m c) w) := by
  have HTAB := Lib.hid hT; clear hT
  by_cases ha : askP m c
  case neg =>
    obtain ⟨e1, e2⟩ := pos_no ha
    rw [e1, e2]
    have C := Lib.hid (fun W => fits_no m c W ha)
    have CL0 := listOf_ 0 w (by decide) HTAB.out
    rw [bl_zero] at CL0
    have CL := Lib.hid CL0
    clear ha e1 e2 CL0
    go_enter Tryd.func33, Tryd.ntmps33
    go_wp2_with fail
    refine (C.out _).mono ?_
    rintro e w' ⟨rfl, rfl⟩
    go_wp2_with fail
    refine CL.out.mono ?_
    rintro e w1 ⟨A, N, cc, rfl, hN, hown, hb⟩
    go_wp2
    go_ret2
    exact ⟨A, N, cc, rfl, hN, hown, hb⟩
  case pos =>
  obtain ⟨e1, e2⟩ := pos_yes ha
  rw [e1, e2]
  obtain ⟨mn, rfl⟩ : ∃ mn : Nat, m = mn := ⟨m.toNat, by have := ha.1.1; omega⟩
  obtain ⟨cn, rfl⟩ : ∃ cn : Nat, c = cn := ⟨c.toNat, by have := ha.2.1; omega⟩
  have e3 : ((mn : Int)).toNat = mn := by omega
  have e4 : ((cn : Int)).toNat = cn := by omega
  rw [e3, e4, ← bl_fit mn cn (by have := ha.2.1; omega) (by have := ha.2.2; omega)]
  have C := Lib.hid (fun W => fits_yes mn cn W ha)
  have CL := Lib.hid (listOf_ (begN mn (cn - 1)) w (begN_lt _ _) HTAB.out)
  obtain ⟨b, hb⟩ : ∃ b, begN mn (cn - 1) = b := ⟨_, rfl⟩
  rw [hb] at C CL ⊢
  clear hb ha e1 e2 e3 e4
  go_enter Tryd.func33, Tryd.ntmps33
  go_wp2_with fail
  refine (C.out _).mono ?_
  rintro e w' ⟨rfl, rfl⟩
  go_wp2_with fail
  refine CL.out.mono ?_
  rintro e w1 ⟨A, N, cc, rfl, hN, hown, hb⟩
  go_wp2
  go_ret2
  exact ⟨A, N, cc, rfl, hN, hown, hb⟩

set_option maxHeartbeats 1000000 in
theorem specPos (m c : Int) (w : World) : Calls Tryd.prog 32 #[.int .i64 m, .int .i64 c] w (IntsP (posL m c) (posB m c) w) := by
  by_cases ha : askP m c
  case neg =>
    obtain ⟨e1, e2⟩ := pos_no ha
    rw [e1, e2]
    have C := Lib.hid (fun W => ask_no m c W ha)
    clear ha e1 e2
    go_enter Tryd.func32, Tryd.ntmps32
    go_wp2_with fail
    refine (C.out _).mono ?_
    rintro e w' ⟨rfl, rfl⟩
    go_wp2
    go_ret2
    have hown0 := World.ownsRow_lit (base := w.heap.size) (e := 3) (size := 1) w #[] 0 (by simp) (by unfold maxLen; omega) rfl
    exact ⟨_, 0, _, rfl, Lib.hid rfl, by simpa using hown0, (Below.refl _ _).alloc (Nat.le_refl _) _⟩
  case pos =>
  obtain ⟨e1, e2⟩ := pos_yes ha
  rw [e1, e2]
  have C := Lib.hid (fun W => ask_yes m c W ha)
  obtain ⟨mn, rfl⟩ : ∃ mn : Nat, m = mn := ⟨m.toNat, by have := ha.1.1; omega⟩
  obtain ⟨cn, rfl⟩ : ∃ cn : Nat, c = cn := ⟨c.toNat, by have := ha.2.1; omega⟩
  have e3 : ((mn : Int)).toNat = mn := by omega
  have e4 : ((cn : Int)).toNat = cn := by omega
  rw [e3, e4]
  have CL := Lib.hid (fun W => specFits mn cn W (by have := ha.1.2; omega) (by have := ha.2.1; omega) (by have := ha.2.2; omega))
  obtain ⟨L, hL⟩ : ∃ L, fitK mn cn (25 - cn) = L := ⟨_, rfl⟩
  rw [hL] at CL ⊢
  clear hL ha e1 e2 e3 e4
  go_enter Tryd.func32, Tryd.ntmps32
  go_wp2_with fail
  refine (C.out _).mono ?_
  rintro e w' ⟨rfl, rfl⟩
  go_wp2_with fail
  refine (CL.out _).mono ?_
  rintro e w1 ⟨A, N, cc, rfl, hN, hown, hb⟩
  go_wp2
  go_ret2
  exact ⟨A, N, cc, rfl, hN, hown, hb⟩
end Go.Proofs.YthmmhhoaplbfgabDoor
