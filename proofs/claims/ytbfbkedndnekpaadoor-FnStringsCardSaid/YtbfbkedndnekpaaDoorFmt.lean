/- Contracts: impl.FormatInt and spec.FormatInt answer the same plain function. Condition: the table of powers of ten that strconv reads holds what Go's text lays. -/
import Derived.Test.YtbfbkedndnekpaaDoorNum
import Derived.Test.YtbfbkedndnekpaaDoorShelf
import Derived.Lib.AppendIntMem
import Derived.Lib.LaidTab
namespace Go.Proofs.YtbfbkedndnekpaaDoor
open Go.ChangeShapes Go.WideShapes Go.ChangeAt Go.RowKit
open Go.Lib (decDigits itoa)

/-- strconv's table of powers of ten is in place. -/
def Pow (w : World) : Prop := Lib.TabIs Tryd.prog w "internal/strconv.uint64pow10" .u64 Lib.pow10Tab
theorem powAt : Tryd.prog.globalNamed "internal/strconv.uint64pow10" = some 1 := by kernel_rfl
theorem Pow.lt {w : World} (h : Pow w) : 1 < w.heap.size :=
  World.block_lt_of_cell? w _ (Lib.TabIs.cell h powAt 0 (by rw [Lib.pow10Tab_length]; omega))
theorem var_below {P : Program} {B : Nat} {w w' : World} (hb : Below B w w') {name : String} {g : Nat} (hg : P.globalNamed name = some g) (hlt : g < B) : w'.var? P name = w.var? P name := by
  simp only [World.var?, hg, Option.bind_some, hb.block g hlt]
theorem Pow.over {w w' : World} (h : Pow w) (hb : Below w.heap.size w w') : Pow w' := by
  unfold Pow Lib.TabIs
  rw [var_below hb powAt h.lt]; exact h

def fmtB (n : Int) : Bool := decide (-999999 ≤ n ∧ n ≤ 999999)
def fmtS (n : Int) : ByteArray := if fmtB n then ⟨(itoa n).toArray⟩ else ByteArray.empty
def FP (n : Int) (w : World) (e : Ending) (w' : World) : Prop := e = .returned (.tuple #[.string (fmtS n), .bool (fmtB n)]) ∧ Below w.heap.size w w'
theorem fp_no {n : Int} {w w' : World} (h : fmtB n = false) (hb : Below w.heap.size w w') : FP n w (.returned (.tuple #[.string ByteArray.empty, .bool false])) w' := by
  unfold FP fmtS; rw [h]; exact ⟨rfl, hb⟩
theorem fp_yes {n : Int} {w w' : World} (h : fmtB n = true) (hb : Below w.heap.size w w') : FP n w (.returned (.tuple #[.string ⟨(itoa n).toArray⟩, .bool true])) w' := by
  unfold FP fmtS; rw [h]; exact ⟨rfl, hb⟩

theorem in_any (x a b : Int) (w : World) : Calls Tryd.prog 38 #[.int .i64 x, .int .i64 a, .int .i64 b] w fun e w' => e = .returned (.bool (decide (a ≤ x ∧ x ≤ b))) ∧ w = w' := by
  by_cases h1 : a ≤ x
  · by_cases h2 : x ≤ b
    · have e : decide (a ≤ x ∧ x ≤ b) = true := by simp [h1, h2]
      rw [e]; clear e
      go_enter Tryd.func38, Tryd.ntmps38
      go_wp2
      go_ret
      exact ⟨rfl, rfl⟩
    · have e : decide (a ≤ x ∧ x ≤ b) = false := by simp [h2]
      rw [e]; clear e
      have h2' : decide (x ≤ b) = false := by simpa using h2
      clear h2
      go_enter Tryd.func38, Tryd.ntmps38
      go_wp2
      go_ret
      exact ⟨rfl, rfl⟩
  · have e : decide (a ≤ x ∧ x ≤ b) = false := by simp [h1]
    rw [e]; clear e
    have h1' : x < a := by omega
    clear h1
    go_enter Tryd.func38, Tryd.ntmps38
    go_wp2
    go_ret
    exact ⟨rfl, rfl⟩

theorem specFmt (n : Int) (w : World) : Calls Tryd.prog 13 #[.int .i64 n] w (FP n w) := by
  have hin := in_any n (-999999) 999999 w
  by_cases h : -999999 ≤ n ∧ n ≤ 999999
  · have hB : Hid (fmtB n = true) := Lib.hid (by simp [fmtB, h])
    have e : decide (-999999 ≤ n ∧ n ≤ 999999) = true := by simp [h]
    rw [e] at hin; clear e
    obtain ⟨h1, h2⟩ := h
    have HI := Lib.hid hin; clear hin
    go_enter Tryd.func13, Tryd.ntmps13
    go_wp2_with (first | (go_at_call 38; refine HI.out.mono ?_; rintro e w' ⟨rfl, rfl⟩) | (go_at_call 39; refine (num_any _ _ (by omega) (by omega)).mono ?_; rintro e w' ⟨rfl, k, rfl⟩))
    go_ret2
    exact fp_yes hB.out (drewN_below (Below.refl _ _) _)
  · have hB : Hid (fmtB n = false) := Lib.hid (by simp only [fmtB, decide_eq_false_iff_not]; exact h)
    have e : decide (-999999 ≤ n ∧ n ≤ 999999) = false := by simpa using h
    rw [e] at hin; clear e h
    have HI := Lib.hid hin; clear hin
    go_enter Tryd.func13, Tryd.ntmps13
    go_wp2_with (go_at_call 38; refine HI.out.mono ?_; rintro e w' ⟨rfl, rfl⟩)
    go_ret2
    exact fp_no hB.out (Below.refl _ _)

theorem implFmt (n : Int) (w : World) (hp : Pow w) : Calls Tryd.prog 12 #[.int .i64 n] w (FP n w) := by
  by_cases h1 : n < -999999
  · have hB : Hid (fmtB n = false) := Lib.hid (by simp only [fmtB, decide_eq_false_iff_not]; omega)
    go_enter Tryd.func12, Tryd.ntmps12
    go_wp2
    go_ret2
    exact fp_no hB.out (Below.refl _ _)
  · have h1' : -999999 ≤ n := by omega
    clear h1
    by_cases h2 : 999999 < n
    · have hB : Hid (fmtB n = false) := Lib.hid (by simp only [fmtB, decide_eq_false_iff_not]; omega)
      go_enter Tryd.func12, Tryd.ntmps12
      go_wp2
      go_ret2
      exact fp_no hB.out (Below.refl _ _)
    · have h2' : n ≤ 999999 := by omega
      clear h2
      have hB : Hid (fmtB n = true) := Lib.hid (by simp [fmtB, h1', h2'])
      have HC := Lib.hid (Tryd.strconv_Itoa n (by omega) (by omega) w hp)
      clear hp
      go_enter Tryd.func12, Tryd.ntmps12
      go_wp2_with (go_at_call 37; refine HC.out.mono ?_; rintro e w' ⟨rfl, k, os, rfl⟩)
      go_ret2
      exact fp_yes hB.out (Lib.below_grow _ _ (Nat.le_refl _) _ _)
end Go.Proofs.YtbfbkedndnekpaaDoor
