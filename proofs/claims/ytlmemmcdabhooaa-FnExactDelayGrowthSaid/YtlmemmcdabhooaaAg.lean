/- Growth of demands: which are wanted in a period: contracts of ActiveGrowth, both sides. No condition but those typed. -/
import Derived.Test.YtlmemmcdabhooaaGv
import Derived.Test.YtlmemmcdabhooaaGB
namespace Go.Proofs.Ytlmemmcdabhooaa
open Go.ChangeShapes Go.WideShapes Go.ChangeAt Go.RowKit

def gwn (gs : List Q6) (i : Nat) : Q6 := gs.getD i ⟨0, 0, 0, 0, 0, 0⟩
theorem gwn_at {gs : List Q6} {k : Nat} (hk : k < gs.length) {q : Q6} (hq : gs[k] = q) : gwn gs k = q := by
  unfold gwn; rw [List.getD_eq_getElem?_getD, List.getElem?_eq_getElem hk, hq]; rfl
def agK (gs : List Q6) (x : Int) (k : Nat) : List Int := ((List.range k).filter fun i => decide ((gwn gs i).e ≤ x ∧ x ≤ (gwn gs i).f)).map fun (i : Nat) => (i : Int)
theorem ag_yes {gs : List Q6} {x : Int} {k : Nat} (h : (gwn gs k).e ≤ x ∧ x ≤ (gwn gs k).f) : agK gs x (k + 1) = agK gs x k ++ [(k : Int)] := by
  unfold agK
  rw [List.range_succ, List.filter_append, List.map_append]
  simp [h]
theorem ag_no {gs : List Q6} {x : Int} {k : Nat} (h : ¬ ((gwn gs k).e ≤ x ∧ x ≤ (gwn gs k).f)) : agK gs x (k + 1) = agK gs x k := by
  unfold agK
  rw [List.range_succ, List.filter_append, List.map_append]
  rw [show List.filter (fun i => decide ((gwn gs i).e ≤ x ∧ x ≤ (gwn gs i).f)) [k] = [] by rw [List.filter_cons, decide_eq_false h]; rfl]
  simp
theorem agK_len (gs : List Q6) (x : Int) (k : Nat) : (agK gs x k).length ≤ k := by
  unfold agK
  rw [List.length_map]
  exact Nat.le_trans (List.length_filter_le _ _) (by rw [List.length_range]; exact Nat.le_refl _)
def agP (ss : List ByteArray) (fs : List Q4) (gs : List Q6) (x : Int) : Prop := gwsP ss fs gs ∧ 0 ≤ x ∧ x ≤ 7
noncomputable def agL (ss : List ByteArray) (fs : List Q4) (gs : List Q6) (x : Int) : List Int := if pb (agP ss fs gs x) then agK gs x gs.length else []
theorem agL_len (ss : List ByteArray) (fs : List Q4) (gs : List Q6) (x : Int) : (agL ss fs gs x).length ≤ gs.length := by
  unfold agL
  split
  · exact agK_len _ _ _
  · simp
theorem ag_bad {ss : List ByteArray} {fs : List Q4} {gs : List Q6} {x : Int} (e : ¬ agP ss fs gs x) : agL ss fs gs x = [] ∧ pb (agP ss fs gs x) = false := by
  have hb := pb_false e
  exact ⟨by unfold agL; rw [hb]; rfl, hb⟩
theorem ag_good {ss : List ByteArray} {fs : List Q4} {gs : List Q6} {x : Int} (e : agP ss fs gs x) : agL ss fs gs x = agK gs x gs.length ∧ pb (agP ss fs gs x) = true := by
  have hb := pb_true e
  exact ⟨by unfold agL; rw [hb]; rfl, hb⟩
end Go.Proofs.Ytlmemmcdabhooaa
