/- The weight of a state: contracts of StateWeight, both sides. No condition but those typed. -/
import Derived.Test.YtbnfogedmjjiaaaDoorWt
import Derived.Test.YtbnfogedmjjiaaaDoorOutS
import Derived.Test.YtbnfogedmjjiaaaDoorGB
import Derived.Test.YtbnfogedmjjiaaaDoorSplit6
import Derived.Test.YtbnfogedmjjiaaaDoorBoth
import Derived.Test.YtbnfogedmjjiaaaDoorTwo
namespace Go.Proofs.YtbnfogedmjjiaaaDoor
open Go.ChangeShapes Go.WideShapes Go.ChangeAt Go.RowKit

def swP (ss : List ByteArray) (fs : List Q4) (u : Int) (ds zs : List Int) : Prop := ouP ss fs u ds ∧ risB zs (ds.length : Int) = true
noncomputable def swB (ss : List ByteArray) (fs : List Q4) (u : Int) (ds zs : List Int) : Bool := pb (swP ss fs u ds zs)
noncomputable def swV (ss : List ByteArray) (fs : List Q4) (u : Int) (ds zs : List Int) : Int := if swB ss fs u ds zs then wtN u ds (maskN zs zs.length) ds.length else 0
noncomputable def swR (ss : List ByteArray) (fs : List Q4) (u : Int) (ds zs : List Int) : Value := .tuple #[.int .i64 (swV ss fs u ds zs), .bool (swB ss fs u ds zs)]
theorem sw_no {ss : List ByteArray} {fs : List Q4} {u : Int} {ds zs : List Int} (h : ¬ swP ss fs u ds zs) : (.tuple #[.int .i64 0, .bool false] : Value) = swR ss fs u ds zs := by
  unfold swR swV; rw [show swB ss fs u ds zs = false from pb_false h]; rfl
theorem sw_yes {ss : List ByteArray} {fs : List Q4} {u : Int} {ds zs : List Int} (h : swP ss fs u ds zs) : (.tuple #[.int .i64 (wtN u ds (maskN zs zs.length) ds.length), .bool true] : Value) = swR ss fs u ds zs := by
  unfold swR swV; rw [show swB ss fs u ds zs = true from pb_true h]; rfl
theorem swP.facts {ss : List ByteArray} {fs : List Q4} {u : Int} {ds zs : List Int} (h : swP ss fs u ds zs) : ds.length ≤ 14 ∧ 0 ≤ u ∧ u ≤ 20 ∧ (∀ j, j < ds.length → 0 ≤ nth ds j ∧ nth ds j ≤ u) ∧ (∀ k, k < zs.length → 0 ≤ nth zs k ∧ nth zs k < 20) ∧ maskN zs zs.length < 2 ^ 62 := by
  obtain ⟨⟨h1, ⟨h2, h3⟩, h4, h5⟩, h6⟩ := h
  have hl : ds.length ≤ 14 := by have := rgp_len fs; have := h1.2.1; omega
  have hz : ∀ k, k < zs.length → 0 ≤ nth zs k ∧ nth zs k < 20 := fun k hk => by have := ris_all h6 k hk; omega
  have hm := maskT_lt (k := zs.length) hz
  exact ⟨hl, by omega, h3, h5, hz, Nat.lt_trans hm (by decide)⟩

end Go.Proofs.YtbnfogedmjjiaaaDoor
