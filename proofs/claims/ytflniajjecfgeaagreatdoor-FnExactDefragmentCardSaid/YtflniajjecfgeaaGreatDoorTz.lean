/- Contract: math/bits.TrailingZeros, walked. Condition: its table holds what Go's text lays. -/
import Derived.Test.YtflniajjecfgeaaGreatDoorBits
import Derived.Shelf.Spec.TrailingZeros
import Derived.Lib.LaidTab
namespace Go.Proofs.YtflniajjecfgeaaGreatDoor
open Go.ChangeShapes Go.WideShapes Go.ChangeAt Go.RowKit

def tzTab : List Int := Lib.deBruijn64tab.map fun x : Nat => (x : Int)
/-- the table of math/bits is in place. -/
def Tab (w : World) : Prop := Lib.TabIs Tryz.prog w "math/bits.deBruijn64tab" .u8 tzTab
theorem tabAt : Tryz.prog.globalNamed "math/bits.deBruijn64tab" = some 2 := by kernel_rfl
theorem tzTab_len : tzTab.length = 64 := by decide
theorem Tab.lt {w : World} (h : Tab w) : 2 < w.heap.size :=
  World.block_lt_of_cell? w _ (Lib.TabIs.cell h tabAt 0 (by rw [tzTab_len]; omega))
theorem var_below {P : Program} {B : Nat} {w w' : World} (hb : Below B w w') {name : String} {g : Nat} (hg : P.globalNamed name = some g) (hlt : g < B) : w'.var? P name = w.var? P name := by
  simp only [World.var?, hg, Option.bind_some, hb.block g hlt]
theorem Tab.over {w w' : World} (h : Tab w) (hb : Below w.heap.size w w') : Tab w' := by
  unfold Tab Lib.TabIs
  rw [var_below hb tabAt h.lt]; exact h

set_option maxHeartbeats 1000000 in
theorem tz64_core (x k idx : Nat) (w : World) (hx0 : ((x : Int) == 0) = false)
    (key : IntKind.u64.wrap (bits BinOp.and IntKind.u64 (x : Int) (IntKind.u64.wrap (-(x : Int))) * 285870213051353865) / 288230376151711744 = (idx : Int))
    (hi : idx < 64) (hk : k < 64) (hcell : w.cell? ⟨2, idx, none⟩ = some (.int .u8 k)) :
    Calls Tryz.prog 141 #[.int .u64 x] w fun e w' => e = .returned (.int .i64 k) ∧ w' = w := by
  go_enter Tryz.func141, Tryz.ntmps141
  go_wp2_with (simp only [key])
  go_ret
  exact ⟨rfl, rfl⟩
theorem tz (x : Nat) (w : World) (hx : x < 18446744073709551616) (hx0 : x ≠ 0) (hT : Tab w) :
    Calls Tryz.prog 131 #[.int .u64 (x : Int)] w fun e w' => e = .returned (.int .i64 (Lib.ctz 64 x : Int)) ∧ w = w' := by
  have hlk := Lib.lowest_bit 64 x hx0 hx
  obtain ⟨hi, htab⟩ := Lib.deBruijn64_at _ hlk.2
  have hcell := Lib.TabIs.cell hT tabAt _ (by rw [tzTab_len]; exact hi)
  have e : tzTab.getD (2 ^ Lib.ctz 64 x * 285870213051353865 % 18446744073709551616 / 288230376151711744) 0 = (Lib.ctz 64 x : Int) := by
    have h2 := htab
    unfold tzTab
    rw [List.getD_eq_getElem?_getD] at h2 ⊢
    rw [List.getElem?_map]
    cases hg : Lib.deBruijn64tab[2 ^ Lib.ctz 64 x * 285870213051353865 % 18446744073709551616 / 288230376151711744]? with
    | none => rw [hg] at h2; simp at h2; simp [← h2]
    | some v => rw [hg] at h2; simp at h2; simp [h2]
  rw [e] at hcell
  have C := Lib.hid (tz64_core x _ _ w (by simp; omega) (tz64_key x _ hx hx0 hlk.1) hi hlk.2 hcell)
  have hw : IntKind.u64.wrap (x : Int) = (x : Int) := by rw [IntKind.wrap_u64]; omega
  clear e hcell hi htab hlk
  go_enter Tryz.func131, Tryz.ntmps131
  go_wp2_with fail
  refine C.out.mono ?_
  rintro e w' ⟨rfl, rfl⟩
  go_wp2
  go_ret
  exact ⟨rfl, rfl⟩
end Go.Proofs.YtflniajjecfgeaaGreatDoor
