/- The table of powers of ten, as Go's text lays it. No condition but those typed. -/
import Derived.Test.YteihdnjdpiejmabDoorNum
import Derived.Test.YteihdnjdpiejmabDoorShelf
namespace Go.Proofs.YteihdnjdpiejmabDoor
open Go.ChangeShapes Go.WideShapes Go.ChangeAt Go.RowKit
def Pow (w : World) : Prop := Lib.TabIs Tryd.prog w "internal/strconv.uint64pow10" .u64 Lib.pow10Tab
theorem powAt : Tryd.prog.globalNamed "internal/strconv.uint64pow10" = some 3 := by kernel_rfl
theorem Pow.lt {w : World} (h : Pow w) : 3 < w.heap.size :=
  World.block_lt_of_cell? w _ (Lib.TabIs.cell h powAt 0 (by rw [Lib.pow10Tab_length]; omega))
theorem var_belowP {P : Program} {B : Nat} {w w' : World} (hb : Below B w w') {name : String} {g : Nat} (hg : P.globalNamed name = some g) (hlt : g < B) : w'.var? P name = w.var? P name := by
  simp only [World.var?, hg, Option.bind_some, hb.block g hlt]
theorem Pow.over {w w' : World} (h : Pow w) (hb : Below w.heap.size w w') : Pow w' := by
  unfold Pow Lib.TabIs
  rw [var_belowP hb powAt h.lt]; exact h

end Go.Proofs.YteihdnjdpiejmabDoor
