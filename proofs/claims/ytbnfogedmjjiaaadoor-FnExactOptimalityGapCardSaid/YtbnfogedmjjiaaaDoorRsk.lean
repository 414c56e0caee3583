/- Routes that share a risk group: contract of spec.l4Apart. No condition but those typed. -/
import Derived.Test.YtbnfogedmjjiaaaDoorCmp3
import Derived.Test.YtbnfogedmjjiaaaDoorFail
import Derived.Test.YtbnfogedmjjiaaaDoorGrpP
import Derived.Deep.DeepCutAuto
namespace Go.Proofs.YtbnfogedmjjiaaaDoor
open Go.ChangeShapes Go.WideShapes Go.ChangeAt Go.RowKit

noncomputable def rdV (ss : List ByteArray) (fs : List Q4) (st : Int) (xs : List Int) (st' : Int) (ys : List Int) : Bool := crB ss fs st xs st' ys && pb (apP fs xs ys)
noncomputable def rdR (ss : List ByteArray) (fs : List Q4) (st : Int) (xs : List Int) (st' : Int) (ys : List Int) : Value := .tuple #[.bool (rdV ss fs st xs st' ys), .bool (crB ss fs st xs st' ys)]
theorem rd_no {ss : List ByteArray} {fs : List Q4} {st st' : Int} {xs ys : List Int} (h : crB ss fs st xs st' ys = false) : (.tuple #[.bool false, .bool false] : Value) = rdR ss fs st xs st' ys := by unfold rdR rdV; rw [h]; rfl
theorem rd_yes {ss : List ByteArray} {fs : List Q4} {st st' : Int} {xs ys : List Int} (h : crB ss fs st xs st' ys = true) : (.tuple #[.bool (pb (apP fs xs ys)), .bool true] : Value) = rdR ss fs st xs st' ys := by unfold rdR rdV; rw [h]; rfl

end Go.Proofs.YtbnfogedmjjiaaaDoor
