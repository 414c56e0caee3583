/- Whether two services are compatible: contracts of both sides. No condition but those typed. -/
import Derived.Test.YtlgkjidginibdaaDoorScK
import Derived.Test.YtlgkjidginibdaaDoorScJ
import Derived.Test.YtlgkjidginibdaaDoorScS
namespace Go.Proofs.YtlgkjidginibdaaDoor
open Go.ChangeShapes Go.WideShapes Go.ChangeAt Go.RowKit


noncomputable def acB (ss : List ByteArray) (fs : List Q4) (d e : SvD) : Bool := pb (netP ss fs) && (pb (svP ss fs d) && pb (svP ss fs e))
noncomputable def acV (ss : List ByteArray) (fs : List Q4) (d e : SvD) : Bool := acB ss fs d e && coD fs d e
noncomputable def acR (ss : List ByteArray) (fs : List Q4) (d e : SvD) : Value := .tuple #[.bool (acV ss fs d e), .bool (acB ss fs d e)]
theorem ac_no {ss : List ByteArray} {fs : List Q4} {d e : SvD} (h : acB ss fs d e = false) : (.tuple #[.bool false, .bool false] : Value) = acR ss fs d e := by unfold acR acV; rw [h]; rfl
theorem ac_yes {ss : List ByteArray} {fs : List Q4} {d e : SvD} (h : acB ss fs d e = true) : (.tuple #[.bool (coD fs d e), .bool true] : Value) = acR ss fs d e := by unfold acR acV; rw [h]; rfl
end Go.Proofs.YtlgkjidginibdaaDoor
