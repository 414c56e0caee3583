/- Outages: which are valid: contracts of IsValidOutage, both sides. No condition but those typed. -/
import Derived.Test.YtbnfogedmjjiaaaGrpS
import Derived.Test.YtbnfogedmjjiaaaGA
import Derived.Test.YtbnfogedmjjiaaaCmp3
import Derived.Test.YtbnfogedmjjiaaaRch
import Derived.Deep.DeepCutAuto
namespace Go.Proofs.Ytbnfogedmjjiaaa
open Go.ChangeShapes Go.WideShapes Go.ChangeAt Go.RowKit

def ouP (ss : List ByteArray) (fs : List Q4) (u : Int) (ds : List Int) : Prop := netP ss fs ∧ (2 ≤ u ∧ u ≤ 20) ∧ ds.length = (rgL fs).length ∧ ∀ k, k < ds.length → 0 ≤ nth ds k ∧ nth ds k ≤ u
noncomputable def ouB (ss : List ByteArray) (fs : List Q4) (u : Int) (ds : List Int) : Bool := pb (ouP ss fs u ds)
end Go.Proofs.Ytbnfogedmjjiaaa
