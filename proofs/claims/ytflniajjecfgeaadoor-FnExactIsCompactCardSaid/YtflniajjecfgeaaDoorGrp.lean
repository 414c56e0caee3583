/- The risk groups of a network: contracts of impl.RiskGroups, impl.groupMasks. No condition but those typed. -/
import Derived.Test.YtflniajjecfgeaaDoorGrpP
import Derived.Test.YtflniajjecfgeaaDoorRws
namespace Go.Proofs.YtflniajjecfgeaaDoor
open Go.ChangeShapes Go.WideShapes Go.ChangeAt Go.RowKit

end Go.Proofs.YtflniajjecfgeaaDoor
