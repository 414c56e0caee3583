/- The risk groups of a network: contracts of impl.RiskGroups, impl.groupMasks. No condition but those typed. -/
import Derived.Test.YtflniajjecfgeaaGreatDoorGrpP
import Derived.Test.YtflniajjecfgeaaGreatDoorRws
namespace Go.Proofs.YtflniajjecfgeaaGreatDoor
open Go.ChangeShapes Go.WideShapes Go.ChangeAt Go.RowKit

end Go.Proofs.YtflniajjecfgeaaGreatDoor
