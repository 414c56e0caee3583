/- The risk groups of a network: contracts of impl.RiskGroups, impl.groupMasks. No condition but those typed. -/
import Derived.Test.YtlmemmcdabhooaaDoorGrpP
import Derived.Test.YtlmemmcdabhooaaDoorRws
namespace Go.Proofs.YtlmemmcdabhooaaDoor
open Go.ChangeShapes Go.WideShapes Go.ChangeAt Go.RowKit

end Go.Proofs.YtlmemmcdabhooaaDoor
