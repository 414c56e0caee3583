/- The set of lights with some numbers: contracts of slices.IndexFunc at lights with the closure of setOf, and of setOf. No condition but those typed. -/
import Derived.Test.YtbnfogedmjjiaaaDoorOl
import Derived.Test.YtbnfogedmjjiaaaDoorDw
namespace Go.Proofs.YtbnfogedmjjiaaaDoor
open Go.ChangeShapes Go.WideShapes Go.ChangeAt Go.RowKit Go.Maps

end Go.Proofs.YtbnfogedmjjiaaaDoor
