/- Routes: the fibers of a walk, in memory of the call's own: a contract of the implementation. No condition but those typed. -/
import Derived.Test.YtlgkjidginibdaaDoorGB
namespace Go.Proofs.YtlgkjidginibdaaDoor
open Go.ChangeShapes Go.WideShapes Go.ChangeAt Go.RowKit

end Go.Proofs.YtlgkjidginibdaaDoor
