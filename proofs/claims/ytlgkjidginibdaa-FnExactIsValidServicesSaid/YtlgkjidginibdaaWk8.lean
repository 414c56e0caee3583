/- Routes: the fibers of a walk, in memory of the call's own: a contract of the implementation. No condition but those typed. -/
import Derived.Test.YtlgkjidginibdaaGB
namespace Go.Proofs.Ytlgkjidginibdaa
open Go.ChangeShapes Go.WideShapes Go.ChangeAt Go.RowKit

end Go.Proofs.Ytlgkjidginibdaa
