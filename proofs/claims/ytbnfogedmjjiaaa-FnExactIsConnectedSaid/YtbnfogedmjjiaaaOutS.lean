/- Outages: which are valid: contracts of the specification. No condition but those typed. -/
import Derived.Test.YtbnfogedmjjiaaaOut
namespace Go.Proofs.Ytbnfogedmjjiaaa
open Go.ChangeShapes Go.WideShapes Go.ChangeAt Go.RowKit

end Go.Proofs.Ytbnfogedmjjiaaa
