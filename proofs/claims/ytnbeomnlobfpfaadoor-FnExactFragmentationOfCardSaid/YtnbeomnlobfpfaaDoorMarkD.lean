/- Contracts of the law's helpers that mark a slice of ints and ask whether it is still marked; ints compared, nil let in. No condition but those typed. -/
import Derived.Test.YtnbeomnlobfpfaaDoorFits
namespace Go.Proofs.YtnbeomnlobfpfaaDoor
open Go.ChangeShapes Go.WideShapes Go.ChangeAt Go.RowKit

end Go.Proofs.YtnbeomnlobfpfaaDoor
