/- Explanations of alarms: contracts of IsExplanation, both sides. No condition but those typed. -/
import Derived.Test.YtbnfogedmjjiaaaDoorEx
import Derived.Test.YtbnfogedmjjiaaaDoorGB
import Derived.OwnWalk
namespace Go.Proofs.YtbnfogedmjjiaaaDoor
open Go.ChangeShapes Go.WideShapes Go.ChangeAt Go.RowKit Go.Maps

/-- the outlook and the set of the lights that are down. -/
def OaP (V : Value) (L : List Int) (m : Int) (b : Bool) (w : World) (e : Ending) (w' : World) : Prop :=
  ∃ (U A : Option Addr) (M cU N c : Nat), e = .returned (.tuple #[.agg #[.slice U M cU, .slice A N c], .int .i64 m, .bool b]) ∧ Below w.heap.size w w' ∧ Hid (b = true → .slice U M cU = V ∧ N = L.length ∧ w'.ownsRow w.heap.size 3 1 (.slice A N c) N (L.map (Value.int .i64)))

end Go.Proofs.YtbnfogedmjjiaaaDoor
