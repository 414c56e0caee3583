/- Marks of two lists of ints: the first from one on. No condition but those typed. -/
import Derived.Test.YtlgkjidginibdaaDoorNtB
namespace Go.Proofs.YtlgkjidginibdaaDoor
open Go.ChangeShapes Go.WideShapes Go.ChangeAt Go.RowKit

theorem markInt1 (A : Option Addr) (n c : Nat) (zs : List Int) (w : World) {B : Nat} (ho : w.ownsRow B 3 1 (.slice A n c) n (zs.map (Value.int .i64))) (hn : n ≤ 1048576) :
    Calls Tryd.prog 17 #[.slice A n c, .int .i64 1] w fun e w' => e = .returned (.int .i64 ((1 + n : Nat) : Int)) ∧ Off (fun g => (Value.slice A n c).ownBlock = some g) w w' ∧ w'.ownsRow B 3 1 (.slice A n c) n ((marks 1 n).map (Value.int .i64)) :=
  markIntA9 A n c 1 zs w ho hn (Nat.le_refl _) (by omega)
theorem heldInt1 (A : Option Addr) (n c : Nat) (w : World) (hr : Rd w w.heap.size A ((marks 1 n).map (Value.int .i64))) (hn : n ≤ 1048576) :
    Calls Tryd.prog 18 #[.slice A n c, .int .i64 1] w fun e w' => e = .returned (.int .i64 ((1 + n : Nat) : Int)) ∧ w = w' :=
  heldInt9 A n c 1 w hr hn (by omega)
end Go.Proofs.YtlgkjidginibdaaDoor
