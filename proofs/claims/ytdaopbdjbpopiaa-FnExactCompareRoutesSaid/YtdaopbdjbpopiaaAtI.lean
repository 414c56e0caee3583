/- Contract: impl.FibersAt answers the plain list and word, in memory of the call's own. No condition but those typed. -/
import Derived.Test.YtdaopbdjbpopiaaAt
namespace Go.Proofs.Ytdaopbdjbpopiaa
open Go.ChangeShapes Go.WideShapes Go.ChangeAt Go.RowKit

theorem new_one1 (w : World) (E : TypeId) (u0 : Value) (n : Nat) (hn : w.heap.size = n) : ∀ (j : Nat) (u : Value), [u0][j]? = some u → (w.alloc (.cells #[u0] E)).cell? ((⟨n, 0, none⟩ : Addr).add j) = some u := by
  subst hn; exact new_one w E u0

end Go.Proofs.Ytdaopbdjbpopiaa
