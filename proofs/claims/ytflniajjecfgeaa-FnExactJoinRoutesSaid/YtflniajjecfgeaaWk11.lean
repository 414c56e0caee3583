/- Routes: the reverse of a route: a contract of the specification. No condition but those typed. -/
import Derived.Test.YtflniajjecfgeaaWk10
import Derived.Test.YtflniajjecfgeaaGB
import Derived.Deep.AppendLies
import Derived.Deep.RegionLaw
import Derived.OneCell
namespace Go.Proofs.Ytflniajjecfgeaa
open Go.ChangeShapes Go.WideShapes Go.ChangeAt Go.RowKit

theorem rrev_len (ss : List ByteArray) (fs : List Q4) (st : Int) (fl : List Int) : (rrevL ss fs st fl).length ≤ fl.length := by
  unfold rrevL; split
  · rw [List.length_reverse]; exact Nat.le_refl _
  · simp
theorem kept_mk {w W w3 : World} {o : Obj} {B E s n : Nat} {v : Value} {xs : List Value} {row : Option Nat} (h : w.ownsRow B E s v n xs) (e : W.heap = (w.alloc o).heap) (hg : W.grownBy w3 row) (hne : v.ownBlock ≠ row) : w3.ownsRow B E s v n xs :=
  (own_heapW e (h.alloc o)).kept hg (.inr hne)
end Go.Proofs.Ytflniajjecfgeaa
