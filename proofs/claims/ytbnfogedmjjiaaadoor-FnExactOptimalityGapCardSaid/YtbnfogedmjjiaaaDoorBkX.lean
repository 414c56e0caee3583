/- The law's helpers over a slice of Block, in the form that gen_l2.py asks. No condition but those typed. -/
import Derived.Test.YtbnfogedmjjiaaaDoorBkS
import Derived.Test.YtbnfogedmjjiaaaDoorGA
namespace Go.Proofs.YtbnfogedmjjiaaaDoor
open Go.ChangeShapes Go.WideShapes Go.ChangeAt Go.RowKit

theorem toBkX (A : Option Addr) (n c : Nat) (qs : List Q2) (w : World) (hn : qs.length = n) (hr : Rd w w.heap.size A (qs.flatMap Q2.cells)) (hsz : n ≤ 1048576) :
    Calls Tryd.prog 32 #[.slice A n c] w fun e w' => ∃ g, w.heap.size ≤ g ∧ e = .returned (.slice (some ⟨g, 0, none⟩) n n) ∧
      w'.ownsRow w.heap.size 125 2 (.slice (some ⟨g, 0, none⟩) n n) n (qs.flatMap Q2.cells) ∧ Below w.heap.size w w' :=
  (toBkS A n c qs w hn hr hsz).mono fun _ _ h => ⟨_, Nat.le_refl _, h⟩
theorem szBkX (A : Option Addr) (n c : Nat) (left : Int) (w : World) (hm : n ≤ maxLen) (hl0 : 0 ≤ left) (hl1 : left ≤ 1048576) :
    Calls Tryd.prog 30 #[.slice A n c, .int .i64 left] w fun e w' => ∃ v : Int, e = .returned (.int .i64 v) ∧ Below w.heap.size w w' ∧ -1 ≤ v ∧ v ≤ left ∧ (0 ≤ v → v + n ≤ left) :=
  (szBkS A n c left w hm hl0 hl1).mono fun _ _ ⟨v, h1, h2, h3⟩ => ⟨v, h1, by rw [← h2]; exact Below.refl _ _, h3⟩
end Go.Proofs.YtbnfogedmjjiaaaDoor
