/- Words of our own: a network, a number and a word as an answer that a law keeps in a box laid in a drawn region. No condition but those typed. -/
import Derived.Test.YtkpendpjdemknaaAfI
import Derived.Test.YtkpendpjdemknaaNtB
import Derived.Test.YtkpendpjdemknaaLtV
namespace Go.Proofs.Ytkpendpjdemknaa
open Go.ChangeShapes Go.WideShapes Go.ChangeAt Go.RowKit

/-- behind the region: the box with the network, the number, the word. -/
def NfR (w : World) (ss : List ByteArray) (fs : List Q4) (v : Int) (b : Bool) (s0 s1 s2 : Value) (w' : World) : Prop :=
  ∃ (A1 A2 : Option Addr) (N1 N2 d1 d2 gb : Nat), s0 = .pointer (some ⟨gb, 0, none⟩) ∧ s1 = .int .i64 v ∧ s2 = .bool b ∧ Hid (N1 = ss.length) ∧ Hid (N2 = fs.length) ∧
    Hid (w'.ownsRow w.heap.size 9 1 (.slice A1 N1 d1) N1 (ss.map Value.string)) ∧ Hid (w'.ownsRow w.heap.size 35 4 (.slice A2 N2 d2) N2 (fs.flatMap Q4.cells)) ∧
    Hid (w'.ownsRow w.heap.size 31 2 (.slice (some ⟨gb, 0, none⟩) 1 1) 1 [.slice A1 N1 d1, .slice A2 N2 d2]) ∧ Bel w w'
theorem afLF_short (ss : List ByteArray) (fs : List Q4) (f : Q4) : (afLF ss fs f).length ≤ 14 := by
  by_cases h : afP ss fs f
  · obtain ⟨_, b, _⟩ := af_yes h
    have h1 := h.1.2.1
    have h2 := h.2.2
    rw [b, afF_len]; omega
  · obtain ⟨_, b, _⟩ := af_no h
    rw [b]; exact Nat.zero_le _
theorem nbx {w X : World} (h : Below w.heap.size w X) : (X.alloc (Obj.cells #[.slice none 0 0, .slice none 0 0] 31)).ownsRow w.heap.size 31 2 (.slice (some ⟨X.heap.size, 0, none⟩) 1 1) 1 [.slice none 0 0, .slice none 0 0] := one_rowN X _ _ h.size
theorem nbxD {w X : World} (h : Below w.heap.size w X) : (X.alloc (Obj.cells #[.slice none 0 0, .slice none 0 0] 31)).drew.ownsRow w.heap.size 31 2 (.slice (some ⟨X.heap.size, 0, none⟩) 1 1) 1 [.slice none 0 0, .slice none 0 0] := one_rowN X _ _ h.size
theorem bA (w X : World) (o : Obj) (h : Below w.heap.size w X) : Below w.heap.size w (X.alloc o) := h.alloc h.size o
theorem bAD (w X : World) (o : Obj) (h : Below w.heap.size w X) : Below w.heap.size w (X.alloc o).drew := (h.alloc h.size o).drew
theorem nf_fin {w X : World} {ss : List ByteArray} {fs : List Q4} {v : Int} {bo : Bool} {A1 A2 : Option Addr} {N1 N2 d1 d2 b : Nat} (hB : X.ownsRow w.heap.size 31 2 (.slice (some ⟨b, 0, none⟩) 1 1) 1 [.slice none 0 0, .slice none 0 0]) (e1 : N1 = ss.length) (e2 : N2 = fs.length)
    (h1 : X.ownsRow w.heap.size 9 1 (.slice A1 N1 d1) N1 (ss.map Value.string)) (h2 : X.ownsRow w.heap.size 35 4 (.slice A2 N2 d2) N2 (fs.flatMap Q4.cells)) (hb : Below w.heap.size w X) :
    NfR w ss fs v bo (.pointer (some ⟨b, 0, none⟩)) (.int .i64 v) (.bool bo) ((X.setCell ⟨b, 0, none⟩ (.slice A1 N1 d1)).setCell ⟨b, 1, none⟩ (.slice A2 N2 d2)) := by
  have hoff : Off (fun g => g = b) X ((X.setCell ⟨b, 0, none⟩ (.slice A1 N1 d1)).setCell ⟨b, 1, none⟩ (.slice A2 N2 d2)) := (off1 _).trans (off1 _)
  have hge := (hB.lt b rfl).1
  refine ⟨A1, A2, N1, N2, d1, d2, b, rfl, rfl, rfl, Lib.hid e1, Lib.hid e2, Lib.hid (own_offV h1 hoff (fun g hg e => by subst e; exact own_type_apart h1 hB (by decide) _ hg rfl)), Lib.hid (own_offV h2 hoff (fun g hg e => by subst e; exact own_type_apart h2 hB (by decide) _ hg rfl)), Lib.hid ?_, Bel.of ?_⟩
  · have h9 := ((hB.stored 0 (.slice A1 N1 d1)).1.stored 1 (.slice A2 N2 d2)).1
    simpa using h9
  · exact (hb.setCell (p := ⟨b, 0, none⟩) hge _).setCell (p := ⟨b, 1, none⟩) hge _
theorem nf_fin2 {w X : World} {ss : List ByteArray} {fs : List Q4} {v : Int} {bo : Bool} {A1 A2 : Option Addr} {N1 N2 d1 d2 : Nat} (e1 : N1 = ss.length) (e2 : N2 = fs.length)
    (h1 : X.ownsRow w.heap.size 9 1 (.slice A1 N1 d1) N1 (ss.map Value.string)) (h2 : X.ownsRow w.heap.size 35 4 (.slice A2 N2 d2) N2 (fs.flatMap Q4.cells)) (hb : Below w.heap.size w X) :
    NfR w ss fs v bo (.pointer (some ⟨X.heap.size, 0, none⟩)) (.int .i64 v) (.bool bo) (X.alloc (Obj.cells #[.slice A1 N1 d1, .slice A2 N2 d2] 31)) :=
  ⟨A1, A2, N1, N2, d1, d2, _, rfl, rfl, rfl, Lib.hid e1, Lib.hid e2, Lib.hid (h1.alloc _), Lib.hid (h2.alloc _), Lib.hid (one_rowN X _ _ hb.size), Bel.of (hb.alloc hb.size _)⟩
theorem nfS {w X : World} {b : Nat} {xs : List Value} (x y : Value) (h : Below w.heap.size w X) (hB : X.ownsRow w.heap.size 31 2 (.slice (some ⟨b, 0, none⟩) 1 1) 1 xs) : Below w.heap.size w ((X.setCell ⟨b, 0, none⟩ x).setCell ⟨b, 1, none⟩ y) :=
  (h.setCell (p := ⟨b, 0, none⟩) (hB.lt b rfl).1 _).setCell (p := ⟨b, 1, none⟩) (hB.lt b rfl).1 _
theorem nfS2 {w X : World} (o : Obj) (x y : Value) (h : Below w.heap.size w X) : Below w.heap.size w (((X.alloc o).setCell ⟨X.heap.size, 0, none⟩ x).setCell ⟨X.heap.size, 1, none⟩ y) :=
  ((h.alloc h.size o).setCell (p := ⟨X.heap.size, 0, none⟩) h.size _).setCell (p := ⟨X.heap.size, 1, none⟩) h.size _
end Go.Proofs.Ytkpendpjdemknaa
