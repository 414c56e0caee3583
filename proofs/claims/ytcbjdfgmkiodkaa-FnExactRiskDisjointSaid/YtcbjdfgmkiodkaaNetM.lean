/- Plain words: which names, fibers and networks are valid. No condition. -/
import Derived.Test.YtcbjdfgmkiodkaaArg
namespace Go.Proofs.Ytcbjdfgmkiodkaa
open Go.RowKit

def letterP (c : UInt8) : Prop := 97 ≤ (c.toNat : Int) ∧ (c.toNat : Int) ≤ 122
def digitP (c : UInt8) : Prop := 48 ≤ (c.toNat : Int) ∧ (c.toNat : Int) ≤ 57
def signP (i : Nat) (c : UInt8) : Prop := letterP c ∨ (0 < i ∧ digitP c)
def nameP (s : ByteArray) : Prop := 1 ≤ s.size ∧ s.size ≤ 8 ∧ ∀ i (h : i < s.size), signP i s[i]
noncomputable def pb (p : Prop) : Bool := @decide p (Classical.propDecidable p)
theorem pb_true {p : Prop} (h : p) : pb p = true := by exact @decide_eq_true p (Classical.propDecidable p) h
theorem pb_false {p : Prop} (h : ¬ p) : pb p = false := by exact @decide_eq_false p (Classical.propDecidable p) h
theorem pb_iff {p : Prop} : pb p = true ↔ p := by exact @decide_eq_true_iff p (Classical.propDecidable p)
theorem of_pb {p : Prop} (h : pb p = true) : p := pb_iff.1 h
theorem of_npb {p : Prop} (h : pb p = false) : ¬ p := fun hp => by rw [pb_true hp] at h; cases h
theorem retb {b c : Bool} (h : b = c) : Ending.returned (.bool b) = .returned (.bool c) := by rw [h]
theorem reti {k : IntKind} {a b : Int} (h : a = b) : Ending.returned (.int k a) = .returned (.int k b) := by rw [h]

def lexLt (q p : Q4) : Prop := q.a < p.a ∨ (q.a = p.a ∧ (q.b < p.b ∨ (q.b = p.b ∧ (q.c < p.c ∨ (q.c = p.c ∧ q.d < p.d)))))
def fibP (q : Q4) (n : Nat) : Prop := 0 ≤ q.a ∧ q.a < q.b ∧ q.b < n ∧ 1 ≤ q.c ∧ q.c ≤ 5000 ∧ 0 ≤ q.d ∧ q.d ≤ 9
def nameAt (ss : List ByteArray) (i : Nat) : Prop := ∀ h : i < ss.length, nameP ss[i] ∧ ∀ j (hj : j < i), ss[j].toList ≠ ss[i].toList
def fibAt (fs : List Q4) (n i : Nat) : Prop := ∀ h : i < fs.length, fibP fs[i] n ∧ (∀ h0 : 0 < i, ¬ lexLt fs[i] fs[i - 1])
def netP (ss : List ByteArray) (fs : List Q4) : Prop :=
  (2 ≤ ss.length ∧ ss.length ≤ 8) ∧ fs.length ≤ 14 ∧ (∀ i, i < ss.length → nameAt ss i) ∧ ∀ i, i < fs.length → fibAt fs ss.length i
end Go.Proofs.Ytcbjdfgmkiodkaa
