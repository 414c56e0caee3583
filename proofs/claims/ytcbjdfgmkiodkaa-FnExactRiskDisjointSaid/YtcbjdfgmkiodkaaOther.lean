/- Contracts: impl.OtherEnd and spec.OtherEnd answer the same plain words. No condition but those typed. -/
import Derived.Test.YtcbjdfgmkiodkaaNetA
namespace Go.Proofs.Ytcbjdfgmkiodkaa
open Go.ChangeShapes Go.WideShapes Go.ChangeAt Go.RowKit

def acrI (q : Q4) (x : Int) : Int := if x = q.a then q.b else if x = q.b then q.a else 0
def acrB (q : Q4) (x : Int) : Bool := decide (x = q.a ∨ x = q.b)
def otherV (q : Q4) (x : Int) : Int := if x = q.a then q.b else if x = q.b then q.a else -1

set_option maxHeartbeats 1000000 in
theorem across_any (q : Q4) (x : Int) (w : World) :
    Calls Try.prog 255 #[cells4 q, .int .i64 x] w (RetP (.tuple #[.int .i64 (acrI q x), .bool (acrB q x)]) w) := by
  obtain ⟨a, b, c, d⟩ := q
  unfold cells4
  have HB := Lib.hid ((Below.refl w.heap.size w).alloc (Nat.le_refl _) (Obj.cells #[.int .i64 a, .int .i64 b, .int .i64 c, .int .i64 d] 172))
  by_cases h1 : x = a
  · subst h1
    have HR : Hid ((.tuple #[.int .i64 b, .bool true] : Value) = .tuple #[.int .i64 (acrI ⟨x, b, c, d⟩ x), .bool (acrB ⟨x, b, c, d⟩ x)]) := Lib.hid (by simp [acrI, acrB])
    go_enter Try.func255, Try.ntmps255
    go_wp2
    go_ret2
    exact retP HR.out HB.out
  · have q1 : (x == a) = false := by simpa using h1
    by_cases h2 : x = b
    · subst h2
      have HR : Hid ((.tuple #[.int .i64 a, .bool true] : Value) = .tuple #[.int .i64 (acrI ⟨a, x, c, d⟩ x), .bool (acrB ⟨a, x, c, d⟩ x)]) := Lib.hid (by simp [acrI, acrB, h1])
      clear h1
      go_enter Try.func255, Try.ntmps255
      go_wp2
      go_ret2
      exact retP HR.out HB.out
    · have q2 : (x == b) = false := by simpa using h2
      have HR : Hid ((.tuple #[.int .i64 0, .bool false] : Value) = .tuple #[.int .i64 (acrI ⟨a, b, c, d⟩ x), .bool (acrB ⟨a, b, c, d⟩ x)]) := Lib.hid (by simp [acrI, acrB, h1, h2])
      clear h1 h2
      go_enter Try.func255, Try.ntmps255
      go_wp2
      go_ret2
      exact retP HR.out HB.out

set_option maxHeartbeats 1000000 in
theorem l2Other_ {g1 g2 n1 n2 c1 c2 : Nat} {ss : List ByteArray} {fs : List Q4} {w : World} (h : NetAt g1 g2 n1 n2 c1 c2 ss fs w) (k : Nat) (hk : k < n2) (q : Q4) (hq : ∀ h : k < fs.length, fs[k] = q) (x : Int) :
    Calls Try.prog 222 #[.agg #[.slice (some ⟨g1, 0, none⟩) n1 c1, .slice (some ⟨g2, 0, none⟩) n2 c2], .int .i64 k, .int .i64 x] w fun e w' => e = .returned (.int .i64 (otherV q x)) ∧ Below w.heap.size w w' := by
  have HN := Lib.hid h
  have hks : k < fs.length := by have := h.ln2; omega
  have hq := hq hks
  clear h
  obtain ⟨a, b, c, d⟩ := q
  have HQ := Lib.hid hq
  clear hq
  by_cases h1 : x = a
  · subst h1
    have HR : Hid (b = otherV ⟨x, b, c, d⟩ x) := Lib.hid (by simp [otherV])
    have hb0 := (Below.refl w.heap.size w).alloc (Nat.le_refl _) (Obj.cells #[.slice (some ⟨g1, 0, none⟩) n1 c1, .slice (some ⟨g2, 0, none⟩) n2 c2] 32)
    have HB0 := Lib.hid hb0
    have hr := (HN.out.moved hb0).rd2.q4c hks
    rw [Nat.zero_add, HQ.out] at hr
    obtain ⟨hg, f0, f1, f2, f3⟩ := hr
    simp only at f0 f1 f2 f3
    have HB1 := Lib.hid (hb0.alloc (by simp) (Obj.cells #[.int .i64 x, .int .i64 b, .int .i64 c, .int .i64 d] 172))
    clear hb0
    go_enter Try.func222, Try.ntmps222
    go_wp2
    go_ret
    exact ⟨reti HR.out, HB1.out⟩
  · have q1 : (x == a) = false := by simpa using h1
    by_cases h2 : x = b
    · subst h2
      have HR : Hid (a = otherV ⟨a, x, c, d⟩ x) := Lib.hid (by simp [otherV, h1])
      clear h1
      have hb0 := (Below.refl w.heap.size w).alloc (Nat.le_refl _) (Obj.cells #[.slice (some ⟨g1, 0, none⟩) n1 c1, .slice (some ⟨g2, 0, none⟩) n2 c2] 32)
      have HB0 := Lib.hid hb0
      have hr := (HN.out.moved hb0).rd2.q4c hks
      rw [Nat.zero_add, HQ.out] at hr
      obtain ⟨hg, f0, f1, f2, f3⟩ := hr
      simp only at f0 f1 f2 f3
      have HB1 := Lib.hid (hb0.alloc (by simp) (Obj.cells #[.int .i64 a, .int .i64 x, .int .i64 c, .int .i64 d] 172))
      clear hb0
      go_enter Try.func222, Try.ntmps222
      go_wp2
      go_ret
      exact ⟨reti HR.out, HB1.out⟩
    · have q2 : (x == b) = false := by simpa using h2
      have HR : Hid (-1 = otherV ⟨a, b, c, d⟩ x) := Lib.hid (by simp [otherV, h1, h2])
      clear h1 h2
      have hb0 := (Below.refl w.heap.size w).alloc (Nat.le_refl _) (Obj.cells #[.slice (some ⟨g1, 0, none⟩) n1 c1, .slice (some ⟨g2, 0, none⟩) n2 c2] 32)
      have HB0 := Lib.hid hb0
      have hr := (HN.out.moved hb0).rd2.q4c hks
      rw [Nat.zero_add, HQ.out] at hr
      obtain ⟨hg, f0, f1, f2, f3⟩ := hr
      simp only at f0 f1 f2 f3
      have HB1 := Lib.hid (hb0.alloc (by simp) (Obj.cells #[.int .i64 a, .int .i64 b, .int .i64 c, .int .i64 d] 172))
      clear hb0
      go_enter Try.func222, Try.ntmps222
      go_wp2
      go_ret
      exact ⟨reti HR.out, HB1.out⟩

theorem isFib_yes {g1 g2 n1 n2 c1 c2 : Nat} (i : Int) (w : World) (h0 : 0 ≤ i) (h1 : i < n2) :
    Calls Try.prog 241 #[.agg #[.slice (some ⟨g1, 0, none⟩) n1 c1, .slice (some ⟨g2, 0, none⟩) n2 c2], .int .i64 i] w fun e w' => e = .returned (.bool true) ∧ Below w.heap.size w w' := by
  have HB := Lib.hid ((Below.refl w.heap.size w).alloc (Nat.le_refl _) (Obj.cells #[.slice (some ⟨g1, 0, none⟩) n1 c1, .slice (some ⟨g2, 0, none⟩) n2 c2] 32))
  go_enter Try.func241, Try.ntmps241
  go_wp2
  go_ret
  exact ⟨rfl, HB.out⟩
theorem isFib_no {g1 g2 n1 n2 c1 c2 : Nat} (i : Int) (w : World) (h : i < 0 ∨ n2 ≤ i) :
    Calls Try.prog 241 #[.agg #[.slice (some ⟨g1, 0, none⟩) n1 c1, .slice (some ⟨g2, 0, none⟩) n2 c2], .int .i64 i] w fun e w' => e = .returned (.bool false) ∧ Below w.heap.size w w' := by
  have HB := Lib.hid ((Below.refl w.heap.size w).alloc (Nat.le_refl _) (Obj.cells #[.slice (some ⟨g1, 0, none⟩) n1 c1, .slice (some ⟨g2, 0, none⟩) n2 c2] 32))
  by_cases h0 : i < 0
  · clear h
    go_enter Try.func241, Try.ntmps241
    go_wp2
    go_ret
    exact ⟨rfl, HB.out⟩
  · have h1 : decide (i < (n2 : Int)) = false := decide_eq_false (by omega)
    have h2 : 0 ≤ i := by omega
    clear h h0
    go_enter Try.func241, Try.ntmps241
    go_wp2
    go_ret
    exact ⟨rfl, HB.out⟩

def fibI (fs : List Q4) (i : Int) : Q4 := fs.getD i.toNat ⟨0, 0, 0, 0⟩
def otherP (ss : List ByteArray) (fs : List Q4) (i x : Int) : Prop := netP ss fs ∧ (0 ≤ i ∧ i < fs.length) ∧ (x = (fibI fs i).a ∨ x = (fibI fs i).b)
noncomputable def otherB (ss : List ByteArray) (fs : List Q4) (i x : Int) : Bool := pb (otherP ss fs i x)
noncomputable def otherI (ss : List ByteArray) (fs : List Q4) (i x : Int) : Int := if otherB ss fs i x then acrI (fibI fs i) x else 0
noncomputable def otherR (ss : List ByteArray) (fs : List Q4) (i x : Int) : Value := .tuple #[.int .i64 (otherI ss fs i x), .bool (otherB ss fs i x)]
theorem other_no {ss : List ByteArray} {fs : List Q4} {i x : Int} (h : ¬ otherP ss fs i x) : (.tuple #[.int .i64 0, .bool false] : Value) = otherR ss fs i x := by
  unfold otherR otherI otherB; rw [pb_false h]; rfl
theorem other_yes {ss : List ByteArray} {fs : List Q4} {i x : Int} (h : otherP ss fs i x) : (.tuple #[.int .i64 (acrI (fibI fs i) x), .bool true] : Value) = otherR ss fs i x := by
  unfold otherR otherI otherB; rw [pb_true h]; rfl
theorem other_eq {q : Q4} {x : Int} (h : x = q.a ∨ x = q.b) : otherV q x = acrI q x := by
  unfold otherV acrI
  by_cases h1 : x = q.a
  · rw [if_pos h1, if_pos h1]
  · rw [if_neg h1, if_neg h1]
    rcases h with h | h
    · exact absurd h h1
    · rw [if_pos h, if_pos h]

end Go.Proofs.Ytcbjdfgmkiodkaa
