/- Contracts: impl.OtherEnd and spec.OtherEnd answer the same plain words. No condition but those typed. -/
import Derived.Test.YthmmhhoaplbfgaaNetA
namespace Go.Proofs.Ythmmhhoaplbfgaa
open Go.ChangeShapes Go.WideShapes Go.ChangeAt Go.RowKit

def acrI (q : Q4) (x : Int) : Int := if x = q.a then q.b else if x = q.b then q.a else 0
def acrB (q : Q4) (x : Int) : Bool := decide (x = q.a ∨ x = q.b)
def otherV (q : Q4) (x : Int) : Int := if x = q.a then q.b else if x = q.b then q.a else -1

set_option maxHeartbeats 1000000 in
theorem across_any (q : Q4) (x : Int) (w : World) :
    Calls Try.prog 94 #[cells4 q, .int .i64 x] w (RetP (.tuple #[.int .i64 (acrI q x), .bool (acrB q x)]) w) := by
  obtain ⟨a, b, c, d⟩ := q
  unfold cells4
  have HB := Lib.hid ((Below.refl w.heap.size w).alloc (Nat.le_refl _) (Obj.cells #[.int .i64 a, .int .i64 b, .int .i64 c, .int .i64 d] 29))
  by_cases h1 : x = a
  · subst h1
    have HR : Hid ((.tuple #[.int .i64 b, .bool true] : Value) = .tuple #[.int .i64 (acrI ⟨x, b, c, d⟩ x), .bool (acrB ⟨x, b, c, d⟩ x)]) := Lib.hid (by simp [acrI, acrB])
    go_enter Try.func94, Try.ntmps94
    go_wp2
    go_ret2
    exact retP HR.out HB.out
  · have q1 : (x == a) = false := by simpa using h1
    by_cases h2 : x = b
    · subst h2
      have HR : Hid ((.tuple #[.int .i64 a, .bool true] : Value) = .tuple #[.int .i64 (acrI ⟨a, x, c, d⟩ x), .bool (acrB ⟨a, x, c, d⟩ x)]) := Lib.hid (by simp [acrI, acrB, h1])
      clear h1
      go_enter Try.func94, Try.ntmps94
      go_wp2
      go_ret2
      exact retP HR.out HB.out
    · have q2 : (x == b) = false := by simpa using h2
      have HR : Hid ((.tuple #[.int .i64 0, .bool false] : Value) = .tuple #[.int .i64 (acrI ⟨a, b, c, d⟩ x), .bool (acrB ⟨a, b, c, d⟩ x)]) := Lib.hid (by simp [acrI, acrB, h1, h2])
      clear h1 h2
      go_enter Try.func94, Try.ntmps94
      go_wp2
      go_ret2
      exact retP HR.out HB.out

set_option maxHeartbeats 1000000 in
theorem l2Other_ {g1 g2 n1 n2 c1 c2 : Nat} {ss : List ByteArray} {fs : List Q4} {w : World} (h : NetAt g1 g2 n1 n2 c1 c2 ss fs w) (k : Nat) (hk : k < n2) (q : Q4) (hq : ∀ h : k < fs.length, fs[k] = q) (x : Int) :
    Calls Try.prog 93 #[.agg #[.slice (some ⟨g1, 0, none⟩) n1 c1, .slice (some ⟨g2, 0, none⟩) n2 c2], .int .i64 k, .int .i64 x] w fun e w' => e = .returned (.int .i64 (otherV q x)) ∧ Below w.heap.size w w' := by
  have HN := Lib.hid h
  have hks : k < fs.length := by have := h.ln2; omega
  have hq := hq hks
  clear h
  obtain ⟨a, b, c, d⟩ := q
  have HQ := Lib.hid hq
  clear hq
  by_cases h1 : x = a
  · subst h1
    have HR : Hid (b = otherV ⟨x, b, c, d⟩ x) := Lib.hid (by simp [otherV])
    have hb0 := (Below.refl w.heap.size w).alloc (Nat.le_refl _) (Obj.cells #[.slice (some ⟨g1, 0, none⟩) n1 c1, .slice (some ⟨g2, 0, none⟩) n2 c2] 27)
    have HB0 := Lib.hid hb0
    have hr := (HN.out.moved hb0).rd2.q4c hks
    rw [Nat.zero_add, HQ.out] at hr
    obtain ⟨hg, f0, f1, f2, f3⟩ := hr
    simp only at f0 f1 f2 f3
    have HB1 := Lib.hid (hb0.alloc (by simp) (Obj.cells #[.int .i64 x, .int .i64 b, .int .i64 c, .int .i64 d] 29))
    clear hb0
    go_enter Try.func93, Try.ntmps93
    go_wp2
    go_ret
    exact ⟨reti HR.out, HB1.out⟩
  · have q1 : (x == a) = false := by simpa using h1
    by_cases h2 : x = b
    · subst h2
      have HR : Hid (a = otherV ⟨a, x, c, d⟩ x) := Lib.hid (by simp [otherV, h1])
      clear h1
      have hb0 := (Below.refl w.heap.size w).alloc (Nat.le_refl _) (Obj.cells #[.slice (some ⟨g1, 0, none⟩) n1 c1, .slice (some ⟨g2, 0, none⟩) n2 c2] 27)
      have HB0 := Lib.hid hb0
      have hr := (HN.out.moved hb0).rd2.q4c hks
      rw [Nat.zero_add, HQ.out] at hr
      obtain ⟨hg, f0, f1, f2, f3⟩ := hr
      simp only at f0 f1 f2 f3
      have HB1 := Lib.hid (hb0.alloc (by simp) (Obj.cells #[.int .i64 a, .int .i64 x, .int .i64 c, .int .i64 d] 29))
      clear hb0
      go_enter Try.func93, Try.ntmps93
      go_wp2
      go_ret
      exact ⟨reti HR.out, HB1.out⟩
    · have q2 : (x == b) = false := by simpa using h2
      have HR : Hid (-1 = otherV ⟨a, b, c, d⟩ x) := Lib.hid (by simp [otherV, h1, h2])
      clear h1 h2
      have hb0 := (Below.refl w.heap.size w).alloc (Nat.le_refl _) (Obj.cells #[.slice (some ⟨g1, 0, none⟩) n1 c1, .slice (some ⟨g2, 0, none⟩) n2 c2] 27)
      have HB0 := Lib.hid hb0
      have hr := (HN.out.moved hb0).rd2.q4c hks
      rw [Nat.zero_add, HQ.out] at hr
      obtain ⟨hg, f0, f1, f2, f3⟩ := hr
      simp only at f0 f1 f2 f3
      have HB1 := Lib.hid (hb0.alloc (by simp) (Obj.cells #[.int .i64 a, .int .i64 b, .int .i64 c, .int .i64 d] 29))
      clear hb0
      go_enter Try.func93, Try.ntmps93
      go_wp2
      go_ret
      exact ⟨reti HR.out, HB1.out⟩

theorem isFib_yes {g1 g2 n1 n2 c1 c2 : Nat} (i : Int) (w : World) (h0 : 0 ≤ i) (h1 : i < n2) :
    Calls Try.prog 65 #[.agg #[.slice (some ⟨g1, 0, none⟩) n1 c1, .slice (some ⟨g2, 0, none⟩) n2 c2], .int .i64 i] w fun e w' => e = .returned (.bool true) ∧ Below w.heap.size w w' := by
  have HB := Lib.hid ((Below.refl w.heap.size w).alloc (Nat.le_refl _) (Obj.cells #[.slice (some ⟨g1, 0, none⟩) n1 c1, .slice (some ⟨g2, 0, none⟩) n2 c2] 27))
  go_enter Try.func65, Try.ntmps65
  go_wp2
  go_ret
  exact ⟨rfl, HB.out⟩
theorem isFib_no {g1 g2 n1 n2 c1 c2 : Nat} (i : Int) (w : World) (h : i < 0 ∨ n2 ≤ i) :
    Calls Try.prog 65 #[.agg #[.slice (some ⟨g1, 0, none⟩) n1 c1, .slice (some ⟨g2, 0, none⟩) n2 c2], .int .i64 i] w fun e w' => e = .returned (.bool false) ∧ Below w.heap.size w w' := by
  have HB := Lib.hid ((Below.refl w.heap.size w).alloc (Nat.le_refl _) (Obj.cells #[.slice (some ⟨g1, 0, none⟩) n1 c1, .slice (some ⟨g2, 0, none⟩) n2 c2] 27))
  by_cases h0 : i < 0
  · clear h
    go_enter Try.func65, Try.ntmps65
    go_wp2
    go_ret
    exact ⟨rfl, HB.out⟩
  · have h1 : decide (i < (n2 : Int)) = false := decide_eq_false (by omega)
    have h2 : 0 ≤ i := by omega
    clear h h0
    go_enter Try.func65, Try.ntmps65
    go_wp2
    go_ret
    exact ⟨rfl, HB.out⟩

def fibI (fs : List Q4) (i : Int) : Q4 := fs.getD i.toNat ⟨0, 0, 0, 0⟩
def otherP (ss : List ByteArray) (fs : List Q4) (i x : Int) : Prop := netP ss fs ∧ (0 ≤ i ∧ i < fs.length) ∧ (x = (fibI fs i).a ∨ x = (fibI fs i).b)
noncomputable def otherB (ss : List ByteArray) (fs : List Q4) (i x : Int) : Bool := pb (otherP ss fs i x)
noncomputable def otherI (ss : List ByteArray) (fs : List Q4) (i x : Int) : Int := if otherB ss fs i x then acrI (fibI fs i) x else 0
noncomputable def otherR (ss : List ByteArray) (fs : List Q4) (i x : Int) : Value := .tuple #[.int .i64 (otherI ss fs i x), .bool (otherB ss fs i x)]
theorem other_no {ss : List ByteArray} {fs : List Q4} {i x : Int} (h : ¬ otherP ss fs i x) : (.tuple #[.int .i64 0, .bool false] : Value) = otherR ss fs i x := by
  unfold otherR otherI otherB; rw [pb_false h]; rfl
theorem other_yes {ss : List ByteArray} {fs : List Q4} {i x : Int} (h : otherP ss fs i x) : (.tuple #[.int .i64 (acrI (fibI fs i) x), .bool true] : Value) = otherR ss fs i x := by
  unfold otherR otherI otherB; rw [pb_true h]; rfl
theorem other_eq {q : Q4} {x : Int} (h : x = q.a ∨ x = q.b) : otherV q x = acrI q x := by
  unfold otherV acrI
  by_cases h1 : x = q.a
  · rw [if_pos h1, if_pos h1]
  · rw [if_neg h1, if_neg h1]
    rcases h with h | h
    · exact absurd h h1
    · rw [if_pos h, if_pos h]

set_option maxRecDepth 100000 in
set_option maxHeartbeats 2000000 in
theorem implOther {g1 g2 n1 n2 c1 c2 : Nat} {ss : List ByteArray} {fs : List Q4} {w : World} (h : NetAt g1 g2 n1 n2 c1 c2 ss fs w) (i x : Int) :
    Calls Try.prog 48 #[.agg #[.slice (some ⟨g1, 0, none⟩) n1 c1, .slice (some ⟨g2, 0, none⟩) n2 c2], .int .i64 i, .int .i64 x] w (RetP (otherR ss fs i x) w) := by
  have hl2 := h.ln2
  have HN := Lib.hid h; clear h
  by_cases hp : netP ss fs
  · have HB : Hid (pb (netP ss fs) = true) := Lib.hid (pb_true hp)
    by_cases hi : 0 ≤ i ∧ i < n2
    · obtain ⟨hi0, hi1⟩ := hi
      obtain ⟨k, rfl⟩ := Int.eq_ofNat_of_zero_le hi0
      have hks : k < fs.length := by omega
      obtain ⟨⟨a, b, c, d⟩, hq⟩ : ∃ q, fs[k]'hks = q := ⟨_, rfl⟩
      have hfi : fibI fs (k : Int) = ⟨a, b, c, d⟩ := by
        unfold fibI
        rw [List.getD_eq_getElem?_getD, show ((k : Int)).toNat = k from by omega, List.getElem?_eq_getElem hks, hq]; rfl
      have HR : Hid ((.tuple #[.int .i64 (acrI ⟨a, b, c, d⟩ x), .bool (acrB ⟨a, b, c, d⟩ x)] : Value) = otherR ss fs k x) := Lib.hid (by
        by_cases hx : x = a ∨ x = b
        · rw [← other_yes (i := (k : Int)) (x := x) ⟨hp, ⟨by omega, by omega⟩, by rw [hfi]; exact hx⟩, hfi]
          unfold acrB; rw [decide_eq_true hx]
        · rw [← other_no (i := (k : Int)) (x := x) (fun h => hx (by have := h.2.2; rw [hfi] at this; exact this))]
          have e1 : ¬ x = a := fun h => hx (.inl h)
          have e2 : ¬ x = b := fun h => hx (.inr h)
          simp [acrI, acrB, e1, e2])
      have HQ := Lib.hid hq
      clear hq hfi hp
      have CIF := Lib.hid (fun W => isFib_yes (g1 := g1) (g2 := g2) (n1 := n1) (n2 := n2) (c1 := c1) (c2 := c2) (k : Int) W hi0 hi1)
      obtain ⟨v1, hv1⟩ : ∃ v, acrI ⟨a, b, c, d⟩ x = v := ⟨_, rfl⟩
      obtain ⟨v2, hv2⟩ : ∃ v, acrB ⟨a, b, c, d⟩ x = v := ⟨_, rfl⟩
      have hca := fun W => across_any ⟨a, b, c, d⟩ x W
      unfold cells4 at hca
      simp only [hv1, hv2] at hca HR
      have CA := Lib.hid hca
      clear hv1 hv2 hca hl2
      go_enter Try.func48, Try.ntmps48
      go_wp2_with fail
      obtain ⟨W0, hW0⟩ : ∃ W0, (w.alloc (Obj.cells #[.slice (some ⟨g1, 0, none⟩) n1 c1, .slice (some ⟨g2, 0, none⟩) n2 c2] 27)) = W0 := ⟨_, rfl⟩
      have hk0 : W0.cell? ⟨w.heap.size, 0, none⟩ = some (.slice (some ⟨g1, 0, none⟩) n1 c1) := by rw [← hW0]; simp [go_sem]
      have hk1 : W0.cell? ⟨w.heap.size, 1, none⟩ = some (.slice (some ⟨g2, 0, none⟩) n2 c2) := by rw [← hW0]; simp [go_sem]
      have hz0 : w.heap.size < W0.heap.size := by rw [← hW0]; simp
      have HB0 := Lib.hid ((Below.refl w.heap.size w).alloc (Nat.le_refl _) (Obj.cells #[.slice (some ⟨g1, 0, none⟩) n1 c1, .slice (some ⟨g2, 0, none⟩) n2 c2] 27))
      rw [hW0] at HB0 ⊢
      clear hW0
      have HN0 := Lib.hid (HN.out.moved HB0.out)
      refine (implNet_ HN0.out).mono ?_
      rintro e w1 ⟨rfl, hb1⟩
      rw [HB.out]
      have k0 := (hb1.cell (p := ⟨w.heap.size, 0, none⟩) hz0).trans hk0
      have k1 := (hb1.cell (p := ⟨w.heap.size, 1, none⟩) hz0).trans hk1
      have hbx : w.heap.size < w1.heap.size := Nat.lt_of_lt_of_le hz0 hb1.size
      have HN1 := Lib.hid (HN0.out.moved hb1)
      have hB1 := Lib.hid (HB0.out.trans (hb1.mono HB0.out.size))
      clear hk0 hk1 hz0 hb1 HN0 HB0
      go_wp2_with fail
      refine (CIF.out _).mono ?_
      rintro e w2 ⟨rfl, hb2⟩
      have k0' := (hb2.cell (p := ⟨w.heap.size, 0, none⟩) hbx).trans k0
      have k1' := (hb2.cell (p := ⟨w.heap.size, 1, none⟩) hbx).trans k1
      clear k0 k1
      have hr := (HN1.out.moved hb2).rd2.q4c hks
      rw [Nat.zero_add, HQ.out] at hr
      obtain ⟨hg, f0, f1, f2, f3⟩ := hr
      simp only at f0 f1 f2 f3
      have HB2 := Lib.hid (hB1.out.trans (hb2.mono hB1.out.size))
      clear hb2
      go_wp2_with fail
      refine (CA.out _).mono ?_
      rintro e w3 ⟨rfl, hb3⟩
      have HB3 := Lib.hid (HB2.out.trans (hb3.mono HB2.out.size))
      clear hb3
      go_wp2
      go_ret2
      exact retP HR.out HB3.out
    · have HR := Lib.hid (other_no (ss := ss) (fs := fs) (i := i) (x := x) (fun h => hi (by have := h.2.1; omega)))
      have CIF := Lib.hid (fun W => isFib_no (g1 := g1) (g2 := g2) (n1 := n1) (n2 := n2) (c1 := c1) (c2 := c2) i W (by omega))
      clear hp hi hl2
      go_enter Try.func48, Try.ntmps48
      go_wp2_with fail
      obtain ⟨W0, hW0⟩ : ∃ W0, (w.alloc (Obj.cells #[.slice (some ⟨g1, 0, none⟩) n1 c1, .slice (some ⟨g2, 0, none⟩) n2 c2] 27)) = W0 := ⟨_, rfl⟩
      have hk0 : W0.cell? ⟨w.heap.size, 0, none⟩ = some (.slice (some ⟨g1, 0, none⟩) n1 c1) := by rw [← hW0]; simp [go_sem]
      have hk1 : W0.cell? ⟨w.heap.size, 1, none⟩ = some (.slice (some ⟨g2, 0, none⟩) n2 c2) := by rw [← hW0]; simp [go_sem]
      have hz0 : w.heap.size < W0.heap.size := by rw [← hW0]; simp
      have HB0 := Lib.hid ((Below.refl w.heap.size w).alloc (Nat.le_refl _) (Obj.cells #[.slice (some ⟨g1, 0, none⟩) n1 c1, .slice (some ⟨g2, 0, none⟩) n2 c2] 27))
      rw [hW0] at HB0 ⊢
      clear hW0
      have HN0 := Lib.hid (HN.out.moved HB0.out)
      refine (implNet_ HN0.out).mono ?_
      rintro e w1 ⟨rfl, hb1⟩
      rw [HB.out]
      have k0 := (hb1.cell (p := ⟨w.heap.size, 0, none⟩) hz0).trans hk0
      have k1 := (hb1.cell (p := ⟨w.heap.size, 1, none⟩) hz0).trans hk1
      have hbx : w.heap.size < w1.heap.size := Nat.lt_of_lt_of_le hz0 hb1.size
      have HN1 := Lib.hid (HN0.out.moved hb1)
      have hB1 := Lib.hid (HB0.out.trans (hb1.mono HB0.out.size))
      clear hk0 hk1 hz0 hb1 HN0 HB0
      go_wp2_with fail
      refine (CIF.out _).mono ?_
      rintro e w2 ⟨rfl, hb2⟩
      have HB2 := Lib.hid (hB1.out.trans (hb2.mono hB1.out.size))
      clear hb2
      go_wp2
      go_ret2
      exact retP HR.out HB2.out
  · have HB : Hid (pb (netP ss fs) = false) := Lib.hid (pb_false hp)
    have HR := Lib.hid (other_no (ss := ss) (fs := fs) (i := i) (x := x) fun h => hp h.1)
    clear hp hl2
    go_enter Try.func48, Try.ntmps48
    go_wp2_with fail
    obtain ⟨W0, hW0⟩ : ∃ W0, (w.alloc (Obj.cells #[.slice (some ⟨g1, 0, none⟩) n1 c1, .slice (some ⟨g2, 0, none⟩) n2 c2] 27)) = W0 := ⟨_, rfl⟩
    have hk0 : W0.cell? ⟨w.heap.size, 0, none⟩ = some (.slice (some ⟨g1, 0, none⟩) n1 c1) := by rw [← hW0]; simp [go_sem]
    have hk1 : W0.cell? ⟨w.heap.size, 1, none⟩ = some (.slice (some ⟨g2, 0, none⟩) n2 c2) := by rw [← hW0]; simp [go_sem]
    have hz0 : w.heap.size < W0.heap.size := by rw [← hW0]; simp
    have HB0 := Lib.hid ((Below.refl w.heap.size w).alloc (Nat.le_refl _) (Obj.cells #[.slice (some ⟨g1, 0, none⟩) n1 c1, .slice (some ⟨g2, 0, none⟩) n2 c2] 27))
    rw [hW0] at HB0 ⊢
    clear hW0
    have HN0 := Lib.hid (HN.out.moved HB0.out)
    refine (implNet_ HN0.out).mono ?_
    rintro e w1 ⟨rfl, hb1⟩
    rw [HB.out]
    have k0 := (hb1.cell (p := ⟨w.heap.size, 0, none⟩) hz0).trans hk0
    have k1 := (hb1.cell (p := ⟨w.heap.size, 1, none⟩) hz0).trans hk1
    have hbx : w.heap.size < w1.heap.size := Nat.lt_of_lt_of_le hz0 hb1.size
    have HN1 := Lib.hid (HN0.out.moved hb1)
    have hB1 := Lib.hid (HB0.out.trans (hb1.mono HB0.out.size))
    clear hk0 hk1 hz0 hb1 HN0 HB0
    go_wp2
    go_ret2
    exact retP HR.out hB1.out

set_option maxRecDepth 100000 in
set_option maxHeartbeats 2000000 in
theorem specOther {g1 g2 n1 n2 c1 c2 : Nat} {ss : List ByteArray} {fs : List Q4} {w : World} (h : NetAt g1 g2 n1 n2 c1 c2 ss fs w) (i x : Int) :
    Calls Try.prog 47 #[.agg #[.slice (some ⟨g1, 0, none⟩) n1 c1, .slice (some ⟨g2, 0, none⟩) n2 c2], .int .i64 i, .int .i64 x] w (RetP (otherR ss fs i x) w) := by
  have hl2 := h.ln2
  have hl1 := h.ln1
  have hsm1 := h.sm1
  have hsm2 := h.sm2
  have HN := Lib.hid h; clear h
  by_cases hp : netP ss fs
  · have HB : Hid (pb (netP ss fs) = true) := Lib.hid (pb_true hp)
    have hn14 : 2 ≤ n1 := by have := hp.1; omega
    by_cases hi : 0 ≤ i ∧ i < n2
    · obtain ⟨hi0, hi1⟩ := hi
      obtain ⟨k, rfl⟩ := Int.eq_ofNat_of_zero_le hi0
      have hks : k < fs.length := by omega
      obtain ⟨⟨a, b, c, d⟩, hq⟩ : ∃ q, fs[k]'hks = q := ⟨_, rfl⟩
      have hfi : fibI fs (k : Int) = ⟨a, b, c, d⟩ := by
        unfold fibI
        rw [List.getD_eq_getElem?_getD, show ((k : Int)).toNat = k from by omega, List.getElem?_eq_getElem hks, hq]; rfl
      have hfp := (hp.2.2.2 k hks hks).1
      rw [hq, hl1] at hfp
      obtain ⟨p1, p2, p3, _⟩ := hfp
      simp only at p1 p2 p3
      have CI1 := Lib.hid (fun W => in_yes (k : Int) 0 ((n2 : Int) - 1) W (by omega) (by omega))
      by_cases hx : 0 ≤ x ∧ x ≤ (n1 : Int) - 1
      · have CI2 := Lib.hid (fun W => in_yes x 0 ((n1 : Int) - 1) W hx.1 hx.2)
        obtain ⟨hx0, hx1⟩ := hx
        have HOT : Hid (∀ W, NetAt g1 g2 n1 n2 c1 c2 ss fs W → Calls Try.prog 93 #[.agg #[.slice (some ⟨g1, 0, none⟩) n1 c1, .slice (some ⟨g2, 0, none⟩) n2 c2], .int .i64 k, .int .i64 x] W fun e w' => e = .returned (.int .i64 (otherV ⟨a, b, c, d⟩ x)) ∧ Below W.heap.size W w') := Lib.hid fun W hW => l2Other_ hW k (by omega) ⟨a, b, c, d⟩ (fun _ => hq) x
        by_cases hxx : x = a ∨ x = b
        · have hre := other_yes (ss := ss) (fs := fs) (i := (k : Int)) (x := x) ⟨hp, ⟨by omega, by omega⟩, by rw [hfi]; exact hxx⟩
          rw [hfi, ← other_eq (q := ⟨a, b, c, d⟩) hxx] at hre
          have hv0 : 0 ≤ otherV ⟨a, b, c, d⟩ x := by
            unfold otherV
            simp only
            rcases hxx with e | e
            · rw [if_pos e]; omega
            · by_cases e1 : x = a
              · rw [if_pos e1]; omega
              · rw [if_neg e1, if_pos e]; omega
          obtain ⟨v, hv⟩ : ∃ v, otherV ⟨a, b, c, d⟩ x = v := ⟨_, rfl⟩
          rw [hv] at HOT hre hv0
          have HR := Lib.hid hre
          clear hv hre hxx hq hfi hp
          go_enter Try.func47, Try.ntmps47
          go_wp2_with fail
          obtain ⟨W0, hW0⟩ : ∃ W0, (w.alloc (Obj.cells #[.slice (some ⟨g1, 0, none⟩) n1 c1, .slice (some ⟨g2, 0, none⟩) n2 c2] 27)) = W0 := ⟨_, rfl⟩
          have hk0 : W0.cell? ⟨w.heap.size, 0, none⟩ = some (.slice (some ⟨g1, 0, none⟩) n1 c1) := by rw [← hW0]; simp [go_sem]
          have hk1 : W0.cell? ⟨w.heap.size, 1, none⟩ = some (.slice (some ⟨g2, 0, none⟩) n2 c2) := by rw [← hW0]; simp [go_sem]
          have hz0 : w.heap.size < W0.heap.size := by rw [← hW0]; simp
          have HB0 := Lib.hid ((Below.refl w.heap.size w).alloc (Nat.le_refl _) (Obj.cells #[.slice (some ⟨g1, 0, none⟩) n1 c1, .slice (some ⟨g2, 0, none⟩) n2 c2] 27))
          rw [hW0] at HB0 ⊢
          clear hW0
          have HN0 := Lib.hid (HN.out.moved HB0.out)
          refine (specNet_ HN0.out).mono ?_
          rintro e w1 ⟨rfl, hb1⟩
          rw [HB.out]
          have k0 := (hb1.cell (p := ⟨w.heap.size, 0, none⟩) hz0).trans hk0
          have k1 := (hb1.cell (p := ⟨w.heap.size, 1, none⟩) hz0).trans hk1
          have hbx : w.heap.size < w1.heap.size := Nat.lt_of_lt_of_le hz0 hb1.size
          have HN1 := Lib.hid (HN0.out.moved hb1)
          have hB1 := Lib.hid (HB0.out.trans (hb1.mono HB0.out.size))
          clear hk0 hk1 hz0 hb1 HN0 HB0
          go_wp2_with fail
          refine (CI1.out _).mono ?_
          rintro e w' ⟨rfl, rfl⟩
          go_wp2_with fail
          refine (CI2.out _).mono ?_
          rintro e w' ⟨rfl, rfl⟩
          go_wp2_with fail
          refine (HOT.out _ HN1.out).mono ?_
          rintro e w2 ⟨rfl, hb2⟩
          have k0' := (hb2.cell (p := ⟨w.heap.size, 0, none⟩) hbx).trans k0
          have k1' := (hb2.cell (p := ⟨w.heap.size, 1, none⟩) hbx).trans k1
          clear k0 k1
          have HN2 := Lib.hid (HN1.out.moved hb2)
          have HB2 := Lib.hid (hB1.out.trans (hb2.mono hB1.out.size))
          clear hb2
          go_wp2_with fail
          refine (HOT.out _ HN2.out).mono ?_
          rintro e w3 ⟨rfl, hb3⟩
          have HB3 := Lib.hid (HB2.out.trans (hb3.mono HB2.out.size))
          clear hb3
          go_wp2
          go_ret2
          exact retP HR.out HB3.out
        · have HR := Lib.hid (other_no (ss := ss) (fs := fs) (i := (k : Int)) (x := x) (fun h => hxx (by have := h.2.2; rw [hfi] at this; exact this)))
          have hv0 : otherV ⟨a, b, c, d⟩ x = -1 := by
            unfold otherV
            simp only
            rw [if_neg (fun h => hxx (.inl h)), if_neg (fun h => hxx (.inr h))]
          rw [hv0] at HOT
          clear hv0 hxx hq hfi hp
          go_enter Try.func47, Try.ntmps47
          go_wp2_with fail
          obtain ⟨W0, hW0⟩ : ∃ W0, (w.alloc (Obj.cells #[.slice (some ⟨g1, 0, none⟩) n1 c1, .slice (some ⟨g2, 0, none⟩) n2 c2] 27)) = W0 := ⟨_, rfl⟩
          have hk0 : W0.cell? ⟨w.heap.size, 0, none⟩ = some (.slice (some ⟨g1, 0, none⟩) n1 c1) := by rw [← hW0]; simp [go_sem]
          have hk1 : W0.cell? ⟨w.heap.size, 1, none⟩ = some (.slice (some ⟨g2, 0, none⟩) n2 c2) := by rw [← hW0]; simp [go_sem]
          have hz0 : w.heap.size < W0.heap.size := by rw [← hW0]; simp
          have HB0 := Lib.hid ((Below.refl w.heap.size w).alloc (Nat.le_refl _) (Obj.cells #[.slice (some ⟨g1, 0, none⟩) n1 c1, .slice (some ⟨g2, 0, none⟩) n2 c2] 27))
          rw [hW0] at HB0 ⊢
          clear hW0
          have HN0 := Lib.hid (HN.out.moved HB0.out)
          refine (specNet_ HN0.out).mono ?_
          rintro e w1 ⟨rfl, hb1⟩
          rw [HB.out]
          have k0 := (hb1.cell (p := ⟨w.heap.size, 0, none⟩) hz0).trans hk0
          have k1 := (hb1.cell (p := ⟨w.heap.size, 1, none⟩) hz0).trans hk1
          have hbx : w.heap.size < w1.heap.size := Nat.lt_of_lt_of_le hz0 hb1.size
          have HN1 := Lib.hid (HN0.out.moved hb1)
          have hB1 := Lib.hid (HB0.out.trans (hb1.mono HB0.out.size))
          clear hk0 hk1 hz0 hb1 HN0 HB0
          go_wp2_with fail
          refine (CI1.out _).mono ?_
          rintro e w' ⟨rfl, rfl⟩
          go_wp2_with fail
          refine (CI2.out _).mono ?_
          rintro e w' ⟨rfl, rfl⟩
          go_wp2_with fail
          refine (HOT.out _ HN1.out).mono ?_
          rintro e w2 ⟨rfl, hb2⟩
          have HB2 := Lib.hid (hB1.out.trans (hb2.mono hB1.out.size))
          clear hb2
          go_wp2
          go_ret2
          exact retP HR.out HB2.out
      · have HR := Lib.hid (other_no (ss := ss) (fs := fs) (i := (k : Int)) (x := x) (fun h => hx (by have := h.2.2; rw [hfi] at this; simp only at this; omega)))
        have CI2 := Lib.hid (fun W => in_no x 0 ((n1 : Int) - 1) W (by omega))
        clear hx hq hfi hp
        go_enter Try.func47, Try.ntmps47
        go_wp2_with fail
        obtain ⟨W0, hW0⟩ : ∃ W0, (w.alloc (Obj.cells #[.slice (some ⟨g1, 0, none⟩) n1 c1, .slice (some ⟨g2, 0, none⟩) n2 c2] 27)) = W0 := ⟨_, rfl⟩
        have hk0 : W0.cell? ⟨w.heap.size, 0, none⟩ = some (.slice (some ⟨g1, 0, none⟩) n1 c1) := by rw [← hW0]; simp [go_sem]
        have hk1 : W0.cell? ⟨w.heap.size, 1, none⟩ = some (.slice (some ⟨g2, 0, none⟩) n2 c2) := by rw [← hW0]; simp [go_sem]
        have hz0 : w.heap.size < W0.heap.size := by rw [← hW0]; simp
        have HB0 := Lib.hid ((Below.refl w.heap.size w).alloc (Nat.le_refl _) (Obj.cells #[.slice (some ⟨g1, 0, none⟩) n1 c1, .slice (some ⟨g2, 0, none⟩) n2 c2] 27))
        rw [hW0] at HB0 ⊢
        clear hW0
        have HN0 := Lib.hid (HN.out.moved HB0.out)
        refine (specNet_ HN0.out).mono ?_
        rintro e w1 ⟨rfl, hb1⟩
        rw [HB.out]
        have k0 := (hb1.cell (p := ⟨w.heap.size, 0, none⟩) hz0).trans hk0
        have k1 := (hb1.cell (p := ⟨w.heap.size, 1, none⟩) hz0).trans hk1
        have hbx : w.heap.size < w1.heap.size := Nat.lt_of_lt_of_le hz0 hb1.size
        have HN1 := Lib.hid (HN0.out.moved hb1)
        have hB1 := Lib.hid (HB0.out.trans (hb1.mono HB0.out.size))
        clear hk0 hk1 hz0 hb1 HN0 HB0
        go_wp2_with fail
        refine (CI1.out _).mono ?_
        rintro e w' ⟨rfl, rfl⟩
        go_wp2_with fail
        refine (CI2.out _).mono ?_
        rintro e w' ⟨rfl, rfl⟩
        go_wp2
        go_ret2
        exact retP HR.out hB1.out
    · have HR := Lib.hid (other_no (ss := ss) (fs := fs) (i := i) (x := x) (fun h => hi (by have := h.2.1; omega)))
      have CI1 := Lib.hid (fun W => in_no i 0 ((n2 : Int) - 1) W (by omega))
      have hn20 : -1 ≤ (n2 : Int) - 1 := by omega
      clear hp hi
      go_enter Try.func47, Try.ntmps47
      go_wp2_with fail
      obtain ⟨W0, hW0⟩ : ∃ W0, (w.alloc (Obj.cells #[.slice (some ⟨g1, 0, none⟩) n1 c1, .slice (some ⟨g2, 0, none⟩) n2 c2] 27)) = W0 := ⟨_, rfl⟩
      have hk0 : W0.cell? ⟨w.heap.size, 0, none⟩ = some (.slice (some ⟨g1, 0, none⟩) n1 c1) := by rw [← hW0]; simp [go_sem]
      have hk1 : W0.cell? ⟨w.heap.size, 1, none⟩ = some (.slice (some ⟨g2, 0, none⟩) n2 c2) := by rw [← hW0]; simp [go_sem]
      have hz0 : w.heap.size < W0.heap.size := by rw [← hW0]; simp
      have HB0 := Lib.hid ((Below.refl w.heap.size w).alloc (Nat.le_refl _) (Obj.cells #[.slice (some ⟨g1, 0, none⟩) n1 c1, .slice (some ⟨g2, 0, none⟩) n2 c2] 27))
      rw [hW0] at HB0 ⊢
      clear hW0
      have HN0 := Lib.hid (HN.out.moved HB0.out)
      refine (specNet_ HN0.out).mono ?_
      rintro e w1 ⟨rfl, hb1⟩
      rw [HB.out]
      have k0 := (hb1.cell (p := ⟨w.heap.size, 0, none⟩) hz0).trans hk0
      have k1 := (hb1.cell (p := ⟨w.heap.size, 1, none⟩) hz0).trans hk1
      have hbx : w.heap.size < w1.heap.size := Nat.lt_of_lt_of_le hz0 hb1.size
      have HN1 := Lib.hid (HN0.out.moved hb1)
      have hB1 := Lib.hid (HB0.out.trans (hb1.mono HB0.out.size))
      clear hk0 hk1 hz0 hb1 HN0 HB0
      go_wp2_with fail
      refine (CI1.out _).mono ?_
      rintro e w' ⟨rfl, rfl⟩
      go_wp2
      go_ret2
      exact retP HR.out hB1.out
  · have HB : Hid (pb (netP ss fs) = false) := Lib.hid (pb_false hp)
    have HR := Lib.hid (other_no (ss := ss) (fs := fs) (i := i) (x := x) fun h => hp h.1)
    clear hp hl2 hl1
    go_enter Try.func47, Try.ntmps47
    go_wp2_with fail
    obtain ⟨W0, hW0⟩ : ∃ W0, (w.alloc (Obj.cells #[.slice (some ⟨g1, 0, none⟩) n1 c1, .slice (some ⟨g2, 0, none⟩) n2 c2] 27)) = W0 := ⟨_, rfl⟩
    have hk0 : W0.cell? ⟨w.heap.size, 0, none⟩ = some (.slice (some ⟨g1, 0, none⟩) n1 c1) := by rw [← hW0]; simp [go_sem]
    have hk1 : W0.cell? ⟨w.heap.size, 1, none⟩ = some (.slice (some ⟨g2, 0, none⟩) n2 c2) := by rw [← hW0]; simp [go_sem]
    have hz0 : w.heap.size < W0.heap.size := by rw [← hW0]; simp
    have HB0 := Lib.hid ((Below.refl w.heap.size w).alloc (Nat.le_refl _) (Obj.cells #[.slice (some ⟨g1, 0, none⟩) n1 c1, .slice (some ⟨g2, 0, none⟩) n2 c2] 27))
    rw [hW0] at HB0 ⊢
    clear hW0
    have HN0 := Lib.hid (HN.out.moved HB0.out)
    refine (specNet_ HN0.out).mono ?_
    rintro e w1 ⟨rfl, hb1⟩
    rw [HB.out]
    have k0 := (hb1.cell (p := ⟨w.heap.size, 0, none⟩) hz0).trans hk0
    have k1 := (hb1.cell (p := ⟨w.heap.size, 1, none⟩) hz0).trans hk1
    have hbx : w.heap.size < w1.heap.size := Nat.lt_of_lt_of_le hz0 hb1.size
    have HN1 := Lib.hid (HN0.out.moved hb1)
    have hB1 := Lib.hid (HB0.out.trans (hb1.mono HB0.out.size))
    clear hk0 hk1 hz0 hb1 HN0 HB0
    go_wp2
    go_ret2
    exact retP HR.out hB1.out
end Go.Proofs.Ythmmhhoaplbfgaa
