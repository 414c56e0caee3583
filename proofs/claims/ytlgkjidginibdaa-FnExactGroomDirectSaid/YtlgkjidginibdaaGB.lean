/- Texts of one group, joined: Other, DemS, FmtI, Dem, Mark, Mark2, At, AtI, IntW, Sel, Set, Wk, Wk2, Wk3, Wk4, Wk5, Wk6, Wk7, ApdN, Reg. No condition but those typed. -/
import Derived.Test.YtlgkjidginibdaaGA
import Derived.WalkKit
import Derived.ProofKit
import Derived.LoopTactic
import Derived.Deep.QuietTactic
import Derived.BigQuiet
import Derived.WalkLawsBesides
import Derived.Deep.RegionHeld3
import Derived.Laws.OwnMore
import Derived.Laws.BitsLemmas
import Derived.Deep.LoopGhost
import Derived.StillTailTactics
import Derived.Maps.AppendAt
namespace Go.Proofs.Ytlgkjidginibdaa
open Go.ChangeShapes Go.WideShapes Go.ChangeAt Go.RowKit

def acrI (q : Q4) (x : Int) : Int := if x = q.a then q.b else if x = q.b then q.a else 0
def acrB (q : Q4) (x : Int) : Bool := decide (x = q.a ∨ x = q.b)
def otherV (q : Q4) (x : Int) : Int := if x = q.a then q.b else if x = q.b then q.a else -1

set_option maxHeartbeats 1000000 in
theorem across_any (q : Q4) (x : Int) (w : World) :
    Calls Try.prog 242 #[cells4 q, .int .i64 x] w (RetP (.tuple #[.int .i64 (acrI q x), .bool (acrB q x)]) w) := by
  obtain ⟨a, b, c, d⟩ := q
  unfold cells4
  have HB := Lib.hid ((Below.refl w.heap.size w).alloc (Nat.le_refl _) (Obj.cells #[.int .i64 a, .int .i64 b, .int .i64 c, .int .i64 d] 201))
  by_cases h1 : x = a
  · subst h1
    have HR : Hid ((.tuple #[.int .i64 b, .bool true] : Value) = .tuple #[.int .i64 (acrI ⟨x, b, c, d⟩ x), .bool (acrB ⟨x, b, c, d⟩ x)]) := Lib.hid (by simp [acrI, acrB])
    go_enter Try.func242, Try.ntmps242
    go_wp2
    go_ret2
    exact retP HR.out HB.out
  · have q1 : (x == a) = false := by simpa using h1
    by_cases h2 : x = b
    · subst h2
      have HR : Hid ((.tuple #[.int .i64 a, .bool true] : Value) = .tuple #[.int .i64 (acrI ⟨a, x, c, d⟩ x), .bool (acrB ⟨a, x, c, d⟩ x)]) := Lib.hid (by simp [acrI, acrB, h1])
      clear h1
      go_enter Try.func242, Try.ntmps242
      go_wp2
      go_ret2
      exact retP HR.out HB.out
    · have q2 : (x == b) = false := by simpa using h2
      have HR : Hid ((.tuple #[.int .i64 0, .bool false] : Value) = .tuple #[.int .i64 (acrI ⟨a, b, c, d⟩ x), .bool (acrB ⟨a, b, c, d⟩ x)]) := Lib.hid (by simp [acrI, acrB, h1, h2])
      clear h1 h2
      go_enter Try.func242, Try.ntmps242
      go_wp2
      go_ret2
      exact retP HR.out HB.out

set_option maxHeartbeats 1000000 in
theorem l2Other_ {g1 g2 n1 n2 c1 c2 : Nat} {ss : List ByteArray} {fs : List Q4} {w : World} (h : NetAt g1 g2 n1 n2 c1 c2 ss fs w) (k : Nat) (hk : k < n2) (q : Q4) (hq : ∀ h : k < fs.length, fs[k] = q) (x : Int) :
    Calls Try.prog 230 #[.agg #[.slice (some ⟨g1, 0, none⟩) n1 c1, .slice (some ⟨g2, 0, none⟩) n2 c2], .int .i64 k, .int .i64 x] w fun e w' => e = .returned (.int .i64 (otherV q x)) ∧ Below w.heap.size w w' := by
  have HN := Lib.hid h
  have hks : k < fs.length := by have := h.ln2; omega
  have hq := hq hks
  clear h
  obtain ⟨a, b, c, d⟩ := q
  have HQ := Lib.hid hq
  clear hq
  by_cases h1 : x = a
  · subst h1
    have HR : Hid (b = otherV ⟨x, b, c, d⟩ x) := Lib.hid (by simp [otherV])
    have hb0 := (Below.refl w.heap.size w).alloc (Nat.le_refl _) (Obj.cells #[.slice (some ⟨g1, 0, none⟩) n1 c1, .slice (some ⟨g2, 0, none⟩) n2 c2] 39)
    have HB0 := Lib.hid hb0
    have hr := (HN.out.moved hb0).rd2.q4c hks
    rw [Nat.zero_add, HQ.out] at hr
    obtain ⟨hg, f0, f1, f2, f3⟩ := hr
    simp only at f0 f1 f2 f3
    have HB1 := Lib.hid (hb0.alloc (by simp) (Obj.cells #[.int .i64 x, .int .i64 b, .int .i64 c, .int .i64 d] 201))
    clear hb0
    go_enter Try.func230, Try.ntmps230
    go_wp2
    go_ret
    exact ⟨reti HR.out, HB1.out⟩
  · have q1 : (x == a) = false := by simpa using h1
    by_cases h2 : x = b
    · subst h2
      have HR : Hid (a = otherV ⟨a, x, c, d⟩ x) := Lib.hid (by simp [otherV, h1])
      clear h1
      have hb0 := (Below.refl w.heap.size w).alloc (Nat.le_refl _) (Obj.cells #[.slice (some ⟨g1, 0, none⟩) n1 c1, .slice (some ⟨g2, 0, none⟩) n2 c2] 39)
      have HB0 := Lib.hid hb0
      have hr := (HN.out.moved hb0).rd2.q4c hks
      rw [Nat.zero_add, HQ.out] at hr
      obtain ⟨hg, f0, f1, f2, f3⟩ := hr
      simp only at f0 f1 f2 f3
      have HB1 := Lib.hid (hb0.alloc (by simp) (Obj.cells #[.int .i64 a, .int .i64 x, .int .i64 c, .int .i64 d] 201))
      clear hb0
      go_enter Try.func230, Try.ntmps230
      go_wp2
      go_ret
      exact ⟨reti HR.out, HB1.out⟩
    · have q2 : (x == b) = false := by simpa using h2
      have HR : Hid (-1 = otherV ⟨a, b, c, d⟩ x) := Lib.hid (by simp [otherV, h1, h2])
      clear h1 h2
      have hb0 := (Below.refl w.heap.size w).alloc (Nat.le_refl _) (Obj.cells #[.slice (some ⟨g1, 0, none⟩) n1 c1, .slice (some ⟨g2, 0, none⟩) n2 c2] 39)
      have HB0 := Lib.hid hb0
      have hr := (HN.out.moved hb0).rd2.q4c hks
      rw [Nat.zero_add, HQ.out] at hr
      obtain ⟨hg, f0, f1, f2, f3⟩ := hr
      simp only at f0 f1 f2 f3
      have HB1 := Lib.hid (hb0.alloc (by simp) (Obj.cells #[.int .i64 a, .int .i64 b, .int .i64 c, .int .i64 d] 201))
      clear hb0
      go_enter Try.func230, Try.ntmps230
      go_wp2
      go_ret
      exact ⟨reti HR.out, HB1.out⟩

theorem isFib_yes {g1 g2 n1 n2 c1 c2 : Nat} (i : Int) (w : World) (h0 : 0 ≤ i) (h1 : i < n2) :
    Calls Try.prog 241 #[.agg #[.slice (some ⟨g1, 0, none⟩) n1 c1, .slice (some ⟨g2, 0, none⟩) n2 c2], .int .i64 i] w fun e w' => e = .returned (.bool true) ∧ Below w.heap.size w w' := by
  have HB := Lib.hid ((Below.refl w.heap.size w).alloc (Nat.le_refl _) (Obj.cells #[.slice (some ⟨g1, 0, none⟩) n1 c1, .slice (some ⟨g2, 0, none⟩) n2 c2] 39))
  go_enter Try.func241, Try.ntmps241
  go_wp2
  go_ret
  exact ⟨rfl, HB.out⟩
theorem isFib_no {g1 g2 n1 n2 c1 c2 : Nat} (i : Int) (w : World) (h : i < 0 ∨ n2 ≤ i) :
    Calls Try.prog 241 #[.agg #[.slice (some ⟨g1, 0, none⟩) n1 c1, .slice (some ⟨g2, 0, none⟩) n2 c2], .int .i64 i] w fun e w' => e = .returned (.bool false) ∧ Below w.heap.size w w' := by
  have HB := Lib.hid ((Below.refl w.heap.size w).alloc (Nat.le_refl _) (Obj.cells #[.slice (some ⟨g1, 0, none⟩) n1 c1, .slice (some ⟨g2, 0, none⟩) n2 c2] 39))
  by_cases h0 : i < 0
  · clear h
    go_enter Try.func241, Try.ntmps241
    go_wp2
    go_ret
    exact ⟨rfl, HB.out⟩
  · have h1 : decide (i < (n2 : Int)) = false := decide_eq_false (by omega)
    have h2 : 0 ≤ i := by omega
    clear h h0
    go_enter Try.func241, Try.ntmps241
    go_wp2
    go_ret
    exact ⟨rfl, HB.out⟩

def fibI (fs : List Q4) (i : Int) : Q4 := fs.getD i.toNat ⟨0, 0, 0, 0⟩
def otherP (ss : List ByteArray) (fs : List Q4) (i x : Int) : Prop := netP ss fs ∧ (0 ≤ i ∧ i < fs.length) ∧ (x = (fibI fs i).a ∨ x = (fibI fs i).b)
noncomputable def otherB (ss : List ByteArray) (fs : List Q4) (i x : Int) : Bool := pb (otherP ss fs i x)
noncomputable def otherI (ss : List ByteArray) (fs : List Q4) (i x : Int) : Int := if otherB ss fs i x then acrI (fibI fs i) x else 0
noncomputable def otherR (ss : List ByteArray) (fs : List Q4) (i x : Int) : Value := .tuple #[.int .i64 (otherI ss fs i x), .bool (otherB ss fs i x)]
theorem other_no {ss : List ByteArray} {fs : List Q4} {i x : Int} (h : ¬ otherP ss fs i x) : (.tuple #[.int .i64 0, .bool false] : Value) = otherR ss fs i x := by
  unfold otherR otherI otherB; rw [pb_false h]; rfl
theorem other_yes {ss : List ByteArray} {fs : List Q4} {i x : Int} (h : otherP ss fs i x) : (.tuple #[.int .i64 (acrI (fibI fs i) x), .bool true] : Value) = otherR ss fs i x := by
  unfold otherR otherI otherB; rw [pb_true h]; rfl
theorem other_eq {q : Q4} {x : Int} (h : x = q.a ∨ x = q.b) : otherV q x = acrI q x := by
  unfold otherV acrI
  by_cases h1 : x = q.a
  · rw [if_pos h1, if_pos h1]
  · rw [if_neg h1, if_neg h1]
    rcases h with h | h
    · exact absurd h h1
    · rw [if_pos h, if_pos h]

end Go.Proofs.Ytlgkjidginibdaa

namespace Go.Proofs.Ytlgkjidginibdaa
open Go.ChangeShapes Go.WideShapes Go.ChangeAt Go.RowKit

end Go.Proofs.Ytlgkjidginibdaa

namespace Go.Proofs.Ytlgkjidginibdaa
open Go.ChangeShapes Go.WideShapes Go.ChangeAt Go.RowKit

theorem rate_yes (x : Int) (w : World) (h1 : 1 ≤ x) (h2 : x ≤ 1000) : Calls Try.prog 190 #[.int .i64 x] w fun e w' => e = .returned (.bool true) ∧ w = w' := by
  go_enter Try.func190, Try.ntmps190
  go_wp2
  go_ret
  exact ⟨rfl, rfl⟩
theorem rate_no (x : Int) (w : World) (h : x < 1 ∨ 1000 < x) : Calls Try.prog 190 #[.int .i64 x] w fun e w' => e = .returned (.bool false) ∧ w = w' := by
  rcases h with h | h
  · go_enter Try.func190, Try.ntmps190
    go_wp2
    go_ret
    exact ⟨rfl, rfl⟩
  · have h' : decide (x ≤ 1000) = false := decide_eq_false (by omega)
    have h1 : 1 ≤ x := by omega
    clear h
    go_enter Try.func190, Try.ntmps190
    go_wp2
    go_ret
    exact ⟨rfl, rfl⟩

end Go.Proofs.Ytlgkjidginibdaa

namespace Go.Proofs.Ytlgkjidginibdaa
open Go.ChangeShapes Go.WideShapes Go.ChangeAt Go.RowKit

def demP (q : Q4) (n : Nat) : Prop := (0 ≤ q.a ∧ q.a ≤ (n : Int) - 1) ∧ (0 ≤ q.b ∧ q.b ≤ (n : Int) - 1) ∧ q.a ≠ q.b ∧ (1 ≤ q.c ∧ q.c ≤ 1000) ∧ (0 ≤ q.d ∧ q.d ≤ 2)
def demsP (ss : List ByteArray) (fs ds : List Q4) : Prop := ds.length ≤ 12 ∧ (∀ i (h : i < ds.length), demP ds[i] ss.length) ∧ netP ss fs

theorem isNode_yes {g1 g2 n1 n2 c1 c2 : Nat} (i : Int) (w : World) (h0 : 0 ≤ i) (h1 : i < n1) :
    Calls Try.prog 210 #[.agg #[.slice (some ⟨g1, 0, none⟩) n1 c1, .slice (some ⟨g2, 0, none⟩) n2 c2], .int .i64 i] w fun e w' => e = .returned (.bool true) ∧ Below w.heap.size w w' := by
  have HB := Lib.hid ((Below.refl w.heap.size w).alloc (Nat.le_refl _) (Obj.cells #[.slice (some ⟨g1, 0, none⟩) n1 c1, .slice (some ⟨g2, 0, none⟩) n2 c2] 39))
  go_enter Try.func210, Try.ntmps210
  go_wp2
  go_ret
  exact ⟨rfl, HB.out⟩
theorem isNode_no {g1 g2 n1 n2 c1 c2 : Nat} (i : Int) (w : World) (h : i < 0 ∨ n1 ≤ i) :
    Calls Try.prog 210 #[.agg #[.slice (some ⟨g1, 0, none⟩) n1 c1, .slice (some ⟨g2, 0, none⟩) n2 c2], .int .i64 i] w fun e w' => e = .returned (.bool false) ∧ Below w.heap.size w w' := by
  have HB := Lib.hid ((Below.refl w.heap.size w).alloc (Nat.le_refl _) (Obj.cells #[.slice (some ⟨g1, 0, none⟩) n1 c1, .slice (some ⟨g2, 0, none⟩) n2 c2] 39))
  by_cases h0 : i < 0
  · clear h
    go_enter Try.func210, Try.ntmps210
    go_wp2
    go_ret
    exact ⟨rfl, HB.out⟩
  · have h1 : decide (i < (n1 : Int)) = false := decide_eq_false (by omega)
    have h2 : 0 ≤ i := by omega
    clear h h0
    go_enter Try.func210, Try.ntmps210
    go_wp2
    go_ret
    exact ⟨rfl, HB.out⟩

end Go.Proofs.Ytlgkjidginibdaa

namespace Go.Proofs.Ytlgkjidginibdaa
open Go.ChangeShapes Go.WideShapes Go.ChangeAt Go.RowKit

/-- nothing but the blocks of S has changed. -/
structure Off (S : Nat → Prop) (w w' : World) : Prop where
  os : w'.os = w.os
  tape : w'.tape = w.tape
  output : w'.output = w.output
  size : w.heap.size ≤ w'.heap.size
  block : ∀ k, k < w.heap.size → ¬ S k → w'.heap[k]? = w.heap[k]?
theorem Off.refl (S : Nat → Prop) (w : World) : Off S w w := ⟨rfl, rfl, rfl, Nat.le_refl _, fun _ _ _ => rfl⟩
theorem Off.trans {S : Nat → Prop} {a b c : World} (h : Off S a b) (k : Off S b c) : Off S a c :=
  ⟨k.os.trans h.os, k.tape.trans h.tape, k.output.trans h.output, Nat.le_trans h.size k.size, fun i hi hs => (k.block i (Nat.lt_of_lt_of_le hi h.size) hs).trans (h.block i hi hs)⟩
theorem Off.ofBelow {S : Nat → Prop} {w w' : World} (h : Below w.heap.size w w') : Off S w w' := ⟨h.os, h.tape, h.output, h.size, fun k hk _ => h.block k hk⟩
theorem Off.wider {S S' : Nat → Prop} {w w' : World} (h : Off S w w') (hs : ∀ k, S k → S' k) : Off S' w w' := ⟨h.os, h.tape, h.output, h.size, fun k hk hn => h.block k hk (fun x => hn (hs k x))⟩
theorem Off.below {S : Nat → Prop} {B : Nat} {w w' : World} (h : Off S w w') (hB : B ≤ w.heap.size) (hs : ∀ k, S k → B ≤ k) : Below B w w' :=
  ⟨h.os, h.tape, h.output, h.size, fun k hk => h.block k (by omega) (fun x => by have := hs k x; omega)⟩
theorem Off.set_ {S : Nat → Prop} {w w' : World} (h : Off S w w') {p : Addr} (hp : S p.block) (u : Value) : Off S w (w'.setCell p u) :=
  ⟨h.os, h.tape, h.output, by simpa using h.size, fun k hk hn => (Below.heap_setCell w' p u k (fun e => hn (by rw [e]; exact hp))).trans (h.block k hk hn)⟩
theorem Off.cell {S : Nat → Prop} {w w' : World} (h : Off S w w') {p : Addr} (hp : p.block < w.heap.size) (hs : ¬ S p.block) : w'.cell? p = w.cell? p := World.cell?_of_block (w := w) (h.block p.block hp hs)
theorem Off.own {S : Nat → Prop} {w w' : World} {B E s n g c : Nat} {xs : List Value} (h : Off S w w') (ho : w.ownsRow B E s (.slice (some ⟨g, 0, none⟩) n c) n xs) (hs : ¬ S g) : w'.ownsRow B E s (.slice (some ⟨g, 0, none⟩) n c) n xs := by
  refine ⟨ho.1, ?_⟩
  rcases ho.2 with hn | ⟨g', cap', cur, e, hg, hh, rest⟩
  · exact .inl hn
  · injection e with e1 e2 e3
    injection e1 with e1; injection e1 with e1
    subst e1
    exact .inr ⟨g, cap', cur, by rw [e3], hg, (h.block g (Array.getElem?_eq_some_iff.1 hh).1 hs).trans hh, rest⟩
theorem Rd.off {S : Nat → Prop} {w w' : World} {g o : Nat} {xs : List Value} (h : Rd w w.heap.size (some ⟨g, o, none⟩) xs) (hb : Off S w w') (hs : ¬ S g) : Rd w' w'.heap.size (some ⟨g, o, none⟩) xs := by
  intro k u hu
  obtain ⟨ad, e, hl, hc⟩ := h k u hu
  injection e with e; subst e
  exact ⟨_, rfl, Nat.lt_of_lt_of_le hl hb.size, by rw [hb.cell (by rw [addBlock]; exact hl) (by rw [addBlock]; exact hs)]; exact hc⟩

def TextP (w : World) (e : Ending) (w' : World) : Prop := ∃ s : ByteArray, e = .returned (.string s) ∧ s.size ≤ 100 ∧ Below w.heap.size w w'

theorem pow_step (z : Int) (j : Nat) (hz : 0 < z) (h : z < 10 ^ j) : ∃ i, j = i + 1 ∧ z / 10 < 10 ^ i := by
  cases j with
  | zero => simp at h; omega
  | succ i => exact ⟨i, rfl, by rw [Int.pow_succ] at h; omega⟩
theorem pow_cap (z : Int) (j : Nat) (hj : j ≤ 10) (h : z < 10 ^ j) : z ≤ 10000000000 := by
  have h1 : (10 : Nat) ^ j ≤ 10 ^ 10 := Nat.pow_le_pow_right (by omega) hj
  have h2 : ((10 : Int) ^ j) = ((10 ^ j : Nat) : Int) := by simp
  rw [h2] at h
  have h3 : (10 : Nat) ^ 10 = 10000000000 := by decide
  omega

set_option maxRecDepth 100000 in
set_option maxHeartbeats 1000000 in
theorem markText_ (k : Int) (w : World) (h0 : 1 ≤ k) (h1 : k ≤ 1000000000) : Calls Try.prog 173 #[.int .i64 k] w (TextP w) := by
  go_enter Try.func173, Try.ntmps173
  go_wp2
  go_loopw [0, 3] (fun q s wr => ∃ (z : Int) (t : ByteArray) (j : Nat), q = .int .i64 z ∧ s = .string t ∧ 0 ≤ z ∧ z < 10 ^ j ∧ j ≤ 10 ∧ t.size + j ≤ 10 ∧ Below w.heap.size w wr) (fun q _ _ => (intOf q).toNat)
  case atStart => exact ⟨k, ByteArray.empty, 10, rfl, rfl, by omega, by omega, by omega, by simp, Below.refl _ _⟩
  case round =>
    obtain ⟨z, t, j, rfl, rfl, hz0, hz1, hj, ht, hb⟩ := hrel
    have hz9 := pow_cap z j hj hz1
    have ht10 : (t.size : Int) ≤ 10 := by omega
    by_cases hz : 0 < z
    · obtain ⟨i, hji, hz2⟩ := pow_step z j hz hz1
      have HZ2 := Lib.hid hz2; have HT : Hid (t.size + (i + 1) ≤ 10 ∧ i + 1 ≤ 10) := Lib.hid ⟨by omega, by omega⟩
      clear hz1 ht hji hj hz2
      have hm0 : 0 ≤ z % 10 := by omega
      have hm1 : z % 10 < 10 := by omega
      obtain ⟨u, hu⟩ : ∃ u : UInt8, (u.toNat : Int) = 48 + z % 10 := ⟨UInt8.ofNat (48 + z % 10).toNat, by
        rw [UInt8.toNat_ofNat']; omega⟩
      have hcv : Sem.run Try.prog (convert 257 9 (Value.slice (some ⟨wr.heap.size, 0, none⟩) 1 1)) (wr.alloc (Obj.cells #[.int .u8 (48 + z % 10)] 5)) = .ok (.string ⟨#[u]⟩) (wr.alloc (Obj.cells #[.int .u8 (48 + z % 10)] 5)) :=
        run_convert_bytes_back (P := Try.prog) (wr.alloc (Obj.cells #[.int .u8 (48 + z % 10)] 5)) 257 9 5 ⟨wr.heap.size, 0, none⟩ 1 [u] Try.underlying257 Try.underlying5 Try.underlying9
          (fun j hj => by
            have hj' : j < 1 := hj
            obtain rfl : j = 0 := by omega
            simp [go_sem, Addr.add, hu])
      clear hu
      have hus : (⟨#[u]⟩ : ByteArray).size = 1 := rfl
      obtain ⟨b, hbb⟩ : ∃ b : ByteArray, ⟨#[u]⟩ = b := ⟨_, rfl⟩
      rw [hbb] at hcv hus
      clear hbb
      have hus' : (b.size : Int) ≤ 1 := by omega
      have HUS := Lib.hid hus; clear hus
      go_wp2
      go_roundw
      case rel => exact ⟨z / 10, b ++ t, i, rfl, rfl, by omega, HZ2.out, by have := HT.out; omega, by rw [ByteArray.size_append, HUS.out]; have := HT.out; omega, hb.alloc hb.size _⟩
      case measure => simp [intOf]; omega
    · have hzz : z = 0 := by omega
      subst hzz
      have HT := Lib.hid ht
      clear hz1 ht hz9 hz hj
      go_wp2
      go_ret
      exact ⟨_, rfl, by rw [ByteArray.size_append]; have := HT.out; have : (⟨#[109]⟩ : ByteArray).size = 1 := rfl; omega, hb⟩

set_option maxHeartbeats 1000000 in
theorem markStrS (g n c : Nat) (k : Int) (xs : List Value) (w : World) (ho : w.ownsRow 0 9 1 (.slice (some ⟨g, 0, none⟩) n c) n xs) (hn : n ≤ 1048576) (h0 : 1 ≤ k) (h1 : k ≤ 10000000) :
    Calls Try.prog 98 #[.slice (some ⟨g, 0, none⟩) n c, .int .i64 k] w fun e w' => e = .returned (.int .i64 (k + n)) ∧ Off (· = g) w w' ∧ ∃ ys, w'.ownsRow 0 9 1 (.slice (some ⟨g, 0, none⟩) n c) n ys := by
  have HO := Lib.hid ho; clear ho
  go_enter Try.func98, Try.ntmps98
  go_wp2
  go_loopw [1, 5] (fun q i wr => ∃ (j : Nat) (ys : List Value), j ≤ n ∧ i = .int .i64 j ∧ q = .int .i64 (k + j) ∧ Off (· = g) w wr ∧ wr.ownsRow 0 9 1 (.slice (some ⟨g, 0, none⟩) n c) n ys) (fun _ i _ => n - (intOf i).toNat)
  case atStart => exact ⟨0, xs, Nat.zero_le _, rfl, by simp, Off.refl _ _, HO.out⟩
  case round =>
    obtain ⟨j, ys, hj, rfl, rfl, hoff, hown⟩ := hrel
    have HF := Lib.hid hoff; have HW := Lib.hid hown; clear hoff hown
    by_cases hlt : j < n
    · go_wp2_with fail
      refine (markText_ (k + j) wr (by omega) (by omega)).mono ?_
      rintro e w2 ⟨s, rfl, hs, hb2⟩
      have hown2 := ownB HW.out hb2
      have hlen := hown2.1
      have hold := hown2.cellAt j (by omega)
      have hjl : j < ys.length := by omega
      rw [List.getElem?_eq_getElem hjl] at hold
      have hfz := hown2.frozenAt j
      have hst := hown2.stored j (.string s)
      have HST := Lib.hid hst.1
      have HF2 := Lib.hid (HF.out.trans (Off.ofBelow hb2))
      obtain ⟨old, hold'⟩ : ∃ v, ys[j]'hjl = v := ⟨_, rfl⟩
      rw [hold'] at hold
      clear hst hown2 hlen hold' hb2
      go_wp2
      go_roundw
      case rel => exact ⟨j + 1, _, by omega, by go_num, by go_num, HF2.out.set_ rfl _, HST.out⟩
      case measure => simp [intOf]; omega
    · have hjn : j = n := by omega
      subst hjn
      clear hlt
      go_wp2
      go_ret
      exact ⟨rfl, HF.out, ys, HW.out⟩
end Go.Proofs.Ytlgkjidginibdaa

namespace Go.Proofs.Ytlgkjidginibdaa
open Go.ChangeShapes Go.WideShapes Go.ChangeAt Go.RowKit

set_option maxRecDepth 100000 in
set_option maxHeartbeats 2000000 in
theorem markFibS (g n c : Nat) (k : Int) (xs : List Value) (w : World) (ho : w.ownsRow 0 201 4 (.slice (some ⟨g, 0, none⟩) n c) n xs) (hn : n ≤ 1048576) (h0 : 1 ≤ k) (h1 : k ≤ 10000000) :
    Calls Try.prog 99 #[.slice (some ⟨g, 0, none⟩) n c, .int .i64 k] w fun e w' => e = .returned (.int .i64 (k + 4 * n)) ∧ Off (· = g) w w' := by
  have HO := Lib.hid ho; clear ho
  go_enter Try.func99, Try.ntmps99
  go_wp2
  go_loopw [1, 5] (fun q i wr => ∃ (j : Nat) (z : Int) (ys : List Value), j ≤ n ∧ i = .int .i64 j ∧ q = .int .i64 z ∧ z = k + 4 * j ∧ Off (· = g) w wr ∧ wr.ownsRow 0 201 4 (.slice (some ⟨g, 0, none⟩) n c) n ys) (fun _ i _ => n - (intOf i).toNat)
  case atStart => exact ⟨0, k, xs, Nat.zero_le _, rfl, rfl, by simp, Off.refl _ _, HO.out⟩
  case round =>
    obtain ⟨j, z, ys, hj, rfl, rfl, hz, hoff, hown⟩ := hrel
    have HF := Lib.hid hoff
    have HZ := Lib.hid hz
    have hz0 : 1 ≤ z := by omega
    have hz1 : z ≤ 20000000 := by omega
    clear hoff hz
    by_cases hlt : j < n
    · have hlen := hown.1
      have hcells : ∀ i, i < 4 → ∃ v, wr.cell? ⟨g, j * 4 + i, none⟩ = some v := by
        intro i hi
        have := hown.cellAt (j * 4 + i) (by omega)
        rw [List.getElem?_eq_getElem (by omega)] at this
        exact ⟨_, this⟩
      obtain ⟨v0, q0⟩ := hcells 0 (by omega)
      obtain ⟨v1, q1⟩ := hcells 1 (by omega)
      obtain ⟨v2, q2⟩ := hcells 2 (by omega)
      obtain ⟨v3, q3⟩ := hcells 3 (by omega)
      rw [Nat.add_zero] at q0
      have z0_ := hown.frozenAt (j * 4)
      have z1_ := hown.frozenAt (j * 4 + 1)
      have z2_ := hown.frozenAt (j * 4 + 2)
      have z3_ := hown.frozenAt (j * 4 + 3)
      have HST := Lib.hid ((((hown.stored (j * 4) (.int .i64 z)).1.stored (j * 4 + 1) (.int .i64 (z + 1))).1.stored (j * 4 + 2) (.int .i64 (z + 1 + 1))).1.stored (j * 4 + 3) (.int .i64 (z + 1 + 1 + 1))).1
      clear hown hlen hcells
      go_wp2
      go_roundw
      case rel => exact ⟨j + 1, _, _, by omega, by go_num, rfl, by have := HZ.out; omega, (((HF.out.set_ (p := ⟨g, _, none⟩) rfl _).set_ (p := ⟨g, _, none⟩) rfl _).set_ (p := ⟨g, _, none⟩) rfl _).set_ (p := ⟨g, _, none⟩) rfl _, HST.out⟩
      case measure => simp [intOf]; omega
    · have hjn : j = n := by omega
      subst hjn
      have HR : Hid (z = k + 4 * j) := HZ
      clear hlt hown
      go_wp2
      go_ret
      exact ⟨reti HR.out, HF.out⟩

def MarkP (g1 g2 : Nat) (w : World) (e : Ending) (w' : World) : Prop := ∃ v : Int, e = .returned (.int .i64 v) ∧ 0 ≤ v ∧ Off (fun b => b = g1 ∨ b = g2) w w'
set_option maxHeartbeats 1000000 in
theorem markNet (g1 g2 n1 n2 c1 c2 : Nat) (xs ys : List Value) (w : World) (ho1 : w.ownsRow 0 9 1 (.slice (some ⟨g1, 0, none⟩) n1 c1) n1 xs) (hs1 : n1 ≤ 1048576)
    (ho2 : w.ownsRow 0 201 4 (.slice (some ⟨g2, 0, none⟩) n2 c2) n2 ys) (hs2 : n2 ≤ 1048576) (hne : g1 ≠ g2) :
    Calls Try.prog 27 #[.agg #[.slice (some ⟨g1, 0, none⟩) n1 c1, .slice (some ⟨g2, 0, none⟩) n2 c2], .int .i64 1] w (MarkP g1 g2 w) := by
  have hb0 := (Below.refl w.heap.size w).alloc (Nat.le_refl _) (Obj.cells #[.slice (some ⟨g1, 0, none⟩) n1 c1, .slice (some ⟨g2, 0, none⟩) n2 c2] 39)
  have HB0 := Lib.hid hb0
  have HO1 := Lib.hid (ownB ho1 hb0); have HO2 := Lib.hid (ownB ho2 hb0)
  have hl1 := ho1.lt g1 rfl
  have hl2 := ho2.lt g2 rfl
  have HNE := Lib.hid hne
  clear hb0 ho1 ho2 hne
  go_enter Try.func27, Try.ntmps27
  go_wp2_with fail
  obtain ⟨W, hW⟩ : ∃ W, (w.alloc (Obj.cells #[.slice (some ⟨g1, 0, none⟩) n1 c1, .slice (some ⟨g2, 0, none⟩) n2 c2] 39)) = W := ⟨_, rfl⟩
  have hk1 : W.cell? ⟨w.heap.size, 1, none⟩ = some (.slice (some ⟨g2, 0, none⟩) n2 c2) := by rw [← hW]; simp [go_sem]
  have hz : w.heap.size < W.heap.size := by rw [← hW]; simp
  rw [hW] at HB0 HO1 HO2 ⊢
  clear hW
  refine (markStrS g1 n1 c1 1 _ W HO1.out hs1 (by omega) (by omega)).mono ?_
  rintro e w2 ⟨rfl, hof1, zs, hown1⟩
  have k1 := (hof1.cell (p := ⟨w.heap.size, 1, none⟩) hz (by show ¬ w.heap.size = g1; omega)).trans hk1
  have HO22 := Lib.hid (hof1.own HO2.out (fun h => HNE.out h.symm))
  have HF1 := Lib.hid hof1
  clear hof1 hown1 hk1 hz
  have e1 : (1 : Int) + (n1 : Int) ≤ 10000000 := by omega
  go_wp2_with fail
  refine (markFibS g2 n2 c2 (1 + n1) _ w2 HO22.out hs2 (by omega) (by omega)).mono ?_
  rintro e w3 ⟨rfl, hof2⟩
  have HF2 := Lib.hid hof2; clear hof2
  go_wp2
  go_ret
  exact ⟨_, rfl, by omega, ((Off.ofBelow HB0.out).trans (HF1.out.wider fun k h => .inl h)).trans (HF2.out.wider fun k h => .inr h)⟩

/-- the marks from m on. -/
def marks (m n : Nat) : List Int := (List.range n).map fun i => ((m + i : Nat) : Int)
theorem marks_get (m n i : Nat) (h : i < n) : (marks m n)[i]? = some ((m + i : Nat) : Int) := by
  unfold marks; rw [List.getElem?_map, List.getElem?_range h]; rfl
theorem marks_len (m n : Nat) : (marks m n).length = n := by unfold marks; simp

/-- an int slice of the call's own: nil, or a row. -/
def IntsOwn (B : Nat) (v : Value) (n : Nat) (zs : List Int) (w : World) : Prop := w.ownsRow B 3 1 v n (zs.map (Value.int .i64))
theorem IntsOwn.form {B n : Nat} {v : Value} {zs : List Int} {w : World} (h : IntsOwn B v n zs w) : (v = .slice none 0 0 ∧ n = 0) ∨ ∃ g c, v = .slice (some ⟨g, 0, none⟩) n c ∧ B ≤ g ∧ g < w.heap.size := by
  rcases h.2 with ⟨rfl, h0⟩ | ⟨g, cap, cur, rfl, hg, hh, _⟩
  · exact .inl ⟨rfl, h0⟩
  · exact .inr ⟨g, cap, rfl, hg, (Array.getElem?_eq_some_iff.1 hh).1⟩

set_option maxHeartbeats 1000000 in
theorem markInts (g n c : Nat) (zs : List Int) (w : World) (ho : IntsOwn 0 (.slice (some ⟨g, 0, none⟩) n c) n zs w) (hn : n ≤ 1048576) :
    Calls Try.prog 65 #[.slice (some ⟨g, 0, none⟩) n c, .int .i64 1] w fun e w' => e = .returned (.int .i64 (1 + n)) ∧ Off (· = g) w w' ∧ IntsOwn 0 (.slice (some ⟨g, 0, none⟩) n c) n (marks 1 n) w' := by
  have HO := Lib.hid ho; clear ho
  have hzl : zs.length = n := by have := HO.out.1; simpa using this
  have HZL := Lib.hid hzl; clear hzl
  go_enter Try.func65, Try.ntmps65
  go_wp2
  go_loopw [1, 5] (fun q i wr => ∃ j : Nat, j ≤ n ∧ i = .int .i64 j ∧ q = .int .i64 (1 + j) ∧ Off (· = g) w wr ∧ wr.ownsRow 0 3 1 (.slice (some ⟨g, 0, none⟩) n c) n ((marks 1 j ++ zs.drop j).map (Value.int .i64))) (fun _ i _ => n - (intOf i).toNat)
  case atStart => exact ⟨0, Nat.zero_le _, rfl, by simp, Off.refl _ _, by have h := HO.out; unfold IntsOwn at h; simpa [marks] using h⟩
  case round =>
    obtain ⟨j, hj, rfl, rfl, hoff, hown⟩ := hrel
    have HF := Lib.hid hoff; clear hoff
    by_cases hlt : j < n
    · have hjl : j < zs.length := by have := HZL.out; omega
      have hold := hown.cellAt j (by omega)
      have hml := marks_len 1 j
      rw [List.getElem?_map, List.getElem?_append_right (by omega), hml, Nat.sub_self, List.getElem?_drop, Nat.add_zero, List.getElem?_eq_getElem hjl] at hold
      have hfz := hown.frozenAt j
      have hst := (hown.stored j (.int .i64 (1 + j))).1
      have e : ((marks 1 j ++ zs.drop j).map (Value.int .i64)).set j (.int .i64 (1 + j)) = (marks 1 (j + 1) ++ zs.drop (j + 1)).map (Value.int .i64) := by
        rw [List.drop_eq_getElem_cons hjl, List.map_append, List.map_cons, List.set_append_right _ _ (by simp [hml]), List.length_map, hml, Nat.sub_self, List.set_cons_zero]
        have em : marks 1 (j + 1) = marks 1 j ++ [((1 + j : Nat) : Int)] := by unfold marks; rw [List.range_succ, List.map_append]; rfl
        rw [em]
        simp
      rw [e] at hst
      have HST := Lib.hid hst
      obtain ⟨old, ho⟩ : ∃ v, zs[j]'hjl = v := ⟨_, rfl⟩
      rw [ho] at hold
      simp only [Option.map_some] at hold
      clear hown hst e hml ho
      go_wp2
      go_roundw
      case rel => exact ⟨j + 1, by omega, by go_num, by go_num, HF.out.set_ (p := ⟨g, _, none⟩) rfl _, HST.out⟩
      case measure => simp [intOf]; omega
    · have hjn : j = n := by omega
      subst hjn
      have e : marks 1 j ++ zs.drop j = marks 1 j := by rw [List.drop_of_length_le (by have := HZL.out; omega), List.append_nil]
      rw [e] at hown
      have HW := Lib.hid hown
      clear hlt hown e
      go_wp2
      go_ret
      exact ⟨rfl, HF.out, HW.out⟩

theorem markInts_nil (w : World) :
    Calls Try.prog 65 #[.slice none 0 0, .int .i64 1] w fun e w' => e = .returned (.int .i64 1) ∧ w = w' := by
  go_enter Try.func65, Try.ntmps65
  go_wp2
  go_loop [1, 5] (fun q i => q = .int .i64 1 ∧ i = .int .i64 0) (fun _ _ => 0)
  case atStart => exact ⟨rfl, rfl⟩
  case round =>
    obtain ⟨rfl, rfl⟩ := hrel
    go_wp2
    go_ret
    exact ⟨rfl, rfl⟩

set_option maxHeartbeats 1000000 in
theorem heldInts (A : Option Addr) (n c : Nat) (w : World) (hr : Rd w w.heap.size A ((marks 1 n).map (Value.int .i64))) (hn : n ≤ 1048576) :
    Calls Try.prog 66 #[.slice A n c, .int .i64 1] w fun e w' => e = .returned (.int .i64 (1 + n)) ∧ w = w' := by
  go_enter Try.func66, Try.ntmps66
  go_wp2
  go_loop [1, 5] (fun q i => ∃ j : Nat, j ≤ n ∧ i = .int .i64 j ∧ q = .int .i64 (1 + j)) (fun _ i => n - (intOf i).toNat)
  case atStart => exact ⟨0, Nat.zero_le _, rfl, by simp⟩
  case round =>
    obtain ⟨j, hj, rfl, rfl⟩ := hrel
    by_cases hlt : j < n
    · obtain ⟨ad, rfl, _, hcell⟩ := hr j (.int .i64 (1 + j)) (by rw [List.getElem?_map, marks_get 1 n j hlt]; simp)
      go_wp2
      go_round
      case rel => exact ⟨j + 1, by omega, by go_num, by go_num⟩
      case measure => simp [intOf]; omega
    · have hjn : j = n := by omega
      subst hjn
      clear hlt
      go_wp2
      go_ret
      exact ⟨rfl, rfl⟩

set_option maxHeartbeats 1000000 in
theorem eqInts (A A' : Option Addr) (n c c' : Nat) (zs : List Int) (w : World) (hn : zs.length = n) (hr : Rd w w.heap.size A (zs.map (Value.int .i64))) (hr' : Rd w w.heap.size A' (zs.map (Value.int .i64))) (hsz : n ≤ 1048576) :
    Calls Try.prog 62 #[.slice A n c, .slice A' n c'] w fun e w' => e = .returned (.bool true) ∧ Below w.heap.size w w' := by
  have HN := Lib.hid hn; clear hn
  go_enter Try.func62, Try.ntmps62
  go_wp2
  go_loopw [5] (fun i wr => ∃ k : Nat, k ≤ n ∧ i = .int .i64 k ∧ Below w.heap.size w wr) (fun i _ => n - (intOf i).toNat)
  case atStart => exact ⟨0, Nat.zero_le _, rfl, Below.refl _ _⟩
  case round =>
    obtain ⟨k, hk, rfl, hb⟩ := hrel
    by_cases hlt : k < n
    · have hks : k < zs.length := by have := HN.out; omega
      obtain ⟨ad, rfl, _, hcell⟩ := (hr.over hb).got (k := k) (by simpa using hks)
      obtain ⟨ad', rfl, _, hcell'⟩ := (hr'.over hb).got (k := k) (by simpa using hks)
      simp only [List.getElem_map] at hcell hcell'
      obtain ⟨z, hz⟩ : ∃ z, zs[k]'hks = z := ⟨_, rfl⟩
      rw [hz] at hcell hcell'; clear hz
      go_wp2
      go_quiet (fail)
      go_wp2
      go_roundw
      case rel => exact ⟨k + 1, by omega, by go_num, drewN_below hb _⟩
      case measure => simp [intOf]; omega
    · go_wp2
      go_ret
      exact ⟨rfl, hb⟩
end Go.Proofs.Ytlgkjidginibdaa

namespace Go.Proofs.Ytlgkjidginibdaa
open Go.ChangeShapes Go.WideShapes Go.ChangeAt Go.RowKit

def meets (q : Q4) (x : Int) : Bool := decide (q.a = x ∨ q.b = x)
def atK (fs : List Q4) (x : Int) (k : Nat) : List Int := ((List.range k).filter fun i => meets (fs.getD i ⟨0, 0, 0, 0⟩) x).map fun i : Nat => ((i : Nat) : Int)
theorem atK_step (fs : List Q4) (x : Int) (k : Nat) (q : Q4) (hk : k < fs.length) (hq : fs[k] = q) : atK fs x (k + 1) = atK fs x k ++ (if meets q x then [(k : Int)] else []) := by
  unfold atK
  rw [List.range_succ, List.filter_append, List.map_append]
  congr 1
  have e : fs.getD k ⟨0, 0, 0, 0⟩ = q := by rw [List.getD_eq_getElem?_getD, List.getElem?_eq_getElem hk, hq]; rfl
  simp only [List.filter_cons, List.filter_nil, e]
  by_cases h : meets q x <;> simp [h]
theorem atK_len (fs : List Q4) (x : Int) (k : Nat) : (atK fs x k).length ≤ k := by
  unfold atK; rw [List.length_map]; exact Nat.le_trans (List.length_filter_le _ _) (by simp)
def atP (ss : List ByteArray) (fs : List Q4) (x : Int) : Prop := netP ss fs ∧ 0 ≤ x ∧ x ≤ (ss.length : Int) - 1
noncomputable def atB (ss : List ByteArray) (fs : List Q4) (x : Int) : Bool := pb (atP ss fs x)
noncomputable def atL (ss : List ByteArray) (fs : List Q4) (x : Int) : List Int := if atB ss fs x then atK fs x fs.length else []
theorem at_no {ss : List ByteArray} {fs : List Q4} {x : Int} (h : ¬ atP ss fs x) : atB ss fs x = false ∧ atL ss fs x = [] := by
  unfold atL atB; rw [pb_false h]; exact ⟨rfl, rfl⟩
theorem at_yes {ss : List ByteArray} {fs : List Q4} {x : Int} (h : atP ss fs x) : atB ss fs x = true ∧ atL ss fs x = atK fs x fs.length := by
  unfold atL atB; rw [pb_true h]; exact ⟨rfl, rfl⟩
/-- a list of ints in memory of the call's own, and a word. -/
def IntsP (zs : List Int) (b : Bool) (w : World) (e : Ending) (w' : World) : Prop :=
  ∃ (A : Option Addr) (N c : Nat), e = .returned (.tuple #[.slice A N c, .bool b]) ∧ Hid (N = zs.length) ∧ w'.ownsRow w.heap.size 3 1 (.slice A N c) N (zs.map (Value.int .i64)) ∧ Below w.heap.size w w'
theorem formOf {w : World} {base : Nat} {e : TypeId} {size : Nat} {v : Value} {n : Nat} {xs : List Value} (h : w.ownsRow base e size v n xs) : ∃ A c, v = .slice A n c := by
  rcases h.2 with ⟨rfl, rfl⟩ | ⟨g, cap, cur, rfl, _⟩
  · exact ⟨none, 0, rfl⟩
  · exact ⟨_, _, rfl⟩
theorem new_one (w : World) (E : TypeId) (u0 : Value) : ∀ (j : Nat) (u : Value), [u0][j]? = some u → (w.alloc (.cells #[u0] E)).cell? ((⟨w.heap.size, 0, none⟩ : Addr).add j) = some u := by
  intro j u hu
  match j, hu with
  | 0, hu => simp at hu; subst hu; exact cell_of_row _ w.heap.size 0 #[u0] E (0, 0) (heap_alloc_new w _)
theorem new_int (z : Int) : ∀ u ∈ [Value.int .i64 z], u.oneCell' = true := by
  intro u hu; simp at hu; subst hu; rfl
theorem other_meets {q : Q4} {n : Nat} {x : Int} (h : fibP q n) : meets q x = decide (0 ≤ otherV q x) := by
  obtain ⟨h1, h2, h3, _⟩ := h
  unfold meets otherV
  by_cases e1 : x = q.a
  · rw [if_pos e1, decide_eq_true (.inl e1.symm), decide_eq_true (by omega)]
  · rw [if_neg e1]
    by_cases e2 : x = q.b
    · rw [if_pos e2, decide_eq_true (.inr e2.symm), decide_eq_true (by omega)]
    · rw [if_neg e2, decide_eq_false (fun h => h.elim (fun h => e1 h.symm) (fun h => e2 h.symm)), decide_eq_false (by omega)]

end Go.Proofs.Ytlgkjidginibdaa

namespace Go.Proofs.Ytlgkjidginibdaa
open Go.ChangeShapes Go.WideShapes Go.ChangeAt Go.RowKit

theorem new_one1 (w : World) (E : TypeId) (u0 : Value) (n : Nat) (hn : w.heap.size = n) : ∀ (j : Nat) (u : Value), [u0][j]? = some u → (w.alloc (.cells #[u0] E)).cell? ((⟨n, 0, none⟩ : Addr).add j) = some u := by
  subst hn; exact new_one w E u0

end Go.Proofs.Ytlgkjidginibdaa

namespace Go.Proofs.Ytlgkjidginibdaa
open Go.ChangeShapes Go.WideShapes Go.ChangeAt Go.RowKit

theorem own_off {S : Nat → Prop} {w w' : World} {B E s n : Nat} {v : Value} {xs : List Value} (ho : w.ownsRow B E s v n xs) (h : Off S w w') (hs : ∀ b, S b → b < B) : w'.ownsRow B E s v n xs := by
  refine ⟨ho.1, ?_⟩
  rcases ho.2 with hn | ⟨g, cap, cur, e, hg, hh, rest⟩
  · exact .inl hn
  · exact .inr ⟨g, cap, cur, e, hg, (h.block g (Array.getElem?_eq_some_iff.1 hh).1 (fun x => by have := hs g x; omega)).trans hh, rest⟩
theorem rows_apart {w : World} {B B' E E' s s' n n' g g' c c' : Nat} {xs ys : List Value} (h : w.ownsRow B E s (.slice (some ⟨g, 0, none⟩) n c) n xs) (h' : w.ownsRow B' E' s' (.slice (some ⟨g', 0, none⟩) n' c') n' ys) (hE : E ≠ E') : g ≠ g' := by
  rintro rfl
  rcases h.2 with ⟨hn, _⟩ | ⟨g1, cap, cur, e, _, hh, _⟩
  · simp at hn
  · rcases h'.2 with ⟨hn, _⟩ | ⟨g2, cap', cur', e', _, hh', _⟩
    · simp at hn
    · injection e with e1; injection e1 with e1; injection e1 with e1
      injection e' with e2; injection e2 with e2; injection e2 with e2
      rw [← e1] at hh
      rw [← e2, hh] at hh'
      injection hh' with hh'
      injection hh' with _ ht
      exact hE ht
def blkOf (A : Option Addr) (b : Nat) : Prop := A.map Addr.block = some b
theorem markIntsA (A : Option Addr) (n c : Nat) (zs : List Int) (w : World) {B : Nat} (ho : w.ownsRow B 3 1 (.slice A n c) n (zs.map (Value.int .i64))) (hn : n ≤ 1048576) :
    Calls Try.prog 65 #[.slice A n c, .int .i64 1] w fun e w' => e = .returned (.int .i64 (1 + n)) ∧ Off (fun b => B ≤ b) w w' ∧ w'.ownsRow B 3 1 (.slice A n c) n ((marks 1 n).map (Value.int .i64)) := by
  rcases ho.2 with ⟨hv, h0⟩ | ⟨g, cap, cur, hv, hg, _⟩
  · injection hv with hA hN hC
    subst hA h0 hC
    refine (markInts_nil w).mono ?_
    rintro e w' ⟨rfl, rfl⟩
    exact ⟨rfl, Off.refl _ _, World.ownsRow_nil _ _ _ _⟩
  · injection hv with hA _ hC
    subst hA hC
    refine (markInts g n c zs w (own_base ho (Nat.zero_le _)) hn).mono ?_
    rintro e w' ⟨rfl, hoff, hown⟩
    refine ⟨rfl, hoff.wider (fun k h => by have h' : k = g := h; omega), ?_⟩
    refine ⟨hown.1, ?_⟩
    rcases hown.2 with hn' | ⟨g', cap', cur', e', _, rest⟩
    · exact .inl hn'
    · have e2 := e'
      injection e2 with e1; injection e1 with e1; injection e1 with e1
      exact .inr ⟨g', cap', cur', e', by omega, rest⟩
theorem atL_len (ss : List ByteArray) (fs : List Q4) (x : Int) : (atL ss fs x).length ≤ fs.length := by
  unfold atL; split
  · exact atK_len _ _ _
  · simp
end Go.Proofs.Ytlgkjidginibdaa

namespace Go.Proofs.Ytlgkjidginibdaa
open Go.RowKit

def selK (p : Nat → Bool) : Nat → List Int
  | 0 => []
  | k + 1 => if p k then selK p k ++ [(k : Int)] else selK p k
theorem sel_in {p : Nat → Bool} {k : Nat} (h : p k = true) : selK p (k + 1) = selK p k ++ [(k : Int)] := by rw [selK, h]; rfl
theorem sel_out {p : Nat → Bool} {k : Nat} (h : p k = false) : selK p (k + 1) = selK p k := by rw [selK, h]; rfl
theorem sel_len (p : Nat → Bool) : ∀ k, (selK p k).length ≤ k
  | 0 => Nat.le_refl _
  | k + 1 => by
    have := sel_len p k
    rw [selK]
    split
    · rw [List.length_append]; exact Nat.succ_le_succ this
    · exact Nat.le_succ_of_le this
theorem sel_ext {p q : Nat → Bool} : ∀ {k : Nat}, (∀ i, i < k → p i = q i) → selK p k = selK q k
  | 0, _ => rfl
  | k + 1, h => by rw [selK, selK, h k (by omega), sel_ext fun i hi => h i (by omega)]
theorem sel_nil {p : Nat → Bool} : ∀ {n : Nat}, selK p n = [] ↔ ∀ k, k < n → p k = false
  | 0 => ⟨fun _ k hk => by omega, fun _ => rfl⟩
  | n + 1 => by
    constructor
    · intro h k hk
      cases hq : p n with
      | true => rw [sel_in hq] at h; simp at h
      | false =>
        rw [sel_out hq] at h
        by_cases e : k = n
        · rw [e]; exact hq
        · exact sel_nil.1 h k (by omega)
    · intro h
      rw [sel_out (h n (by omega))]
      exact sel_nil.2 fun k hk => h k (by omega)
theorem sel_mem {p : Nat → Bool} {x : Int} : ∀ {n : Nat}, x ∈ selK p n ↔ ∃ k : Nat, x = (k : Int) ∧ k < n ∧ p k = true
  | 0 => ⟨fun h => by simp [selK] at h, fun ⟨k, _, h, _⟩ => by omega⟩
  | n + 1 => by
    constructor
    · intro h
      cases hq : p n with
      | true =>
        rw [sel_in hq] at h
        rcases List.mem_append.1 h with h | h
        · obtain ⟨k, e, hk, hp⟩ := sel_mem.1 h
          exact ⟨k, e, by omega, hp⟩
        · exact ⟨n, List.mem_singleton.1 h, by omega, hq⟩
      | false =>
        rw [sel_out hq] at h
        obtain ⟨k, e, hk, hp⟩ := sel_mem.1 h
        exact ⟨k, e, by omega, hp⟩
    · rintro ⟨k, rfl, hk, hp⟩
      by_cases e : k = n
      · subst e; rw [sel_in hp]; exact List.mem_append_right _ (List.mem_singleton.2 rfl)
      · have h := sel_mem.2 ⟨k, rfl, (by omega : k < n), hp⟩
        rw [selK]
        split
        · exact List.mem_append_left _ h
        · exact h
/-- an answer that is a selection under a condition. -/
noncomputable def selV (P : Prop) (p : Nat → Bool) (n : Nat) : List Int := if pb P then selK p n else []
theorem selV_no {P : Prop} {p : Nat → Bool} {n : Nat} (h : ¬ P) : selV P p n = [] ∧ pb P = false := by
  refine ⟨?_, pb_false h⟩
  unfold selV; rw [pb_false h]; rfl
theorem selV_yes {P : Prop} {p : Nat → Bool} {n : Nat} (h : P) : selV P p n = selK p n ∧ pb P = true := by
  refine ⟨?_, pb_true h⟩
  unfold selV; rw [pb_true h]; rfl
theorem selV_len (P : Prop) (p : Nat → Bool) (n : Nat) : (selV P p n).length ≤ n := by
  unfold selV
  split
  · exact sel_len _ _
  · simp
end Go.Proofs.Ytlgkjidginibdaa

namespace Go.Proofs.Ytlgkjidginibdaa
open Go.ChangeShapes Go.WideShapes Go.ChangeAt Go.RowKit

theorem or_i64_ (a b : Nat) (ha : a < 2 ^ 62) (hb : b < 2 ^ 62) : bits .or .i64 (a : Int) (b : Int) = ((a ||| b : Nat) : Int) := by
  have hp : (2 : Nat) ^ 62 ≤ 2 ^ 64 := Nat.pow_le_pow_right (by decide) (by decide)
  have ha' : a % 2 ^ 64 = a := Nat.mod_eq_of_lt (Nat.lt_of_lt_of_le ha hp)
  have hb' : b % 2 ^ 64 = b := Nat.mod_eq_of_lt (Nat.lt_of_lt_of_le hb hp)
  have hx := Nat.or_lt_two_pow (n := 62) ha hb
  show IntKind.i64.wrap ((BitVec.ofInt 64 (a : Int) ||| BitVec.ofInt 64 (b : Int)).toNat : Int) = _
  rw [BitVec.ofInt_natCast, BitVec.ofInt_natCast, BitVec.toNat_or, BitVec.toNat_ofNat, BitVec.toNat_ofNat, ha', hb']
  rw [IntKind.wrap_i64]
  have : ((a ||| b : Nat) : Int) < 2 ^ 62 := by exact_mod_cast hx
  have := Int.natCast_nonneg (a ||| b)
  omega
theorem and_i64m (x : Nat) (h : x < 2 ^ 62) : bits .and .i64 (x : Int) 1 = ((x % 2 : Nat) : Int) := by
  have wr : ∀ n : Int, 0 ≤ n → n < 2 ^ 62 → IntKind.i64.wrap n = n := by intro n h0 h1; rw [IntKind.wrap_i64]; omega
  have := (bits_nat .i64 62 (by decide) wr x 1 h (by decide)).1
  rw [Nat.and_one_is_mod] at this
  exact this
def nth (zs : List Int) (k : Nat) : Int := zs.getD k 0
theorem nth_eq {zs : List Int} {k : Nat} (h : k < zs.length) : zs[k] = nth zs k := by unfold nth; rw [List.getD_eq_getElem?_getD, List.getElem?_eq_getElem h]; rfl
def lastN (zs : List Int) : Nat → Int
  | 0 => -1
  | k + 1 => nth zs k
def risN (zs : List Int) (lim : Int) : Nat → Bool
  | 0 => true
  | k + 1 => risN zs lim k && decide (lastN zs k < nth zs k ∧ nth zs k < lim)
def risB (zs : List Int) (lim : Int) : Bool := risN zs lim zs.length
theorem ris_last {zs : List Int} {lim : Int} : ∀ {k : Nat}, risN zs lim k = true → -1 ≤ lastN zs k ∧ (k = 0 ∨ (0 ≤ lastN zs k ∧ lastN zs k < lim))
  | 0, _ => ⟨Int.le_refl _, .inl rfl⟩
  | k + 1, h => by
    unfold risN at h
    simp only [Bool.and_eq_true, decide_eq_true_eq] at h
    obtain ⟨h1, h2, h3⟩ := h
    have := (ris_last h1).1
    exact ⟨by show -1 ≤ nth zs k; omega, .inr ⟨by show 0 ≤ nth zs k; omega, h3⟩⟩
theorem ris_yes {zs : List Int} {lim : Int} {k : Nat} (h : risN zs lim k = true) (h1 : lastN zs k < nth zs k) (h2 : nth zs k < lim) : risN zs lim (k + 1) = true := by
  unfold risN; rw [h, decide_eq_true ⟨h1, h2⟩]; rfl
theorem ris_down {zs : List Int} {lim : Int} {k : Nat} : ∀ d, risN zs lim (k + d) = true → risN zs lim k = true
  | 0, h => h
  | d + 1, h => by
    have h' : risN zs lim (k + d + 1) = true := h
    unfold risN at h'
    simp only [Bool.and_eq_true] at h'
    exact ris_down d h'.1
theorem ris_no {zs : List Int} {lim : Int} {k : Nat} (hk : k < zs.length) (h : ¬ (lastN zs k < nth zs k ∧ nth zs k < lim)) : risB zs lim = false := by
  cases hb : risB zs lim with
  | false => rfl
  | true =>
    unfold risB at hb
    rw [show zs.length = k + 1 + (zs.length - (k + 1)) by omega] at hb
    have := ris_down _ hb
    unfold risN at this
    simp only [Bool.and_eq_true, decide_eq_true_eq] at this
    exact absurd this.2 h
theorem ris_end {zs : List Int} {lim : Int} {n : Nat} (hn : zs.length = n) (h : risN zs lim n = true) : risB zs lim = true := by unfold risB; rw [hn]; exact h
theorem ris_all {zs : List Int} {lim : Int} (h : risB zs lim = true) : ∀ k, k < zs.length → 0 ≤ nth zs k ∧ nth zs k < lim := by
  intro k hk
  unfold risB at h
  rw [show zs.length = k + 1 + (zs.length - (k + 1)) by omega] at h
  have := (ris_last (ris_down _ h)).2
  rcases this with h0 | h0
  · omega
  · exact h0

theorem drewN_below_ {w w' : World} {B : Nat} (h : Below B w w') (m : Nat) : Below B w (w'.drewN m) := drewN_below h m
theorem pred_wrap_ (k m : Nat) (h : k = m + 1) (hk : k ≤ 1048576) : IntKind.i64.wrap ((k : Int) - 1) = (m : Int) := by
  rw [IntWalk.i64_in _ (by omega)]; omega
def maskN (zs : List Int) : Nat → Nat
  | 0 => 0
  | k + 1 => maskN zs k ||| 2 ^ (nth zs k).toNat
theorem mask_test {zs : List Int} {i : Nat} : ∀ {k : Nat}, (∀ j, j < k → 0 ≤ nth zs j) → (maskN zs k).testBit i = decide (∃ j, j < k ∧ nth zs j = (i : Int))
  | 0, _ => by rw [decide_eq_false (by rintro ⟨j, h, _⟩; omega)]; exact Nat.zero_testBit i
  | k + 1, h => by
    have ih := mask_test (i := i) (k := k) (fun j hj => h j (by omega))
    unfold maskN
    rw [Nat.testBit_or, ih, Nat.testBit_two_pow]
    have h0 := h k (by omega)
    by_cases h1 : nth zs k = (i : Int)
    · rw [decide_eq_true (show (nth zs k).toNat = i by omega), Bool.or_true]
      exact (decide_eq_true ⟨k, by omega, h1⟩).symm
    · rw [decide_eq_false (show ¬ (nth zs k).toNat = i by omega), Bool.or_false]
      by_cases h2 : ∃ j, j < k ∧ nth zs j = (i : Int)
      · rw [decide_eq_true h2]; obtain ⟨j, hj, e⟩ := h2; exact (decide_eq_true ⟨j, by omega, e⟩).symm
      · rw [decide_eq_false h2]
        refine (decide_eq_false ?_).symm
        rintro ⟨j, hj, e⟩
        by_cases hjk : j < k
        · exact h2 ⟨j, hjk, e⟩
        · obtain rfl : j = k := by omega
          exact h1 e
theorem mem_nth {zs : List Int} {x : Int} : x ∈ zs ↔ ∃ j, j < zs.length ∧ nth zs j = x := by
  constructor
  · intro h
    obtain ⟨j, hj, e⟩ := List.getElem_of_mem h
    exact ⟨j, hj, by rw [← nth_eq hj]; exact e⟩
  · rintro ⟨j, hj, e⟩
    rw [← e, ← nth_eq hj]; exact List.getElem_mem hj
/-- the bit of a number in the mask of a set. -/
theorem mask_bit {zs : List Int} {n a : Nat} (hn : zs.length = n) (h : ∀ k, k < n → 0 ≤ nth zs k ∧ nth zs k < 20) (hm : maskN zs n < 2 ^ 20) :
    bits .and .i64 ((maskN zs n : Int) / (2 : Int) ^ a) 1 = if (a : Int) ∈ zs then 1 else 0 := by
  have e := and_i64m (maskN zs n / 2 ^ a) (Nat.lt_of_le_of_lt (Nat.div_le_self _ _) (by omega))
  have e2 : ((maskN zs n / 2 ^ a : Nat) : Int) = (maskN zs n : Int) / (2 : Int) ^ a := by simp
  rw [e2] at e
  rw [e]
  have ht : (maskN zs n).testBit a = decide ((a : Int) ∈ zs) := by
    rw [mask_test (fun j hj => (h j hj).1)]
    exact decide_eq_decide.2 (by rw [mem_nth, hn])
  rw [Nat.testBit_eq_decide_div_mod_eq] at ht
  by_cases hm' : (a : Int) ∈ zs
  · rw [decide_eq_true hm'] at ht
    rw [if_pos hm', of_decide_eq_true ht]; rfl
  · rw [decide_eq_false hm'] at ht
    have := of_decide_eq_false ht
    rw [if_neg hm', show maskN zs n / 2 ^ a % 2 = 0 by omega]; rfl
set_option maxHeartbeats 1000000 in
theorem maskOf_ (A : Option Addr) (n c : Nat) (zs : List Int) (w : World) (hn : zs.length = n) (hs : n ≤ 1048576) (hr : Rd w w.heap.size A (zs.map (Value.int .i64))) (hz : ∀ k, k < n → 0 ≤ nth zs k ∧ nth zs k < 20) :
    Calls Try.prog 213 #[.slice A n c] w fun e w' => e = .returned (.int .i64 (maskN zs n : Nat)) ∧ w = w' := by
  have HN := Lib.hid hn; clear hn
  have HZ := Lib.hid hz; clear hz
  go_enter Try.func213, Try.ntmps213
  go_wp2
  go_loop [3, 8] (fun l i => ∃ (k m : Nat), k ≤ n ∧ i = .int .i64 k ∧ l = .int .i64 m ∧ Hid (maskN zs k = m ∧ m < 2 ^ 20)) (fun _ i => n - (intOf i).toNat)
  case atStart => exact ⟨0, 0, Nat.zero_le _, rfl, rfl, Lib.hid ⟨rfl, by decide⟩⟩
  case round =>
    obtain ⟨k, m, hk, rfl, rfl, HA⟩ := hrel
    by_cases hlt : k < n
    case neg =>
      obtain rfl : k = n := by omega
      obtain rfl : maskN zs k = m := HA.out.1
      clear hlt
      go_wp2
      go_ret
      exact ⟨rfl, rfl⟩
    case pos =>
    have hks : k < zs.length := by have := HN.out; omega
    obtain ⟨ad, rfl, _, f0⟩ := hr.got (k := k) (by simpa using hks)
    simp only [List.getElem_map] at f0
    rw [nth_eq hks] at f0
    obtain ⟨y, hy⟩ : ∃ y : Nat, nth zs k = (y : Int) := ⟨(nth zs k).toNat, by have := HZ.out k hlt; omega⟩
    have hy20 : y < 20 := by have := HZ.out k hlt; omega
    rw [hy] at f0
    have hp : 2 ^ y < 2 ^ 20 := Nat.pow_lt_pow_right (by decide) hy20
    have HX : Hid (bits .or .i64 (m : Int) ((2 : Int) ^ y) = ((m ||| 2 ^ y : Nat) : Int)) := Lib.hid (by
      have := or_i64_ m (2 ^ y) (by have := HA.out.2; omega) (by omega)
      rw [show ((2 ^ y : Nat) : Int) = (2 : Int) ^ y by simp] at this
      exact this)
    have HS : Hid (maskN zs (k + 1) = m ||| 2 ^ y ∧ m ||| 2 ^ y < 2 ^ 20) := Lib.hid ⟨by unfold maskN; rw [HA.out.1, hy, Int.toNat_natCast], Nat.or_lt_two_pow HA.out.2 hp⟩
    have hw1 : (2 : Int) ^ y ≤ 1048575 := by
      have : ((2 ^ y : Nat) : Int) ≤ 1048575 := by omega
      simpa using this
    have hw0 : 0 ≤ (2 : Int) ^ y := Int.pow_nonneg (by omega)
    clear hy HA hp
    go_wp2
    go_round
    case rel => exact ⟨k + 1, m ||| 2 ^ y, by omega, by go_num, congrArg _ HX.out, HS⟩
    case measure => simp [intOf]; omega
end Go.Proofs.Ytlgkjidginibdaa

namespace Go.Proofs.Ytlgkjidginibdaa
open Go.ChangeShapes Go.WideShapes Go.ChangeAt Go.RowKit

/-- one step of a walk whose nodes, the latest first, are ns. -/
def stepO (fs : List Q4) (ns : List Int) (x : Int) : Option Int :=
  if (0 ≤ x ∧ x < fs.length) ∧ acrB (fibI fs x) (ns.headD 0) = true ∧ ¬ acrI (fibI fs x) (ns.headD 0) ∈ ns then some (acrI (fibI fs x) (ns.headD 0)) else none
/-- a walk over fibers, one after the other; the nodes the latest first. -/
def walkR (fs : List Q4) : List Int → List Int → Option (List Int)
  | [], ns => some ns
  | x :: r, ns => match stepO fs ns x with
    | none => none
    | some nx => walkR fs r (nx :: ns)
def lenX (fs : List Q4) (xs : List Int) : Int := (xs.map fun x => (fibI fs x).c).sum
theorem lenX_cons (fs : List Q4) (x : Int) (xs : List Int) : lenX fs (x :: xs) = (fibI fs x).c + lenX fs xs := by unfold lenX; simp
theorem walkR_none {fs : List Q4} {x : Int} {r ns : List Int} (h : stepO fs ns x = none) : walkR fs (x :: r) ns = none := by rw [walkR, h]
theorem walkR_some {fs : List Q4} {x nx : Int} {r ns : List Int} (h : stepO fs ns x = some nx) : walkR fs (x :: r) ns = walkR fs r (nx :: ns) := by rw [walkR, h]
/-- a walk in memory: at block g, the fibers xs and the nodes ns, the latest first. -/
def Lk (fs : List Q4) (w : World) : Nat → List Int → List Int → Prop
  | g, [], ns => ∃ st, ns = [st] ∧ w.heap[g]? = some (.cells #[.int .i64 st, .int .i64 0, .int .i64 0, .int .i64 0, .pointer none] 216 (0, 0))
  | g, x :: xs, ns => ∃ nx ns' g', ns = nx :: ns' ∧ w.heap[g]? = some (.cells #[.int .i64 nx, .int .i64 (lenX fs (x :: xs)), .int .i64 ((x :: xs).length : Int), .int .i64 x, .pointer (some ⟨g', 0, none⟩)] 216 (0, 0)) ∧ Lk fs w g' xs ns'
theorem Lk.lt {fs : List Q4} {w : World} : ∀ {xs : List Int} {g : Nat} {ns : List Int}, Lk fs w g xs ns → g < w.heap.size
  | [], _, _, ⟨_, _, h⟩ => (Array.getElem?_eq_some_iff.1 h).1
  | _ :: _, _, _, ⟨_, _, _, _, h, _⟩ => (Array.getElem?_eq_some_iff.1 h).1
theorem Lk.over {fs : List Q4} {w w' : World} (hb : Below w.heap.size w w') : ∀ {xs : List Int} {g : Nat} {ns : List Int}, Lk fs w g xs ns → Lk fs w' g xs ns
  | [], g, _, ⟨st, e, h⟩ => ⟨st, e, (hb.block g (Array.getElem?_eq_some_iff.1 h).1).trans h⟩
  | _ :: _, g, _, ⟨nx, ns', g', e, h, r⟩ => ⟨nx, ns', g', e, (hb.block g (Array.getElem?_eq_some_iff.1 h).1).trans h, Lk.over hb r⟩
theorem Lk.len {fs : List Q4} {w : World} : ∀ {xs : List Int} {g : Nat} {ns : List Int}, Lk fs w g xs ns → ns.length = xs.length + 1
  | [], _, _, ⟨_, e, _⟩ => by rw [e]; rfl
  | _ :: xs, _, _, ⟨_, _, _, e, _, r⟩ => by rw [e, List.length_cons, r.len]; rfl
theorem Lk.see {fs : List Q4} {w : World} {xs : List Int} {g : Nat} {ns : List Int} (h : Lk fs w g xs ns) :
    ∃ (nd : Int) (tl : List Int) (la : Int) (p : Option Addr), ns = nd :: tl ∧ w.heap[g]? = some (.cells #[.int .i64 nd, .int .i64 (lenX fs xs), .int .i64 (xs.length : Int), .int .i64 la, .pointer p] 216 (0, 0)) ∧
      ((p = none ∧ xs = [] ∧ tl = []) ∨ ∃ g' x xs', p = some ⟨g', 0, none⟩ ∧ xs = x :: xs' ∧ x = la ∧ Lk fs w g' xs' tl) := by
  cases xs with
  | nil =>
    obtain ⟨st, e, h⟩ := h
    exact ⟨st, [], 0, none, e, h, .inl ⟨rfl, rfl, rfl⟩⟩
  | cons x xs =>
    obtain ⟨nx, ns', g', e, h, r⟩ := h
    exact ⟨nx, ns', x, _, e, h, .inr ⟨g', x, xs, rfl, rfl, rfl, r⟩⟩
theorem five_cells {W : World} {g : Nat} {T : TypeId} {a b c d e : Value} (hg : W.heap[g]? = some (.cells #[a, b, c, d, e] T (0, 0))) :
    W.cell? ⟨g, 0, none⟩ = some a ∧ W.cell? ⟨g, 1, none⟩ = some b ∧ W.cell? ⟨g, 2, none⟩ = some c ∧ W.cell? ⟨g, 3, none⟩ = some d ∧ W.cell? ⟨g, 4, none⟩ = some e :=
  ⟨cell_of_row W g 0 _ T _ hg, cell_of_row W g 1 _ T _ hg, cell_of_row W g 2 _ T _ hg, cell_of_row W g 3 _ T _ hg, cell_of_row W g 4 _ T _ hg⟩

set_option maxHeartbeats 1000000 in
theorem visits_ {fs : List Q4} {xs ns : List Int} {g : Nat} (node : Int) (w : World) (h : Lk fs w g xs ns) :
    Calls Try.prog 243 #[.pointer (some ⟨g, 0, none⟩), .int .i64 node] w fun e w' => e = .returned (.bool (decide (node ∈ ns))) ∧ w = w' := by
  obtain ⟨r, hr⟩ : ∃ r, decide (node ∈ ns) = r := ⟨_, rfl⟩
  rw [hr]
  have HR := Lib.hid hr; clear hr
  have HH := Lib.hid h; clear h
  go_enter Try.func243, Try.ntmps243
  go_wp2
  go_loopg [5] (xs.length + 1) (fun k p wr => w = wr ∧ ∃ q, p = .pointer q ∧ ((q = none ∧ Hid (¬ node ∈ ns)) ∨ ∃ g' xs' ns', q = some ⟨g', 0, none⟩ ∧ Hid (Lk fs w g' xs' ns' ∧ k = xs'.length + 1 ∧ (node ∈ ns ↔ node ∈ ns'))))
  case atStart => exact ⟨rfl, _, rfl, .inr ⟨g, xs, ns, rfl, Lib.hid ⟨HH.out, rfl, Iff.rfl⟩⟩⟩
  case round =>
    obtain ⟨rfl, q, rfl, hq⟩ := hrel
    rcases hq with ⟨rfl, hq⟩ | ⟨g', xs', ns', rfl, hq⟩
    · have HE : Hid (false = r) := Lib.hid (by rw [← HR.out]; exact (decide_eq_false hq.out).symm)
      go_wp2
      go_ret
      exact ⟨retb HE.out, rfl⟩
    · obtain ⟨nd, tl, la, p, e1, hh, hp⟩ := hq.out.1.see
      obtain ⟨f0, _, _, _, f4⟩ := five_cells hh
      have HP := Lib.hid hp
      have HE1 := Lib.hid e1
      clear hh hp e1
      by_cases hn : nd = node
      · have HE : Hid (true = r) := Lib.hid (by rw [← HR.out]; exact (decide_eq_true (hq.out.2.2.2 (by rw [HE1.out, hn]; simp))).symm)
        subst hn
        go_wp2
        go_ret
        exact ⟨retb HE.out, rfl⟩
      · have hn' : (nd == node) = false := by simpa using hn
        have HN := Lib.hid hn
        clear hn
        rcases HP.out with ⟨rfl, hx, ht⟩ | ⟨g2, x, xs2, rfl, hx, _, hl⟩
        · have HF : Hid (¬ node ∈ ns) := Lib.hid (fun h => by
            have := hq.out.2.2.1 h
            rw [HE1.out, ht] at this
            simp at this
            exact HN.out this.symm)
          have HGK : Hid (0 < gk) := Lib.hid (by have := hq.out.2.1; omega)
          clear hx ht
          go_wp2
          go_roundg 0
          case measure => exact HGK.out
          case rel => exact ⟨rfl, _, rfl, .inl ⟨rfl, HF⟩⟩
        · have HF : Hid (Lk fs w g2 xs2 tl ∧ xs2.length + 1 = xs2.length + 1 ∧ (node ∈ ns ↔ node ∈ tl)) := Lib.hid ⟨hl, rfl, by
            rw [hq.out.2.2, HE1.out]
            constructor
            · intro h
              rcases List.mem_cons.1 h with h | h
              · exact absurd h.symm HN.out
              · exact h
            · intro h; exact List.mem_cons_of_mem _ h⟩
          have HGK : Hid (xs2.length + 1 < gk) := Lib.hid (by have := hq.out.2.1; rw [hx] at this; simp at this; omega)
          clear hx hl
          go_wp2
          go_roundg (xs2.length + 1)
          case measure => exact HGK.out
          case rel => exact ⟨rfl, _, rfl, .inr ⟨g2, xs2, tl, rfl, Lib.hid ⟨HF.out.1, rfl, HF.out.2.2⟩⟩⟩

def OverP (fs : List Q4) (xs ns : List Int) (x : Int) (w : World) (e : Ending) (w' : World) : Prop :=
  Below w.heap.size w w' ∧ ((stepO fs ns x = none ∧ e = .returned (.tuple #[.pointer none, .bool false])) ∨
    ∃ nx g', stepO fs ns x = some nx ∧ e = .returned (.tuple #[.pointer (some ⟨g', 0, none⟩), .bool true]) ∧ Lk fs w' g' (x :: xs) (nx :: ns))
theorem over_no {fs : List Q4} {xs ns : List Int} {x : Int} {w w' : World} (hs : stepO fs ns x = none) (hb : Below w.heap.size w w') : OverP fs xs ns x w (.returned (.tuple #[.pointer none, .bool false])) w' := ⟨hb, .inl ⟨hs, rfl⟩⟩
theorem fib_c {ss : List ByteArray} {fs : List Q4} (hv : netP ss fs) (x : Int) : 0 ≤ (fibI fs x).c ∧ (fibI fs x).c ≤ 5000 := by
  unfold fibI
  rw [List.getD_eq_getElem?_getD]
  by_cases h : x.toNat < fs.length
  · rw [List.getElem?_eq_getElem h]
    have := (hv.2.2.2 x.toNat h h).1
    unfold fibP at this
    simp only [Option.getD_some]
    omega
  · rw [List.getElem?_eq_none (by omega)]
    simp
theorem lenX_bd {ss : List ByteArray} {fs : List Q4} (hv : netP ss fs) : ∀ xs : List Int, 0 ≤ lenX fs xs ∧ lenX fs xs ≤ 5000 * (xs.length : Int)
  | [] => by simp [lenX]
  | x :: xs => by
    have h1 := lenX_bd hv xs
    have h2 := fib_c hv x
    rw [lenX_cons, List.length_cons]
    omega

set_option maxRecDepth 100000 in
set_option maxHeartbeats 4000000 in
theorem over_ {g1 g2 n1 n2 c1 c2 : Nat} {ss : List ByteArray} {fs : List Q4} {w : World} (h : NetAt g1 g2 n1 n2 c1 c2 ss fs w) (hv : netP ss fs) {xs ns : List Int} {g : Nat} (hl : Lk fs w g xs ns) (hx : xs.length ≤ 1000000000000) (x : Int) :
    Calls Try.prog 231 #[.pointer (some ⟨g, 0, none⟩), .agg #[.slice (some ⟨g1, 0, none⟩) n1 c1, .slice (some ⟨g2, 0, none⟩) n2 c2], .int .i64 x] w (OverP fs xs ns x w) := by
  have HN := Lib.hid h; have HL := Lib.hid hl; have HV := Lib.hid hv; have HX := Lib.hid hx
  have hln := h.ln2
  have HLN := Lib.hid hln
  clear h hl hv hx hln
  by_cases hin : 0 ≤ x ∧ x < n2
  case neg =>
    have HS : Hid (stepO fs ns x = none) := Lib.hid (by unfold stepO; rw [if_neg (fun h => hin (by have := HLN.out; have := h.1; omega))])
    have CF := Lib.hid (fun W => isFib_no (g1 := g1) (g2 := g2) (n1 := n1) (n2 := n2) (c1 := c1) (c2 := c2) x W (by omega))
    have HB := Lib.hid ((Below.refl w.heap.size w).alloc (Nat.le_refl _) (Obj.cells #[.slice (some ⟨g1, 0, none⟩) n1 c1, .slice (some ⟨g2, 0, none⟩) n2 c2] 39))
    clear hin
    go_enter Try.func231, Try.ntmps231
    go_wp2_with fail
    refine (CF.out _).mono ?_
    rintro e w1 ⟨rfl, hb1⟩
    have HB1 := Lib.hid (HB.out.trans (hb1.mono (by simp)))
    clear hb1
    go_wp2
    go_ret2
    exact over_no HS.out HB1.out
  case pos =>
  have CF := Lib.hid (fun W => isFib_yes (g1 := g1) (g2 := g2) (n1 := n1) (n2 := n2) (c1 := c1) (c2 := c2) x W hin.1 hin.2)
  obtain ⟨k, rfl⟩ : ∃ k : Nat, x = k := ⟨x.toNat, by omega⟩
  have hks : k < fs.length := by have := HLN.out; omega
  obtain ⟨⟨qa, qb, qc, qd⟩, hq⟩ : ∃ q, fs[k]'hks = q := ⟨_, rfl⟩
  have HQ : Hid (fibI fs (k : Int) = ⟨qa, qb, qc, qd⟩) := Lib.hid (by
    unfold fibI
    rw [List.getD_eq_getElem?_getD, show ((k : Int)).toNat = k by omega, List.getElem?_eq_getElem hks, hq]; rfl)
  have hc5 := fib_c HV.out (k : Int)
  have hlb := lenX_bd HV.out xs
  rw [HQ.out] at hc5
  simp only at hc5
  obtain ⟨nd, tl, la, p, hns, hh, _⟩ := HL.out.see
  have HNS := Lib.hid hns
  have HH := Lib.hid hh
  have hkn : k < n2 := by omega
  obtain ⟨L, hL⟩ : ∃ L, lenX fs xs = L := ⟨_, rfl⟩
  rw [hL] at hlb hh HH
  have HLL := Lib.hid hL
  obtain ⟨m, hm⟩ : ∃ m, xs.length = m := ⟨_, rfl⟩
  have hx' := HX.out
  rw [hm] at hlb hh HH hx'
  have HM := Lib.hid hm
  have hgw := HL.out.lt
  have hrd := HN.out.rd2.q4c hks
  rw [Nat.zero_add, hq] at hrd
  obtain ⟨hg2, r0, r1, r2, r3⟩ := hrd
  simp only at r0 r1 r2 r3
  have HR0 := Lib.hid r0; have HR1 := Lib.hid r1; have HR2 := Lib.hid r2; have HR3 := Lib.hid r3
  have HHX := Lib.hid hh
  clear hq hns hh hL hm r0 r1 r2 r3 hin
  go_enter Try.func231, Try.ntmps231
  go_wp2_with fail
  obtain ⟨W0, hW0⟩ : ∃ W0, w.alloc (Obj.cells #[.slice (some ⟨g1, 0, none⟩) n1 c1, .slice (some ⟨g2, 0, none⟩) n2 c2] 39) = W0 := ⟨_, rfl⟩
  have hb0 : Below w.heap.size w W0 := by rw [← hW0]; exact (Below.refl _ _).alloc (Nat.le_refl _) _
  have hk1 : W0.cell? ⟨w.heap.size, 1, none⟩ = some (.slice (some ⟨g2, 0, none⟩) n2 c2) := by rw [← hW0]; simp [go_sem]
  have hk0 : W0.cell? ⟨w.heap.size, 0, none⟩ = some (.slice (some ⟨g1, 0, none⟩) n1 c1) := by rw [← hW0]; simp [go_sem]
  have hz0 : w.heap.size < W0.heap.size := by rw [← hW0]; simp
  have HB0 := Lib.hid hb0; have HK1 := Lib.hid hk1; have HK0 := Lib.hid hk0; have HZ0 := Lib.hid hz0
  rw [hW0]
  clear hW0 hb0 hk1 hk0 hz0
  refine (CF.out _).mono ?_
  rintro e w1 ⟨rfl, hb1⟩
  have HB1 := Lib.hid (HB0.out.trans (hb1.mono HB0.out.size))
  have hk1 := (hb1.cell (p := ⟨w.heap.size, 1, none⟩) HZ0.out).trans HK1.out
  have hz1 : w.heap.size < w1.heap.size := Nat.lt_of_lt_of_le HZ0.out hb1.size
  have HK11 := Lib.hid hk1
  clear hb1
  go_wp2
  have hgz : g < w1.heap.size := Nat.lt_of_lt_of_le hgw HB1.out.size
  have hg2z : g2 < w1.heap.size := Nat.lt_of_lt_of_le hg2 HB1.out.size
  obtain ⟨f0, f1, f2, f3, f4⟩ := five_cells ((HB1.out.block g hgw).trans HHX.out)
  have hr0 := (HB1.out.cell (p := ⟨g2, k * 4, none⟩) hg2).trans HR0.out
  have hr1 := (HB1.out.cell (p := ⟨g2, k * 4 + 1, none⟩) hg2).trans HR1.out
  have hr2 := (HB1.out.cell (p := ⟨g2, k * 4 + 2, none⟩) hg2).trans HR2.out
  have hr3 := (HB1.out.cell (p := ⟨g2, k * 4 + 3, none⟩) hg2).trans HR3.out
  have CA := Lib.hid (fun W => across_any ⟨qa, qb, qc, qd⟩ nd W)
  obtain ⟨nx, hnx⟩ : ∃ nx, acrI ⟨qa, qb, qc, qd⟩ nd = nx := ⟨_, rfl⟩
  obtain ⟨ok, hok⟩ : ∃ ok, acrB ⟨qa, qb, qc, qd⟩ nd = ok := ⟨_, rfl⟩
  rw [hnx, hok] at CA
  unfold cells4 at CA
  simp only at CA
  have HNX := Lib.hid hnx; have HOK := Lib.hid hok
  clear hnx hok
  obtain ⟨T, f, x0, hx0, hT, HST⟩ := above w1
  haveI : Nonempty T := ⟨x0⟩
  have s0 : ∀ x, (f x).cell? ⟨w.heap.size, 1, none⟩ = some (.slice (some ⟨g2, 0, none⟩) n2 c2) := fun x => ((hT x).cell (p := ⟨_, _, none⟩) hz1).trans hk1
  have s1 : ∀ x, (f x).cell? ⟨g2, k * 4, none⟩ = some (.int .i64 qa) := fun x => ((hT x).cell (p := ⟨_, _, none⟩) hg2z).trans hr0
  have s2 : ∀ x, (f x).cell? ⟨g2, k * 4 + 1, none⟩ = some (.int .i64 qb) := fun x => ((hT x).cell (p := ⟨_, _, none⟩) hg2z).trans hr1
  have s3 : ∀ x, (f x).cell? ⟨g2, k * 4 + 2, none⟩ = some (.int .i64 qc) := fun x => ((hT x).cell (p := ⟨_, _, none⟩) hg2z).trans hr2
  have s4 : ∀ x, (f x).cell? ⟨g2, k * 4 + 3, none⟩ = some (.int .i64 qd) := fun x => ((hT x).cell (p := ⟨_, _, none⟩) hg2z).trans hr3
  have s5 : ∀ x, (f x).cell? ⟨g, 0, none⟩ = some (.int .i64 nd) := fun x => ((hT x).cell (p := ⟨_, _, none⟩) hgz).trans f0
  have HT := Lib.hid hT; have HXX := Lib.hid hx0
  have HF1 := Lib.hid f1; have HF2 := Lib.hid f2
  clear hT hx0 hk1 hr0 hr1 hr2 hr3 f0 f1 f2 f3 f4
  refine wp_region_class f (by kernel_rfl) (by kernel_rfl) x0 HXX.out ?_
  repeat (go_big_quiet_step ((go_at_call 242; exact Calls.inClass HST (CA.out _))))
  refine wpQuiet_nil ?_
  rintro _ ⟨x, rfl⟩
  have HB2 := Lib.hid (HT.out x)
  clear s0 s1 s2 s3 s4 s5
  generalize f x = w2 at HB2 ⊢
  have HB02 := Lib.hid (HB1.out.trans (HB2.out.mono HB1.out.size))
  have HL2 := Lib.hid (HL.out.over HB02.out)
  cases ok
  case false =>
    have HS : Hid (stepO fs ns (k : Int) = none) := Lib.hid (by
      unfold stepO
      rw [HNS.out, HQ.out]
      rw [if_neg (fun h => by have := h.2.1; rw [List.headD_cons, HOK.out] at this; exact absurd this (by decide))])
    go_wp2
    go_ret2
    exact over_no HS.out HB02.out
  case true =>
  have CV := Lib.hid (visits_ (fs := fs) nx w2 HL2.out)
  cases hvis : decide (nx ∈ ns)
  case true =>
    have HS : Hid (stepO fs ns (k : Int) = none) := Lib.hid (by
      have h1 := of_decide_eq_true hvis
      unfold stepO
      rw [HQ.out]
      rw [if_neg (fun h => by have := h.2.2; rw [HNS.out, List.headD_cons, HNX.out, ← HNS.out] at this; exact this h1)])
    rw [hvis] at CV
    clear hvis
    go_wp2_with fail
    refine CV.out.mono ?_
    rintro e w' ⟨rfl, rfl⟩
    go_wp2
    go_ret2
    exact over_no HS.out HB02.out
  case false =>
  have HS : Hid (stepO fs ns (k : Int) = some nx) := Lib.hid (by
    have h1 := of_decide_eq_false hvis
    unfold stepO
    rw [HQ.out, HNS.out, List.headD_cons, HNX.out, HOK.out, ← HNS.out]
    rw [if_pos ⟨⟨by omega, by have := HLN.out; omega⟩, rfl, h1⟩])
  rw [hvis] at CV
  clear hvis
  have s0 := (HB2.out.cell (p := ⟨w.heap.size, 1, none⟩) hz1).trans HK11.out
  have s3 := (HB02.out.cell (p := ⟨g2, k * 4 + 2, none⟩) hg2).trans HR2.out
  have hg5 := five_cells ((HB02.out.block g hgw).trans HHX.out)
  have s5 := hg5.2.1
  have s6 := hg5.2.2.1
  clear hg5
  have e1 : IntKind.i64.wrap (L + qc) = L + qc := IntWalk.i64_in _ (by omega)
  have e2 : IntKind.i64.wrap ((m : Int) + 1) = (m : Int) + 1 := IntWalk.i64_in _ (by omega)
  go_wp2_with fail
  refine CV.out.mono ?_
  rintro e w' ⟨rfl, rfl⟩
  go_wp2_with fail
  have hdr : ∀ t d o u p, ({ heap := w2.heap, tape := t, drawn := d, os := o, output := u } : World).cell? p = w2.cell? p := fun _ _ _ _ _ => rfl
  go_still_tail 20, (by kernel_rfl)
  change wpList _ _ _ _ _ w2.drew
  have HLL2 := Lib.hid (HL.out.over (HB02.out.drew))
  have HB3 := Lib.hid (HB02.out.drew)
  have HZ : Hid (lenX fs ((k : Int) :: xs) = L + qc ∧ (((k : Int) :: xs).length : Int) = (m : Int) + 1) := Lib.hid ⟨by rw [lenX_cons, HQ.out, HLL.out]; show qc + L = _; omega, by rw [List.length_cons, HM.out]; omega⟩
  clear hdr s0 s3 s5 s6 e1 e2
  generalize w2.drew = w3 at HLL2 HB3 ⊢
  go_wp2
  go_ret2
  refine ⟨HB3.out.alloc HB3.out.size _, .inr ⟨nx, w3.heap.size, HS.out, rfl, nx, ns, g, rfl, ?_, HLL2.out.over ((Below.refl _ _).alloc (Nat.le_refl _) _)⟩⟩
  rw [HZ.out.1, HZ.out.2]
  exact heap_alloc_new w3 _
end Go.Proofs.Ytlgkjidginibdaa

namespace Go.Proofs.Ytlgkjidginibdaa
open Go.ChangeShapes Go.WideShapes Go.ChangeAt Go.RowKit

theorem drop_at {α : Type} (l : List α) (k : Nat) (h : k < l.length) : l.drop k = l[k] :: l.drop (k + 1) := List.drop_eq_getElem_cons h
theorem take_rev {α : Type} (l xs : List α) (k : Nat) (h : k < l.length) : (l.take (k + 1)).reverse ++ xs = l[k] :: ((l.take k).reverse ++ xs) := by
  rw [List.take_succ_eq_append_getElem h, List.reverse_append]; rfl
theorem ints_at {w : World} {B : Nat} {A : Option Addr} {zs : List Int} (h : Rd w B A (zs.map (Value.int .i64))) {k : Nat} (hk : k < zs.length) : ∃ ad, A = some ad ∧ ad.block < B ∧ w.cell? (ad.add k) = some (.int .i64 zs[k]) := by
  obtain ⟨ad, e, hb, hc⟩ := h.got (k := k) (by simpa using hk)
  exact ⟨ad, e, hb, by simpa using hc⟩
def AlongP (fs : List Q4) (fl xs ns : List Int) (w : World) (e : Ending) (w' : World) : Prop :=
  Below w.heap.size w w' ∧ ((walkR fs fl ns = none ∧ e = .returned (.tuple #[.pointer none, .bool false])) ∨
    ∃ vs g', walkR fs fl ns = some vs ∧ e = .returned (.tuple #[.pointer (some ⟨g', 0, none⟩), .bool true]) ∧ Lk fs w' g' (fl.reverse ++ xs) vs)

set_option maxRecDepth 100000 in
set_option maxHeartbeats 4000000 in
theorem along_ {g1 g2 n1 n2 c1 c2 : Nat} {ss : List ByteArray} {fs : List Q4} {w : World} (h : NetAt g1 g2 n1 n2 c1 c2 ss fs w) (hv : netP ss fs) {xs ns : List Int} {g : Nat} (hl : Lk fs w g xs ns)
    {A : Option Addr} {n c : Nat} {fl : List Int} (hn : fl.length = n) (hr : Rd w w.heap.size A (fl.map (Value.int .i64))) (hx : xs.length + n ≤ 1000000000000) :
    Calls Try.prog 211 #[.pointer (some ⟨g, 0, none⟩), .agg #[.slice (some ⟨g1, 0, none⟩) n1 c1, .slice (some ⟨g2, 0, none⟩) n2 c2], .slice A n c] w (AlongP fs fl xs ns w) := by
  have HV := Lib.hid hv; have HX := Lib.hid hx; have HN := Lib.hid hn
  have HNT := Lib.hid h; have HL := Lib.hid hl; have HR := Lib.hid hr
  have hn0 : n ≤ 1000000000000 := by omega
  clear hv hx hn h hl hr
  go_enter Try.func211, Try.ntmps211
  go_wp2
  obtain ⟨W0, hW0⟩ : ∃ W0, w.alloc (Obj.cells #[.slice (some ⟨g1, 0, none⟩) n1 c1, .slice (some ⟨g2, 0, none⟩) n2 c2] 39) = W0 := ⟨_, rfl⟩
  have hb0 : Below w.heap.size w W0 := by rw [← hW0]; exact (Below.refl _ _).alloc (Nat.le_refl _) _
  have hk1 : W0.cell? ⟨w.heap.size, 1, none⟩ = some (.slice (some ⟨g2, 0, none⟩) n2 c2) := by rw [← hW0]; simp [go_sem]
  have hk0 : W0.cell? ⟨w.heap.size, 0, none⟩ = some (.slice (some ⟨g1, 0, none⟩) n1 c1) := by rw [← hW0]; simp [go_sem]
  have hz0 : w.heap.size < W0.heap.size := by rw [← hW0]; simp
  have HB0 := Lib.hid hb0; have HK1 := Lib.hid hk1; have HK0 := Lib.hid hk0; have HZ0 := Lib.hid hz0
  have HL0 := Lib.hid (HL.out.over hb0)
  rw [hW0]
  clear hW0 hb0 hk1 hk0 hz0
  go_loopw [0, 14] (fun p i wr => ∃ (k g' : Nat) (xs' ns' : List Int), k ≤ n ∧ i = .int .i64 k ∧ p = .pointer (some ⟨g', 0, none⟩) ∧ Hid (walkR fs fl ns = walkR fs (fl.drop k) ns' ∧ xs' = (fl.take k).reverse ++ xs ∧ Lk fs wr g' xs' ns') ∧ Below W0.heap.size W0 wr) (fun _ i _ => n - (intOf i).toNat)
  case atStart => exact ⟨0, g, xs, ns, Nat.zero_le _, rfl, rfl, Lib.hid ⟨by rw [List.drop_zero], by simp, HL0.out⟩, Below.refl _ _⟩
  case round =>
    obtain ⟨k, g', xs', ns', hk, rfl, rfl, HI, hb⟩ := hrel
    have HBW := Lib.hid (HB0.out.trans (hb.mono HB0.out.size))
    by_cases hlt : k < n
    case neg =>
      have hkn : k = n := by omega
      have HE : Hid (walkR fs fl ns = some ns' ∧ Lk fs wr g' (fl.reverse ++ xs) ns') := Lib.hid (by
        obtain ⟨e1, e2, e3⟩ := HI.out
        refine ⟨?_, ?_⟩
        · rw [e1, List.drop_of_length_le (by have := HN.out; omega)]; rfl
        · rw [e2, List.take_of_length_le (by have := HN.out; omega)] at e3; exact e3)
      clear hkn
      go_wp2
      go_ret2
      exact ⟨HBW.out, .inr ⟨ns', g', HE.out.1, rfl, HE.out.2⟩⟩
    case pos =>
    have hkl : k < fl.length := by have := HN.out; omega
    obtain ⟨ad, hA, hbl, hcell⟩ := ints_at HR.out hkl
    subst hA
    rw [← HBW.out.cell (by rw [addBlock]; exact hbl)] at hcell
    obtain ⟨x, hx⟩ : ∃ x, fl[k]'hkl = x := ⟨_, rfl⟩
    rw [hx] at hcell
    have hk1 := (hb.cell (p := ⟨w.heap.size, 1, none⟩) HZ0.out).trans HK1.out
    have hk0 := (hb.cell (p := ⟨w.heap.size, 0, none⟩) HZ0.out).trans HK0.out
    have HD : Hid (walkR fs fl ns = walkR fs (x :: fl.drop (k + 1)) ns' ∧ x :: xs' = (fl.take (k + 1)).reverse ++ xs) := Lib.hid ⟨by rw [HI.out.1, drop_at fl k hkl, hx], by rw [take_rev fl xs k hkl, hx, HI.out.2.1]⟩
    have CO := Lib.hid (over_ (HNT.out.moved HBW.out) HV.out HI.out.2.2 (by rw [HI.out.2.1, List.length_append, List.length_reverse, List.length_take]; have := HX.out; omega) x)
    have hint : x = x := rfl
    clear hx hint
    go_wp2_with fail
    refine CO.out.mono ?_
    rintro e w1 ⟨hb1, h1⟩
    have HB1 := Lib.hid (hb.trans (hb1.mono hb.size))
    have HBW1 := Lib.hid (HBW.out.trans (hb1.mono HBW.out.size))
    rcases h1 with ⟨hs, rfl⟩ | ⟨nx, g3, hs, rfl, hl3⟩
    · have HE : Hid (walkR fs fl ns = none) := Lib.hid (by rw [HD.out.1]; exact walkR_none hs)
      clear hs hb1 hk1 hk0
      go_wp2
      go_ret2
      exact ⟨HBW1.out, .inl ⟨HE.out, rfl⟩⟩
    · have HE : Hid (walkR fs fl ns = walkR fs (fl.drop (k + 1)) (nx :: ns') ∧ x :: xs' = (fl.take (k + 1)).reverse ++ xs ∧ Lk fs w1 g3 (x :: xs') (nx :: ns')) := Lib.hid ⟨by rw [HD.out.1]; exact walkR_some hs, HD.out.2, hl3⟩
      clear hs hb1 hl3 hk1 hk0
      go_wp2
      go_roundw
      case rel => exact ⟨k + 1, g3, x :: xs', nx :: ns', by omega, by go_num, rfl, HE, HB1.out⟩
      case measure => simp [intOf]; omega

/-- the nodes of a route, the latest first; none where it is not valid. -/
def routeN (n1 : Nat) (fs : List Q4) (st : Int) (fl : List Int) : Option (List Int) := if (0 ≤ st ∧ st < n1) ∧ ¬ fl = [] then walkR fs fl [st] else none
def WalkP (n1 : Nat) (fs : List Q4) (st : Int) (fl : List Int) (w : World) (e : Ending) (w' : World) : Prop :=
  Below w.heap.size w w' ∧ ((routeN n1 fs st fl = none ∧ e = .returned (.tuple #[.pointer none, .bool false])) ∨
    ∃ vs g', routeN n1 fs st fl = some vs ∧ e = .returned (.tuple #[.pointer (some ⟨g', 0, none⟩), .bool true]) ∧ Lk fs w' g' fl.reverse vs)
theorem isNd_yes {g1 g2 n1 n2 c1 c2 : Nat} (i : Int) (w : World) (h0 : 0 ≤ i) (h1 : i < n1) :
    Calls Try.prog 210 #[.agg #[.slice (some ⟨g1, 0, none⟩) n1 c1, .slice (some ⟨g2, 0, none⟩) n2 c2], .int .i64 i] w fun e w' => e = .returned (.bool true) ∧ Below w.heap.size w w' := by
  have HB := Lib.hid ((Below.refl w.heap.size w).alloc (Nat.le_refl _) (Obj.cells #[.slice (some ⟨g1, 0, none⟩) n1 c1, .slice (some ⟨g2, 0, none⟩) n2 c2] 39))
  go_enter Try.func210, Try.ntmps210
  go_wp2
  go_ret
  exact ⟨rfl, HB.out⟩
theorem isNd_no {g1 g2 n1 n2 c1 c2 : Nat} (i : Int) (w : World) (h : i < 0 ∨ n1 ≤ i) :
    Calls Try.prog 210 #[.agg #[.slice (some ⟨g1, 0, none⟩) n1 c1, .slice (some ⟨g2, 0, none⟩) n2 c2], .int .i64 i] w fun e w' => e = .returned (.bool false) ∧ Below w.heap.size w w' := by
  have HB := Lib.hid ((Below.refl w.heap.size w).alloc (Nat.le_refl _) (Obj.cells #[.slice (some ⟨g1, 0, none⟩) n1 c1, .slice (some ⟨g2, 0, none⟩) n2 c2] 39))
  by_cases h0 : i < 0
  · clear h
    go_enter Try.func210, Try.ntmps210
    go_wp2
    go_ret
    exact ⟨rfl, HB.out⟩
  · have h1 : decide (i < (n1 : Int)) = false := decide_eq_false (by omega)
    have h2 : 0 ≤ i := by omega
    clear h h0
    go_enter Try.func210, Try.ntmps210
    go_wp2
    go_ret
    exact ⟨rfl, HB.out⟩

set_option maxRecDepth 100000 in
set_option maxHeartbeats 4000000 in
theorem walkAlong_ {g1 g2 n1 n2 c1 c2 : Nat} {ss : List ByteArray} {fs : List Q4} {w : World} (h : NetAt g1 g2 n1 n2 c1 c2 ss fs w) (hv : netP ss fs) (st : Int)
    {A : Option Addr} {n c : Nat} {fl : List Int} (hn : fl.length = n) (hr : Rd w w.heap.size A (fl.map (Value.int .i64))) (hx : n ≤ 1048576) :
    Calls Try.prog 162 #[.agg #[.slice (some ⟨g1, 0, none⟩) n1 c1, .slice (some ⟨g2, 0, none⟩) n2 c2], .agg #[.int .i64 st, .slice A n c]] w (WalkP n1 fs st fl w) := by
  have HV := Lib.hid hv; have HN := Lib.hid hn
  have HNT := Lib.hid h; have HR := Lib.hid hr
  clear hv hn h hr
  by_cases hst : 0 ≤ st ∧ st < n1
  case neg =>
    have HE : Hid (routeN n1 fs st fl = none) := Lib.hid (by unfold routeN; rw [if_neg (fun h => hst h.1)])
    have CN := Lib.hid (fun W => isNd_no (g1 := g1) (g2 := g2) (n1 := n1) (n2 := n2) (c1 := c1) (c2 := c2) st W (by omega))
    have HB := Lib.hid (((Below.refl w.heap.size w).alloc (Nat.le_refl _) (Obj.cells #[.slice (some ⟨g1, 0, none⟩) n1 c1, .slice (some ⟨g2, 0, none⟩) n2 c2] 39)).alloc (by simp) (Obj.cells #[.int .i64 st, .slice A n c] 41))
    clear hst
    go_enter Try.func162, Try.ntmps162
    go_wp2_with fail
    refine (CN.out _).mono ?_
    rintro e w1 ⟨rfl, hb1⟩
    have HB1 := Lib.hid (HB.out.trans (hb1.mono (by simp; omega)))
    clear hb1
    go_wp2
    go_ret2
    exact ⟨HB1.out, .inl ⟨HE.out, rfl⟩⟩
  case pos =>
  have CN := Lib.hid (fun W => isNd_yes (g1 := g1) (g2 := g2) (n1 := n1) (n2 := n2) (c1 := c1) (c2 := c2) st W hst.1 hst.2)
  have HST := Lib.hid hst
  clear hst
  go_enter Try.func162, Try.ntmps162
  go_wp2_with fail
  obtain ⟨W0, hW0⟩ : ∃ W0, (w.alloc (Obj.cells #[.slice (some ⟨g1, 0, none⟩) n1 c1, .slice (some ⟨g2, 0, none⟩) n2 c2] 39)).alloc (Obj.cells #[.int .i64 st, .slice A n c] 41) = W0 := ⟨_, rfl⟩
  have hb0 : Below w.heap.size w W0 := by rw [← hW0]; exact ((Below.refl _ _).alloc (Nat.le_refl _) _).alloc (by simp) _
  have hk0 : W0.cell? ⟨w.heap.size, 0, none⟩ = some (.slice (some ⟨g1, 0, none⟩) n1 c1) := by rw [← hW0]; simp [go_sem]
  have hk1 : W0.cell? ⟨w.heap.size, 1, none⟩ = some (.slice (some ⟨g2, 0, none⟩) n2 c2) := by rw [← hW0]; simp [go_sem]
  have hk2 : W0.cell? ⟨w.heap.size + 1, 0, none⟩ = some (.int .i64 st) := by rw [← hW0]; simp [go_sem]
  have hk3 : W0.cell? ⟨w.heap.size + 1, 1, none⟩ = some (.slice A n c) := by rw [← hW0]; simp [go_sem]
  have hz0 : w.heap.size + 1 < W0.heap.size := by rw [← hW0]; simp
  rw [hW0]
  clear hW0
  refine (CN.out _).mono ?_
  rintro e w1 ⟨rfl, hb1⟩
  have HB1 := Lib.hid (hb0.trans (hb1.mono hb0.size))
  have l0 := (hb1.cell (p := ⟨w.heap.size, 0, none⟩) (by show w.heap.size < _; omega)).trans hk0
  have l1 := (hb1.cell (p := ⟨w.heap.size, 1, none⟩) (by show w.heap.size < _; omega)).trans hk1
  have l2 := (hb1.cell (p := ⟨w.heap.size + 1, 0, none⟩) hz0).trans hk2
  have l3 := (hb1.cell (p := ⟨w.heap.size + 1, 1, none⟩) hz0).trans hk3
  have hz1 : w.heap.size + 1 < w1.heap.size := Nat.lt_of_lt_of_le hz0 hb1.size
  have hz2 : w.heap.size < w1.heap.size := by omega
  clear hb1 hk0 hk1 hk2 hk3 hb0
  by_cases hne : n = 0
  · have HE : Hid (routeN n1 fs st fl = none) := Lib.hid (by
      unfold routeN; rw [if_neg (fun h => h.2 (List.eq_nil_of_length_eq_zero (by have := HN.out; omega)))])
    subst hne
    go_wp2
    go_ret2
    exact ⟨HB1.out, .inl ⟨HE.out, rfl⟩⟩
  · have HE : Hid (routeN n1 fs st fl = walkR fs fl [st]) := Lib.hid (by
      unfold routeN; rw [if_pos ⟨HST.out, fun h => hne (by have := HN.out; rw [h] at this; exact this.symm)⟩])
    have q1 : ((n : Int) == 0) = false := by simpa using hne
    have q2 : decide ((n : Int) = 0) = false := decide_eq_false (by omega)
    have q3 : ¬ (n : Int) = 0 := by omega
    have hlk : Lk fs (w1.alloc (Obj.cells #[.int .i64 st, .int .i64 0, .int .i64 0, .int .i64 0, .pointer none] 216)) w1.heap.size [] [st] := ⟨st, rfl, heap_alloc_new w1 _⟩
    have HBX := Lib.hid (HB1.out.alloc HB1.out.size (Obj.cells #[.int .i64 st, .int .i64 0, .int .i64 0, .int .i64 0, .pointer none] 216))
    have CA := Lib.hid (along_ (c := c) (HNT.out.moved HBX.out) HV.out hlk HN.out (HR.out.moved HBX.out) (by simp; omega))
    clear hlk hne
    go_wp2_with fail
    refine CA.out.mono ?_
    rintro e w2 ⟨hb2, h2⟩
    have HB2 := Lib.hid (HBX.out.trans (hb2.mono HBX.out.size))
    clear hb2
    rcases h2 with ⟨hs, rfl⟩ | ⟨vs, g3, hs, rfl, hl3⟩
    · have HS : Hid (routeN n1 fs st fl = none) := Lib.hid (HE.out.trans hs)
      clear hs
      go_wp2
      go_ret2
      exact ⟨HB2.out, .inl ⟨HS.out, rfl⟩⟩
    · have HS : Hid (routeN n1 fs st fl = some vs) := Lib.hid (HE.out.trans hs)
      rw [List.append_nil] at hl3
      have HL3 := Lib.hid hl3
      clear hs hl3
      go_wp2
      go_ret2
      exact ⟨HB2.out, .inr ⟨vs, g3, HS.out, rfl, HL3.out⟩⟩
end Go.Proofs.Ytlgkjidginibdaa

namespace Go.Proofs.Ytlgkjidginibdaa
open Go.ChangeShapes Go.WideShapes Go.ChangeAt Go.RowKit

set_option maxHeartbeats 1000000 in
theorem has_ (A : Option Addr) (n c : Nat) (zs : List Int) (x : Int) (w : World) (hn : zs.length = n) (hr : Rd w w.heap.size A (zs.map (Value.int .i64))) (hs : n ≤ 1000000000000) :
    Calls Try.prog 133 #[.slice A n c, .int .i64 x] w fun e w' => e = .returned (.bool (decide (x ∈ zs))) ∧ w = w' := by
  obtain ⟨r, hr'⟩ : ∃ r, decide (x ∈ zs) = r := ⟨_, rfl⟩
  rw [hr']
  have HR := Lib.hid hr'; clear hr'
  have HN := Lib.hid hn; clear hn
  go_enter Try.func133, Try.ntmps133
  go_wp2
  go_loop [5] (fun i => ∃ k : Nat, k ≤ n ∧ i = .int .i64 k ∧ Hid (∀ j (h : j < zs.length), j < k → zs[j] ≠ x)) (fun i => n - (intOf i).toNat)
  case atStart => exact ⟨0, Nat.zero_le _, rfl, Lib.hid fun j _ h => absurd h (by omega)⟩
  case round =>
    obtain ⟨k, hk, rfl, HA⟩ := hrel
    by_cases hlt : k < n
    · have hkl : k < zs.length := by have := HN.out; omega
      obtain ⟨ad, hA, hbl, hcell⟩ := ints_at hr hkl
      subst hA
      obtain ⟨z, hz⟩ : ∃ z, zs[k]'hkl = z := ⟨_, rfl⟩
      rw [hz] at hcell
      have HZ := Lib.hid hz; clear hz
      by_cases hzx : z = x
      · have HE : Hid (true = r) := Lib.hid (by rw [← HR.out, ← hzx, ← HZ.out]; exact (decide_eq_true (List.getElem_mem hkl)).symm)
        subst hzx
        go_wp2
        go_ret
        exact ⟨retb HE.out, rfl⟩
      · have HS : Hid (∀ j (h : j < zs.length), j < k + 1 → zs[j] ≠ x) := Lib.hid (by
          intro j h hj
          by_cases hjk : j < k
          · exact HA.out j h hjk
          · obtain rfl : j = k := by omega
            rw [HZ.out]; exact hzx)
        have q : (z == x) = false := by simpa using hzx
        clear hzx
        go_wp2
        go_round
        case rel => exact ⟨k + 1, by omega, by go_num, HS⟩
        case measure => simp [intOf]; omega
    · have HE : Hid (false = r) := Lib.hid (by
        rw [← HR.out]
        refine (decide_eq_false fun h => ?_).symm
        obtain ⟨j, hj, e⟩ := List.getElem_of_mem h
        exact HA.out j hj (by have := HN.out; omega) e)
      go_wp2
      go_ret
      exact ⟨retb HE.out, rfl⟩

theorem in_yesR (x a b : Int) (w : World) (h1 : a ≤ x) (h2 : x ≤ b) : Calls Try.prog 121 #[.int .i64 x, .int .i64 a, .int .i64 b] w fun e w' => e = .returned (.bool true) ∧ w = w' :=
  (in_yes x a b w h1 h2).mono fun _ _ ⟨h, k⟩ => ⟨h, k.symm⟩
theorem in_noR (x a b : Int) (w : World) (h : x < a ∨ b < x) : Calls Try.prog 121 #[.int .i64 x, .int .i64 a, .int .i64 b] w fun e w' => e = .returned (.bool false) ∧ w = w' :=
  (in_no x a b w h).mono fun _ _ ⟨h, k⟩ => ⟨h, k.symm⟩
theorem otherV_neg {ss : List ByteArray} {fs : List Q4} (hv : netP ss fs) {k : Nat} {q : Q4} (hk : k < fs.length) (hq : fs[k] = q) (x : Int) : (acrB q x = false → otherV q x = -1) ∧ (acrB q x = true → otherV q x = acrI q x ∧ 0 ≤ acrI q x) := by
  have hp := (hv.2.2.2 k hk hk).1
  rw [hq] at hp
  unfold fibP at hp
  constructor
  · intro h
    have := of_decide_eq_false h
    unfold otherV
    rw [if_neg (fun h => this (.inl h)), if_neg (fun h => this (.inr h))]
  · intro h
    have h1 := of_decide_eq_true h
    refine ⟨other_eq h1, ?_⟩
    unfold acrI
    split
    · omega
    · split <;> omega
theorem own_lt {w w' : World} {B B' E s n g c : Nat} {xs : List Value} (ho : w.ownsRow B E s (.slice (some ⟨g, 0, none⟩) n c) n xs) (h : Below B' w w') (hg : g < B') : w'.ownsRow B E s (.slice (some ⟨g, 0, none⟩) n c) n xs := by
  refine ⟨ho.1, ?_⟩
  rcases ho.2 with hn | ⟨g', cap', cur, e, hg', hh, rest⟩
  · exact .inl hn
  · have e' := e
    injection e with e1
    injection e1 with e1; injection e1 with e1
    subst e1
    exact .inr ⟨g, cap', cur, e', hg', (h.block g hg).trans hh, rest⟩
theorem own_last {w : World} {B : Option Addr} {b N cc k : Nat} {ns : List Int} (h : w.ownsRow b 3 1 (.slice B N cc) N (ns.reverse.map (Value.int .i64))) (hN : N = ns.length) (hk : N = k + 1) :
    ∃ g, B = some ⟨g, 0, none⟩ ∧ g < w.heap.size ∧ w.cell? ⟨g, k, none⟩ = some (.int .i64 (ns.headD 0)) := by
  cases ns with
  | nil => simp at hN; omega
  | cons a tl =>
    have hkt : tl.length = k := by rw [List.length_cons] at hN; omega
    rcases h.2 with ⟨e, e2⟩ | ⟨g, cap, cur, e, _, hh, _⟩
    · omega
    · injection e with e1
      subst e1
      refine ⟨g, rfl, (Array.getElem?_eq_some_iff.1 hh).1, ?_⟩
      rw [h.cellAt k (by omega), List.getElem?_map, List.reverse_cons, List.getElem?_append_right (by simp; omega)]
      simp [hkt]
def SWalkP (n1 : Nat) (fs : List Q4) (st : Int) (fl : List Int) (w : World) (e : Ending) (w' : World) : Prop :=
  Below w.heap.size w w' ∧ ∃ (A : Option Addr) (N c : Nat), (routeN n1 fs st fl = none ∧ e = .returned (.tuple #[.slice A N c, .bool false])) ∨
    ∃ vs, routeN n1 fs st fl = some vs ∧ e = .returned (.tuple #[.slice A N c, .bool true]) ∧ N = vs.length ∧ w'.ownsRow w.heap.size 3 1 (.slice A N c) N (vs.reverse.map (Value.int .i64))

set_option maxRecDepth 100000 in
set_option maxHeartbeats 8000000 in
theorem l4Walk_ {g1 g2 n1 n2 c1 c2 : Nat} {ss : List ByteArray} {fs : List Q4} {w : World} (h : NetAt g1 g2 n1 n2 c1 c2 ss fs w) (hv : netP ss fs) (st : Int)
    {A : Option Addr} {n c : Nat} {fl : List Int} (hn : fl.length = n) (hr : Rd w w.heap.size A (fl.map (Value.int .i64))) (hx : n ≤ 1048576) :
    Calls Try.prog 203 #[.agg #[.slice (some ⟨g1, 0, none⟩) n1 c1, .slice (some ⟨g2, 0, none⟩) n2 c2], .agg #[.int .i64 st, .slice A n c]] w (SWalkP n1 fs st fl w) := by
  have HV := Lib.hid hv; have HN := Lib.hid hn
  have HLN := Lib.hid h.ln2
  have hs1 := h.sm1
  have hs2 := h.sm2
  have HNT := Lib.hid h; have HR := Lib.hid hr
  obtain ⟨i0, hi, hz0_, hz1_, hz2_⟩ := info_parts Try.inf_int
  have HI := Lib.hid hi; have HZ0 := Lib.hid hz0_; have HZ1 := Lib.hid hz1_; have HZ2 := Lib.hid hz2_
  clear hv hn h hr hi hz0_ hz1_ hz2_
  go_enter Try.func203, Try.ntmps203
  go_wp2_with fail
  obtain ⟨W0, hW0⟩ : ∃ W0, ((w.alloc (Obj.cells #[.slice (some ⟨g1, 0, none⟩) n1 c1, .slice (some ⟨g2, 0, none⟩) n2 c2] 39)).alloc (Obj.cells #[.int .i64 st, .slice A n c] 41)).alloc (Obj.cells #[.int .i64 st] 3) = W0 := ⟨_, rfl⟩
  have hb0 : Below w.heap.size w W0 := by rw [← hW0]; exact (((Below.refl _ _).alloc (Nat.le_refl _) _).alloc (by simp) _).alloc (by simp; omega) _
  have hk0 : W0.cell? ⟨w.heap.size, 0, none⟩ = some (.slice (some ⟨g1, 0, none⟩) n1 c1) := by rw [← hW0]; simp [go_sem]
  have hk1 : W0.cell? ⟨w.heap.size, 1, none⟩ = some (.slice (some ⟨g2, 0, none⟩) n2 c2) := by rw [← hW0]; simp [go_sem]
  have hk2 : W0.cell? ⟨w.heap.size + 1, 0, none⟩ = some (.int .i64 st) := by rw [← hW0]; simp [go_sem]
  have hk3 : W0.cell? ⟨w.heap.size + 1, 1, none⟩ = some (.slice A n c) := by rw [← hW0]; simp [go_sem]
  have hz0 : w.heap.size + 2 < W0.heap.size := by rw [← hW0]; simp
  have hown0 : W0.ownsRow (w.heap.size + 2) 3 1 (.slice (some ⟨w.heap.size + 2, 0, none⟩) 1 1) 1 [.int .i64 st] := by
    rw [← hW0]
    have := World.ownsRow_lit (base := w.heap.size + 2) (e := 3) (size := 1) ((w.alloc (Obj.cells #[.slice (some ⟨g1, 0, none⟩) n1 c1, .slice (some ⟨g2, 0, none⟩) n2 c2] 39)).alloc (Obj.cells #[.int .i64 st, .slice A n c] 41)) #[.int .i64 st] 1 (by simp) (by unfold maxLen; omega) rfl
    simpa using this
  have HO0 := Lib.hid hown0; have HB0 := Lib.hid hb0
  rw [hW0]
  clear hW0 hown0 hb0
  by_cases hst : 0 ≤ st ∧ st ≤ (n1 : Int) - 1
  case neg =>
    have HE : Hid (routeN n1 fs st fl = none) := Lib.hid (by unfold routeN; rw [if_neg (fun h => hst (by have := h.1; omega))])
    refine (in_noR st 0 ((n1 : Int) - 1) _ (by omega)).mono ?_
    rintro e w' ⟨rfl, rfl⟩
    clear hst
    go_wp2
    go_ret2
    exact ⟨HB0.out, _, _, _, .inl ⟨HE.out, rfl⟩⟩
  case pos =>
  refine (in_yesR st 0 ((n1 : Int) - 1) _ hst.1 hst.2).mono ?_
  rintro e w' ⟨rfl, rfl⟩
  have HST := Lib.hid hst
  clear hst
  by_cases hne : n = 0
  · have HE : Hid (routeN n1 fs st fl = none) := Lib.hid (by
      unfold routeN; rw [if_neg (fun h => h.2 (List.eq_nil_of_length_eq_zero (by have := HN.out; omega)))])
    subst hne
    go_wp2
    go_ret2
    exact ⟨HB0.out, _, _, _, .inl ⟨HE.out, rfl⟩⟩
  have HE : Hid (routeN n1 fs st fl = walkR fs fl [st]) := Lib.hid (by
    unfold routeN; rw [if_pos ⟨⟨HST.out.1, by have := HST.out.2; omega⟩, fun h => hne (by have := HN.out; rw [h] at this; exact this.symm)⟩])
  have q1 : ((n : Int) == 0) = false := by simpa using hne
  have q2 : decide ((n : Int) = 0) = false := decide_eq_false (by omega)
  have hnpos : 0 < n := by omega
  clear hne
  have HK0 := Lib.hid hk0; have HK1 := Lib.hid hk1; have HK3 := Lib.hid hk3; have HZB := Lib.hid hz0
  go_wp2
  clear hk0 hk1 hk2 hk3 hz0 q1 q2
  go_loopw [6, 7] (fun v i wr => ∃ (k : Nat) (ns : List Int) (B : Option Addr) (N cc : Nat), k ≤ n ∧ i = .int .i64 k ∧ v = .slice B N cc ∧ Hid (walkR fs fl [st] = walkR fs (fl.drop k) ns ∧ N = ns.length) ∧ N = k + 1
      ∧ Hid (wr.ownsRow (w.heap.size + 2) 3 1 (.slice B N cc) N (ns.reverse.map (Value.int .i64))) ∧ Below (w.heap.size + 2) W0 wr) (fun _ i _ => n - (intOf i).toNat)
  case atStart => exact ⟨0, [st], _, 1, _, Nat.zero_le _, rfl, rfl, Lib.hid ⟨by rw [List.drop_zero], rfl⟩, rfl, HO0, Below.refl _ _⟩
  case round =>
    obtain ⟨k, ns, B, N, cc, hk, rfl, rfl, HW, hNk, HOW, hb⟩ := hrel
    have HBW := Lib.hid (HB0.out.trans (hb.mono (by omega)))
    have hk0 := (hb.cell (p := ⟨w.heap.size, 0, none⟩) (by show w.heap.size < _; omega)).trans HK0.out
    have hk1 := (hb.cell (p := ⟨w.heap.size, 1, none⟩) (by show w.heap.size < _; omega)).trans HK1.out
    have hk3 := (hb.cell (p := ⟨w.heap.size + 1, 1, none⟩) (by show w.heap.size + 1 < _; omega)).trans HK3.out
    have hzw : w.heap.size + 2 < wr.heap.size := Nat.lt_of_lt_of_le HZB.out hb.size
    have hNb : N ≤ 1048577 := by omega
    have HNK := Lib.hid hNk
    have hNk1 : k + 1 ≤ N := by omega
    have hNk2 : N ≤ k + 1 := by omega
    clear hNk
    by_cases hlt : k < n
    case neg =>
      have hkn : k = n := by omega
      have HF : Hid (routeN n1 fs st fl = some ns) := Lib.hid (by rw [HE.out, HW.out.1, List.drop_of_length_le (by have := HN.out; omega)]; rfl)
      clear hkn
      go_wp2
      go_ret2
      exact ⟨HBW.out, B, N, cc, .inr ⟨ns, HF.out, rfl, HW.out.2, own_base HOW.out (by omega)⟩⟩
    case pos =>
    have hkl : k < fl.length := by have := HN.out; omega
    obtain ⟨ad, hA, hbl, hcell⟩ := ints_at HR.out hkl
    subst hA
    rw [← HBW.out.cell (by rw [addBlock]; exact hbl)] at hcell
    obtain ⟨x, hx⟩ : ∃ x, fl[k]'hkl = x := ⟨_, rfl⟩
    rw [hx] at hcell
    have HD : Hid (walkR fs fl [st] = walkR fs (x :: fl.drop (k + 1)) ns) := Lib.hid (by rw [HW.out.1, drop_at fl k hkl, hx])
    have e1 : IntKind.i64.wrap ((n2 : Int) - 1) = (n2 : Int) - 1 := IntWalk.i64_in _ (by omega)
    have HX := Lib.hid hx
    clear hx
    by_cases hin : 0 ≤ x ∧ x ≤ (n2 : Int) - 1
    case neg =>
      have HF : Hid (routeN n1 fs st fl = none) := Lib.hid (by
        rw [HE.out, HD.out]
        refine walkR_none ?_
        unfold stepO
        rw [if_neg (fun h => hin (by have h1 := h.1; have := HLN.out; omega))])
      have CI := Lib.hid (fun W => in_no x 0 ((n2 : Int) - 1) W (by omega))
      clear hin
      go_wp2
      go_quiet ((go_at_call 121; exact Calls.quiet_of_same (CI.out _)))
      clear e1
      go_wp2
      go_ret2
      exact ⟨drewN_below HBW.out _, _, _, _, .inl ⟨HF.out, rfl⟩⟩
    case pos =>
    have CI := Lib.hid (fun W => in_yes x 0 ((n2 : Int) - 1) W hin.1 hin.2)
    obtain ⟨m, rfl⟩ : ∃ m : Nat, x = m := ⟨x.toNat, by omega⟩
    have hmn : m < n2 := by omega
    have hml : m < fs.length := by have := HLN.out; omega
    obtain ⟨q, hq⟩ : ∃ q, fs[m]'hml = q := ⟨_, rfl⟩
    have HQ : Hid (fibI fs (m : Int) = q) := Lib.hid (by
      unfold fibI
      rw [List.getD_eq_getElem?_getD, show ((m : Int)).toNat = m by omega, List.getElem?_eq_getElem hml, hq]; rfl)
    have HQ2 := Lib.hid hq
    clear hin
    go_wp2
    go_quiet ((go_at_call 121; exact Calls.quiet_of_same (CI.out _)))
    generalize hwd : wr.drewN _ = wd
    have HBD : Hid (Below wr.heap.size wr wd) := Lib.hid (by rw [← hwd]; exact drewN_below (Below.refl _ _) _)
    clear hwd e1 hk0 hk1 hk3 hcell
    go_wp2
    obtain ⟨gB, hB, hgB, hlast⟩ := own_last HOW.out HW.out.2 HNK.out
    subst hB
    obtain ⟨nd, hnd⟩ : ∃ nd, ns.headD 0 = nd := ⟨_, rfl⟩
    rw [hnd] at hlast
    have HND := Lib.hid hnd
    have e2 : IntKind.i64.wrap ((N : Int) - 1) = (k : Int) := by rw [IntWalk.i64_in _ (by omega)]; omega
    have hkN : (k : Int) < (N : Int) := by omega
    have HBW2 := Lib.hid (HBW.out.trans (HBD.out.mono HBW.out.size))
    obtain ⟨T, f, x0, hx0, hT, HST⟩ := above wd
    haveI : Nonempty T := ⟨x0⟩
    have HTW : Hid (∀ x, Below wr.heap.size wr (f x)) := Lib.hid fun x => HBD.out.trans ((hT x).mono HBD.out.size)
    have HTT : Hid (∀ x, Below w.heap.size w (f x)) := Lib.hid fun x => HBW2.out.trans ((hT x).mono HBW2.out.size)
    have HTB : Hid (∀ x, Below (w.heap.size + 2) W0 (f x)) := Lib.hid fun x => hb.trans ((HTW.out x).mono (by omega))
    have s0 : ∀ x, (f x).cell? ⟨w.heap.size, 0, none⟩ = some (.slice (some ⟨g1, 0, none⟩) n1 c1) := fun x => ((HTB.out x).cell (p := ⟨w.heap.size, 0, none⟩) (by show w.heap.size < _; omega)).trans HK0.out
    have s1 : ∀ x, (f x).cell? ⟨w.heap.size, 1, none⟩ = some (.slice (some ⟨g2, 0, none⟩) n2 c2) := fun x => ((HTB.out x).cell (p := ⟨w.heap.size, 1, none⟩) (by show w.heap.size < _; omega)).trans HK1.out
    have s3 : ∀ x, (f x).cell? ⟨w.heap.size + 1, 1, none⟩ = some (.slice (some ad) n c) := fun x => ((HTB.out x).cell (p := ⟨w.heap.size + 1, 1, none⟩) (by show w.heap.size + 1 < _; omega)).trans HK3.out
    have s4 : ∀ x, (f x).cell? (ad.add k) = some (.int .i64 (m : Int)) := fun x => by
      obtain ⟨ad', hA', hbl', hcell'⟩ := ints_at HR.out hkl
      injection hA' with hA'
      subst hA'
      rw [(HTT.out x).cell (p := ad.add k) (by rw [addBlock]; exact hbl'), hcell', HX.out]
    have s5 : ∀ x, (f x).cell? ⟨gB, k, none⟩ = some (.int .i64 nd) := fun x => ((HTW.out x).cell (p := ⟨gB, k, none⟩) hgB).trans hlast
    have CO : Hid (∀ x, Calls Try.prog 230 #[.agg #[.slice (some ⟨g1, 0, none⟩) n1 c1, .slice (some ⟨g2, 0, none⟩) n2 c2], .int .i64 (m : Int), .int .i64 nd] (f x) fun e w' => e = .returned (.int .i64 (otherV q nd)) ∧ Below (f x).heap.size (f x) w') := Lib.hid fun x => l2Other_ (HNT.out.moved (HTT.out x)) m hmn q (fun _ => HQ2.out) nd
    obtain ⟨ov, hov⟩ : ∃ ov, otherV q nd = ov := ⟨_, rfl⟩
    rw [hov] at CO
    have HOV := Lib.hid hov
    have HXX := Lib.hid hx0
    clear hT hx0 hlast hnd hov hq
    refine wp_region_class f (by kernel_rfl) (by kernel_rfl) x0 HXX.out ?_
    repeat (go_big_quiet_step ((go_at_call 230; exact Calls.inClass HST (CO.out _))))
    refine wpQuiet_nil ?_
    rintro _ ⟨x, rfl⟩
    have HB2 := Lib.hid (HTW.out x)
    have HBT := Lib.hid (HTB.out x)
    have HBTT := Lib.hid (HTT.out x)
    clear s0 s1 s3 s4 s5 e2
    generalize f x = w2 at HB2 HBT HBTT ⊢
    have HO2 := Lib.hid (own_lt HOW.out HB2.out hgB)
    clear HST HTW HTT HTB CO CI HXX
    cases hac : acrB q nd
    case false =>
      have hov := (otherV_neg HV.out hml HQ2.out nd).1 hac
      rw [HOV.out] at hov
      have HF : Hid (routeN n1 fs st fl = none) := Lib.hid (by
        rw [HE.out, HD.out]
        refine walkR_none ?_
        unfold stepO
        rw [HND.out, HQ.out, if_neg (fun h => by have := h.2.1; rw [hac] at this; exact absurd this (by decide))])
      subst hov
      go_wp2
      go_ret2
      exact ⟨HBTT.out, _, _, _, .inl ⟨HF.out, rfl⟩⟩
    case true =>
    obtain ⟨hov, hov0⟩ := (otherV_neg HV.out hml HQ2.out nd).2 hac
    rw [HOV.out] at hov
    rw [← hov] at hov0
    have CH := Lib.hid (has_ (some ⟨gB, 0, none⟩) N cc ns.reverse ov w2 (by rw [List.length_reverse]; exact HW.out.2.symm) (Rd.ofOwn HO2.out) (by omega))
    have hmem : decide (ov ∈ ns.reverse) = decide (ov ∈ ns) := by simp
    rw [hmem] at CH
    have HOVA := Lib.hid hov
    clear hmem hov
    cases hin2 : decide (ov ∈ ns)
    case true =>
      have HF : Hid (routeN n1 fs st fl = none) := Lib.hid (by
        rw [HE.out, HD.out]
        refine walkR_none ?_
        unfold stepO
        rw [HND.out, HQ.out, if_neg (fun h => by have := h.2.2; rw [← HOVA.out] at this; exact this (of_decide_eq_true hin2))])
      rw [hin2] at CH
      clear hin2 hac
      go_wp2_with fail
      refine CH.out.mono ?_
      rintro e w' ⟨rfl, rfl⟩
      go_wp2
      go_ret2
      exact ⟨HBTT.out, _, _, _, .inl ⟨HF.out, rfl⟩⟩
    case false =>
    have HF : Hid (walkR fs fl [st] = walkR fs (fl.drop (k + 1)) (ov :: ns)) := Lib.hid (by
      rw [HD.out]
      refine walkR_some ?_
      unfold stepO
      rw [HND.out, HQ.out, if_pos ⟨⟨by omega, by have := HLN.out; omega⟩, hac, by rw [← HOVA.out]; exact of_decide_eq_false hin2⟩, HOVA.out])
    rw [hin2] at CH
    clear hin2 hac
    have hown := HO2.out
    have hsz2 : w.heap.size + 2 < w2.heap.size := Nat.lt_of_lt_of_le HZB.out HBT.out.size
    go_wp2_with fail
    refine CH.out.mono ?_
    rintro e w' ⟨rfl, rfl⟩
    go_wp2_with (at_builtin; refine wpList_append_own _ rfl _ _ 26 rfl (w.heap.size + 2) 3 i0 (.int .i64 0) 1 8 Try.underlying26 HI.out HZ0.out HZ1.out HZ2.out rfl (by decide) _ N _ rfl (hown.alloc _) ⟨w2.heap.size, 0, none⟩ 1 1 [.int .i64 ov] rfl rfl (new_one _ _ _) (new_int _) (by unfold maxLen; omega) (by omega) (by simp; omega) ?_)
    intro v1 w3 hown1 hgrow1 _
    have hB3 : Below (w.heap.size + 2) W0 w3 := (HBT.out.alloc (Nat.le_of_lt hsz2) _).grown hgrow1 (by simp; omega) (fun g hg => (hown.lt g hg).1)
    obtain ⟨N1, hN1⟩ : ∃ N1, N + 1 = N1 := ⟨_, rfl⟩
    rw [hN1] at hown1
    obtain ⟨A1, cc1, rfl⟩ := formOf hown1
    have HOW1 : Hid (w3.ownsRow (w.heap.size + 2) 3 1 (.slice A1 N1 cc1) N1 ((ov :: ns).reverse.map (Value.int .i64))) := Lib.hid (by simpa using hown1)
    have HNX1 : Hid (walkR fs fl [st] = walkR fs (fl.drop (k + 1)) (ov :: ns) ∧ N1 = (ov :: ns).length) := Lib.hid ⟨HF.out, by rw [List.length_cons, ← HW.out.2, ← hN1]⟩
    have HN2 : Hid (N1 = k + 1 + 1) := Lib.hid (by rw [← hN1, HNK.out])
    have HB3 := Lib.hid hB3
    clear hown1 hgrow1 hown hB3 hN1
    go_wp2
    go_roundw
    case rel => exact ⟨k + 1, ov :: ns, A1, N1, cc1, by omega, by go_num, rfl, HNX1, HN2.out, HOW1, HB3.out⟩
    case measure => simp [intOf]; omega

noncomputable def routeB (ss : List ByteArray) (fs : List Q4) (st : Int) (fl : List Int) : Bool := pb (netP ss fs) && (routeN ss.length fs st fl).isSome
set_option maxRecDepth 100000 in
set_option maxHeartbeats 4000000 in
theorem l4Good_ {g1 g2 n1 n2 c1 c2 : Nat} {ss : List ByteArray} {fs : List Q4} {w : World} (h : NetAt g1 g2 n1 n2 c1 c2 ss fs w) (st : Int)
    {A : Option Addr} {n c : Nat} {fl : List Int} (hn : fl.length = n) (hr : Rd w w.heap.size A (fl.map (Value.int .i64))) (hx : n ≤ 1048576) :
    Calls Try.prog 152 #[.agg #[.slice (some ⟨g1, 0, none⟩) n1 c1, .slice (some ⟨g2, 0, none⟩) n2 c2], .agg #[.int .i64 st, .slice A n c]] w (RetP (.bool (routeB ss fs st fl)) w) := by
  have HN := Lib.hid hn; have HNT := Lib.hid h; have HR := Lib.hid hr
  have HL1 := Lib.hid h.ln1
  clear hn h hr
  obtain ⟨r, hrr⟩ : ∃ r, routeB ss fs st fl = r := ⟨_, rfl⟩
  rw [hrr]
  have HRR := Lib.hid hrr
  clear hrr
  go_enter Try.func152, Try.ntmps152
  go_wp2_with fail
  obtain ⟨W0, hW0⟩ : ∃ W0, (w.alloc (Obj.cells #[.slice (some ⟨g1, 0, none⟩) n1 c1, .slice (some ⟨g2, 0, none⟩) n2 c2] 39)).alloc (Obj.cells #[.int .i64 st, .slice A n c] 41) = W0 := ⟨_, rfl⟩
  have hb0 : Below w.heap.size w W0 := by rw [← hW0]; exact ((Below.refl _ _).alloc (Nat.le_refl _) _).alloc (by simp) _
  have hk0 : W0.cell? ⟨w.heap.size, 0, none⟩ = some (.slice (some ⟨g1, 0, none⟩) n1 c1) := by rw [← hW0]; simp [go_sem]
  have hk1 : W0.cell? ⟨w.heap.size, 1, none⟩ = some (.slice (some ⟨g2, 0, none⟩) n2 c2) := by rw [← hW0]; simp [go_sem]
  have hk2 : W0.cell? ⟨w.heap.size + 1, 0, none⟩ = some (.int .i64 st) := by rw [← hW0]; simp [go_sem]
  have hk3 : W0.cell? ⟨w.heap.size + 1, 1, none⟩ = some (.slice A n c) := by rw [← hW0]; simp [go_sem]
  have hz0 : w.heap.size + 1 < W0.heap.size := by rw [← hW0]; simp
  have HB0 := Lib.hid hb0
  rw [hW0]
  clear hW0 hb0
  refine (specNet_ (HNT.out.moved HB0.out)).mono ?_
  rintro e w1 ⟨rfl, hb1⟩
  have HB1 := Lib.hid (HB0.out.trans (hb1.mono HB0.out.size))
  have l0 := (hb1.cell (p := ⟨w.heap.size, 0, none⟩) (by show w.heap.size < _; omega)).trans hk0
  have l1 := (hb1.cell (p := ⟨w.heap.size, 1, none⟩) (by show w.heap.size < _; omega)).trans hk1
  have l2 := (hb1.cell (p := ⟨w.heap.size + 1, 0, none⟩) hz0).trans hk2
  have l3 := (hb1.cell (p := ⟨w.heap.size + 1, 1, none⟩) hz0).trans hk3
  clear hb1 hk0 hk1 hk2 hk3 hz0
  by_cases hv : netP ss fs
  case neg =>
    have HE : Hid (false = r) := Lib.hid (by rw [← HRR.out]; unfold routeB; rw [pb_false hv]; rfl)
    rw [pb_false hv]
    clear hv
    go_wp2
    go_ret
    exact ⟨retb HE.out, HB1.out⟩
  case pos =>
  have CW := Lib.hid (l4Walk_ (c := c) (HNT.out.moved HB1.out) hv st HN.out (HR.out.moved HB1.out) hx)
  have HPV := Lib.hid (pb_true hv)
  rw [HPV.out]
  clear hv
  go_wp2_with fail
  refine CW.out.mono ?_
  rintro e w2 ⟨hb2, B, N, cc, h2⟩
  have HB2 := Lib.hid (HB1.out.trans (hb2.mono HB1.out.size))
  clear hb2
  rcases h2 with ⟨hs, rfl⟩ | ⟨vs, hs, rfl, _⟩
  · have HE : Hid (false = r) := Lib.hid (by rw [← HRR.out]; unfold routeB; rw [HPV.out, HL1.out, hs]; rfl)
    clear hs
    go_wp2
    go_ret
    exact ⟨retb HE.out, HB2.out⟩
  · have HE : Hid (true = r) := Lib.hid (by rw [← HRR.out]; unfold routeB; rw [HPV.out, HL1.out, hs]; rfl)
    clear hs
    go_wp2
    go_ret
    exact ⟨retb HE.out, HB2.out⟩
end Go.Proofs.Ytlgkjidginibdaa

namespace Go.Proofs.Ytlgkjidginibdaa
open Go.ChangeShapes Go.WideShapes Go.ChangeAt Go.RowKit

/-- a route as it lies in memory: its start, its slice, and what that reads as. -/
structure Rt where
  st : Int
  A : Option Addr
  n : Nat
  c : Nat
  zs : List Int
def Rt.cells (r : Rt) : List Value := [.int .i64 r.st, .slice r.A r.n r.c]
def RtAt (w : World) (r : Rt) : Prop := r.zs.length = r.n ∧ r.n ≤ 1048576 ∧ Rd w w.heap.size r.A (r.zs.map (Value.int .i64))
theorem RtAt.moved {w w' : World} {r : Rt} (h : RtAt w r) (hb : Below w.heap.size w w') : RtAt w' r := ⟨h.1, h.2.1, h.2.2.moved hb⟩
theorem Rd.rtc {w : World} {B b o : Nat} {rs : List Rt} (h : Rd w B (some ⟨b, o, none⟩) (rs.flatMap Rt.cells)) {k : Nat} (hk : k < rs.length) :
    b < B ∧ w.cell? ⟨b, o + k * 2, none⟩ = some (.int .i64 rs[k].st) ∧ w.cell? ⟨b, o + k * 2 + 1, none⟩ = some (.slice rs[k].A rs[k].n rs[k].c) := by
  have g := fun j hj => flat_get Rt.cells 2 rs (fun _ _ => rfl) k j hj
  rw [List.getElem?_eq_getElem hk] at g
  obtain ⟨ad, e, hb, h0⟩ := h (k * 2 + 0) _ (g 0 (by omega))
  obtain ⟨ad1, e1, _, h1⟩ := h (k * 2 + 1) _ (g 1 (by omega))
  injection e with e; subst e
  injection e1 with e1; subst e1
  have ea : ∀ m, (⟨b, o, none⟩ : Addr).add m = ⟨b, o + m, none⟩ := fun m => by unfold Addr.add; by_cases h : m = 0 <;> simp [h]
  rw [ea] at h0 h1
  exact ⟨hb, by simpa using h0, by simpa [Nat.add_assoc] using h1⟩
def ptrV (g : Nat) : Value := .pointer (some ⟨g, 0, none⟩)
theorem Try.inf_pw : (Try.prog.info? 212).map (fun i => (i.zero, i.size, i.bytes)) = some (some (.pointer none), 1, 8) := by kernel_rfl
theorem Lk.off {fs : List Q4} {w : World} {b o : Nat} {cur : Array Value} {fr : Nat × Nat} {T : TypeId} (hb : w.heap[b]? = some (.cells cur T fr)) (hT : T ≠ 216) (u : Value) : ∀ {xs : List Int} {g : Nat} {ns : List Int}, Lk fs w g xs ns → Lk fs (w.setCell ⟨b, o, none⟩ u) g xs ns
  | [], g, _, ⟨st, e, h⟩ => ⟨st, e, (Below.heap_setCell _ _ _ _ (fun e => by
      have e2 : g = b := e
      subst e2
      rw [h] at hb
      injection hb with hb
      injection hb with _ ht
      exact hT ht.symm)).trans h⟩
  | _ :: _, g, _, ⟨nx, ns', g', e, h, r⟩ => ⟨nx, ns', g', e, (Below.heap_setCell _ _ _ _ (fun e => by
      have e2 : g = b := e
      subst e2
      rw [h] at hb
      injection hb with hb
      injection hb with _ ht
      exact hT ht.symm)).trans h, Lk.off hb hT u r⟩
theorem own_heap_at {w : World} {B E s n g c : Nat} {xs : List Value} (h : w.ownsRow B E s (.slice (some ⟨g, 0, none⟩) n c) n xs) : ∃ cur, w.heap[g]? = some (.cells cur E (0, 0)) := by
  rcases h.2 with ⟨e, _⟩ | ⟨g', cap', cur, e, _, hh, _⟩
  · simp at e
  · injection e with e1; injection e1 with e1; injection e1 with e1
    subst e1
    exact ⟨cur, hh⟩
def WalksP (n1 : Nat) (fs : List Q4) (rs : List Rt) (w : World) (e : Ending) (w' : World) : Prop :=
  Below w.heap.size w w' ∧ (((∃ i, ∃ h : i < rs.length, routeN n1 fs rs[i].st rs[i].zs = none) ∧ e = .returned (.tuple #[.slice none 0 0, .bool false])) ∨
    ∃ (gw : Nat) (gs : List Nat), e = .returned (.tuple #[.slice (some ⟨gw, 0, none⟩) rs.length rs.length, .bool true]) ∧ gs.length = rs.length ∧
      w'.ownsRow w.heap.size 212 1 (.slice (some ⟨gw, 0, none⟩) rs.length rs.length) rs.length (gs.map ptrV) ∧
      ∀ i (h : i < rs.length) (h' : i < gs.length), ∃ vs, routeN n1 fs rs[i].st rs[i].zs = some vs ∧ Lk fs w' gs[i] rs[i].zs.reverse vs)

end Go.Proofs.Ytlgkjidginibdaa

namespace Go.Proofs.Ytlgkjidginibdaa
open Go.ChangeShapes Go.WideShapes Go.ChangeAt Go.RowKit

/-- one route laid as a slice of one. -/
theorem one_rt (w : World) (st : Int) (A : Option Addr) (n c : Nat) (zs : List Int) (T : TypeId) : Rd (w.alloc (.cells #[.int .i64 st, .slice A n c] T)) (w.alloc (.cells #[.int .i64 st, .slice A n c] T)).heap.size (some ⟨w.heap.size, 0, none⟩) ([(⟨st, A, n, c, zs⟩ : Rt)].flatMap Rt.cells) := by
  intro k u hu
  refine ⟨_, rfl, by simp, ?_⟩
  match k, hu with
  | 0, hu =>
    have e : u = .int .i64 st := by have := hu; simp [Rt.cells] at this; exact this.symm
    subst e
    exact cell_of_row _ w.heap.size 0 _ T (0, 0) (heap_alloc_new w _)
  | 1, hu =>
    have e : u = .slice A n c := by have := hu; simp [Rt.cells] at this; exact this.symm
    subst e
    exact cell_of_row _ w.heap.size 1 _ T (0, 0) (heap_alloc_new w _)
  | k + 2, hu => simp [Rt.cells] at hu
def OneP (n1 : Nat) (fs : List Q4) (st : Int) (fl : List Int) (w : World) (e : Ending) (w' : World) : Prop :=
  Below w.heap.size w w' ∧ ((routeN n1 fs st fl = none ∧ e = .returned (.tuple #[.slice none 0 0, .bool false])) ∨
    ∃ (gw g : Nat) (vs : List Int), routeN n1 fs st fl = some vs ∧ e = .returned (.tuple #[.slice (some ⟨gw, 0, none⟩) 1 1, .bool true]) ∧ w.heap.size ≤ gw ∧ gw < w'.heap.size ∧ w'.cell? ⟨gw, 0, none⟩ = some (.pointer (some ⟨g, 0, none⟩)) ∧ Lk fs w' g fl.reverse vs)
end Go.Proofs.Ytlgkjidginibdaa

namespace Go.Proofs.Ytlgkjidginibdaa
open Go.ChangeShapes Go.WideShapes Go.ChangeAt Go.RowKit

theorem walkR_mem {fs : List Q4} : ∀ {fl ns vs : List Int}, walkR fs fl ns = some vs → ∀ x ∈ fl, 0 ≤ x ∧ x < fs.length
  | [], _, _, _, x, hx => by simp at hx
  | y :: r, ns, vs, h, x, hx => by
    cases hs : stepO fs ns y with
    | none => rw [walkR_none hs] at h; exact absurd h (by simp)
    | some nx =>
      rw [walkR_some hs] at h
      rcases List.mem_cons.1 hx with rfl | hx
      · unfold stepO at hs
        split at hs
        · rename_i hc; exact hc.1
        · exact absurd hs (by simp)
      · exact walkR_mem h x hx
theorem routeN_mem {n1 : Nat} {fs : List Q4} {st : Int} {fl vs : List Int} (h : routeN n1 fs st fl = some vs) : ∀ x ∈ fl, 0 ≤ x ∧ x < fs.length := by
  unfold routeN at h
  split at h
  · exact walkR_mem h
  · exact absurd h (by simp)
theorem walkR_len {fs : List Q4} : ∀ {fl ns vs : List Int}, walkR fs fl ns = some vs → vs.length = fl.length + ns.length
  | [], ns, vs, h => by rw [walkR] at h; injection h with h; subst h; simp
  | y :: r, ns, vs, h => by
    cases hs : stepO fs ns y with
    | none => rw [walkR_none hs] at h; exact absurd h (by simp)
    | some nx =>
      rw [walkR_some hs] at h
      have := walkR_len h
      rw [this, List.length_cons, List.length_cons]; omega
theorem routeN_len {n1 : Nat} {fs : List Q4} {st : Int} {fl vs : List Int} (h : routeN n1 fs st fl = some vs) : vs.length = fl.length + 1 := by
  unfold routeN at h
  split at h
  · exact walkR_len h
  · exact absurd h (by simp)
theorem lenX_app (fs : List Q4) (a b : List Int) : lenX fs (a ++ b) = lenX fs a + lenX fs b := by unfold lenX; rw [List.map_append, List.sum_append]
theorem lenX_rev (fs : List Q4) : ∀ a : List Int, lenX fs a.reverse = lenX fs a
  | [] => rfl
  | x :: a => by rw [List.reverse_cons, lenX_app, lenX_rev fs a, lenX_cons, lenX_cons]; unfold lenX; simp; omega
theorem lenX_snoc (fs : List Q4) (fl : List Int) (k : Nat) (h : k < fl.length) : lenX fs (fl.take (k + 1)) = lenX fs (fl.take k) + (fibI fs fl[k]).c := by
  rw [List.take_succ_eq_append_getElem h, lenX_app]; unfold lenX; simp
noncomputable def rlenI (ss : List ByteArray) (fs : List Q4) (st : Int) (fl : List Int) : Int := if routeB ss fs st fl then lenX fs fl else 0
noncomputable def rlenR (ss : List ByteArray) (fs : List Q4) (st : Int) (fl : List Int) : Value := .tuple #[.int .i64 (rlenI ss fs st fl), .bool (routeB ss fs st fl)]
theorem rlen_no {ss : List ByteArray} {fs : List Q4} {st : Int} {fl : List Int} (h : routeB ss fs st fl = false) : (.tuple #[.int .i64 0, .bool false] : Value) = rlenR ss fs st fl := by
  unfold rlenR rlenI; rw [h]; rfl
theorem rlen_yes {ss : List ByteArray} {fs : List Q4} {st : Int} {fl : List Int} (h : routeB ss fs st fl = true) : (.tuple #[.int .i64 (lenX fs fl), .bool true] : Value) = rlenR ss fs st fl := by
  unfold rlenR rlenI; rw [h]; rfl
theorem routeB_yes {ss : List ByteArray} {fs : List Q4} {st : Int} {fl : List Int} (h : routeB ss fs st fl = true) : netP ss fs ∧ ∃ vs, routeN ss.length fs st fl = some vs := by
  unfold routeB at h
  rw [Bool.and_eq_true] at h
  exact ⟨of_pb h.1, Option.isSome_iff_exists.1 h.2⟩
theorem routeB_no {ss : List ByteArray} {fs : List Q4} {st : Int} {fl : List Int} (hv : netP ss fs) (h : routeN ss.length fs st fl = none) : routeB ss fs st fl = false := by
  unfold routeB; rw [h]; exact Bool.and_false _
theorem routeB_some {ss : List ByteArray} {fs : List Q4} {st : Int} {fl vs : List Int} (hv : netP ss fs) (h : routeN ss.length fs st fl = some vs) : routeB ss fs st fl = true := by
  unfold routeB; rw [h, pb_true hv]; rfl
theorem routeB_net {ss : List ByteArray} {fs : List Q4} {st : Int} {fl : List Int} (hv : ¬ netP ss fs) : routeB ss fs st fl = false := by
  unfold routeB; rw [pb_false hv]; rfl

end Go.Proofs.Ytlgkjidginibdaa

namespace Go.Proofs.Ytlgkjidginibdaa
open Go.ChangeShapes Go.WideShapes Go.ChangeAt Go.RowKit

/-- an int list of the call's own. -/
def IntsO (zs : List Int) (w : World) (e : Ending) (w' : World) : Prop :=
  ∃ (A : Option Addr) (N c : Nat), e = .returned (.slice A N c) ∧ Hid (N = zs.length) ∧ w'.ownsRow w.heap.size 3 1 (.slice A N c) N (zs.map (Value.int .i64)) ∧ Below w.heap.size w w'
noncomputable def rnodL (ss : List ByteArray) (fs : List Q4) (st : Int) (fl : List Int) : List Int := if routeB ss fs st fl then ((routeN ss.length fs st fl).getD []).reverse else []
theorem rnod_no {ss : List ByteArray} {fs : List Q4} {st : Int} {fl : List Int} (h : routeB ss fs st fl = false) : rnodL ss fs st fl = [] := by unfold rnodL; rw [h]; rfl
theorem rnod_yes {ss : List ByteArray} {fs : List Q4} {st : Int} {fl vs : List Int} (h : routeB ss fs st fl = true) (hv : routeN ss.length fs st fl = some vs) : rnodL ss fs st fl = vs.reverse := by
  unfold rnodL; rw [h, hv]; rfl
theorem rnod_len (ss : List ByteArray) (fs : List Q4) (st : Int) (fl : List Int) : (rnodL ss fs st fl).length ≤ fl.length + 1 := by
  cases h : routeB ss fs st fl with
  | false => rw [rnod_no h]; simp
  | true =>
    obtain ⟨_, vs, hv⟩ := routeB_yes h
    rw [rnod_yes h hv, List.length_reverse, routeN_len hv]
    exact Nat.le_refl _
theorem rnod_bd {ss : List ByteArray} {fs : List Q4} {st : Int} {fl : List Int} (h : ss.length + fl.length ≤ 1048576) : (rnodL ss fs st fl).length ≤ 1048576 := by
  cases hb : routeB ss fs st fl with
  | false => rw [rnod_no hb]; simp
  | true =>
    have h1 := rnod_len ss fs st fl
    have h2 := (routeB_yes hb).1.1.1
    omega
theorem ints_nil (w : World) (b : Bool) : IntsP [] b w (.returned (.tuple #[.slice none 0 0, .bool b])) w := ⟨none, 0, 0, rfl, Lib.hid rfl, World.ownsRow_nil _ _ _ _, Below.refl _ _⟩
theorem ints_nilB {w w' : World} (b : Bool) (hb : Below w.heap.size w w') : IntsP [] b w (.returned (.tuple #[.slice none 0 0, .bool b])) w' := ⟨none, 0, 0, rfl, Lib.hid rfl, World.ownsRow_nil _ _ _ _, hb⟩

set_option maxRecDepth 100000 in
set_option maxHeartbeats 4000000 in
theorem l4Nodes_ {g1 g2 n1 n2 c1 c2 : Nat} {ss : List ByteArray} {fs : List Q4} {w : World} (h : NetAt g1 g2 n1 n2 c1 c2 ss fs w) (hv : netP ss fs) (st : Int)
    {A : Option Addr} {n c : Nat} {fl : List Int} (hn : fl.length = n) (hr : Rd w w.heap.size A (fl.map (Value.int .i64))) (hx : n ≤ 1048576) {vs : List Int} (hvs : routeN n1 fs st fl = some vs) :
    Calls Try.prog 204 #[.agg #[.slice (some ⟨g1, 0, none⟩) n1 c1, .slice (some ⟨g2, 0, none⟩) n2 c2], .agg #[.int .i64 st, .slice A n c]] w (IntsO vs.reverse w) := by
  have HN := Lib.hid hn; have HNT := Lib.hid h; have HR := Lib.hid hr; have HV := Lib.hid hv; have HVS := Lib.hid hvs
  clear hn h hr hv hvs
  go_enter Try.func204, Try.ntmps204
  go_wp2_with fail
  obtain ⟨W0, hW0⟩ : ∃ W0, (w.alloc (Obj.cells #[.slice (some ⟨g1, 0, none⟩) n1 c1, .slice (some ⟨g2, 0, none⟩) n2 c2] 39)).alloc (Obj.cells #[.int .i64 st, .slice A n c] 41) = W0 := ⟨_, rfl⟩
  have hb0 : Below w.heap.size w W0 := by rw [← hW0]; exact ((Below.refl _ _).alloc (Nat.le_refl _) _).alloc (by simp) _
  have k0 : W0.cell? ⟨w.heap.size, 0, none⟩ = some (.slice (some ⟨g1, 0, none⟩) n1 c1) := by rw [← hW0]; simp [go_sem]
  have k1 : W0.cell? ⟨w.heap.size, 1, none⟩ = some (.slice (some ⟨g2, 0, none⟩) n2 c2) := by rw [← hW0]; simp [go_sem]
  have k2 : W0.cell? ⟨w.heap.size + 1, 0, none⟩ = some (.int .i64 st) := by rw [← hW0]; simp [go_sem]
  have k3 : W0.cell? ⟨w.heap.size + 1, 1, none⟩ = some (.slice A n c) := by rw [← hW0]; simp [go_sem]
  have hz0 : w.heap.size + 1 < W0.heap.size := by rw [← hW0]; simp
  have HB0 := Lib.hid hb0; have HK0 := Lib.hid k0; have HK1 := Lib.hid k1; have HK2 := Lib.hid k2; have HK3 := Lib.hid k3; have HZ0 := Lib.hid hz0
  rw [hW0]
  clear hW0 hb0 k0 k1 k2 k3 hz0
  refine (l4Walk_ (c := c) (HNT.out.moved HB0.out) HV.out st HN.out (HR.out.moved HB0.out) hx).mono ?_
  rintro e w1 ⟨hb1, B, N, cc, h2⟩
  have HB1 := Lib.hid (HB0.out.trans (hb1.mono HB0.out.size))
  have HZS := Lib.hid HB0.out.size
  clear hb1
  rcases h2 with ⟨hs, _⟩ | ⟨us, hs, rfl, hN, ho⟩
  · rw [HVS.out] at hs
    exact absurd hs (by simp)
  · rw [HVS.out] at hs
    injection hs with hs
    subst hs
    have HO := Lib.hid (own_base ho (HZS.out))
    have HNN : Hid (N = vs.reverse.length) := Lib.hid (by rw [List.length_reverse]; exact hN)
    clear ho hN
    go_wp2
    go_ret
    exact ⟨B, N, cc, rfl, HNN, HO.out, HB1.out⟩

theorem own_heapW {w w' : World} {B E s n : Nat} {v : Value} {xs : List Value} (e : w'.heap = w.heap) (h : w.ownsRow B E s v n xs) : w'.ownsRow B E s v n xs := by
  refine ⟨h.1, ?_⟩
  rw [e]
  exact h.2
theorem rep_set (m : Nat) (v : Value) (l : List Value) (z : Value) : (List.replicate (m + 1) z ++ l).set m v = List.replicate m z ++ v :: l := by
  rw [List.set_append_left _ _ (by simp), List.replicate_succ', List.set_append_right _ _ (by simp)]
  simp
end Go.Proofs.Ytlgkjidginibdaa

namespace Go.Proofs.Ytlgkjidginibdaa
open Go.ChangeShapes Go.WideShapes Go.ChangeAt Go.RowKit

theorem wp_app {P : Program} {ops : Array Oper} {rest : List Oper} {o : Oper} {a : Act} {Q : Exit → Act → World → Prop} {w : World} (hgd : o.guard = none) (s x : Operand) (T E : TypeId)
    (ho : o.op = .call { callee := .builtin .append, args := #[s, x], argTypes := #[T, T] })
    (B : Nat) {z : Value} {k bytes : Nat} (ht : P.underlying T = some (.slice E)) (hinf : (P.info? E).map (fun i => (i.zero, i.size, i.bytes)) = some (some z, k, bytes)) (hzs : z.cells.size = k) (hk : 0 < k) (hby : bytes ≤ 1024)
    (v : Value) (N : Nat) (xs : List Value) (hs : a.eval s = v) (hown : w.ownsRow B E k v N xs)
    (b c : Nat) (news : List Value) (hx : a.eval x = .slice (some ⟨b, 0, none⟩) 1 c) (hl : news.length = k) (hnews : ∀ j u, news[j]? = some u → w.cell? ⟨b, j, none⟩ = some u) (h1 : ∀ u ∈ news, u.oneCell' = true)
    (hN : N ≤ 1000000000) (hB : B ≤ w.heap.size)
    (h : ∀ A c N1 w', N1 = N + 1 → w'.ownsRow B E k (.slice A N1 c) N1 (xs ++ news) → w.grownBy w' v.ownBlock → ((Value.slice A N1 c).ownBlock = v.ownBlock ∨ (Value.slice A N1 c).ownBlock = some w.heap.size) → wpList P ops Q rest (a.put o.dst (.slice A N1 c)) w') :
    wpList P ops Q (o :: rest) a w := by
  obtain ⟨i0, hi, hz0, hz1, hz2⟩ := info_parts hinf
  refine wpList_append_own_at w hgd s x T ho B E i0 z k bytes ht hi hz0 hz1 hz2 hzs hk v N xs hs hown ⟨b, 0, none⟩ 1 c news hx (by rw [hl, Nat.one_mul]) ?_ h1 (by unfold maxLen; omega) ?_ hB ?_
  · intro j u hu
    have e : (⟨b, 0, none⟩ : Addr).add j = ⟨b, j, none⟩ := by unfold Addr.add; by_cases h : j = 0 <;> simp [h]
    rw [e]; exact hnews j u hu
  · have := Nat.mul_le_mul (by omega : N + 1 ≤ 1000000001) hby
    omega
  · intro v' w' hown' hgr _ hloc
    rcases hown'.2 with ⟨rfl, h0⟩ | ⟨g, cap, cur, rfl, _⟩
    · omega
    · exact h _ _ (N + 1) w' rfl hown' hgr hloc

theorem news1 {w : World} {b : Nat} {u0 : Value} (h : w.cell? ⟨b, 0, none⟩ = some u0) : ∀ (j : Nat) (u : Value), [u0][j]? = some u → w.cell? ⟨b, j, none⟩ = some u := by
  intro j u hu
  match j, hu with
  | 0, hu => simp at hu; subst hu; exact h
theorem news_int (z : Int) : ∀ u ∈ [Value.int .i64 z], u.oneCell' = true := by
  intro u hu; simp at hu; subst hu; rfl

/-- two values own no block together. -/
def Apart (v v' : Value) : Prop := ∀ g, v.ownBlock = some g → v'.ownBlock ≠ some g
theorem Apart.symm {v v' : Value} (h : Apart v v') : Apart v' v := fun g h1 h2 => h g h2 h1
theorem Apart.nil (v : Value) : Apart (.slice none 0 0) v := fun g h => by simp [Value.ownBlock] at h
theorem Apart.kept {v v' : Value} {B E s n : Nat} {xs : List Value} {w w' : World} (h : Apart v v') (ho : w.ownsRow B E s v n xs) (hg : w.grownBy w' v'.ownBlock) : w'.ownsRow B E s v n xs :=
  ho.kept hg (by
    cases hv : v.ownBlock with
    | none => exact .inl rfl
    | some g => exact .inr fun e => h g hv e.symm)
theorem Apart.loc {v v' v1 : Value} {B E s n : Nat} {xs : List Value} {w : World} (h : Apart v v') (ho : w.ownsRow B E s v n xs) (hloc : v1.ownBlock = v'.ownBlock ∨ v1.ownBlock = some w.heap.size) : Apart v v1 := by
  intro g hg e
  rcases hloc with hl | hl
  · exact h g hg (by rw [← hl]; exact e)
  · have := (ho.lt g hg).2
    rw [hl] at e
    injection e with e
    omega
/-- rows of the call's own: int slices; what is appended. -/
theorem Apart.out {A A' : Option Addr} {n c n' c' B E s k : Nat} {xs : List Value} {w : World} (h : Apart (.slice A n c) (.slice A' n' c')) : ∀ g, A = some ⟨g, 0, none⟩ → A' ≠ some ⟨g, 0, none⟩ := by
  intro g h1 h2
  subst h1 h2
  exact h g rfl rfl
end Go.Proofs.Ytlgkjidginibdaa

namespace Go.Proofs.Ytlgkjidginibdaa
open Go.ChangeShapes Go.WideShapes Go.ChangeAt Go.RowKit

noncomputable def lnK (fs : List Q4) (fl : List Int) (k : Nat) : Int := (fibI fs (fl.getD k 0)).c
noncomputable def rgS (fs : List Q4) (fl vs : List Int) (h : Int) : Nat → Int × List Int
  | 0 => (0, [])
  | k + 1 => if h < (rgS fs fl vs h k).1 + lnK fs fl k then (lnK fs fl k, (rgS fs fl vs h k).2 ++ [vs.getD k 0]) else ((rgS fs fl vs h k).1 + lnK fs fl k, (rgS fs fl vs h k).2)
theorem rg_over {fs : List Q4} {fl vs : List Int} {h : Int} {k : Nat} {s l v : Int} {L : List Int} (e : rgS fs fl vs h k = (s, L)) (el : lnK fs fl k = l) (ev : vs.getD k 0 = v) (ho : h < s + l) : rgS fs fl vs h (k + 1) = (l, L ++ [v]) := by
  rw [rgS, e, el, ev]; exact if_pos ho
theorem rg_fits {fs : List Q4} {fl vs : List Int} {h : Int} {k : Nat} {s l : Int} {L : List Int} (e : rgS fs fl vs h k = (s, L)) (el : lnK fs fl k = l) (ho : ¬ h < s + l) : rgS fs fl vs h (k + 1) = (s + l, L) := by
  rw [rgS, e, el]; exact if_neg ho
theorem rg_len (fs : List Q4) (fl vs : List Int) (h : Int) : ∀ k, (rgS fs fl vs h k).2.length ≤ k
  | 0 => Nat.le_refl _
  | k + 1 => by
    have := rg_len fs fl vs h k
    rw [rgS]
    split
    · rw [List.length_append]; exact Nat.succ_le_succ this
    · exact Nat.le_succ_of_le this
noncomputable def regP (ss : List ByteArray) (fs : List Q4) (st : Int) (fl : List Int) (h : Int) : Prop := routeB ss fs st fl = true ∧ (1 ≤ h ∧ h ≤ 20000) ∧ ∀ k, k < fl.length → lnK fs fl k ≤ h
noncomputable def regB (ss : List ByteArray) (fs : List Q4) (st : Int) (fl : List Int) (h : Int) : Bool := pb (regP ss fs st fl h)
noncomputable def regL (ss : List ByteArray) (fs : List Q4) (st : Int) (fl : List Int) (h : Int) : List Int := if regB ss fs st fl h then (rgS fs fl (rnodL ss fs st fl) h fl.length).2 else []
theorem reg_no {ss : List ByteArray} {fs : List Q4} {st : Int} {fl : List Int} {h : Int} (e : ¬ regP ss fs st fl h) : regL ss fs st fl h = [] ∧ regB ss fs st fl h = false := by
  have hb : regB ss fs st fl h = false := pb_false e
  exact ⟨by unfold regL; rw [hb]; rfl, hb⟩
theorem reg_yes {ss : List ByteArray} {fs : List Q4} {st : Int} {fl : List Int} {h : Int} (e : regP ss fs st fl h) : regL ss fs st fl h = (rgS fs fl (rnodL ss fs st fl) h fl.length).2 ∧ regB ss fs st fl h = true := by
  have hb : regB ss fs st fl h = true := pb_true e
  exact ⟨by unfold regL; rw [hb]; rfl, hb⟩
theorem regL_len (ss : List ByteArray) (fs : List Q4) (st : Int) (fl : List Int) (h : Int) : (regL ss fs st fl h).length ≤ fl.length := by
  unfold regL
  split
  · exact rg_len _ _ _ _ _
  · simp
/-- worlds one after the other. -/
theorem belT {a b c : World} (h : Below a.heap.size a b) (k : Below b.heap.size b c) : Below a.heap.size a c := h.trans (k.mono h.size)
theorem own_some {w : World} {B E s n c : Nat} {A : Option Addr} {xs : List Value} (h : w.ownsRow B E s (.slice A n c) n xs) (hn : 0 < n) : ∃ g, A = some ⟨g, 0, none⟩ := by
  rcases h.2 with ⟨e, e2⟩ | ⟨g, cap, cur, e, _, hh, _⟩
  · omega
  · injection e with e1
    exact ⟨g, e1⟩
theorem apart_new {w w' : World} {B E s n B' E' s' n' : Nat} {v v' : Value} {xs xs' : List Value} (h : w.ownsRow B E s v n xs) (h' : w'.ownsRow B' E' s' v' n' xs') (hB : w.heap.size ≤ B') : Apart v' v := fun g hg e => by
  have h1 := (h.lt g e).2
  have h2 := (h'.lt g hg).1
  omega
theorem apart_loc {v v' v1 : Value} {B E s n K : Nat} {xs : List Value} {w : World} (h : Apart v v') (ho : w.ownsRow B E s v n xs) (hK : w.heap.size ≤ K) (hloc : v1.ownBlock = v'.ownBlock ∨ v1.ownBlock = some K) : Apart v v1 := by
  intro g hg e
  rcases hloc with hl | hl
  · exact h g hg (by rw [← hl]; exact e)
  · have := (ho.lt g hg).2
    rw [hl] at e
    injection e with e
    omega
theorem new_at_ (W : World) (E : TypeId) (u : Value) (b : Nat) (hb : W.heap.size = b) : (W.alloc (.cells #[u] E)).cell? ⟨b, 0, none⟩ = some u := by subst hb; simp [go_sem]
/-- the cell of an int row of the call's own. -/
theorem own_int {w : World} {B E g n c k : Nat} {zs : List Int} (h : w.ownsRow B E 1 (.slice (some ⟨g, 0, none⟩) n c) n (zs.map (Value.int .i64))) (hn : n = zs.length) (hk : k < n) {v : Int} (hv : zs.getD k 0 = v) : w.cell? ⟨g, k, none⟩ = some (.int .i64 v) := by
  have h1 := h.cellAt k (by omega)
  have hk' : k < zs.length := by omega
  rw [List.getD_eq_getElem?_getD, List.getElem?_eq_getElem hk'] at hv
  simp only [Option.getD_some] at hv
  rw [List.getElem?_map, List.getElem?_eq_getElem hk', hv] at h1
  exact h1

theorem ints_no {L : List Int} {b : Bool} {w w' : World} (h : L = [] ∧ b = false) (hb : Below w.heap.size w w') : IntsP L b w (.returned (.tuple #[.slice none 0 0, .bool false])) w' := by
  obtain ⟨rfl, rfl⟩ := h; exact ints_nilB false hb
theorem ints_lit {L : List Int} {b : Bool} {w w' : World} (h : L = [] ∧ b = false) (hb : Below w.heap.size w w') {g : Nat} (hg : w'.heap.size = g) : IntsP L b w (.returned (.tuple #[.slice (some ⟨g, 0, none⟩) 0 0, .bool false])) (w'.alloc (Obj.cells #[] 3)) := by
  obtain ⟨rfl, rfl⟩ := h
  subst hg
  exact ⟨_, 0, _, rfl, Lib.hid rfl, World.ownsRow_lit (base := w.heap.size) (e := 3) (size := 1) w' #[] 0 hb.size (by unfold maxLen; omega) rfl, hb.alloc hb.size _⟩

end Go.Proofs.Ytlgkjidginibdaa
