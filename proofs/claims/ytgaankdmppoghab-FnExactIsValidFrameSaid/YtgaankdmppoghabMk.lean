/- Words of our own: nothing but some blocks has changed; rows of running numbers. No condition. -/
import Derived.Test.YtgaankdmppoghabAll
namespace Go.Proofs.Ytgaankdmppoghab
open Go.ChangeShapes Go.WideShapes Go.ChangeAt Go.RowKit

/-- nothing but the blocks of S has changed. -/
structure Off (S : Nat → Prop) (w w' : World) : Prop where
  os : w'.os = w.os
  tape : w'.tape = w.tape
  output : w'.output = w.output
  size : w.heap.size ≤ w'.heap.size
  block : ∀ k, k < w.heap.size → ¬ S k → w'.heap[k]? = w.heap[k]?
theorem Off.refl (S : Nat → Prop) (w : World) : Off S w w := ⟨rfl, rfl, rfl, Nat.le_refl _, fun _ _ _ => rfl⟩
theorem Off.trans {S : Nat → Prop} {a b c : World} (h : Off S a b) (k : Off S b c) : Off S a c :=
  ⟨k.os.trans h.os, k.tape.trans h.tape, k.output.trans h.output, Nat.le_trans h.size k.size, fun i hi hs => (k.block i (Nat.lt_of_lt_of_le hi h.size) hs).trans (h.block i hi hs)⟩
theorem Off.ofBelow {S : Nat → Prop} {w w' : World} (h : Below w.heap.size w w') : Off S w w' := ⟨h.os, h.tape, h.output, h.size, fun k hk _ => h.block k hk⟩
theorem Off.wider {S S' : Nat → Prop} {w w' : World} (h : Off S w w') (hs : ∀ k, S k → S' k) : Off S' w w' := ⟨h.os, h.tape, h.output, h.size, fun k hk hn => h.block k hk (fun x => hn (hs k x))⟩
theorem Off.below {S : Nat → Prop} {B : Nat} {w w' : World} (h : Off S w w') (hB : B ≤ w.heap.size) (hs : ∀ k, S k → B ≤ k) : Below B w w' :=
  ⟨h.os, h.tape, h.output, h.size, fun k hk => h.block k (by omega) (fun x => by have := hs k x; omega)⟩
theorem Off.set_ {S : Nat → Prop} {w w' : World} (h : Off S w w') {p : Addr} (hp : S p.block) (u : Value) : Off S w (w'.setCell p u) :=
  ⟨h.os, h.tape, h.output, by simpa using h.size, fun k hk hn => (Below.heap_setCell w' p u k (fun e => hn (by rw [e]; exact hp))).trans (h.block k hk hn)⟩
theorem Off.cell {S : Nat → Prop} {w w' : World} (h : Off S w w') {p : Addr} (hp : p.block < w.heap.size) (hs : ¬ S p.block) : w'.cell? p = w.cell? p := World.cell?_of_block (w := w) (h.block p.block hp hs)
theorem Off.own {S : Nat → Prop} {w w' : World} {B E s n c : Nat} {A : Option Addr} {xs : List Value} (h : Off S w w') (ho : w.ownsRow B E s (.slice A n c) n xs) (hs : ∀ g, A = some ⟨g, 0, none⟩ → ¬ S g) : w'.ownsRow B E s (.slice A n c) n xs := by
  refine ⟨ho.1, ?_⟩
  rcases ho.2 with hn | ⟨g', cap', cur, e, hg, hh, rest⟩
  · exact .inl hn
  · injection e with e1 e2 e3
    subst e1
    exact .inr ⟨g', cap', cur, by rw [e3], hg, (h.block g' (Array.getElem?_eq_some_iff.1 hh).1 (hs g' rfl)).trans hh, rest⟩
theorem Rd.off {S : Nat → Prop} {w w' : World} {g o : Nat} {xs : List Value} (h : Rd w w.heap.size (some ⟨g, o, none⟩) xs) (hb : Off S w w') (hs : ¬ S g) : Rd w' w'.heap.size (some ⟨g, o, none⟩) xs := by
  intro k u hu
  obtain ⟨ad, e, hl, hc⟩ := h k u hu
  injection e with e; subst e
  exact ⟨_, rfl, Nat.lt_of_lt_of_le hl hb.size, by rw [hb.cell (by rw [addBlock]; exact hl) (by rw [addBlock]; exact hs)]; exact hc⟩
/-- running numbers from k on. -/
def marksI (k : Int) (n : Nat) : List Int := (List.range n).map fun (i : Nat) => k + (i : Int)
theorem marksI_get (k : Int) (n i : Nat) (h : i < n) : (marksI k n)[i]? = some (k + (i : Int)) := by
  unfold marksI; rw [List.getElem?_map, List.getElem?_range h]; rfl
theorem marksI_len (k : Int) (n : Nat) : (marksI k n).length = n := by unfold marksI; simp
theorem set_marks (k : Int) (zs : List Int) (i : Nat) (z : Int) (hi : i < zs.length) (hz : z = k + (i : Int)) :
    ((marksI k i ++ zs.drop i).map (Value.int .i64)).set i (.int .i64 z) = (marksI k (i + 1) ++ zs.drop (i + 1)).map (Value.int .i64) := by
  subst hz
  have em : marksI k (i + 1) = marksI k i ++ [k + (i : Int)] := by unfold marksI; rw [List.range_succ, List.map_append]; rfl
  rw [em, List.drop_eq_getElem_cons hi, List.map_append, List.map_cons, List.set_append_right _ _ (by simp [marksI_len]), List.length_map, marksI_len, Nat.sub_self, List.set_cons_zero]
  simp
/-- a mark's answer: the next number; the row holds running numbers; nothing else has changed. -/
def MkP (B E s : Nat) (A : Option Addr) (n c : Nat) (k : Int) (w : World) (e : Ending) (w' : World) : Prop :=
  ∃ z : Int, e = .returned (.int .i64 z) ∧ z = k + ((n * s : Nat) : Int) ∧ Off (fun b => A = some ⟨b, 0, none⟩) w w' ∧ w'.ownsRow B E s (.slice A n c) n ((marksI k (n * s)).map (Value.int .i64))
/-- an answer with one list in memory of its own. -/
def Ans1 (E s : Nat) (xs : List Value) (N : Nat) (mk : Value → Value) (w : World) (e : Ending) (w' : World) : Prop :=
  ∃ (A : Option Addr) (c : Nat), e = .returned (mk (.slice A N c)) ∧ w'.ownsRow w.heap.size E s (.slice A N c) N xs ∧ Below w.heap.size w w'
/-- an answer with two lists in memory of its own, apart. -/
def Ans2 (E s : Nat) (xs : List Value) (N : Nat) (E' s' : Nat) (xs' : List Value) (N' : Nat) (mk : Value → Value → Value) (w : World) (e : Ending) (w' : World) : Prop :=
  ∃ (A : Option Addr) (c : Nat) (A' : Option Addr) (c' : Nat), e = .returned (mk (.slice A N c) (.slice A' N' c')) ∧ w'.ownsRow w.heap.size E s (.slice A N c) N xs ∧ w'.ownsRow w.heap.size E' s' (.slice A' N' c') N' xs' ∧
    (∀ g, A = some ⟨g, 0, none⟩ → A' ≠ some ⟨g, 0, none⟩) ∧ Below w.heap.size w w'
theorem own_base_ {w : World} {B B' E s n : Nat} {v : Value} {xs : List Value} (h : w.ownsRow B E s v n xs) (hB : B' ≤ B) : w.ownsRow B' E s v n xs := by
  refine ⟨h.1, ?_⟩
  rcases h.2 with hn | ⟨g, cap, cur, hv, hg, rest⟩
  · exact .inl hn
  · exact .inr ⟨g, cap, cur, hv, Nat.le_trans hB hg, rest⟩
/-- behind a region that copies and calls: a list in memory of its own, another value. -/
def CutL (E s : Nat) (xs : List Value) (n : Nat) (v2 : Value) (w0 : World) (s1 s2 : Value) (wx : World) : Prop :=
  ∃ (A : Option Addr) (c : Nat), s1 = .slice A n c ∧ s2 = v2 ∧ wx.ownsRow w0.heap.size E s (.slice A n c) n xs ∧ Bel w0 wx
theorem q2cells (l : List Q2) : ∃ zs : List Int, l.flatMap Q2.cells = zs.map (Value.int .i64) := ⟨l.flatMap fun q => [q.a, q.b], by rw [List.map_flatMap]; rfl⟩
theorem q4cells (l : List Q4) : ∃ zs : List Int, l.flatMap Q4.cells = zs.map (Value.int .i64) := ⟨l.flatMap fun q => [q.a, q.b, q.c, q.d], by rw [List.map_flatMap]; rfl⟩
end Go.Proofs.Ytgaankdmppoghab
