/- Words of our own: routes as answers: compared, marked and held, their fibers nil or not. No condition but those typed. -/
import Derived.Test.YtkpendpjdemknaaGC
namespace Go.Proofs.Ytkpendpjdemknaa
open Go.ChangeShapes Go.WideShapes Go.ChangeAt Go.RowKit

theorem belAlloc {w u : World} (h : Bel w u) (o : Obj) : Bel w (u.alloc o) := Bel.of ((Bel.out h).alloc (Bel.out h).size o)
theorem belCell {w u : World} (h : Bel w u) (o : Obj) {p : Addr} {v : Value} (hp : p.block < w.heap.size) (hc : u.cell? p = some v) : (u.alloc o).cell? p = some v :=
  (((Below.refl u.heap.size u).alloc (Nat.le_refl _) o).cell (Nat.lt_of_lt_of_le hp (Bel.out h).size)).trans hc
/-- the box of a route, laid and not yet stored to. -/
def BoxAt (u : World) (b : Nat) : Prop := u.cell? ⟨b, 0, none⟩ = some (.int .i64 0) ∧ u.cell? ⟨b, 1, none⟩ = some (.slice none 0 0) ∧ u.frozen? ⟨b, 0, none⟩ = false ∧ u.frozen? ⟨b, 1, none⟩ = false ∧ b < u.heap.size
theorem boxNew {w u : World} {b : Nat} (e : w.heap.size = b) (hb : Below (w.alloc (Obj.cells #[.int .i64 0, .slice none 0 0] 65)).heap.size (w.alloc (Obj.cells #[.int .i64 0, .slice none 0 0] 65)) u) : BoxAt u b := by
  subst e
  have hl : w.heap.size < (w.alloc (Obj.cells #[.int .i64 0, .slice none 0 0] 65)).heap.size := by simp
  obtain ⟨hc, hf⟩ := bcell hb
  exact ⟨(hc _ _ hl).trans (by simp [go_sem]), (hc _ _ hl).trans (by simp [go_sem]), (hf _ _ hl).trans (by simp [go_sem]), (hf _ _ hl).trans (by simp [go_sem]), Nat.lt_of_lt_of_le hl hb.size⟩
theorem belStart (w : World) (o : Obj) : Bel w (w.alloc o).drew := Bel.of ((Below.refl w.heap.size w).alloc (Nat.le_refl _) o).drew
theorem belStartCell {w : World} (o : Obj) {p : Addr} {v : Value} (hp : p.block < w.heap.size) (hc : w.cell? p = some v) : (w.alloc o).drew.cell? p = some v :=
  (((Below.refl w.heap.size w).alloc (Nat.le_refl _) o).cell hp).trans hc
theorem boxNewD {w u : World} {b : Nat} (e : w.heap.size = b) (hb : Below (w.alloc (Obj.cells #[.int .i64 0, .slice none 0 0] 65)).drew.heap.size (w.alloc (Obj.cells #[.int .i64 0, .slice none 0 0] 65)).drew u) : BoxAt u b := by
  subst e
  have hl : w.heap.size < (w.alloc (Obj.cells #[.int .i64 0, .slice none 0 0] 65)).drew.heap.size := by simp
  obtain ⟨hc, hf⟩ := bcell hb
  exact ⟨(hc _ _ hl).trans (by simp [go_sem]), (hc _ _ hl).trans (by simp [go_sem]), (hf _ _ hl).trans (by simp [go_sem]), (hf _ _ hl).trans (by simp [go_sem]), Nat.lt_of_lt_of_le hl hb.size⟩
theorem boxKept {w u : World} {b : Nat} (h0 : w.cell? ⟨b, 0, none⟩ = some (.int .i64 0)) (h1 : w.cell? ⟨b, 1, none⟩ = some (.slice none 0 0)) (f0 : w.frozen? ⟨b, 0, none⟩ = false) (f1 : w.frozen? ⟨b, 1, none⟩ = false) (hl : b < w.heap.size) (hb : Below w.heap.size w u) : BoxAt u b := by
  obtain ⟨hc, hf⟩ := bcell hb
  exact ⟨(hc _ _ hl).trans h0, (hc _ _ hl).trans h1, (hf _ _ hl).trans f0, (hf _ _ hl).trans f1, Nat.lt_of_lt_of_le hl hb.size⟩
theorem boxSet {u : World} {b : Nat} {x y : Value} (h0 : u.cell? ⟨b, 0, none⟩ = some (.int .i64 0)) (h1 : u.cell? ⟨b, 1, none⟩ = some (.slice none 0 0)) (hl : b < u.heap.size) :
    ((u.setCell ⟨b, 0, none⟩ x).setCell ⟨b, 1, none⟩ y).cell? ⟨b, 0, none⟩ = some x ∧ ((u.setCell ⟨b, 0, none⟩ x).setCell ⟨b, 1, none⟩ y).cell? ⟨b, 1, none⟩ = some y ∧ b < ((u.setCell ⟨b, 0, none⟩ x).setCell ⟨b, 1, none⟩ y).heap.size := by
  refine ⟨by simp [go_sem, h0, h1], by simp [go_sem, h0, h1], by simpa using hl⟩
theorem belSet {w u : World} {b : Nat} (h : Bel w u) (hb : w.heap.size ≤ b) (x y : Value) : Bel w ((u.setCell ⟨b, 0, none⟩ x).setCell ⟨b, 1, none⟩ y) :=
  Bel.of (((Bel.out h).setCell (p := ⟨b, 0, none⟩) hb x).setCell (p := ⟨b, 1, none⟩) hb y)
theorem belSetCell {w u : World} {b : Nat} (hb : w.heap.size ≤ b) {p : Addr} {v : Value} (hp : p.block < w.heap.size) (hc : u.cell? p = some v) (x y : Value) : ((u.setCell ⟨b, 0, none⟩ x).setCell ⟨b, 1, none⟩ y).cell? p = some v := by
  have hne : p.block ≠ b := by omega
  have e := World.cell?_of_block (w := u) (w' := (u.setCell ⟨b, 0, none⟩ x).setCell ⟨b, 1, none⟩ y) (a := p) ((heap_setCell_other (u.setCell ⟨b, 0, none⟩ x) ⟨b, 1, none⟩ p.block y hne).trans (heap_setCell_other u ⟨b, 0, none⟩ p.block x hne))
  exact e.trans hc
theorem belowAlloc {w u : World} (h : Below w.heap.size w u) (o : Obj) : Below w.heap.size w (u.alloc o) := h.alloc h.size o
theorem belowOver {w u : World} {o : Obj} (h : Below (w.alloc o).heap.size (w.alloc o) u) : Below w.heap.size w u := ((Below.refl w.heap.size w).alloc (Nat.le_refl _) o).trans (h.mono (by simp))
set_option maxHeartbeats 1000000 in
theorem eqRtA (st : Int) (A A' : Option Addr) (n c c' : Nat) (zs : List Int) (w : World) (hn : zs.length = n) (hs : n ≤ 1048576) (hr : Rd w w.heap.size A (zs.map (Value.int .i64))) (hr' : Rd w w.heap.size A' (zs.map (Value.int .i64))) :
    Calls Try.prog 32 #[.agg #[.int .i64 st, .slice A n c], .agg #[.int .i64 st, .slice A' n c']] w fun e w' => e = .returned (.bool true) ∧ Below w.heap.size w w' := by
  have hb0 := ((Below.refl w.heap.size w).alloc (Nat.le_refl _) (Obj.cells #[.int .i64 st, .slice A n c] 65)).alloc (by simp) (Obj.cells #[.int .i64 st, .slice A' n c'] 65)
  have HB := Lib.hid hb0
  have CE := Lib.hid (eqInts A A' n c c' zs _ hn (hr.moved hb0) (hr'.moved hb0) hs)
  clear hn hr hr' hb0
  go_enter Try.func32, Try.ntmps32
  go_wp2_with fail
  refine CE.out.mono ?_
  rintro e w1 ⟨rfl, hb1⟩
  have HB1 := Lib.hid (HB.out.trans (hb1.mono HB.out.size))
  clear hb1
  go_wp2
  go_ret
  exact ⟨rfl, HB1.out⟩

theorem markIntsB (A : Option Addr) (n c : Nat) (zs : List Int) (w : World) {B : Nat} (ho : w.ownsRow B 3 1 (.slice A n c) n (zs.map (Value.int .i64))) (hn : n ≤ 1048576) :
    Calls Try.prog 78 #[.slice A n c, .int .i64 1] w fun e w' => e = .returned (.int .i64 (1 + n)) ∧ Off (fun b => (Value.slice A n c).ownBlock = some b) w w' ∧ w'.ownsRow B 3 1 (.slice A n c) n ((marks 1 n).map (Value.int .i64)) := by
  rcases ho.2 with ⟨hv, h0⟩ | ⟨g, cap, cur, hv, hg, _⟩
  · injection hv with hA hN hC
    subst hA h0 hC
    refine (markInts_nil w).mono ?_
    rintro e w' ⟨rfl, rfl⟩
    exact ⟨rfl, Off.refl _ _, World.ownsRow_nil _ _ _ _⟩
  · injection hv with hA _ hC
    subst hA hC
    refine (markInts g n c zs w (own_base ho (Nat.zero_le _)) hn).mono ?_
    rintro e w' ⟨rfl, hoff, hown⟩
    refine ⟨rfl, hoff.wider (fun k h => by have h' : k = g := h; subst h'; rfl), ?_⟩
    refine ⟨hown.1, ?_⟩
    rcases hown.2 with hn' | ⟨g', cap', cur', e', _, rest⟩
    · exact .inl hn'
    · have e2 := e'
      injection e2 with e1; injection e1 with e1; injection e1 with e1
      exact .inr ⟨g', cap', cur', e', by omega, rest⟩

set_option maxHeartbeats 1000000 in
theorem markRtA (st : Int) (A : Option Addr) (n c : Nat) (zs : List Int) (w : World) {B : Nat} (ho : w.ownsRow B 3 1 (.slice A n c) n (zs.map (Value.int .i64))) (hn : n ≤ 1048576) :
    Calls Try.prog 33 #[.agg #[.int .i64 st, .slice A n c], .int .i64 1] w fun e w' => e = .returned (.int .i64 (1 + n)) ∧ Off (fun b => (Value.slice A n c).ownBlock = some b) w w' ∧ w'.ownsRow B 3 1 (.slice A n c) n ((marks 1 n).map (Value.int .i64)) := by
  have hb0 := (Below.refl w.heap.size w).alloc (Nat.le_refl _) (Obj.cells #[.int .i64 st, .slice A n c] 65)
  have HB := Lib.hid hb0
  have CM := Lib.hid (markIntsB A n c zs _ (ownB ho hb0) hn)
  clear ho hb0
  go_enter Try.func33, Try.ntmps33
  go_wp2_with fail
  refine CM.out.mono ?_
  rintro e w1 ⟨rfl, hoff, hown⟩
  have HF := Lib.hid ((Off.ofBelow HB.out).trans hoff)
  have HO := Lib.hid hown
  clear hoff hown
  go_wp2
  go_ret
  exact ⟨rfl, HF.out, HO.out⟩

end Go.Proofs.Ytkpendpjdemknaa
