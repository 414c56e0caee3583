/- The law's helpers over a slice of Light: arguments, copy, compare, size. No condition but those typed. -/
import Derived.Test.YtcbjdfgmkiodkaaNest
import Derived.Test.YtcbjdfgmkiodkaaBlkN
namespace Go.Proofs.Ytcbjdfgmkiodkaa
open Go.ChangeShapes Go.WideShapes Go.ChangeAt Go.RowKit Go.Deep

/-- a struct as it lies in memory. -/
structure Lt where
  p0 : Int
  p1 : Int
  A : Option Addr
  n : Nat
  c : Nat
  zs : List Int
  q0 : Int
  q1 : Int
def Lt.cells (x : Lt) : List Value := [.int .i64 x.p0, .int .i64 x.p1, .slice x.A x.n x.c, .int .i64 x.q0, .int .i64 x.q1]
theorem Lt.cells_len (x : Lt) : x.cells.length = 5 := rfl
/-- what it says. -/
structure LtD where
  p0 : Int
  p1 : Int
  zs : List Int
  q0 : Int
  q1 : Int
def Lt.d (x : Lt) : LtD := ⟨x.p0, x.p1, x.zs, x.q0, x.q1⟩
def LtIn (w : World) (x : Lt) : Prop := x.zs.length = x.n ∧ x.n ≤ maxLen ∧ Rd w w.heap.size x.A (x.zs.map (Value.int .i64))
def LtAt (w : World) (x : Lt) : Prop := x.zs.length = x.n ∧ x.n ≤ 1048576 ∧ Rd w w.heap.size x.A (x.zs.map (Value.int .i64))
theorem LtIn.moved {w w' : World} {x : Lt} (h : LtIn w x) (hb : Below w.heap.size w w') : LtIn w' x := ⟨h.1, h.2.1, h.2.2.moved hb⟩
theorem LtAt.moved {w w' : World} {x : Lt} (h : LtAt w x) (hb : Below w.heap.size w w') : LtAt w' x := ⟨h.1, h.2.1, h.2.2.moved hb⟩
theorem LtAt.zs {w : World} {x : Lt} (h : LtAt w x) : x.d.zs.length = x.n := h.1
def Lttot (xs : List Lt) : Nat := (xs.map Lt.n).sum
theorem Lttot_snoc (xs : List Lt) (k : Nat) (h : k < xs.length) : Lttot (xs.take (k + 1)) = Lttot (xs.take k) + xs[k].n := by
  unfold Lttot; rw [List.take_succ_eq_append_getElem h, List.map_append, List.sum_append]; simp
theorem Lttot_le {xs : List Lt} {x : Lt} (h : x ∈ xs) : x.n ≤ Lttot xs := by
  induction xs with
  | nil => simp at h
  | cons y ys ih =>
    have e : Lttot (y :: ys) = y.n + Lttot ys := by unfold Lttot; simp
    rcases List.mem_cons.1 h with rfl | h
    · omega
    · have := ih h; omega
theorem Rd.lt {w : World} {B : Nat} {A : Option Addr} {xs : List Lt} (h : Rd w B A (xs.flatMap Lt.cells)) {k : Nat} (hk : k < xs.length) :
    ∃ ad, A = some ad ∧ ad.block < B ∧ w.cell? (ad.add (k * 5)) = some (.int .i64 xs[k].p0) ∧ w.cell? ⟨(ad.add (k * 5)).block, (ad.add (k * 5)).off + 1, none⟩ = some (.int .i64 xs[k].p1) ∧ w.cell? ⟨(ad.add (k * 5)).block, (ad.add (k * 5)).off + 2, none⟩ = some (.slice xs[k].A xs[k].n xs[k].c) ∧ w.cell? ⟨(ad.add (k * 5)).block, (ad.add (k * 5)).off + 3, none⟩ = some (.int .i64 xs[k].q0) ∧ w.cell? ⟨(ad.add (k * 5)).block, (ad.add (k * 5)).off + 4, none⟩ = some (.int .i64 xs[k].q1) := by
  obtain ⟨ad, e, hb, hc⟩ := h.rowK Lt.cells_len (by decide) hk
  have h0 := hc 0 (by decide)
  rw [Nat.add_zero] at h0
  have h1 := hc 1 (by decide)
  rw [add_next] at h1
  have h2 := hc 2 (by decide)
  rw [add_next] at h2
  have h3 := hc 3 (by decide)
  rw [add_next] at h3
  have h4 := hc 4 (by decide)
  rw [add_next] at h4
  exact ⟨ad, e, hb, h0, h1, h2, h3, h4⟩
theorem Rd.ltc {w : World} {B b o : Nat} {xs : List Lt} (h : Rd w B (some ⟨b, o, none⟩) (xs.flatMap Lt.cells)) {k : Nat} (hk : k < xs.length) :
    b < B ∧ w.cell? ⟨b, o + k * 5, none⟩ = some (.int .i64 xs[k].p0) ∧ w.cell? ⟨b, o + k * 5 + 1, none⟩ = some (.int .i64 xs[k].p1) ∧ w.cell? ⟨b, o + k * 5 + 2, none⟩ = some (.slice xs[k].A xs[k].n xs[k].c) ∧ w.cell? ⟨b, o + k * 5 + 3, none⟩ = some (.int .i64 xs[k].q0) ∧ w.cell? ⟨b, o + k * 5 + 4, none⟩ = some (.int .i64 xs[k].q1) := by
  obtain ⟨ad, e, hb, h0, h1, h2, h3, h4⟩ := h.lt hk
  injection e with e; subst e
  have ea : (⟨b, o, none⟩ : Addr).add (k * 5) = ⟨b, o + k * 5, none⟩ := by unfold Addr.add; by_cases h : k * 5 = 0 <;> simp [h]
  rw [ea] at h0 h1 h2 h3 h4
  exact ⟨hb, h0, h1, h2, h3, h4⟩
section
variable {H : Type} {enc : TypeId × Value → H} {w : World} {held : Bool}
set_option maxRecDepth 100000 in
theorem trod_Lt {fuel : Nat} {cs : List Value} {x : DataW H × List MemPlace} (h : DataW.trod enc Try.prog w 0 (fun _ => true) held fuel 101 cs = some x) : ∃ r : Lt, cs = r.cells ∧ LtIn w r := by
  obtain ⟨ys, n, _, _, hl, hlen, hg⟩ := DataW.trod_struct Try.underlying101 h
  have hC : Try.prog.cellsOf 101 = 5 := by kernel_rfl
  rw [hC] at hl
  match cs, hl with
  | [x0, x1, x2, x3, x4], _ =>
    have g0 := hg 0 _ rfl
    have hs0 : ∃ y, ys[0]? = some y := ⟨_, List.getElem?_eq_getElem (by rw [hlen]; decide)⟩
    obtain ⟨y0, hy0⟩ := hs0
    rw [hy0] at g0
    have g0' : DataW.trod enc Try.prog w 0 (fun _ => true) held n _ [x0] = some y0 := g0
    obtain ⟨z0, rfl, _⟩ := tr_int Try.underlying3 g0'
    have g1 := hg 1 _ rfl
    have hs1 : ∃ y, ys[1]? = some y := ⟨_, List.getElem?_eq_getElem (by rw [hlen]; decide)⟩
    obtain ⟨y1, hy1⟩ := hs1
    rw [hy1] at g1
    have g1' : DataW.trod enc Try.prog w 0 (fun _ => true) held n _ [x1, x2] = some y1 := g1
    obtain ⟨st, A, nn, c, zs, rfl, rfl, _, hz1, hz2, hz3, _⟩ := tr_rt Try.underlying41 rfl (by kernel_rfl) rfl (by kernel_rfl) Try.underlying3 Try.underlying39 Try.underlying3 (by kernel_rfl) g1'
    have g2 := hg 2 _ rfl
    have hs2 : ∃ y, ys[2]? = some y := ⟨_, List.getElem?_eq_getElem (by rw [hlen]; decide)⟩
    obtain ⟨y2, hy2⟩ := hs2
    rw [hy2] at g2
    have g2' : DataW.trod enc Try.prog w 0 (fun _ => true) held n _ [x3, x4] = some y2 := g2
    obtain ⟨a, b, rfl, rfl, _, _⟩ := tr_q2 Try.underlying99 rfl (by kernel_rfl) rfl (by kernel_rfl) Try.underlying3 Try.underlying3 g2'
    exact ⟨⟨z0, st, A, nn, c, zs, a, b⟩, rfl, hz1, hz2, hz3⟩
theorem rd_lts {fuel : Nat} {cs : List Value} {x : DataW H × List MemPlace} (h : DataW.trod enc Try.prog w 0 (fun _ => true) held fuel 69 cs = some x) :
    ∃ (A : Option Addr) (n c : Nat) (rows : List Lt), cs = [.slice A n c] ∧ rows.length = n ∧ n ≤ maxLen ∧ Rd w w.heap.size A (rows.flatMap Lt.cells) ∧ ∀ r ∈ rows, LtIn w r :=
  rd_rowsG Lt.cells (LtIn w) 5 Try.underlying69 (by kernel_rfl) (by decide) Lt.cells_len (fun _ _ _ h => trod_Lt h) h
end
def LtSz (left : Int) (n : Nat) (w : World) (e : Ending) (w' : World) : Prop := ∃ v : Int, e = .returned (.int .i64 v) ∧ Below w.heap.size w w' ∧ -1 ≤ v ∧ v ≤ left ∧ (0 ≤ v → v + n ≤ left)
set_option maxHeartbeats 400000 in
theorem szLt (x : Lt) (left : Int) (w : World) (hm : x.n ≤ maxLen) (hl0 : 0 ≤ left) (hl1 : left ≤ 1048576) :
    Calls Try.prog 79 #[.agg #[.int .i64 x.p0, .int .i64 x.p1, .slice x.A x.n x.c, .int .i64 x.q0, .int .i64 x.q1], .int .i64 left] w (LtSz left x.n w) := by
  have HB := Lib.hid ((Below.refl w.heap.size w).alloc (Nat.le_refl _) (Obj.cells #[.int .i64 x.p0, .int .i64 x.p1, .slice x.A x.n x.c, .int .i64 x.q0, .int .i64 x.q1] 101))
  have hm' := hm
  unfold maxLen at hm'
  have CS := Lib.hid (fun W => szRt x.p1 x.A x.n x.c left W hm hl0 hl1)
  obtain ⟨p0, p1, A, n, c, zs, q0, q1⟩ := x
  clear hm
  go_enter Try.func79, Try.ntmps79
  go_wp2_with fail
  refine (CS.out _).mono ?_
  rintro e w1 ⟨v, rfl, hb1, h0, h1, h2⟩
  have H2 := Lib.hid h2; clear h2
  have HB2 := Lib.hid (HB.out.trans (hb1.mono HB.out.size)); clear HB hb1; have HB := HB2; clear HB2
  by_cases hv : v < 0
  · go_wp2
    go_ret
    exact ⟨-1, rfl, HB.out, by omega, by omega, by omega⟩
  · have hv' : 0 ≤ v := by omega
    clear hv
    go_wp2
    go_ret
    exact ⟨v, rfl, HB.out, h0, h1, H2.out⟩
set_option maxRecDepth 100000 in
set_option maxHeartbeats 1000000 in
theorem szLts (A : Option Addr) (n c : Nat) (left : Int) (xs : List Lt) (w : World) (hn : xs.length = n) (hm : n ≤ maxLen) (hr : Rd w w.heap.size A (xs.flatMap Lt.cells)) (hin : ∀ x ∈ xs, LtIn w x) (hl0 : 0 ≤ left) (hl1 : left ≤ 1048576) :
    Calls Try.prog 149 #[.slice A n c, .int .i64 left] w (LtSz left (n + Lttot xs) w) := by
  unfold maxLen at hm
  by_cases hc : left - n < 0
  · go_enter Try.func149, Try.ntmps149
    go_wp2
    go_ret
    exact ⟨-1, rfl, Below.refl _ _, by omega, by omega, by omega⟩
  have hc' : 0 ≤ left - n := by omega
  have HN := Lib.hid hn; have HR := Lib.hid hr; have HIN := Lib.hid hin
  clear hc hn hr hin
  go_enter Try.func149, Try.ntmps149
  go_wp2
  go_loopw [1, 5] (fun l i wr => ∃ (k : Nat) (v : Int), k ≤ n ∧ i = .int .i64 k ∧ l = .int .i64 v ∧ 0 ≤ v ∧ v ≤ left ∧ Hid (v + n + Lttot (xs.take k) ≤ left) ∧ Below w.heap.size w wr) (fun _ i _ => n - (intOf i).toNat)
  case atStart => exact ⟨0, left - n, Nat.zero_le _, rfl, rfl, hc', by omega, Lib.hid (by simp [Lttot]), Below.refl _ _⟩
  case round =>
    obtain ⟨k, v, hk, rfl, rfl, hv0, hv1, HV, hb⟩ := hrel
    by_cases hlt : k < n
    case neg =>
      have HE : Hid (v + (n + Lttot xs : Nat) ≤ left) := Lib.hid (by
        have h1 := HV.out
        rw [List.take_of_length_le (by have := HN.out; omega)] at h1
        omega)
      go_wp2
      go_ret
      exact ⟨v, rfl, hb, by omega, hv1, fun _ => HE.out⟩
    case pos =>
    have hks : k < xs.length := by have := HN.out; omega
    have hx := HIN.out xs[k] (List.getElem_mem hks)
    obtain ⟨ad, rfl, hbl, h0, h1, h2, h3, h4⟩ := HR.out.lt hks
    rw [← hb.cell (by rw [addBlock]; exact hbl)] at h0
    rw [← hb.cell (by simp only [addBlock]; exact hbl)] at h1 h2 h3 h4
    have HTS := Lib.hid (Lttot_snoc xs k hks)
    have CS := Lib.hid (szLt xs[k] v wr hx.2.1 hv0 (by omega))
    generalize xs[k]'hks = x at h0 h1 h2 h3 h4 HTS CS
    obtain ⟨p0, p1, A, nn, c, zs, q0, q1⟩ := x
    simp only at h0 h1 h2 h3 h4
    clear hx
    go_wp2_with fail
    refine CS.out.mono ?_
    rintro e w2 ⟨u, rfl, hb2, hu0, hu1, hu2⟩
    have HB2 := Lib.hid (hb.trans (hb2.mono hb.size))
    have HU := Lib.hid hu2
    clear hb2 hu2
    by_cases hneg : u < 0
    · go_wp2
      go_ret
      exact ⟨-1, rfl, HB2.out, by omega, by omega, by omega⟩
    · have hpos : 0 ≤ u := by omega
      have HV2 : Hid (u + n + Lttot (xs.take (k + 1)) ≤ left) := Lib.hid (by have h1 := HV.out; have h2 := HU.out hpos; have h3 := HTS.out; (try simp only at h2); (try simp only at h3); omega)
      clear hneg
      go_wp2
      go_roundw
      case rel => exact ⟨k + 1, u, by omega, by go_num, rfl, hpos, by omega, HV2, HB2.out⟩
      case measure => simp [intOf]; omega
def LtOut (x : Lt) (w : World) (e : Ending) (w' : World) : Prop := ∃ g, e = .returned (.agg #[.int .i64 x.p0, .int .i64 x.p1, .slice (some ⟨g, 0, none⟩) x.n x.n, .int .i64 x.q0, .int .i64 x.q1]) ∧ w.heap.size ≤ g ∧
  w'.ownsRow w.heap.size 3 1 (.slice (some ⟨g, 0, none⟩) x.n x.n) x.n (x.zs.map (Value.int .i64)) ∧ Below w.heap.size w w'
set_option maxRecDepth 100000 in
set_option maxHeartbeats 2000000 in
theorem toLt (x : Lt) (w : World) (hn : x.zs.length = x.n) (hr : Rd w w.heap.size x.A (x.zs.map (Value.int .i64))) (hs : x.n ≤ 1048576) :
    Calls Try.prog 81 #[.agg #[.int .i64 x.p0, .int .i64 x.p1, .slice x.A x.n x.c, .int .i64 x.q0, .int .i64 x.q1]] w (LtOut x w) := by
  obtain ⟨p0, p1, A, n, c, zs, q0, q1⟩ := x
  simp only at hn hr hs ⊢
  have HN := Lib.hid hn; have HR := Lib.hid hr
  clear hn hr
  go_enter Try.func81, Try.ntmps81
  go_wp2_with fail
  have hb0 := (((Below.refl w.heap.size w).alloc (Nat.le_refl _) (Obj.cells #[.int .i64 p0, .int .i64 p1, .slice A n c, .int .i64 q0, .int .i64 q1] 101)).alloc (by simp) (Obj.cells #[.int .i64 0, .int .i64 0, .slice none 0 0, .int .i64 0, .int .i64 0] 106)).alloc (by simp; omega) (Obj.cells #[.int .i64 p0, .int .i64 0, .slice none 0 0, .int .i64 0, .int .i64 0] 106)
  have HB0 := Lib.hid hb0
  refine (toRt p1 A n c zs _ HN.out (HR.out.moved hb0) hs).mono ?_
  clear hb0
  rintro e w2 ⟨g1, rfl, hg1, hown1, hb2⟩
  obtain ⟨hc, hf⟩ := bcell hb2
  have hz := hb2.size
  have hb02 : Below w.heap.size w w2 := HB0.out.trans (hb2.mono HB0.out.size)
  simp at hg1 hz
  have HO := Lib.hid (own_base hown1 (B' := w.heap.size) (by simp; omega))
  have HB2 := Lib.hid hb02
  clear hown1 hb02 hb2
  have hza : w.heap.size + 1 + 1 < w2.heap.size := by omega
  have hzb : w.heap.size + 1 < w2.heap.size := by omega
  have hzc : w.heap.size < w2.heap.size := by omega
  go_wp2_with fail
  have hb3 := (HB2.out.setCell (p := ⟨w.heap.size + 1 + 1, 1, none⟩) (by simp; omega) (.int .i64 p1)).setCell (p := ⟨w.heap.size + 1 + 1, 2, none⟩) (by simp; omega) (.slice (some ⟨g1, 0, none⟩) n n)
  refine (toBlk q0 q1 _).mono ?_
  rintro e w4 ⟨rfl, hb4⟩
  obtain ⟨hc4, hf4⟩ := bcell hb4
  have hz4 := hb4.size
  have hb04 : Below w.heap.size w w4 := hb3.trans (hb4.mono hb3.size)
  have HB4 := Lib.hid hb04
  have HO4 := Lib.hid (ownB (own_set (own_set HO.out (p := ⟨w.heap.size + 1 + 1, 1, none⟩) (by simp; omega) (.int .i64 p1)) (p := ⟨w.heap.size + 1 + 1, 2, none⟩) (by simp; omega) (.slice (some ⟨g1, 0, none⟩) n n)) hb4)
  clear hb04 hb3 HO HB2
  simp at hz4
  go_wp2
  refine bodyPost_ret (v := .agg #[.int .i64 p0, .int .i64 p1, .slice (some ⟨g1, 0, none⟩) n n, .int .i64 q0, .int .i64 q1]) (by simp [results, Try.results81, go_sem, hc4, hc, hz4, hz, hza, hzb, hzc]) rfl ⟨g1, rfl, by omega, ?_, ?_⟩
  · repeat (first | with_reducible exact HO4.out | refine own_set ?_ (p := ⟨_, _, none⟩) (by simp; omega) _)
  · repeat (first | with_reducible exact HB4.out | refine Below.setCell ?_ (p := ⟨_, _, none⟩) (by simp; omega) _ | refine Below.setCell ?_ (p := ⟨_, _, none⟩) (by simp) _)
/-- a copy's row: its ints in a block of their own. -/
def LtOwn (B g0 : Nat) (w : World) (y : Lt) : Prop := ∃ q, y.A = some ⟨q, 0, none⟩ ∧ y.c = y.n ∧ y.zs.length = y.n ∧ y.n ≤ 1048576 ∧ q ≠ g0 ∧ w.ownsRow B 3 1 (.slice (some ⟨q, 0, none⟩) y.n y.n) y.n (y.zs.map (Value.int .i64))
theorem LtOwn.at_ {B g0 : Nat} {w : World} {y : Lt} (h : LtOwn B g0 w y) : LtAt w y := by
  obtain ⟨q, e, e2, h1, h2, _, ho⟩ := h
  exact ⟨h1, h2, by rw [e]; exact Rd.ofOwnK ho⟩
theorem LtOwn.moved {B g0 : Nat} {w w' : World} {y : Lt} (h : LtOwn B g0 w y) (hb : Below w.heap.size w w') : LtOwn B g0 w' y := by
  obtain ⟨q, e, e2, h1, h2, h3, ho⟩ := h
  exact ⟨q, e, e2, h1, h2, h3, ownB ho hb⟩
theorem LtOwn.base {B B' g0 : Nat} {w : World} {y : Lt} (h : LtOwn B g0 w y) (hB : B' ≤ B) : LtOwn B' g0 w y := by
  obtain ⟨q, e, e2, h1, h2, h3, ho⟩ := h
  exact ⟨q, e, e2, h1, h2, h3, own_base ho hB⟩
theorem LtOwn.set_ {B g0 : Nat} {w : World} {y : Lt} (h : LtOwn B g0 w y) (o : Nat) (u : Value) : LtOwn B g0 (w.setCell ⟨g0, o, none⟩ u) y := by
  obtain ⟨q, e, e2, h1, h2, h3, ho⟩ := h
  exact ⟨q, e, e2, h1, h2, h3, own_set ho (p := ⟨g0, o, none⟩) (fun h => h3 h.symm) u⟩
/-- a copied slice: row and inner rows of the call's own, no two inner rows in one block. -/
structure Lts (B g n : Nat) (ys : List Lt) (w : World) : Prop where
  len : ys.length = n
  row : w.ownsRow B 106 5 (.slice (some ⟨g, 0, none⟩) n n) n (ys.flatMap Lt.cells)
  own : ∀ y ∈ ys, LtOwn B g w y
  apart : ys.Pairwise fun y y' => y.A ≠ y'.A
theorem Lts.moved {B g n : Nat} {ys : List Lt} {w w' : World} (h : Lts B g n ys w) (hb : Below w.heap.size w w') : Lts B g n ys w' := ⟨h.len, ownB h.row hb, fun y hy => (h.own y hy).moved hb, h.apart⟩
theorem Lts.base {B B' g n : Nat} {ys : List Lt} {w : World} (h : Lts B g n ys w) (hB : B' ≤ B) : Lts B' g n ys w := ⟨h.len, own_base h.row hB, fun y hy => (h.own y hy).base hB, h.apart⟩
theorem Lts.rd {B g n : Nat} {ys : List Lt} {w : World} (h : Lts B g n ys w) : Rd w w.heap.size (some ⟨g, 0, none⟩) (ys.flatMap Lt.cells) := Rd.ofOwnK h.row
theorem Lts.at_ {B g n : Nat} {ys : List Lt} {w : World} (h : Lts B g n ys w) : ∀ y ∈ ys, LtAt w y := fun y hy => (h.own y hy).at_
theorem Try.inf_Lt : (Try.prog.info? 106).map (fun i => (i.zero, i.size, i.bytes)) = some (some (.agg #[.int .i64 0, .int .i64 0, .slice none 0 0, .int .i64 0, .int .i64 0]), 5, 56) := by kernel_rfl
def Ltz : List Value := [.int .i64 0, .int .i64 0, .slice none 0 0, .int .i64 0, .int .i64 0]
theorem Lt_set (ys : List Lt) (m : Nat) (y : Lt) (hm : 0 < m) : (((((fillG Lt.cells Ltz ys m).set (ys.length * 5) (.int .i64 y.p0)).set (ys.length * 5 + 1) (.int .i64 y.p1)).set (ys.length * 5 + 2) (.slice y.A y.n y.c)).set (ys.length * 5 + 3) (.int .i64 y.q0)).set (ys.length * 5 + 4) (.int .i64 y.q1) = fillG Lt.cells Ltz (ys ++ [y]) (m - 1) := by
  obtain ⟨m, rfl⟩ : ∃ j, m = j + 1 := ⟨m - 1, by omega⟩
  have hp := fillG_pre Lt.cells_len ys
  unfold fillG
  rw [set_pre0 _ _ _ _ hp, set_pre _ _ _ _ hp, set_pre _ _ _ _ hp, set_pre _ _ _ _ hp, set_pre _ _ _ _ hp, List.replicate_succ, Nat.add_sub_cancel]
  simp only [Ltz, Lt.cells, List.flatMap_append, List.flatMap_cons, List.flatMap_nil, List.append_nil, List.append_assoc, List.set_cons_zero, List.set_cons_succ, List.cons_append, List.nil_append]
def LtsOut (xs : List Lt) (n : Nat) (w : World) (e : Ending) (w' : World) : Prop := ∃ (g : Nat) (ys : List Lt), e = .returned (.slice (some ⟨g, 0, none⟩) n n) ∧ w.heap.size ≤ g ∧ ys.map Lt.d = xs.map Lt.d ∧ Lts w.heap.size g n ys w' ∧ Below w.heap.size w w'
theorem Lt_snoc {α β : Type} {f : α → β} {xs : List α} {ys : List α} {k : Nat} (h : ys.map f = (xs.take k).map f) (hk : k < xs.length) {y : α} (hy : f y = f xs[k]) : (ys ++ [y]).map f = (xs.take (k + 1)).map f := by
  rw [List.take_succ_eq_append_getElem hk, List.map_append, List.map_append, h]; simp [hy]
set_option maxRecDepth 100000 in
set_option maxHeartbeats 4000000 in
theorem toLts (A : Option Addr) (n c : Nat) (xs : List Lt) (w : World) (hn : xs.length = n) (hr : Rd w w.heap.size A (xs.flatMap Lt.cells)) (hin : ∀ x ∈ xs, LtAt w x) (hsz : n ≤ 1048576) :
    Calls Try.prog 153 #[.slice A n c] w (LtsOut xs n w) := by
  obtain ⟨i0, hi, hz0, hz1, hz2⟩ := info_parts Try.inf_Lt
  have HN := Lib.hid hn; have HR := Lib.hid hr; have HIN := Lib.hid hin
  clear hn hr hin
  go_enter Try.func153, Try.ntmps153
  go_wp2_with (at_make; refine wpList_make_full _ rfl _ _ 74 rfl w.heap.size 106 i0 _ 5 Try.underlying74 hi hz0 hz1 .i64 .i64 n n n rfl rfl rfl rfl (by rw [hz2]; omega) (by unfold maxLen; omega) (Nat.le_refl _) ?_)
  intro w1 hown hgrow
  have hb1 : Below w.heap.size w w1 := (Below.refl _ _).grown hgrow (Nat.le_refl _) (fun k h => by cases h)
  clear hgrow
  have hown0 : Hid (w1.ownsRow w.heap.size 106 5 (.slice (some ⟨w.heap.size, 0, none⟩) n n) n (fillG Lt.cells Ltz [] n)) := Lib.hid (by rw [madeK _ n 5 rfl (by decide)] at hown; exact hown)
  clear hown hi hz0 hz1 hz2
  go_wp2
  go_loopw [4] (fun i wr => ∃ (k : Nat) (ys : List Lt), k ≤ n ∧ i = .int .i64 k ∧ Hid (ys.length = k) ∧ Hid (ys.map Lt.d = (xs.take k).map Lt.d) ∧ Hid (wr.ownsRow w.heap.size 106 5 (.slice (some ⟨w.heap.size, 0, none⟩) n n) n (fillG Lt.cells Ltz ys (n - k))) ∧ Hid (∀ y ∈ ys, LtOwn w.heap.size w.heap.size wr y) ∧ Hid (ys.Pairwise fun y y' => y.A ≠ y'.A) ∧ Below w.heap.size w wr) (fun i _ => n - (intOf i).toNat)
  case atStart => exact ⟨0, [], Nat.zero_le _, rfl, Lib.hid rfl, Lib.hid rfl, hown0, Lib.hid (fun y hy => by simp at hy), Lib.hid List.Pairwise.nil, hb1⟩
  case round =>
    clear hown0 hb1
    obtain ⟨k, ys, hk, rfl, HYL, HYD, HO, HY, HP, hb⟩ := hrel
    by_cases hlt : k < n
    case neg =>
      have hkn : k = n := by omega
      have HF : Hid (Lts w.heap.size w.heap.size n ys wr) := Lib.hid ⟨HYL.out.trans hkn, by
        have := HO.out
        rw [hkn, Nat.sub_self] at this
        simpa [fillG] using this, HY.out, HP.out⟩
      have HD : Hid (ys.map Lt.d = xs.map Lt.d) := Lib.hid (by rw [HYD.out, List.take_of_length_le (by have := HN.out; omega)])
      clear hkn
      go_wp2
      go_ret
      exact ⟨_, ys, rfl, Nat.le_refl _, HD.out, HF.out, hb⟩
    case pos =>
    have hks : k < xs.length := by have := HN.out; omega
    have hx := HIN.out xs[k] (List.getElem_mem hks)
    obtain ⟨ad, rfl, hbl, h0, h1, h2, h3, h4⟩ := HR.out.lt hks
    rw [← hb.cell (by rw [addBlock]; exact hbl)] at h0
    rw [← hb.cell (by simp only [addBlock]; exact hbl)] at h1 h2 h3 h4
    obtain ⟨x, hxe⟩ : ∃ x, xs[k]'hks = x := ⟨_, rfl⟩
    rw [hxe] at hx h0 h1 h2 h3 h4
    have HXE := Lib.hid hxe
    have HXN := Lib.hid hx.1; have HXS := Lib.hid hx.2.1
    have HXR := Lib.hid (hx.2.2.moved hb)
    have CT : Hid (Calls Try.prog 81 #[.agg #[.int .i64 x.p0, .int .i64 x.p1, .slice x.A x.n x.c, .int .i64 x.q0, .int .i64 x.q1]] wr (LtOut x wr)) := Lib.hid (toLt x wr HXN.out HXR.out HXS.out)
    clear hx hxe
    go_wp2_with fail
    refine CT.out.mono ?_
    rintro e w2 ⟨g3, rfl, hg3, hown3, hb2⟩
    have hown := ownB HO.out hb2
    have hb' : Hid (Below w.heap.size w w2) := Lib.hid (hb.trans (hb2.mono hb.size))
    have HBZ := Lib.hid hb.size
    have hyl := HYL.out
    have HNE : Hid (g3 ≠ w.heap.size) := Lib.hid (by
      have h1 := (HO.out.lt w.heap.size rfl).2
      omega)
    have HNEW : Hid (∀ y ∈ ys, y.A ≠ some ⟨g3, 0, none⟩) := Lib.hid (fun y hy e => by
      obtain ⟨q, e1, _, _, _, _, ho⟩ := HY.out y hy
      have h1 := (ho.lt q rfl).2
      rw [e1] at e
      injection e with e; injection e with e
      omega)
    have HY2 := Lib.hid (fun y hy => (HY.out y hy).moved hb2)
    have HO3 := Lib.hid (own_base hown3 (B' := w.heap.size) HBZ.out)
    clear h0 h1 h2 h3 h4 hb2 hown3
    have hold0 : w2.cell? ⟨w.heap.size, k * 5, none⟩ = some (.int .i64 0) := by
      have h9 := hown.cellAt (k * 5) (by omega)
      have h8 := fillG_get Lt.cells_len (z := Ltz) rfl ys (n - k) 0 (by omega) (by decide)
      rw [hyl] at h8
      rw [h9]; exact h8
    have hfz0 := hown.frozenAt (k * 5)
    have hold1 : w2.cell? ⟨w.heap.size, k * 5 + 1, none⟩ = some (.int .i64 0) := by
      have h9 := hown.cellAt (k * 5 + 1) (by omega)
      have h8 := fillG_get Lt.cells_len (z := Ltz) rfl ys (n - k) 1 (by omega) (by decide)
      rw [hyl] at h8
      rw [h9]; exact h8
    have hfz1 := hown.frozenAt (k * 5 + 1)
    have hold2 : w2.cell? ⟨w.heap.size, k * 5 + 2, none⟩ = some (.slice none 0 0) := by
      have h9 := hown.cellAt (k * 5 + 2) (by omega)
      have h8 := fillG_get Lt.cells_len (z := Ltz) rfl ys (n - k) 2 (by omega) (by decide)
      rw [hyl] at h8
      rw [h9]; exact h8
    have hfz2 := hown.frozenAt (k * 5 + 2)
    have hold3 : w2.cell? ⟨w.heap.size, k * 5 + 3, none⟩ = some (.int .i64 0) := by
      have h9 := hown.cellAt (k * 5 + 3) (by omega)
      have h8 := fillG_get Lt.cells_len (z := Ltz) rfl ys (n - k) 3 (by omega) (by decide)
      rw [hyl] at h8
      rw [h9]; exact h8
    have hfz3 := hown.frozenAt (k * 5 + 3)
    have hold4 : w2.cell? ⟨w.heap.size, k * 5 + 4, none⟩ = some (.int .i64 0) := by
      have h9 := hown.cellAt (k * 5 + 4) (by omega)
      have h8 := fillG_get Lt.cells_len (z := Ltz) rfl ys (n - k) 4 (by omega) (by decide)
      rw [hyl] at h8
      rw [h9]; exact h8
    have hfz4 := hown.frozenAt (k * 5 + 4)
    have hset := Lt_set ys (n - k) (Lt.mk x.p0 x.p1 (some ⟨g3, 0, none⟩) x.n x.n x.zs x.q0 x.q1) (by omega)
    rw [hyl] at hset
    have HST : Hid (((((((w2).setCell ⟨w.heap.size, k * 5, none⟩ (.int .i64 x.p0)).setCell ⟨w.heap.size, k * 5 + 1, none⟩ (.int .i64 x.p1)).setCell ⟨w.heap.size, k * 5 + 2, none⟩ (.slice (some ⟨g3, 0, none⟩) x.n x.n)).setCell ⟨w.heap.size, k * 5 + 3, none⟩ (.int .i64 x.q0)).setCell ⟨w.heap.size, k * 5 + 4, none⟩ (.int .i64 x.q1)).ownsRow w.heap.size 106 5 (.slice (some ⟨w.heap.size, 0, none⟩) n n) n (fillG Lt.cells Ltz (ys ++ [(Lt.mk x.p0 x.p1 (some ⟨g3, 0, none⟩) x.n x.n x.zs x.q0 x.q1)]) (n - (k + 1)))) := Lib.hid (by
      have h9 := ((((((((((hown).stored (k * 5) (.int .i64 x.p0)).1).stored (k * 5 + 1) (.int .i64 x.p1)).1).stored (k * 5 + 2) (.slice (some ⟨g3, 0, none⟩) x.n x.n)).1).stored (k * 5 + 3) (.int .i64 x.q0)).1).stored (k * 5 + 4) (.int .i64 x.q1)).1
      rw [hset] at h9
      exact h9)
    have HYS : Hid (∀ y ∈ ys ++ [(Lt.mk x.p0 x.p1 (some ⟨g3, 0, none⟩) x.n x.n x.zs x.q0 x.q1)], LtOwn w.heap.size w.heap.size ((((((w2).setCell ⟨w.heap.size, k * 5, none⟩ (.int .i64 x.p0)).setCell ⟨w.heap.size, k * 5 + 1, none⟩ (.int .i64 x.p1)).setCell ⟨w.heap.size, k * 5 + 2, none⟩ (.slice (some ⟨g3, 0, none⟩) x.n x.n)).setCell ⟨w.heap.size, k * 5 + 3, none⟩ (.int .i64 x.q0)).setCell ⟨w.heap.size, k * 5 + 4, none⟩ (.int .i64 x.q1)) y) := Lib.hid (fun y hy => by
      have h9 : LtOwn w.heap.size w.heap.size w2 y := by
        rcases List.mem_append.1 hy with hy | hy
        · exact HY2.out y hy
        · rw [List.mem_singleton.1 hy]
          exact ⟨g3, rfl, rfl, HXN.out, HXS.out, HNE.out, HO3.out⟩
      exact (((((h9).set_ _ _).set_ _ _).set_ _ _).set_ _ _).set_ _ _)
    have HPS : Hid ((ys ++ [(Lt.mk x.p0 x.p1 (some ⟨g3, 0, none⟩) x.n x.n x.zs x.q0 x.q1)]).Pairwise fun y y' => y.A ≠ y'.A) := Lib.hid (List.pairwise_append.2 ⟨HP.out, List.pairwise_singleton _ _, fun y hy y' hy' => by rw [List.mem_singleton.1 hy']; exact HNEW.out y hy⟩)
    have HYDS : Hid ((ys ++ [(Lt.mk x.p0 x.p1 (some ⟨g3, 0, none⟩) x.n x.n x.zs x.q0 x.q1)]).map Lt.d = (xs.take (k + 1)).map Lt.d) := Lib.hid (Lt_snoc HYD.out hks (by rw [HXE.out]; rfl))
    have HYLS : Hid ((ys ++ [(Lt.mk x.p0 x.p1 (some ⟨g3, 0, none⟩) x.n x.n x.zs x.q0 x.q1)]).length = k + 1) := Lib.hid (by rw [List.length_append, hyl]; rfl)
    have HBS : Hid (Below w.heap.size w ((((((w2).setCell ⟨w.heap.size, k * 5, none⟩ (.int .i64 x.p0)).setCell ⟨w.heap.size, k * 5 + 1, none⟩ (.int .i64 x.p1)).setCell ⟨w.heap.size, k * 5 + 2, none⟩ (.slice (some ⟨g3, 0, none⟩) x.n x.n)).setCell ⟨w.heap.size, k * 5 + 3, none⟩ (.int .i64 x.q0)).setCell ⟨w.heap.size, k * 5 + 4, none⟩ (.int .i64 x.q1))) := Lib.hid ((((((hb'.out).setCell (p := ⟨w.heap.size, k * 5, none⟩) (Nat.le_refl _) _).setCell (p := ⟨w.heap.size, k * 5 + 1, none⟩) (Nat.le_refl _) _).setCell (p := ⟨w.heap.size, k * 5 + 2, none⟩) (Nat.le_refl _) _).setCell (p := ⟨w.heap.size, k * 5 + 3, none⟩) (Nat.le_refl _) _).setCell (p := ⟨w.heap.size, k * 5 + 4, none⟩) (Nat.le_refl _) _)
    clear hset hown hyl HO HY HO3 HNEW
    go_wp2
    go_roundw
    case rel => exact ⟨k + 1, _, by omega, by go_num, HYLS, HYDS, HST, HYS, HPS, HBS.out⟩
    case measure => simp [intOf]; omega
set_option maxHeartbeats 400000 in
theorem eqBlk (x y : Int) (w : World) :
    Calls Try.prog 174 #[.agg #[.int .i64 x, .int .i64 y], .agg #[.int .i64 x, .int .i64 y]] w fun e w' => e = .returned (.bool true) ∧ Below w.heap.size w w' := by
  go_enter Try.func174, Try.ntmps174
  go_wp2
  go_ret
  exact ⟨rfl, ((Below.refl _ _).alloc (Nat.le_refl _) _).alloc (by simp) _⟩
set_option maxHeartbeats 1000000 in
theorem eqLt (p0 p1 q0 q1 : Int) (g g' n c c' : Nat) (zs : List Int) (w : World) (hn : zs.length = n) (hs : n ≤ 1048576) (hr : Rd w w.heap.size (some ⟨g, 0, none⟩) (zs.map (Value.int .i64))) (hr' : Rd w w.heap.size (some ⟨g', 0, none⟩) (zs.map (Value.int .i64))) :
    Calls Try.prog 83 #[.agg #[.int .i64 p0, .int .i64 p1, .slice (some ⟨g, 0, none⟩) n c, .int .i64 q0, .int .i64 q1], .agg #[.int .i64 p0, .int .i64 p1, .slice (some ⟨g', 0, none⟩) n c', .int .i64 q0, .int .i64 q1]] w fun e w' => e = .returned (.bool true) ∧ Below w.heap.size w w' := by
  have hb0 := ((Below.refl w.heap.size w).alloc (Nat.le_refl _) (Obj.cells #[.int .i64 p0, .int .i64 p1, .slice (some ⟨g, 0, none⟩) n c, .int .i64 q0, .int .i64 q1] 106)).alloc (by simp) (Obj.cells #[.int .i64 p0, .int .i64 p1, .slice (some ⟨g', 0, none⟩) n c', .int .i64 q0, .int .i64 q1] 106)
  have HB := Lib.hid hb0
  have CE := Lib.hid (eqRt p1 g g' n c c' zs _ hn hs (hr.moved hb0) (hr'.moved hb0))
  have hz0 : ∀ W : World, Below (w.heap.size + 1 + 1) ((w.alloc (Obj.cells #[.int .i64 p0, .int .i64 p1, .slice (some ⟨g, 0, none⟩) n c, .int .i64 q0, .int .i64 q1] 106)).alloc (Obj.cells #[.int .i64 p0, .int .i64 p1, .slice (some ⟨g', 0, none⟩) n c', .int .i64 q0, .int .i64 q1] 106)) W → True := fun _ _ => trivial
  clear hz0 hn hr hr' hb0
  go_enter Try.func83, Try.ntmps83
  go_wp2_with fail
  obtain ⟨W0, hW0⟩ : ∃ W0, (w.alloc (Obj.cells #[.int .i64 p0, .int .i64 p1, .slice (some ⟨g, 0, none⟩) n c, .int .i64 q0, .int .i64 q1] 106)).alloc (Obj.cells #[.int .i64 p0, .int .i64 p1, .slice (some ⟨g', 0, none⟩) n c', .int .i64 q0, .int .i64 q1] 106) = W0 := ⟨_, rfl⟩
  rw [hW0] at CE HB ⊢
  have k0_3 : W0.cell? ⟨w.heap.size, 3, none⟩ = some (.int .i64 q0) := by rw [← hW0]; simp [go_sem]
  have k0_4 : W0.cell? ⟨w.heap.size, 4, none⟩ = some (.int .i64 q1) := by rw [← hW0]; simp [go_sem]
  have k1_3 : W0.cell? ⟨w.heap.size + 1, 3, none⟩ = some (.int .i64 q0) := by rw [← hW0]; simp [go_sem]
  have k1_4 : W0.cell? ⟨w.heap.size + 1, 4, none⟩ = some (.int .i64 q1) := by rw [← hW0]; simp [go_sem]
  have hz : w.heap.size + 1 < W0.heap.size := by rw [← hW0]; simp
  clear hW0
  refine CE.out.mono ?_
  rintro e w1 ⟨rfl, hb1⟩
  have HB1 := Lib.hid (HB.out.trans (hb1.mono HB.out.size))
  have l0_3 := (hb1.cell (p := ⟨w.heap.size, 3, none⟩) (by show w.heap.size < _; omega)).trans k0_3
  have l0_4 := (hb1.cell (p := ⟨w.heap.size, 4, none⟩) (by show w.heap.size < _; omega)).trans k0_4
  have l1_3 := (hb1.cell (p := ⟨w.heap.size + 1, 3, none⟩) (by show w.heap.size + 1 < _; omega)).trans k1_3
  have l1_4 := (hb1.cell (p := ⟨w.heap.size + 1, 4, none⟩) (by show w.heap.size + 1 < _; omega)).trans k1_4
  clear hb1
  go_wp2_with fail
  refine (eqBlk q0 q1 _).mono ?_
  rintro e w2 ⟨rfl, hb2⟩
  have HB2 := Lib.hid (HB1.out.trans (hb2.mono HB1.out.size)); clear HB1 hb2; have HB1 := HB2; clear HB2
  go_wp2
  go_ret
  exact ⟨rfl, HB1.out⟩
theorem Lt_same {x y : Lt} (h : x.d = y.d) : x.p0 = y.p0 ∧ x.p1 = y.p1 ∧ x.zs = y.zs ∧ x.q0 = y.q0 ∧ x.q1 = y.q1 := by
  unfold Lt.d at h
  injection h with e0 e1 e2 e3 e4
  exact ⟨e0, e1, e2, e3, e4⟩
set_option maxRecDepth 100000 in
set_option maxHeartbeats 4000000 in
theorem eqLts (g g' n B B' : Nat) (xs ys : List Lt) (w : World) (hx : Lts B g n xs w) (hy : Lts B' g' n ys w) (hd : xs.map Lt.d = ys.map Lt.d) (hs : n ≤ 1048576) :
    Calls Try.prog 156 #[.slice (some ⟨g, 0, none⟩) n n, .slice (some ⟨g', 0, none⟩) n n] w fun e w' => e = .returned (.bool true) ∧ Below w.heap.size w w' := by
  have HX := Lib.hid hx; have HYY := Lib.hid hy; have HD := Lib.hid hd
  clear hx hy hd
  go_enter Try.func156, Try.ntmps156
  go_wp2
  go_loopw [5] (fun i wr => ∃ k : Nat, k ≤ n ∧ i = .int .i64 k ∧ Below w.heap.size w wr) (fun i _ => n - (intOf i).toNat)
  case atStart => exact ⟨0, Nat.zero_le _, rfl, Below.refl _ _⟩
  case round =>
    obtain ⟨k, hk, rfl, hb⟩ := hrel
    by_cases hlt : k < n
    case neg =>
      go_wp2
      go_ret
      exact ⟨rfl, hb⟩
    case pos =>
    have hkx : k < xs.length := by have := HX.out.len; omega
    have hky : k < ys.length := by have := HYY.out.len; omega
    obtain ⟨hg, c0, c1, c2, c3, c4⟩ := (HX.out.rd.over hb).ltc hkx
    obtain ⟨hg', d0, d1, d2, d3, d4⟩ := (HYY.out.rd.over hb).ltc hky
    rw [Nat.zero_add] at c0 d0 c1 d1 c2 d2 c3 d3 c4 d4
    have hox := HX.out.own xs[k] (List.getElem_mem hkx)
    have hoy := HYY.out.own ys[k] (List.getElem_mem hky)
    have hde : xs[k].d = ys[k].d := by
      have h9 := congrArg (fun l => l[k]?) HD.out
      simpa [hkx, hky] using h9
    have hsm := Lt_same hde
    generalize xs[k]'hkx = x at c0 c1 c2 c3 c4 hox hsm
    generalize ys[k]'hky = y at d0 d1 d2 d3 d4 hoy hsm
    obtain ⟨p0, p1, A1, m, cc1, zs, q0, q1⟩ := x
    obtain ⟨p0', p1', A2, n1', cc2, zs', q0', q1'⟩ := y
    obtain ⟨a1, e1, e2, e3, e4, _, ho1⟩ := hox
    obtain ⟨a2, e5, e6, e7, e8, _, ho2⟩ := hoy
    simp only at e1 e2 e3 e4 ho1 e5 e6 e7 e8 ho2 hsm
    obtain ⟨rfl, rfl, rfl, rfl, rfl⟩ := hsm
    have e2s := e2.symm; have e6s := e6.symm
    subst e1 e5 e2s e6s
    have em : m = n1' := by rw [← e3, ← e7]
    subst em
    have HZN := Lib.hid e3; have HZS := Lib.hid e4
    have HZ1 := Lib.hid (Rd.ofOwnK ho1)
    have HZ2 := Lib.hid (Rd.ofOwnK ho2)
    clear e3 e4 e7 e8 ho1 ho2 hde hkx hky
    go_wp2
    have hbd : Bel w wr.drew := Bel.of hb.drew
    go_region_held3 (fun U => U.cell? ⟨g, k * 5, none⟩ = some (.int .i64 p0) ∧ U.cell? ⟨g, k * 5 + 1, none⟩ = some (.int .i64 p1) ∧ U.cell? ⟨g, k * 5 + 2, none⟩ = some (.slice (some ⟨a1, 0, none⟩) m m) ∧ U.cell? ⟨g, k * 5 + 3, none⟩ = some (.int .i64 q0) ∧ U.cell? ⟨g, k * 5 + 4, none⟩ = some (.int .i64 q1) ∧ U.cell? ⟨g', k * 5, none⟩ = some (.int .i64 p0) ∧ U.cell? ⟨g', k * 5 + 1, none⟩ = some (.int .i64 p1) ∧ U.cell? ⟨g', k * 5 + 2, none⟩ = some (.slice (some ⟨a2, 0, none⟩) m m) ∧ U.cell? ⟨g', k * 5 + 3, none⟩ = some (.int .i64 q0) ∧ U.cell? ⟨g', k * 5 + 4, none⟩ = some (.int .i64 q1) ∧ Bel w U)
      (first | go_keep | (go_split_ands; (refine ⟨?_, ?_, ?_, ?_, ?_, ?_, ?_, ?_, ?_, ?_, ?_⟩ <;> first | assumption | exact Bel.step (by assumption) hb2 | exact (Bel.at_ (by assumption) hb2 (by assumption)).trans (by assumption))))
      (first | (go_at_call 83; go_split_ands; refine (eqLt p0 p1 q0 q1 a1 a2 m m m zs _ HZN.out HZS.out (HZ1.out.moved (Bel.out (by assumption))) (HZ2.out.moved (Bel.out (by assumption)))).mono ?_; rintro e w2 ⟨rfl, hb2⟩))
    all_goals
      go_wp2
      go_roundw
      case rel => (go_split_ands; exact ⟨k + 1, by omega, by go_num, Bel.out (by assumption)⟩)
      case measure => simp [intOf]; omega
end Go.Proofs.Ytcbjdfgmkiodkaa
