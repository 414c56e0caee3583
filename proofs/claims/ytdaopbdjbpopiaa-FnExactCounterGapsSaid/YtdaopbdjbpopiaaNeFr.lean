/- The law's helpers over a slice of Frame: arguments, copy, compare, size. No condition but those typed. -/
import Derived.Test.YtdaopbdjbpopiaaNest
namespace Go.Proofs.Ytdaopbdjbpopiaa
open Go.ChangeShapes Go.WideShapes Go.ChangeAt Go.RowKit Go.Deep

/-- a struct as it lies in memory. -/
structure Fr where
  p0 : Int
  p1 : Int
  A : Option Addr
  n : Nat
  c : Nat
  zs : List Int
def Fr.cells (x : Fr) : List Value := [.int .i64 x.p0, .int .i64 x.p1, .slice x.A x.n x.c]
theorem Fr.cells_len (x : Fr) : x.cells.length = 3 := rfl
/-- what it says. -/
structure FrD where
  p0 : Int
  p1 : Int
  zs : List Int
def Fr.d (x : Fr) : FrD := ⟨x.p0, x.p1, x.zs⟩
def FrIn (w : World) (x : Fr) : Prop := x.zs.length = x.n ∧ x.n ≤ maxLen ∧ Rd w w.heap.size x.A (x.zs.map (Value.int .i64))
def FrAt (w : World) (x : Fr) : Prop := x.zs.length = x.n ∧ x.n ≤ 1048576 ∧ Rd w w.heap.size x.A (x.zs.map (Value.int .i64))
theorem FrIn.moved {w w' : World} {x : Fr} (h : FrIn w x) (hb : Below w.heap.size w w') : FrIn w' x := ⟨h.1, h.2.1, h.2.2.moved hb⟩
theorem FrAt.moved {w w' : World} {x : Fr} (h : FrAt w x) (hb : Below w.heap.size w w') : FrAt w' x := ⟨h.1, h.2.1, h.2.2.moved hb⟩
theorem FrAt.zs {w : World} {x : Fr} (h : FrAt w x) : x.d.zs.length = x.n := h.1
def Frtot (xs : List Fr) : Nat := (xs.map Fr.n).sum
theorem Frtot_snoc (xs : List Fr) (k : Nat) (h : k < xs.length) : Frtot (xs.take (k + 1)) = Frtot (xs.take k) + xs[k].n := by
  unfold Frtot; rw [List.take_succ_eq_append_getElem h, List.map_append, List.sum_append]; simp
theorem Frtot_le {xs : List Fr} {x : Fr} (h : x ∈ xs) : x.n ≤ Frtot xs := by
  induction xs with
  | nil => simp at h
  | cons y ys ih =>
    have e : Frtot (y :: ys) = y.n + Frtot ys := by unfold Frtot; simp
    rcases List.mem_cons.1 h with rfl | h
    · omega
    · have := ih h; omega
theorem Rd.fr {w : World} {B : Nat} {A : Option Addr} {xs : List Fr} (h : Rd w B A (xs.flatMap Fr.cells)) {k : Nat} (hk : k < xs.length) :
    ∃ ad, A = some ad ∧ ad.block < B ∧ w.cell? (ad.add (k * 3)) = some (.int .i64 xs[k].p0) ∧ w.cell? ⟨(ad.add (k * 3)).block, (ad.add (k * 3)).off + 1, none⟩ = some (.int .i64 xs[k].p1) ∧ w.cell? ⟨(ad.add (k * 3)).block, (ad.add (k * 3)).off + 2, none⟩ = some (.slice xs[k].A xs[k].n xs[k].c) := by
  obtain ⟨ad, e, hb, hc⟩ := h.rowK Fr.cells_len (by decide) hk
  have h0 := hc 0 (by decide)
  rw [Nat.add_zero] at h0
  have h1 := hc 1 (by decide)
  rw [add_next] at h1
  have h2 := hc 2 (by decide)
  rw [add_next] at h2
  exact ⟨ad, e, hb, h0, h1, h2⟩
theorem Rd.frc {w : World} {B b o : Nat} {xs : List Fr} (h : Rd w B (some ⟨b, o, none⟩) (xs.flatMap Fr.cells)) {k : Nat} (hk : k < xs.length) :
    b < B ∧ w.cell? ⟨b, o + k * 3, none⟩ = some (.int .i64 xs[k].p0) ∧ w.cell? ⟨b, o + k * 3 + 1, none⟩ = some (.int .i64 xs[k].p1) ∧ w.cell? ⟨b, o + k * 3 + 2, none⟩ = some (.slice xs[k].A xs[k].n xs[k].c) := by
  obtain ⟨ad, e, hb, h0, h1, h2⟩ := h.fr hk
  injection e with e; subst e
  have ea : (⟨b, o, none⟩ : Addr).add (k * 3) = ⟨b, o + k * 3, none⟩ := by unfold Addr.add; by_cases h : k * 3 = 0 <;> simp [h]
  rw [ea] at h0 h1 h2
  exact ⟨hb, h0, h1, h2⟩
section
variable {H : Type} {enc : TypeId × Value → H} {w : World} {held : Bool}
set_option maxRecDepth 100000 in
theorem trod_Fr {fuel : Nat} {cs : List Value} {x : DataW H × List MemPlace} (h : DataW.trod enc Try.prog w 0 (fun _ => true) held fuel 197 cs = some x) : ∃ r : Fr, cs = r.cells ∧ FrIn w r := by
  obtain ⟨ys, n, _, _, hl, hlen, hg⟩ := DataW.trod_struct Try.underlying197 h
  have hC : Try.prog.cellsOf 197 = 3 := by kernel_rfl
  rw [hC] at hl
  match cs, hl with
  | [x0, x1, x2], _ =>
    have g0 := hg 0 _ rfl
    have hs0 : ∃ y, ys[0]? = some y := ⟨_, List.getElem?_eq_getElem (by rw [hlen]; decide)⟩
    obtain ⟨y0, hy0⟩ := hs0
    rw [hy0] at g0
    have g0' : DataW.trod enc Try.prog w 0 (fun _ => true) held n _ [x0] = some y0 := g0
    obtain ⟨z0, rfl, _⟩ := tr_int Try.underlying3 g0'
    have g1 := hg 1 _ rfl
    have hs1 : ∃ y, ys[1]? = some y := ⟨_, List.getElem?_eq_getElem (by rw [hlen]; decide)⟩
    obtain ⟨y1, hy1⟩ := hs1
    rw [hy1] at g1
    have g1' : DataW.trod enc Try.prog w 0 (fun _ => true) held n _ [x1] = some y1 := g1
    obtain ⟨z1, rfl, _⟩ := tr_int Try.underlying3 g1'
    have g2 := hg 2 _ rfl
    have hs2 : ∃ y, ys[2]? = some y := ⟨_, List.getElem?_eq_getElem (by rw [hlen]; decide)⟩
    obtain ⟨y2, hy2⟩ := hs2
    rw [hy2] at g2
    have g2' : DataW.trod enc Try.prog w 0 (fun _ => true) held n _ [x2] = some y2 := g2
    obtain ⟨A, nn, c, zs, e2, hz1, hz2, hz3, _⟩ := rd_ints Try.underlying39 Try.underlying3 (by kernel_rfl) g2'
    injection e2 with e2; subst e2
    exact ⟨⟨z0, z1, A, nn, c, zs⟩, rfl, hz1, hz2, hz3⟩
theorem rd_frs {fuel : Nat} {cs : List Value} {x : DataW H × List MemPlace} (h : DataW.trod enc Try.prog w 0 (fun _ => true) held fuel 113 cs = some x) :
    ∃ (A : Option Addr) (n c : Nat) (rows : List Fr), cs = [.slice A n c] ∧ rows.length = n ∧ n ≤ maxLen ∧ Rd w w.heap.size A (rows.flatMap Fr.cells) ∧ ∀ r ∈ rows, FrIn w r :=
  rd_rowsG Fr.cells (FrIn w) 3 Try.underlying113 (by kernel_rfl) (by decide) Fr.cells_len (fun _ _ _ h => trod_Fr h) h
end
def FrSz (left : Int) (n : Nat) (w : World) (e : Ending) (w' : World) : Prop := ∃ v : Int, e = .returned (.int .i64 v) ∧ Below w.heap.size w w' ∧ -1 ≤ v ∧ v ≤ left ∧ (0 ≤ v → v + n ≤ left)
set_option maxHeartbeats 400000 in
theorem szFr (x : Fr) (left : Int) (w : World) (hm : x.n ≤ maxLen) (hl0 : 0 ≤ left) (hl1 : left ≤ 1048576) :
    Calls Try.prog 153 #[.agg #[.int .i64 x.p0, .int .i64 x.p1, .slice x.A x.n x.c], .int .i64 left] w (FrSz left x.n w) := by
  have HB := Lib.hid ((Below.refl w.heap.size w).alloc (Nat.le_refl _) (Obj.cells #[.int .i64 x.p0, .int .i64 x.p1, .slice x.A x.n x.c] 197))
  have hm' := hm
  unfold maxLen at hm'
  have CS := Lib.hid (fun W => szInts x.A x.n x.c left W hm hl0 hl1)
  obtain ⟨p0, p1, A, n, c, zs⟩ := x
  clear hm
  go_enter Try.func153, Try.ntmps153
  go_wp2_with fail
  refine (CS.out _).mono ?_
  rintro e w1 ⟨v, rfl, rfl, h0, h1, h2⟩
  have H2 := Lib.hid h2; clear h2
  by_cases hv : v < 0
  · go_wp2
    go_ret
    exact ⟨-1, rfl, HB.out, by omega, by omega, by omega⟩
  · have hv' : 0 ≤ v := by omega
    clear hv
    go_wp2
    go_ret
    exact ⟨v, rfl, HB.out, h0, h1, H2.out⟩
set_option maxRecDepth 100000 in
set_option maxHeartbeats 1000000 in
theorem szFrs (A : Option Addr) (n c : Nat) (left : Int) (xs : List Fr) (w : World) (hn : xs.length = n) (hm : n ≤ maxLen) (hr : Rd w w.heap.size A (xs.flatMap Fr.cells)) (hin : ∀ x ∈ xs, FrIn w x) (hl0 : 0 ≤ left) (hl1 : left ≤ 1048576) :
    Calls Try.prog 87 #[.slice A n c, .int .i64 left] w (FrSz left (n + Frtot xs) w) := by
  unfold maxLen at hm
  by_cases hc : left - n < 0
  · go_enter Try.func87, Try.ntmps87
    go_wp2
    go_ret
    exact ⟨-1, rfl, Below.refl _ _, by omega, by omega, by omega⟩
  have hc' : 0 ≤ left - n := by omega
  have HN := Lib.hid hn; have HR := Lib.hid hr; have HIN := Lib.hid hin
  clear hc hn hr hin
  go_enter Try.func87, Try.ntmps87
  go_wp2
  go_loopw [1, 5] (fun l i wr => ∃ (k : Nat) (v : Int), k ≤ n ∧ i = .int .i64 k ∧ l = .int .i64 v ∧ 0 ≤ v ∧ v ≤ left ∧ Hid (v + n + Frtot (xs.take k) ≤ left) ∧ Below w.heap.size w wr) (fun _ i _ => n - (intOf i).toNat)
  case atStart => exact ⟨0, left - n, Nat.zero_le _, rfl, rfl, hc', by omega, Lib.hid (by simp [Frtot]), Below.refl _ _⟩
  case round =>
    obtain ⟨k, v, hk, rfl, rfl, hv0, hv1, HV, hb⟩ := hrel
    by_cases hlt : k < n
    case neg =>
      have HE : Hid (v + (n + Frtot xs : Nat) ≤ left) := Lib.hid (by
        have h1 := HV.out
        rw [List.take_of_length_le (by have := HN.out; omega)] at h1
        omega)
      go_wp2
      go_ret
      exact ⟨v, rfl, hb, by omega, hv1, fun _ => HE.out⟩
    case pos =>
    have hks : k < xs.length := by have := HN.out; omega
    have hx := HIN.out xs[k] (List.getElem_mem hks)
    obtain ⟨ad, rfl, hbl, h0, h1, h2⟩ := HR.out.fr hks
    rw [← hb.cell (by rw [addBlock]; exact hbl)] at h0
    rw [← hb.cell (by simp only [addBlock]; exact hbl)] at h1 h2
    have HTS := Lib.hid (Frtot_snoc xs k hks)
    have CS := Lib.hid (szFr xs[k] v wr hx.2.1 hv0 (by omega))
    generalize xs[k]'hks = x at h0 h1 h2 HTS CS
    obtain ⟨p0, p1, A, nn, c, zs⟩ := x
    simp only at h0 h1 h2
    clear hx
    go_wp2_with fail
    refine CS.out.mono ?_
    rintro e w2 ⟨u, rfl, hb2, hu0, hu1, hu2⟩
    have HB2 := Lib.hid (hb.trans (hb2.mono hb.size))
    have HU := Lib.hid hu2
    clear hb2 hu2
    by_cases hneg : u < 0
    · go_wp2
      go_ret
      exact ⟨-1, rfl, HB2.out, by omega, by omega, by omega⟩
    · have hpos : 0 ≤ u := by omega
      have HV2 : Hid (u + n + Frtot (xs.take (k + 1)) ≤ left) := Lib.hid (by have h1 := HV.out; have h2 := HU.out hpos; have h3 := HTS.out; (try simp only at h2); (try simp only at h3); omega)
      clear hneg
      go_wp2
      go_roundw
      case rel => exact ⟨k + 1, u, by omega, by go_num, rfl, hpos, by omega, HV2, HB2.out⟩
      case measure => simp [intOf]; omega
def FrOut (x : Fr) (w : World) (e : Ending) (w' : World) : Prop := ∃ g, e = .returned (.agg #[.int .i64 x.p0, .int .i64 x.p1, .slice (some ⟨g, 0, none⟩) x.n x.n]) ∧ w.heap.size ≤ g ∧
  w'.ownsRow w.heap.size 3 1 (.slice (some ⟨g, 0, none⟩) x.n x.n) x.n (x.zs.map (Value.int .i64)) ∧ Below w.heap.size w w'
set_option maxRecDepth 100000 in
set_option maxHeartbeats 2000000 in
theorem toFr (x : Fr) (w : World) (hn : x.zs.length = x.n) (hr : Rd w w.heap.size x.A (x.zs.map (Value.int .i64))) (hs : x.n ≤ 1048576) :
    Calls Try.prog 155 #[.agg #[.int .i64 x.p0, .int .i64 x.p1, .slice x.A x.n x.c]] w (FrOut x w) := by
  obtain ⟨p0, p1, A, n, c, zs⟩ := x
  simp only at hn hr hs ⊢
  have HN := Lib.hid hn; have HR := Lib.hid hr
  clear hn hr
  go_enter Try.func155, Try.ntmps155
  go_wp2_with fail
  have hb0 := (((Below.refl w.heap.size w).alloc (Nat.le_refl _) (Obj.cells #[.int .i64 p0, .int .i64 p1, .slice A n c] 197)).alloc (by simp) (Obj.cells #[.int .i64 0, .int .i64 0, .slice none 0 0] 199)).alloc (by simp; omega) (Obj.cells #[.int .i64 p0, .int .i64 p1, .slice none 0 0] 199)
  have HB0 := Lib.hid hb0
  refine (toIntS A n c zs _ HN.out (HR.out.moved hb0) hs).mono ?_
  clear hb0
  rintro e w2 ⟨g1, hg1, rfl, hown1, hb2⟩
  obtain ⟨hc, hf⟩ := bcell hb2
  have hz := hb2.size
  have hb02 : Below w.heap.size w w2 := HB0.out.trans (hb2.mono HB0.out.size)
  simp at hg1 hz
  have HO := Lib.hid (own_base hown1 (B' := w.heap.size) (by simp; omega))
  have HB2 := Lib.hid hb02
  clear hown1 hb02 hb2
  have hza : w.heap.size + 1 + 1 < w2.heap.size := by omega
  have hzb : w.heap.size + 1 < w2.heap.size := by omega
  have hzc : w.heap.size < w2.heap.size := by omega
  go_wp2
  refine bodyPost_ret (v := .agg #[.int .i64 p0, .int .i64 p1, .slice (some ⟨g1, 0, none⟩) n n]) (by simp [results, Try.results155, go_sem, hc, hz, hza, hzb, hzc]) rfl ⟨g1, rfl, by omega, ?_, ?_⟩
  · repeat (first | with_reducible exact HO.out | refine own_set ?_ (p := ⟨_, _, none⟩) (by simp; omega) _)
  · repeat (first | with_reducible exact HB2.out | refine Below.setCell ?_ (p := ⟨_, _, none⟩) (by simp; omega) _ | refine Below.setCell ?_ (p := ⟨_, _, none⟩) (by simp) _)
/-- a copy's row: its ints in a block of their own. -/
def FrOwn (B g0 : Nat) (w : World) (y : Fr) : Prop := ∃ q, y.A = some ⟨q, 0, none⟩ ∧ y.c = y.n ∧ y.zs.length = y.n ∧ y.n ≤ 1048576 ∧ q ≠ g0 ∧ w.ownsRow B 3 1 (.slice (some ⟨q, 0, none⟩) y.n y.n) y.n (y.zs.map (Value.int .i64))
theorem FrOwn.at_ {B g0 : Nat} {w : World} {y : Fr} (h : FrOwn B g0 w y) : FrAt w y := by
  obtain ⟨q, e, e2, h1, h2, _, ho⟩ := h
  exact ⟨h1, h2, by rw [e]; exact Rd.ofOwnK ho⟩
theorem FrOwn.moved {B g0 : Nat} {w w' : World} {y : Fr} (h : FrOwn B g0 w y) (hb : Below w.heap.size w w') : FrOwn B g0 w' y := by
  obtain ⟨q, e, e2, h1, h2, h3, ho⟩ := h
  exact ⟨q, e, e2, h1, h2, h3, ownB ho hb⟩
theorem FrOwn.base {B B' g0 : Nat} {w : World} {y : Fr} (h : FrOwn B g0 w y) (hB : B' ≤ B) : FrOwn B' g0 w y := by
  obtain ⟨q, e, e2, h1, h2, h3, ho⟩ := h
  exact ⟨q, e, e2, h1, h2, h3, own_base ho hB⟩
theorem FrOwn.set_ {B g0 : Nat} {w : World} {y : Fr} (h : FrOwn B g0 w y) (o : Nat) (u : Value) : FrOwn B g0 (w.setCell ⟨g0, o, none⟩ u) y := by
  obtain ⟨q, e, e2, h1, h2, h3, ho⟩ := h
  exact ⟨q, e, e2, h1, h2, h3, own_set ho (p := ⟨g0, o, none⟩) (fun h => h3 h.symm) u⟩
/-- a copied slice: row and inner rows of the call's own, no two inner rows in one block. -/
structure Frs (B g n : Nat) (ys : List Fr) (w : World) : Prop where
  len : ys.length = n
  row : w.ownsRow B 199 3 (.slice (some ⟨g, 0, none⟩) n n) n (ys.flatMap Fr.cells)
  own : ∀ y ∈ ys, FrOwn B g w y
  apart : ys.Pairwise fun y y' => y.A ≠ y'.A
theorem Frs.moved {B g n : Nat} {ys : List Fr} {w w' : World} (h : Frs B g n ys w) (hb : Below w.heap.size w w') : Frs B g n ys w' := ⟨h.len, ownB h.row hb, fun y hy => (h.own y hy).moved hb, h.apart⟩
theorem Frs.base {B B' g n : Nat} {ys : List Fr} {w : World} (h : Frs B g n ys w) (hB : B' ≤ B) : Frs B' g n ys w := ⟨h.len, own_base h.row hB, fun y hy => (h.own y hy).base hB, h.apart⟩
theorem Frs.rd {B g n : Nat} {ys : List Fr} {w : World} (h : Frs B g n ys w) : Rd w w.heap.size (some ⟨g, 0, none⟩) (ys.flatMap Fr.cells) := Rd.ofOwnK h.row
theorem Frs.at_ {B g n : Nat} {ys : List Fr} {w : World} (h : Frs B g n ys w) : ∀ y ∈ ys, FrAt w y := fun y hy => (h.own y hy).at_
theorem Try.inf_Fr : (Try.prog.info? 199).map (fun i => (i.zero, i.size, i.bytes)) = some (some (.agg #[.int .i64 0, .int .i64 0, .slice none 0 0]), 3, 40) := by kernel_rfl
def Frz : List Value := [.int .i64 0, .int .i64 0, .slice none 0 0]
theorem Fr_set (ys : List Fr) (m : Nat) (y : Fr) (hm : 0 < m) : (((fillG Fr.cells Frz ys m).set (ys.length * 3) (.int .i64 y.p0)).set (ys.length * 3 + 1) (.int .i64 y.p1)).set (ys.length * 3 + 2) (.slice y.A y.n y.c) = fillG Fr.cells Frz (ys ++ [y]) (m - 1) := by
  obtain ⟨m, rfl⟩ : ∃ j, m = j + 1 := ⟨m - 1, by omega⟩
  have hp := fillG_pre Fr.cells_len ys
  unfold fillG
  rw [set_pre0 _ _ _ _ hp, set_pre _ _ _ _ hp, set_pre _ _ _ _ hp, List.replicate_succ, Nat.add_sub_cancel]
  simp only [Frz, Fr.cells, List.flatMap_append, List.flatMap_cons, List.flatMap_nil, List.append_nil, List.append_assoc, List.set_cons_zero, List.set_cons_succ, List.cons_append, List.nil_append]
def FrsOut (xs : List Fr) (n : Nat) (w : World) (e : Ending) (w' : World) : Prop := ∃ (g : Nat) (ys : List Fr), e = .returned (.slice (some ⟨g, 0, none⟩) n n) ∧ w.heap.size ≤ g ∧ ys.map Fr.d = xs.map Fr.d ∧ Frs w.heap.size g n ys w' ∧ Below w.heap.size w w'
theorem Fr_snoc {α β : Type} {f : α → β} {xs : List α} {ys : List α} {k : Nat} (h : ys.map f = (xs.take k).map f) (hk : k < xs.length) {y : α} (hy : f y = f xs[k]) : (ys ++ [y]).map f = (xs.take (k + 1)).map f := by
  rw [List.take_succ_eq_append_getElem hk, List.map_append, List.map_append, h]; simp [hy]
set_option maxRecDepth 100000 in
set_option maxHeartbeats 4000000 in
theorem toFrs (A : Option Addr) (n c : Nat) (xs : List Fr) (w : World) (hn : xs.length = n) (hr : Rd w w.heap.size A (xs.flatMap Fr.cells)) (hin : ∀ x ∈ xs, FrAt w x) (hsz : n ≤ 1048576) :
    Calls Try.prog 89 #[.slice A n c] w (FrsOut xs n w) := by
  obtain ⟨i0, hi, hz0, hz1, hz2⟩ := info_parts Try.inf_Fr
  have HN := Lib.hid hn; have HR := Lib.hid hr; have HIN := Lib.hid hin
  clear hn hr hin
  go_enter Try.func89, Try.ntmps89
  go_wp2_with (at_make; refine wpList_make_full _ rfl _ _ 116 rfl w.heap.size 199 i0 _ 3 Try.underlying116 hi hz0 hz1 .i64 .i64 n n n rfl rfl rfl rfl (by rw [hz2]; omega) (by unfold maxLen; omega) (Nat.le_refl _) ?_)
  intro w1 hown hgrow
  have hb1 : Below w.heap.size w w1 := (Below.refl _ _).grown hgrow (Nat.le_refl _) (fun k h => by cases h)
  clear hgrow
  have hown0 : Hid (w1.ownsRow w.heap.size 199 3 (.slice (some ⟨w.heap.size, 0, none⟩) n n) n (fillG Fr.cells Frz [] n)) := Lib.hid (by rw [madeK _ n 3 rfl (by decide)] at hown; exact hown)
  clear hown hi hz0 hz1 hz2
  go_wp2
  go_loopw [4] (fun i wr => ∃ (k : Nat) (ys : List Fr), k ≤ n ∧ i = .int .i64 k ∧ Hid (ys.length = k) ∧ Hid (ys.map Fr.d = (xs.take k).map Fr.d) ∧ Hid (wr.ownsRow w.heap.size 199 3 (.slice (some ⟨w.heap.size, 0, none⟩) n n) n (fillG Fr.cells Frz ys (n - k))) ∧ Hid (∀ y ∈ ys, FrOwn w.heap.size w.heap.size wr y) ∧ Hid (ys.Pairwise fun y y' => y.A ≠ y'.A) ∧ Below w.heap.size w wr) (fun i _ => n - (intOf i).toNat)
  case atStart => exact ⟨0, [], Nat.zero_le _, rfl, Lib.hid rfl, Lib.hid rfl, hown0, Lib.hid (fun y hy => by simp at hy), Lib.hid List.Pairwise.nil, hb1⟩
  case round =>
    clear hown0 hb1
    obtain ⟨k, ys, hk, rfl, HYL, HYD, HO, HY, HP, hb⟩ := hrel
    by_cases hlt : k < n
    case neg =>
      have hkn : k = n := by omega
      have HF : Hid (Frs w.heap.size w.heap.size n ys wr) := Lib.hid ⟨HYL.out.trans hkn, by
        have := HO.out
        rw [hkn, Nat.sub_self] at this
        simpa [fillG] using this, HY.out, HP.out⟩
      have HD : Hid (ys.map Fr.d = xs.map Fr.d) := Lib.hid (by rw [HYD.out, List.take_of_length_le (by have := HN.out; omega)])
      clear hkn
      go_wp2
      go_ret
      exact ⟨_, ys, rfl, Nat.le_refl _, HD.out, HF.out, hb⟩
    case pos =>
    have hks : k < xs.length := by have := HN.out; omega
    have hx := HIN.out xs[k] (List.getElem_mem hks)
    obtain ⟨ad, rfl, hbl, h0, h1, h2⟩ := HR.out.fr hks
    rw [← hb.cell (by rw [addBlock]; exact hbl)] at h0
    rw [← hb.cell (by simp only [addBlock]; exact hbl)] at h1 h2
    obtain ⟨x, hxe⟩ : ∃ x, xs[k]'hks = x := ⟨_, rfl⟩
    rw [hxe] at hx h0 h1 h2
    have HXE := Lib.hid hxe
    have HXN := Lib.hid hx.1; have HXS := Lib.hid hx.2.1
    have HXR := Lib.hid (hx.2.2.moved hb)
    have CT : Hid (Calls Try.prog 155 #[.agg #[.int .i64 x.p0, .int .i64 x.p1, .slice x.A x.n x.c]] wr (FrOut x wr)) := Lib.hid (toFr x wr HXN.out HXR.out HXS.out)
    clear hx hxe
    go_wp2_with fail
    refine CT.out.mono ?_
    rintro e w2 ⟨g3, rfl, hg3, hown3, hb2⟩
    have hown := ownB HO.out hb2
    have hb' : Hid (Below w.heap.size w w2) := Lib.hid (hb.trans (hb2.mono hb.size))
    have HBZ := Lib.hid hb.size
    have hyl := HYL.out
    have HNE : Hid (g3 ≠ w.heap.size) := Lib.hid (by
      have h1 := (HO.out.lt w.heap.size rfl).2
      omega)
    have HNEW : Hid (∀ y ∈ ys, y.A ≠ some ⟨g3, 0, none⟩) := Lib.hid (fun y hy e => by
      obtain ⟨q, e1, _, _, _, _, ho⟩ := HY.out y hy
      have h1 := (ho.lt q rfl).2
      rw [e1] at e
      injection e with e; injection e with e
      omega)
    have HY2 := Lib.hid (fun y hy => (HY.out y hy).moved hb2)
    have HO3 := Lib.hid (own_base hown3 (B' := w.heap.size) HBZ.out)
    clear h0 h1 h2 hb2 hown3
    have hold0 : w2.cell? ⟨w.heap.size, k * 3, none⟩ = some (.int .i64 0) := by
      have h9 := hown.cellAt (k * 3) (by omega)
      have h8 := fillG_get Fr.cells_len (z := Frz) rfl ys (n - k) 0 (by omega) (by decide)
      rw [hyl] at h8
      rw [h9]; exact h8
    have hfz0 := hown.frozenAt (k * 3)
    have hold1 : w2.cell? ⟨w.heap.size, k * 3 + 1, none⟩ = some (.int .i64 0) := by
      have h9 := hown.cellAt (k * 3 + 1) (by omega)
      have h8 := fillG_get Fr.cells_len (z := Frz) rfl ys (n - k) 1 (by omega) (by decide)
      rw [hyl] at h8
      rw [h9]; exact h8
    have hfz1 := hown.frozenAt (k * 3 + 1)
    have hold2 : w2.cell? ⟨w.heap.size, k * 3 + 2, none⟩ = some (.slice none 0 0) := by
      have h9 := hown.cellAt (k * 3 + 2) (by omega)
      have h8 := fillG_get Fr.cells_len (z := Frz) rfl ys (n - k) 2 (by omega) (by decide)
      rw [hyl] at h8
      rw [h9]; exact h8
    have hfz2 := hown.frozenAt (k * 3 + 2)
    have hset := Fr_set ys (n - k) (Fr.mk x.p0 x.p1 (some ⟨g3, 0, none⟩) x.n x.n x.zs) (by omega)
    rw [hyl] at hset
    have HST : Hid (((((w2).setCell ⟨w.heap.size, k * 3, none⟩ (.int .i64 x.p0)).setCell ⟨w.heap.size, k * 3 + 1, none⟩ (.int .i64 x.p1)).setCell ⟨w.heap.size, k * 3 + 2, none⟩ (.slice (some ⟨g3, 0, none⟩) x.n x.n)).ownsRow w.heap.size 199 3 (.slice (some ⟨w.heap.size, 0, none⟩) n n) n (fillG Fr.cells Frz (ys ++ [(Fr.mk x.p0 x.p1 (some ⟨g3, 0, none⟩) x.n x.n x.zs)]) (n - (k + 1)))) := Lib.hid (by
      have h9 := ((((((hown).stored (k * 3) (.int .i64 x.p0)).1).stored (k * 3 + 1) (.int .i64 x.p1)).1).stored (k * 3 + 2) (.slice (some ⟨g3, 0, none⟩) x.n x.n)).1
      rw [hset] at h9
      exact h9)
    have HYS : Hid (∀ y ∈ ys ++ [(Fr.mk x.p0 x.p1 (some ⟨g3, 0, none⟩) x.n x.n x.zs)], FrOwn w.heap.size w.heap.size ((((w2).setCell ⟨w.heap.size, k * 3, none⟩ (.int .i64 x.p0)).setCell ⟨w.heap.size, k * 3 + 1, none⟩ (.int .i64 x.p1)).setCell ⟨w.heap.size, k * 3 + 2, none⟩ (.slice (some ⟨g3, 0, none⟩) x.n x.n)) y) := Lib.hid (fun y hy => by
      have h9 : FrOwn w.heap.size w.heap.size w2 y := by
        rcases List.mem_append.1 hy with hy | hy
        · exact HY2.out y hy
        · rw [List.mem_singleton.1 hy]
          exact ⟨g3, rfl, rfl, HXN.out, HXS.out, HNE.out, HO3.out⟩
      exact (((h9).set_ _ _).set_ _ _).set_ _ _)
    have HPS : Hid ((ys ++ [(Fr.mk x.p0 x.p1 (some ⟨g3, 0, none⟩) x.n x.n x.zs)]).Pairwise fun y y' => y.A ≠ y'.A) := Lib.hid (List.pairwise_append.2 ⟨HP.out, List.pairwise_singleton _ _, fun y hy y' hy' => by rw [List.mem_singleton.1 hy']; exact HNEW.out y hy⟩)
    have HYDS : Hid ((ys ++ [(Fr.mk x.p0 x.p1 (some ⟨g3, 0, none⟩) x.n x.n x.zs)]).map Fr.d = (xs.take (k + 1)).map Fr.d) := Lib.hid (Fr_snoc HYD.out hks (by rw [HXE.out]; rfl))
    have HYLS : Hid ((ys ++ [(Fr.mk x.p0 x.p1 (some ⟨g3, 0, none⟩) x.n x.n x.zs)]).length = k + 1) := Lib.hid (by rw [List.length_append, hyl]; rfl)
    have HBS : Hid (Below w.heap.size w ((((w2).setCell ⟨w.heap.size, k * 3, none⟩ (.int .i64 x.p0)).setCell ⟨w.heap.size, k * 3 + 1, none⟩ (.int .i64 x.p1)).setCell ⟨w.heap.size, k * 3 + 2, none⟩ (.slice (some ⟨g3, 0, none⟩) x.n x.n))) := Lib.hid ((((hb'.out).setCell (p := ⟨w.heap.size, k * 3, none⟩) (Nat.le_refl _) _).setCell (p := ⟨w.heap.size, k * 3 + 1, none⟩) (Nat.le_refl _) _).setCell (p := ⟨w.heap.size, k * 3 + 2, none⟩) (Nat.le_refl _) _)
    clear hset hown hyl HO HY HO3 HNEW
    go_wp2
    go_roundw
    case rel => exact ⟨k + 1, _, by omega, by go_num, HYLS, HYDS, HST, HYS, HPS, HBS.out⟩
    case measure => simp [intOf]; omega
set_option maxHeartbeats 1000000 in
theorem eqFr (p0 p1 : Int) (g g' n c c' : Nat) (zs : List Int) (w : World) (hn : zs.length = n) (hs : n ≤ 1048576) (hr : Rd w w.heap.size (some ⟨g, 0, none⟩) (zs.map (Value.int .i64))) (hr' : Rd w w.heap.size (some ⟨g', 0, none⟩) (zs.map (Value.int .i64))) :
    Calls Try.prog 157 #[.agg #[.int .i64 p0, .int .i64 p1, .slice (some ⟨g, 0, none⟩) n c], .agg #[.int .i64 p0, .int .i64 p1, .slice (some ⟨g', 0, none⟩) n c']] w fun e w' => e = .returned (.bool true) ∧ Below w.heap.size w w' := by
  have hb0 := ((Below.refl w.heap.size w).alloc (Nat.le_refl _) (Obj.cells #[.int .i64 p0, .int .i64 p1, .slice (some ⟨g, 0, none⟩) n c] 199)).alloc (by simp) (Obj.cells #[.int .i64 p0, .int .i64 p1, .slice (some ⟨g', 0, none⟩) n c'] 199)
  have HB := Lib.hid hb0
  have CE := Lib.hid (eqIntS g g' n c c' zs _ hn (hr.moved hb0) (hr'.moved hb0) hs)
  have hz0 : ∀ W : World, Below (w.heap.size + 1 + 1) ((w.alloc (Obj.cells #[.int .i64 p0, .int .i64 p1, .slice (some ⟨g, 0, none⟩) n c] 199)).alloc (Obj.cells #[.int .i64 p0, .int .i64 p1, .slice (some ⟨g', 0, none⟩) n c'] 199)) W → True := fun _ _ => trivial
  clear hz0 hn hr hr' hb0
  go_enter Try.func157, Try.ntmps157
  go_wp2_with fail
  obtain ⟨W0, hW0⟩ : ∃ W0, (w.alloc (Obj.cells #[.int .i64 p0, .int .i64 p1, .slice (some ⟨g, 0, none⟩) n c] 199)).alloc (Obj.cells #[.int .i64 p0, .int .i64 p1, .slice (some ⟨g', 0, none⟩) n c'] 199) = W0 := ⟨_, rfl⟩
  rw [hW0] at CE HB ⊢

  have hz : w.heap.size + 1 < W0.heap.size := by rw [← hW0]; simp
  clear hW0
  refine CE.out.mono ?_
  rintro e w1 ⟨rfl, hb1⟩
  have HB1 := Lib.hid (HB.out.trans (hb1.mono HB.out.size))

  clear hb1
  go_wp2
  go_ret
  exact ⟨rfl, HB1.out⟩
theorem Fr_same {x y : Fr} (h : x.d = y.d) : x.p0 = y.p0 ∧ x.p1 = y.p1 ∧ x.zs = y.zs := by
  unfold Fr.d at h
  injection h with e0 e1 e2
  exact ⟨e0, e1, e2⟩
set_option maxRecDepth 100000 in
set_option maxHeartbeats 4000000 in
theorem eqFrs (g g' n B B' : Nat) (xs ys : List Fr) (w : World) (hx : Frs B g n xs w) (hy : Frs B' g' n ys w) (hd : xs.map Fr.d = ys.map Fr.d) (hs : n ≤ 1048576) :
    Calls Try.prog 91 #[.slice (some ⟨g, 0, none⟩) n n, .slice (some ⟨g', 0, none⟩) n n] w fun e w' => e = .returned (.bool true) ∧ Below w.heap.size w w' := by
  have HX := Lib.hid hx; have HYY := Lib.hid hy; have HD := Lib.hid hd
  clear hx hy hd
  go_enter Try.func91, Try.ntmps91
  go_wp2
  go_loopw [5] (fun i wr => ∃ k : Nat, k ≤ n ∧ i = .int .i64 k ∧ Below w.heap.size w wr) (fun i _ => n - (intOf i).toNat)
  case atStart => exact ⟨0, Nat.zero_le _, rfl, Below.refl _ _⟩
  case round =>
    obtain ⟨k, hk, rfl, hb⟩ := hrel
    by_cases hlt : k < n
    case neg =>
      go_wp2
      go_ret
      exact ⟨rfl, hb⟩
    case pos =>
    have hkx : k < xs.length := by have := HX.out.len; omega
    have hky : k < ys.length := by have := HYY.out.len; omega
    obtain ⟨hg, c0, c1, c2⟩ := (HX.out.rd.over hb).frc hkx
    obtain ⟨hg', d0, d1, d2⟩ := (HYY.out.rd.over hb).frc hky
    rw [Nat.zero_add] at c0 d0 c1 d1 c2 d2
    have hox := HX.out.own xs[k] (List.getElem_mem hkx)
    have hoy := HYY.out.own ys[k] (List.getElem_mem hky)
    have hde : xs[k].d = ys[k].d := by
      have h9 := congrArg (fun l => l[k]?) HD.out
      simpa [hkx, hky] using h9
    have hsm := Fr_same hde
    generalize xs[k]'hkx = x at c0 c1 c2 hox hsm
    generalize ys[k]'hky = y at d0 d1 d2 hoy hsm
    obtain ⟨p0, p1, A1, m, cc1, zs⟩ := x
    obtain ⟨p0', p1', A2, n1', cc2, zs'⟩ := y
    obtain ⟨a1, e1, e2, e3, e4, _, ho1⟩ := hox
    obtain ⟨a2, e5, e6, e7, e8, _, ho2⟩ := hoy
    simp only at e1 e2 e3 e4 ho1 e5 e6 e7 e8 ho2 hsm
    obtain ⟨rfl, rfl, rfl⟩ := hsm
    have e2s := e2.symm; have e6s := e6.symm
    subst e1 e5 e2s e6s
    have em : m = n1' := by rw [← e3, ← e7]
    subst em
    have HZN := Lib.hid e3; have HZS := Lib.hid e4
    have HZ1 := Lib.hid (Rd.ofOwnK ho1)
    have HZ2 := Lib.hid (Rd.ofOwnK ho2)
    clear e3 e4 e7 e8 ho1 ho2 hde hkx hky
    go_wp2
    have hbd : Bel w wr.drew := Bel.of hb.drew
    go_region_held3 (fun U => U.cell? ⟨g, k * 3, none⟩ = some (.int .i64 p0) ∧ U.cell? ⟨g, k * 3 + 1, none⟩ = some (.int .i64 p1) ∧ U.cell? ⟨g, k * 3 + 2, none⟩ = some (.slice (some ⟨a1, 0, none⟩) m m) ∧ U.cell? ⟨g', k * 3, none⟩ = some (.int .i64 p0) ∧ U.cell? ⟨g', k * 3 + 1, none⟩ = some (.int .i64 p1) ∧ U.cell? ⟨g', k * 3 + 2, none⟩ = some (.slice (some ⟨a2, 0, none⟩) m m) ∧ Bel w U)
      (first | go_keep | (go_split_ands; (refine ⟨?_, ?_, ?_, ?_, ?_, ?_, ?_⟩ <;> first | assumption | exact Bel.step (by assumption) hb2 | exact (Bel.at_ (by assumption) hb2 (by assumption)).trans (by assumption))))
      (first | (go_at_call 157; go_split_ands; refine (eqFr p0 p1 a1 a2 m m m zs _ HZN.out HZS.out (HZ1.out.moved (Bel.out (by assumption))) (HZ2.out.moved (Bel.out (by assumption)))).mono ?_; rintro e w2 ⟨rfl, hb2⟩))
    all_goals
      go_wp2
      go_roundw
      case rel => (go_split_ands; exact ⟨k + 1, by omega, by go_num, Bel.out (by assumption)⟩)
      case measure => simp [intOf]; omega
end Go.Proofs.Ytdaopbdjbpopiaa
