/- The law's helpers over a slice of Route: arguments, copy, compare, size. No condition but those typed. -/
import Derived.Test.YtdaopbdjbpopiaaNest
namespace Go.Proofs.Ytdaopbdjbpopiaa
open Go.ChangeShapes Go.WideShapes Go.ChangeAt Go.RowKit Go.Deep

/-- a struct as it lies in memory. -/
structure Ro where
  p0 : Int
  A : Option Addr
  n : Nat
  c : Nat
  zs : List Int
def Ro.cells (x : Ro) : List Value := [.int .i64 x.p0, .slice x.A x.n x.c]
theorem Ro.cells_len (x : Ro) : x.cells.length = 2 := rfl
/-- what it says. -/
structure RoD where
  p0 : Int
  zs : List Int
def Ro.d (x : Ro) : RoD := ⟨x.p0, x.zs⟩
def RoIn (w : World) (x : Ro) : Prop := x.zs.length = x.n ∧ x.n ≤ maxLen ∧ Rd w w.heap.size x.A (x.zs.map (Value.int .i64))
def RoAt (w : World) (x : Ro) : Prop := x.zs.length = x.n ∧ x.n ≤ 1048576 ∧ Rd w w.heap.size x.A (x.zs.map (Value.int .i64))
theorem RoIn.moved {w w' : World} {x : Ro} (h : RoIn w x) (hb : Below w.heap.size w w') : RoIn w' x := ⟨h.1, h.2.1, h.2.2.moved hb⟩
theorem RoAt.moved {w w' : World} {x : Ro} (h : RoAt w x) (hb : Below w.heap.size w w') : RoAt w' x := ⟨h.1, h.2.1, h.2.2.moved hb⟩
theorem RoAt.zs {w : World} {x : Ro} (h : RoAt w x) : x.d.zs.length = x.n := h.1
def Rotot (xs : List Ro) : Nat := (xs.map Ro.n).sum
theorem Rotot_snoc (xs : List Ro) (k : Nat) (h : k < xs.length) : Rotot (xs.take (k + 1)) = Rotot (xs.take k) + xs[k].n := by
  unfold Rotot; rw [List.take_succ_eq_append_getElem h, List.map_append, List.sum_append]; simp
theorem Rotot_le {xs : List Ro} {x : Ro} (h : x ∈ xs) : x.n ≤ Rotot xs := by
  induction xs with
  | nil => simp at h
  | cons y ys ih =>
    have e : Rotot (y :: ys) = y.n + Rotot ys := by unfold Rotot; simp
    rcases List.mem_cons.1 h with rfl | h
    · omega
    · have := ih h; omega
theorem Rd.ro {w : World} {B : Nat} {A : Option Addr} {xs : List Ro} (h : Rd w B A (xs.flatMap Ro.cells)) {k : Nat} (hk : k < xs.length) :
    ∃ ad, A = some ad ∧ ad.block < B ∧ w.cell? (ad.add (k * 2)) = some (.int .i64 xs[k].p0) ∧ w.cell? ⟨(ad.add (k * 2)).block, (ad.add (k * 2)).off + 1, none⟩ = some (.slice xs[k].A xs[k].n xs[k].c) := by
  obtain ⟨ad, e, hb, hc⟩ := h.rowK Ro.cells_len (by decide) hk
  have h0 := hc 0 (by decide)
  rw [Nat.add_zero] at h0
  have h1 := hc 1 (by decide)
  rw [add_next] at h1
  exact ⟨ad, e, hb, h0, h1⟩
theorem Rd.roc {w : World} {B b o : Nat} {xs : List Ro} (h : Rd w B (some ⟨b, o, none⟩) (xs.flatMap Ro.cells)) {k : Nat} (hk : k < xs.length) :
    b < B ∧ w.cell? ⟨b, o + k * 2, none⟩ = some (.int .i64 xs[k].p0) ∧ w.cell? ⟨b, o + k * 2 + 1, none⟩ = some (.slice xs[k].A xs[k].n xs[k].c) := by
  obtain ⟨ad, e, hb, h0, h1⟩ := h.ro hk
  injection e with e; subst e
  have ea : (⟨b, o, none⟩ : Addr).add (k * 2) = ⟨b, o + k * 2, none⟩ := by unfold Addr.add; by_cases h : k * 2 = 0 <;> simp [h]
  rw [ea] at h0 h1
  exact ⟨hb, h0, h1⟩
section
variable {H : Type} {enc : TypeId × Value → H} {w : World} {held : Bool}
set_option maxRecDepth 100000 in
theorem trod_Ro {fuel : Nat} {cs : List Value} {x : DataW H × List MemPlace} (h : DataW.trod enc Try.prog w 0 (fun _ => true) held fuel 41 cs = some x) : ∃ r : Ro, cs = r.cells ∧ RoIn w r := by
  obtain ⟨ys, n, _, _, hl, hlen, hg⟩ := DataW.trod_struct Try.underlying41 h
  have hC : Try.prog.cellsOf 41 = 2 := by kernel_rfl
  rw [hC] at hl
  match cs, hl with
  | [x0, x1], _ =>
    have g0 := hg 0 _ rfl
    have hs0 : ∃ y, ys[0]? = some y := ⟨_, List.getElem?_eq_getElem (by rw [hlen]; decide)⟩
    obtain ⟨y0, hy0⟩ := hs0
    rw [hy0] at g0
    have g0' : DataW.trod enc Try.prog w 0 (fun _ => true) held n _ [x0] = some y0 := g0
    obtain ⟨z0, rfl, _⟩ := tr_int Try.underlying3 g0'
    have g1 := hg 1 _ rfl
    have hs1 : ∃ y, ys[1]? = some y := ⟨_, List.getElem?_eq_getElem (by rw [hlen]; decide)⟩
    obtain ⟨y1, hy1⟩ := hs1
    rw [hy1] at g1
    have g1' : DataW.trod enc Try.prog w 0 (fun _ => true) held n _ [x1] = some y1 := g1
    obtain ⟨A, nn, c, zs, e1, hz1, hz2, hz3, _⟩ := rd_ints Try.underlying39 Try.underlying3 (by kernel_rfl) g1'
    injection e1 with e1; subst e1
    exact ⟨⟨z0, A, nn, c, zs⟩, rfl, hz1, hz2, hz3⟩
theorem rd_ros {fuel : Nat} {cs : List Value} {x : DataW H × List MemPlace} (h : DataW.trod enc Try.prog w 0 (fun _ => true) held fuel 51 cs = some x) :
    ∃ (A : Option Addr) (n c : Nat) (rows : List Ro), cs = [.slice A n c] ∧ rows.length = n ∧ n ≤ maxLen ∧ Rd w w.heap.size A (rows.flatMap Ro.cells) ∧ ∀ r ∈ rows, RoIn w r :=
  rd_rowsG Ro.cells (RoIn w) 2 Try.underlying51 (by kernel_rfl) (by decide) Ro.cells_len (fun _ _ _ h => trod_Ro h) h
end
def RoSz (left : Int) (n : Nat) (w : World) (e : Ending) (w' : World) : Prop := ∃ v : Int, e = .returned (.int .i64 v) ∧ Below w.heap.size w w' ∧ -1 ≤ v ∧ v ≤ left ∧ (0 ≤ v → v + n ≤ left)
set_option maxRecDepth 100000 in
set_option maxHeartbeats 1000000 in
theorem szRos (A : Option Addr) (n c : Nat) (left : Int) (xs : List Ro) (w : World) (hn : xs.length = n) (hm : n ≤ maxLen) (hr : Rd w w.heap.size A (xs.flatMap Ro.cells)) (hin : ∀ x ∈ xs, RoIn w x) (hl0 : 0 ≤ left) (hl1 : left ≤ 1048576) :
    Calls Try.prog 36 #[.slice A n c, .int .i64 left] w (RoSz left (n + Rotot xs) w) := by
  unfold maxLen at hm
  by_cases hc : left - n < 0
  · go_enter Try.func36, Try.ntmps36
    go_wp2
    go_ret
    exact ⟨-1, rfl, Below.refl _ _, by omega, by omega, by omega⟩
  have hc' : 0 ≤ left - n := by omega
  have HN := Lib.hid hn; have HR := Lib.hid hr; have HIN := Lib.hid hin
  clear hc hn hr hin
  go_enter Try.func36, Try.ntmps36
  go_wp2
  go_loopw [1, 5] (fun l i wr => ∃ (k : Nat) (v : Int), k ≤ n ∧ i = .int .i64 k ∧ l = .int .i64 v ∧ 0 ≤ v ∧ v ≤ left ∧ Hid (v + n + Rotot (xs.take k) ≤ left) ∧ Below w.heap.size w wr) (fun _ i _ => n - (intOf i).toNat)
  case atStart => exact ⟨0, left - n, Nat.zero_le _, rfl, rfl, hc', by omega, Lib.hid (by simp [Rotot]), Below.refl _ _⟩
  case round =>
    obtain ⟨k, v, hk, rfl, rfl, hv0, hv1, HV, hb⟩ := hrel
    by_cases hlt : k < n
    case neg =>
      have HE : Hid (v + (n + Rotot xs : Nat) ≤ left) := Lib.hid (by
        have h1 := HV.out
        rw [List.take_of_length_le (by have := HN.out; omega)] at h1
        omega)
      go_wp2
      go_ret
      exact ⟨v, rfl, hb, by omega, hv1, fun _ => HE.out⟩
    case pos =>
    have hks : k < xs.length := by have := HN.out; omega
    have hx := HIN.out xs[k] (List.getElem_mem hks)
    obtain ⟨ad, rfl, hbl, h0, h1⟩ := HR.out.ro hks
    rw [← hb.cell (by rw [addBlock]; exact hbl)] at h0
    rw [← hb.cell (by simp only [addBlock]; exact hbl)] at h1
    have HTS := Lib.hid (Rotot_snoc xs k hks)
    have CS := Lib.hid (szRt xs[k].p0 xs[k].A xs[k].n xs[k].c v wr hx.2.1 hv0 (by omega))
    generalize xs[k]'hks = x at h0 h1 HTS CS
    obtain ⟨p0, A, nn, c, zs⟩ := x
    simp only at h0 h1
    clear hx
    go_wp2_with fail
    refine CS.out.mono ?_
    rintro e w2 ⟨u, rfl, hb2, hu0, hu1, hu2⟩
    have HB2 := Lib.hid (hb.trans (hb2.mono hb.size))
    have HU := Lib.hid hu2
    clear hb2 hu2
    by_cases hneg : u < 0
    · go_wp2
      go_ret
      exact ⟨-1, rfl, HB2.out, by omega, by omega, by omega⟩
    · have hpos : 0 ≤ u := by omega
      have HV2 : Hid (u + n + Rotot (xs.take (k + 1)) ≤ left) := Lib.hid (by have h1 := HV.out; have h2 := HU.out hpos; have h3 := HTS.out; (try simp only at h2); (try simp only at h3); omega)
      clear hneg
      go_wp2
      go_roundw
      case rel => exact ⟨k + 1, u, by omega, by go_num, rfl, hpos, by omega, HV2, HB2.out⟩
      case measure => simp [intOf]; omega
/-- a copy's row: its ints in a block of their own. -/
def RoOwn (B g0 : Nat) (w : World) (y : Ro) : Prop := ∃ q, y.A = some ⟨q, 0, none⟩ ∧ y.c = y.n ∧ y.zs.length = y.n ∧ y.n ≤ 1048576 ∧ q ≠ g0 ∧ w.ownsRow B 3 1 (.slice (some ⟨q, 0, none⟩) y.n y.n) y.n (y.zs.map (Value.int .i64))
theorem RoOwn.at_ {B g0 : Nat} {w : World} {y : Ro} (h : RoOwn B g0 w y) : RoAt w y := by
  obtain ⟨q, e, e2, h1, h2, _, ho⟩ := h
  exact ⟨h1, h2, by rw [e]; exact Rd.ofOwnK ho⟩
theorem RoOwn.moved {B g0 : Nat} {w w' : World} {y : Ro} (h : RoOwn B g0 w y) (hb : Below w.heap.size w w') : RoOwn B g0 w' y := by
  obtain ⟨q, e, e2, h1, h2, h3, ho⟩ := h
  exact ⟨q, e, e2, h1, h2, h3, ownB ho hb⟩
theorem RoOwn.base {B B' g0 : Nat} {w : World} {y : Ro} (h : RoOwn B g0 w y) (hB : B' ≤ B) : RoOwn B' g0 w y := by
  obtain ⟨q, e, e2, h1, h2, h3, ho⟩ := h
  exact ⟨q, e, e2, h1, h2, h3, own_base ho hB⟩
theorem RoOwn.set_ {B g0 : Nat} {w : World} {y : Ro} (h : RoOwn B g0 w y) (o : Nat) (u : Value) : RoOwn B g0 (w.setCell ⟨g0, o, none⟩ u) y := by
  obtain ⟨q, e, e2, h1, h2, h3, ho⟩ := h
  exact ⟨q, e, e2, h1, h2, h3, own_set ho (p := ⟨g0, o, none⟩) (fun h => h3 h.symm) u⟩
/-- a copied slice: row and inner rows of the call's own, no two inner rows in one block. -/
structure Ros (B g n : Nat) (ys : List Ro) (w : World) : Prop where
  len : ys.length = n
  row : w.ownsRow B 45 2 (.slice (some ⟨g, 0, none⟩) n n) n (ys.flatMap Ro.cells)
  own : ∀ y ∈ ys, RoOwn B g w y
  apart : ys.Pairwise fun y y' => y.A ≠ y'.A
theorem Ros.moved {B g n : Nat} {ys : List Ro} {w w' : World} (h : Ros B g n ys w) (hb : Below w.heap.size w w') : Ros B g n ys w' := ⟨h.len, ownB h.row hb, fun y hy => (h.own y hy).moved hb, h.apart⟩
theorem Ros.base {B B' g n : Nat} {ys : List Ro} {w : World} (h : Ros B g n ys w) (hB : B' ≤ B) : Ros B' g n ys w := ⟨h.len, own_base h.row hB, fun y hy => (h.own y hy).base hB, h.apart⟩
theorem Ros.rd {B g n : Nat} {ys : List Ro} {w : World} (h : Ros B g n ys w) : Rd w w.heap.size (some ⟨g, 0, none⟩) (ys.flatMap Ro.cells) := Rd.ofOwnK h.row
theorem Ros.at_ {B g n : Nat} {ys : List Ro} {w : World} (h : Ros B g n ys w) : ∀ y ∈ ys, RoAt w y := fun y hy => (h.own y hy).at_
theorem Try.inf_Ro : (Try.prog.info? 45).map (fun i => (i.zero, i.size, i.bytes)) = some (some (.agg #[.int .i64 0, .slice none 0 0]), 2, 32) := by kernel_rfl
def Roz : List Value := [.int .i64 0, .slice none 0 0]
theorem Ro_set (ys : List Ro) (m : Nat) (y : Ro) (hm : 0 < m) : ((fillG Ro.cells Roz ys m).set (ys.length * 2) (.int .i64 y.p0)).set (ys.length * 2 + 1) (.slice y.A y.n y.c) = fillG Ro.cells Roz (ys ++ [y]) (m - 1) := by
  obtain ⟨m, rfl⟩ : ∃ j, m = j + 1 := ⟨m - 1, by omega⟩
  have hp := fillG_pre Ro.cells_len ys
  unfold fillG
  rw [set_pre0 _ _ _ _ hp, set_pre _ _ _ _ hp, List.replicate_succ, Nat.add_sub_cancel]
  simp only [Roz, Ro.cells, List.flatMap_append, List.flatMap_cons, List.flatMap_nil, List.append_nil, List.append_assoc, List.set_cons_zero, List.set_cons_succ, List.cons_append, List.nil_append]
def RosOut (xs : List Ro) (n : Nat) (w : World) (e : Ending) (w' : World) : Prop := ∃ (g : Nat) (ys : List Ro), e = .returned (.slice (some ⟨g, 0, none⟩) n n) ∧ w.heap.size ≤ g ∧ ys.map Ro.d = xs.map Ro.d ∧ Ros w.heap.size g n ys w' ∧ Below w.heap.size w w'
theorem Ro_snoc {α β : Type} {f : α → β} {xs : List α} {ys : List α} {k : Nat} (h : ys.map f = (xs.take k).map f) (hk : k < xs.length) {y : α} (hy : f y = f xs[k]) : (ys ++ [y]).map f = (xs.take (k + 1)).map f := by
  rw [List.take_succ_eq_append_getElem hk, List.map_append, List.map_append, h]; simp [hy]
set_option maxRecDepth 100000 in
set_option maxHeartbeats 4000000 in
theorem toRos (A : Option Addr) (n c : Nat) (xs : List Ro) (w : World) (hn : xs.length = n) (hr : Rd w w.heap.size A (xs.flatMap Ro.cells)) (hin : ∀ x ∈ xs, RoAt w x) (hsz : n ≤ 1048576) :
    Calls Try.prog 38 #[.slice A n c] w (RosOut xs n w) := by
  obtain ⟨i0, hi, hz0, hz1, hz2⟩ := info_parts Try.inf_Ro
  have HN := Lib.hid hn; have HR := Lib.hid hr; have HIN := Lib.hid hin
  clear hn hr hin
  go_enter Try.func38, Try.ntmps38
  go_wp2_with (at_make; refine wpList_make_full _ rfl _ _ 55 rfl w.heap.size 45 i0 _ 2 Try.underlying55 hi hz0 hz1 .i64 .i64 n n n rfl rfl rfl rfl (by rw [hz2]; omega) (by unfold maxLen; omega) (Nat.le_refl _) ?_)
  intro w1 hown hgrow
  have hb1 : Below w.heap.size w w1 := (Below.refl _ _).grown hgrow (Nat.le_refl _) (fun k h => by cases h)
  clear hgrow
  have hown0 : Hid (w1.ownsRow w.heap.size 45 2 (.slice (some ⟨w.heap.size, 0, none⟩) n n) n (fillG Ro.cells Roz [] n)) := Lib.hid (by rw [madeK _ n 2 rfl (by decide)] at hown; exact hown)
  clear hown hi hz0 hz1 hz2
  go_wp2
  go_loopw [4] (fun i wr => ∃ (k : Nat) (ys : List Ro), k ≤ n ∧ i = .int .i64 k ∧ Hid (ys.length = k) ∧ Hid (ys.map Ro.d = (xs.take k).map Ro.d) ∧ Hid (wr.ownsRow w.heap.size 45 2 (.slice (some ⟨w.heap.size, 0, none⟩) n n) n (fillG Ro.cells Roz ys (n - k))) ∧ Hid (∀ y ∈ ys, RoOwn w.heap.size w.heap.size wr y) ∧ Hid (ys.Pairwise fun y y' => y.A ≠ y'.A) ∧ Below w.heap.size w wr) (fun i _ => n - (intOf i).toNat)
  case atStart => exact ⟨0, [], Nat.zero_le _, rfl, Lib.hid rfl, Lib.hid rfl, hown0, Lib.hid (fun y hy => by simp at hy), Lib.hid List.Pairwise.nil, hb1⟩
  case round =>
    clear hown0 hb1
    obtain ⟨k, ys, hk, rfl, HYL, HYD, HO, HY, HP, hb⟩ := hrel
    by_cases hlt : k < n
    case neg =>
      have hkn : k = n := by omega
      have HF : Hid (Ros w.heap.size w.heap.size n ys wr) := Lib.hid ⟨HYL.out.trans hkn, by
        have := HO.out
        rw [hkn, Nat.sub_self] at this
        simpa [fillG] using this, HY.out, HP.out⟩
      have HD : Hid (ys.map Ro.d = xs.map Ro.d) := Lib.hid (by rw [HYD.out, List.take_of_length_le (by have := HN.out; omega)])
      clear hkn
      go_wp2
      go_ret
      exact ⟨_, ys, rfl, Nat.le_refl _, HD.out, HF.out, hb⟩
    case pos =>
    have hks : k < xs.length := by have := HN.out; omega
    have hx := HIN.out xs[k] (List.getElem_mem hks)
    obtain ⟨ad, rfl, hbl, h0, h1⟩ := HR.out.ro hks
    rw [← hb.cell (by rw [addBlock]; exact hbl)] at h0
    rw [← hb.cell (by simp only [addBlock]; exact hbl)] at h1
    obtain ⟨x, hxe⟩ : ∃ x, xs[k]'hks = x := ⟨_, rfl⟩
    rw [hxe] at hx h0 h1
    have HXE := Lib.hid hxe
    have HXN := Lib.hid hx.1; have HXS := Lib.hid hx.2.1
    have HXR := Lib.hid (hx.2.2.moved hb)
    have CT : Hid (Calls Try.prog 31 #[.agg #[.int .i64 x.p0, .slice x.A x.n x.c]] wr (RtOut x.p0 x.zs x.n wr)) := Lib.hid (toRt x.p0 x.A x.n x.c x.zs wr HXN.out HXR.out HXS.out)
    clear hx hxe
    go_wp2_with fail
    refine CT.out.mono ?_
    rintro e w2 ⟨g3, rfl, hg3, hown3, hb2⟩
    have hown := ownB HO.out hb2
    have hb' : Hid (Below w.heap.size w w2) := Lib.hid (hb.trans (hb2.mono hb.size))
    have HBZ := Lib.hid hb.size
    have hyl := HYL.out
    have HNE : Hid (g3 ≠ w.heap.size) := Lib.hid (by
      have h1 := (HO.out.lt w.heap.size rfl).2
      omega)
    have HNEW : Hid (∀ y ∈ ys, y.A ≠ some ⟨g3, 0, none⟩) := Lib.hid (fun y hy e => by
      obtain ⟨q, e1, _, _, _, _, ho⟩ := HY.out y hy
      have h1 := (ho.lt q rfl).2
      rw [e1] at e
      injection e with e; injection e with e
      omega)
    have HY2 := Lib.hid (fun y hy => (HY.out y hy).moved hb2)
    have HO3 := Lib.hid (own_base hown3 (B' := w.heap.size) HBZ.out)
    clear h0 h1 hb2 hown3
    have hold0 : w2.cell? ⟨w.heap.size, k * 2, none⟩ = some (.int .i64 0) := by
      have h9 := hown.cellAt (k * 2) (by omega)
      have h8 := fillG_get Ro.cells_len (z := Roz) rfl ys (n - k) 0 (by omega) (by decide)
      rw [hyl] at h8
      rw [h9]; exact h8
    have hfz0 := hown.frozenAt (k * 2)
    have hold1 : w2.cell? ⟨w.heap.size, k * 2 + 1, none⟩ = some (.slice none 0 0) := by
      have h9 := hown.cellAt (k * 2 + 1) (by omega)
      have h8 := fillG_get Ro.cells_len (z := Roz) rfl ys (n - k) 1 (by omega) (by decide)
      rw [hyl] at h8
      rw [h9]; exact h8
    have hfz1 := hown.frozenAt (k * 2 + 1)
    have hset := Ro_set ys (n - k) (Ro.mk x.p0 (some ⟨g3, 0, none⟩) x.n x.n x.zs) (by omega)
    rw [hyl] at hset
    have HST : Hid ((((w2).setCell ⟨w.heap.size, k * 2, none⟩ (.int .i64 x.p0)).setCell ⟨w.heap.size, k * 2 + 1, none⟩ (.slice (some ⟨g3, 0, none⟩) x.n x.n)).ownsRow w.heap.size 45 2 (.slice (some ⟨w.heap.size, 0, none⟩) n n) n (fillG Ro.cells Roz (ys ++ [(Ro.mk x.p0 (some ⟨g3, 0, none⟩) x.n x.n x.zs)]) (n - (k + 1)))) := Lib.hid (by
      have h9 := ((((hown).stored (k * 2) (.int .i64 x.p0)).1).stored (k * 2 + 1) (.slice (some ⟨g3, 0, none⟩) x.n x.n)).1
      rw [hset] at h9
      exact h9)
    have HYS : Hid (∀ y ∈ ys ++ [(Ro.mk x.p0 (some ⟨g3, 0, none⟩) x.n x.n x.zs)], RoOwn w.heap.size w.heap.size (((w2).setCell ⟨w.heap.size, k * 2, none⟩ (.int .i64 x.p0)).setCell ⟨w.heap.size, k * 2 + 1, none⟩ (.slice (some ⟨g3, 0, none⟩) x.n x.n)) y) := Lib.hid (fun y hy => by
      have h9 : RoOwn w.heap.size w.heap.size w2 y := by
        rcases List.mem_append.1 hy with hy | hy
        · exact HY2.out y hy
        · rw [List.mem_singleton.1 hy]
          exact ⟨g3, rfl, rfl, HXN.out, HXS.out, HNE.out, HO3.out⟩
      exact ((h9).set_ _ _).set_ _ _)
    have HPS : Hid ((ys ++ [(Ro.mk x.p0 (some ⟨g3, 0, none⟩) x.n x.n x.zs)]).Pairwise fun y y' => y.A ≠ y'.A) := Lib.hid (List.pairwise_append.2 ⟨HP.out, List.pairwise_singleton _ _, fun y hy y' hy' => by rw [List.mem_singleton.1 hy']; exact HNEW.out y hy⟩)
    have HYDS : Hid ((ys ++ [(Ro.mk x.p0 (some ⟨g3, 0, none⟩) x.n x.n x.zs)]).map Ro.d = (xs.take (k + 1)).map Ro.d) := Lib.hid (Ro_snoc HYD.out hks (by rw [HXE.out]; rfl))
    have HYLS : Hid ((ys ++ [(Ro.mk x.p0 (some ⟨g3, 0, none⟩) x.n x.n x.zs)]).length = k + 1) := Lib.hid (by rw [List.length_append, hyl]; rfl)
    have HBS : Hid (Below w.heap.size w (((w2).setCell ⟨w.heap.size, k * 2, none⟩ (.int .i64 x.p0)).setCell ⟨w.heap.size, k * 2 + 1, none⟩ (.slice (some ⟨g3, 0, none⟩) x.n x.n))) := Lib.hid (((hb'.out).setCell (p := ⟨w.heap.size, k * 2, none⟩) (Nat.le_refl _) _).setCell (p := ⟨w.heap.size, k * 2 + 1, none⟩) (Nat.le_refl _) _)
    clear hset hown hyl HO HY HO3 HNEW
    go_wp2
    go_roundw
    case rel => exact ⟨k + 1, _, by omega, by go_num, HYLS, HYDS, HST, HYS, HPS, HBS.out⟩
    case measure => simp [intOf]; omega
theorem Ro_same {x y : Ro} (h : x.d = y.d) : x.p0 = y.p0 ∧ x.zs = y.zs := by
  unfold Ro.d at h
  injection h with e0 e1
  exact ⟨e0, e1⟩
set_option maxRecDepth 100000 in
set_option maxHeartbeats 4000000 in
theorem eqRos (g g' n B B' : Nat) (xs ys : List Ro) (w : World) (hx : Ros B g n xs w) (hy : Ros B' g' n ys w) (hd : xs.map Ro.d = ys.map Ro.d) (hs : n ≤ 1048576) :
    Calls Try.prog 42 #[.slice (some ⟨g, 0, none⟩) n n, .slice (some ⟨g', 0, none⟩) n n] w fun e w' => e = .returned (.bool true) ∧ Below w.heap.size w w' := by
  have HX := Lib.hid hx; have HYY := Lib.hid hy; have HD := Lib.hid hd
  clear hx hy hd
  go_enter Try.func42, Try.ntmps42
  go_wp2
  go_loopw [5] (fun i wr => ∃ k : Nat, k ≤ n ∧ i = .int .i64 k ∧ Below w.heap.size w wr) (fun i _ => n - (intOf i).toNat)
  case atStart => exact ⟨0, Nat.zero_le _, rfl, Below.refl _ _⟩
  case round =>
    obtain ⟨k, hk, rfl, hb⟩ := hrel
    by_cases hlt : k < n
    case neg =>
      go_wp2
      go_ret
      exact ⟨rfl, hb⟩
    case pos =>
    have hkx : k < xs.length := by have := HX.out.len; omega
    have hky : k < ys.length := by have := HYY.out.len; omega
    obtain ⟨hg, c0, c1⟩ := (HX.out.rd.over hb).roc hkx
    obtain ⟨hg', d0, d1⟩ := (HYY.out.rd.over hb).roc hky
    rw [Nat.zero_add] at c0 d0 c1 d1
    have hox := HX.out.own xs[k] (List.getElem_mem hkx)
    have hoy := HYY.out.own ys[k] (List.getElem_mem hky)
    have hde : xs[k].d = ys[k].d := by
      have h9 := congrArg (fun l => l[k]?) HD.out
      simpa [hkx, hky] using h9
    have hsm := Ro_same hde
    generalize xs[k]'hkx = x at c0 c1 hox hsm
    generalize ys[k]'hky = y at d0 d1 hoy hsm
    obtain ⟨p0, A1, m, cc1, zs⟩ := x
    obtain ⟨p0', A2, n1', cc2, zs'⟩ := y
    obtain ⟨a1, e1, e2, e3, e4, _, ho1⟩ := hox
    obtain ⟨a2, e5, e6, e7, e8, _, ho2⟩ := hoy
    simp only at e1 e2 e3 e4 ho1 e5 e6 e7 e8 ho2 hsm
    obtain ⟨rfl, rfl⟩ := hsm
    have e2s := e2.symm; have e6s := e6.symm
    subst e1 e5 e2s e6s
    have em : m = n1' := by rw [← e3, ← e7]
    subst em
    have HZN := Lib.hid e3; have HZS := Lib.hid e4
    have HZ1 := Lib.hid (Rd.ofOwnK ho1)
    have HZ2 := Lib.hid (Rd.ofOwnK ho2)
    clear e3 e4 e7 e8 ho1 ho2 hde hkx hky
    go_wp2
    have hbd : Bel w wr.drew := Bel.of hb.drew
    go_region_held3 (fun U => U.cell? ⟨g, k * 2, none⟩ = some (.int .i64 p0) ∧ U.cell? ⟨g, k * 2 + 1, none⟩ = some (.slice (some ⟨a1, 0, none⟩) m m) ∧ U.cell? ⟨g', k * 2, none⟩ = some (.int .i64 p0) ∧ U.cell? ⟨g', k * 2 + 1, none⟩ = some (.slice (some ⟨a2, 0, none⟩) m m) ∧ Bel w U)
      (first | go_keep | (go_split_ands; (refine ⟨?_, ?_, ?_, ?_, ?_⟩ <;> first | assumption | exact Bel.step (by assumption) hb2 | exact (Bel.at_ (by assumption) hb2 (by assumption)).trans (by assumption))))
      (first | (go_at_call 33; go_split_ands; refine (eqRt p0 a1 a2 m m m zs _ HZN.out HZS.out (HZ1.out.moved (Bel.out (by assumption))) (HZ2.out.moved (Bel.out (by assumption)))).mono ?_; rintro e w2 ⟨rfl, hb2⟩))
    all_goals
      go_wp2
      go_roundw
      case rel => (go_split_ands; exact ⟨k + 1, by omega, by go_num, Bel.out (by assumption)⟩)
      case measure => simp [intOf]; omega
end Go.Proofs.Ytdaopbdjbpopiaa
