/- The law's helpers over a slice of Service: arguments, size, copy, compare. No condition but those typed. -/
import Derived.Test.YtlgkjidginibdaaDoorGC
import Derived.Test.YtlgkjidginibdaaDoorSvK
import Derived.Test.YtlgkjidginibdaaDoorSvT
namespace Go.Proofs.YtlgkjidginibdaaDoor
open Go.ChangeShapes Go.WideShapes Go.ChangeAt Go.RowKit Go.Deep

/-- a service as it lies in memory. -/
structure Sv where
  i : Int
  k : Int
  s1 : Int
  A : Option Addr
  n : Nat
  c : Nat
  zs : List Int
  x1 : Int
  y1 : Int
  s2 : Int
  A2 : Option Addr
  m : Nat
  c2 : Nat
  us : List Int
  x2 : Int
  y2 : Int
def Sv.cells (x : Sv) : List Value := [.int .i64 x.i, .int .i64 x.k, .int .i64 x.s1, .slice x.A x.n x.c, .int .i64 x.x1, .int .i64 x.y1, .int .i64 x.s2, .slice x.A2 x.m x.c2, .int .i64 x.x2, .int .i64 x.y2]
theorem Sv.cells_len (x : Sv) : x.cells.length = 10 := rfl
/-- what it says. -/
structure SvD where
  i : Int
  k : Int
  s1 : Int
  zs : List Int
  x1 : Int
  y1 : Int
  s2 : Int
  us : List Int
  x2 : Int
  y2 : Int
def Sv.d (x : Sv) : SvD := ⟨x.i, x.k, x.s1, x.zs, x.x1, x.y1, x.s2, x.us, x.x2, x.y2⟩
def SvIn (w : World) (x : Sv) : Prop := (x.zs.length = x.n ∧ x.n ≤ maxLen ∧ Rd w w.heap.size x.A (x.zs.map (Value.int .i64))) ∧ (x.us.length = x.m ∧ x.m ≤ maxLen ∧ Rd w w.heap.size x.A2 (x.us.map (Value.int .i64)))
def SvAt (w : World) (x : Sv) : Prop := (x.zs.length = x.n ∧ x.n ≤ 1048576 ∧ Rd w w.heap.size x.A (x.zs.map (Value.int .i64))) ∧ (x.us.length = x.m ∧ x.m ≤ 1048576 ∧ Rd w w.heap.size x.A2 (x.us.map (Value.int .i64)))
theorem SvIn.moved {w w' : World} {x : Sv} (h : SvIn w x) (hb : Below w.heap.size w w') : SvIn w' x := ⟨⟨h.1.1, h.1.2.1, h.1.2.2.moved hb⟩, ⟨h.2.1, h.2.2.1, h.2.2.2.moved hb⟩⟩
theorem SvAt.moved {w w' : World} {x : Sv} (h : SvAt w x) (hb : Below w.heap.size w w') : SvAt w' x := ⟨⟨h.1.1, h.1.2.1, h.1.2.2.moved hb⟩, ⟨h.2.1, h.2.2.1, h.2.2.2.moved hb⟩⟩
def Svtot (xs : List Sv) : Nat := (xs.map fun x => x.n + x.m).sum
theorem Svtot_snoc (xs : List Sv) (k : Nat) (h : k < xs.length) : Svtot (xs.take (k + 1)) = Svtot (xs.take k) + (xs[k].n + xs[k].m) := by
  unfold Svtot; rw [List.take_succ_eq_append_getElem h, List.map_append, List.sum_append]; simp
theorem Svtot_le {xs : List Sv} {x : Sv} (h : x ∈ xs) : x.n + x.m ≤ Svtot xs := by
  induction xs with
  | nil => simp at h
  | cons y ys ih =>
    have e : Svtot (y :: ys) = (y.n + y.m) + Svtot ys := by unfold Svtot; simp
    rcases List.mem_cons.1 h with rfl | h
    · omega
    · have := ih h; omega
theorem Rd.sv {w : World} {B : Nat} {A : Option Addr} {xs : List Sv} (h : Rd w B A (xs.flatMap Sv.cells)) {k : Nat} (hk : k < xs.length) :
    ∃ ad, A = some ad ∧ ad.block < B ∧ w.cell? (ad.add (k * 10)) = some (.int .i64 xs[k].i) ∧ w.cell? ⟨(ad.add (k * 10)).block, (ad.add (k * 10)).off + 1, none⟩ = some (.int .i64 xs[k].k) ∧ w.cell? ⟨(ad.add (k * 10)).block, (ad.add (k * 10)).off + 2, none⟩ = some (.int .i64 xs[k].s1) ∧ w.cell? ⟨(ad.add (k * 10)).block, (ad.add (k * 10)).off + 3, none⟩ = some (.slice xs[k].A xs[k].n xs[k].c) ∧ w.cell? ⟨(ad.add (k * 10)).block, (ad.add (k * 10)).off + 4, none⟩ = some (.int .i64 xs[k].x1) ∧ w.cell? ⟨(ad.add (k * 10)).block, (ad.add (k * 10)).off + 5, none⟩ = some (.int .i64 xs[k].y1) ∧ w.cell? ⟨(ad.add (k * 10)).block, (ad.add (k * 10)).off + 6, none⟩ = some (.int .i64 xs[k].s2) ∧ w.cell? ⟨(ad.add (k * 10)).block, (ad.add (k * 10)).off + 7, none⟩ = some (.slice xs[k].A2 xs[k].m xs[k].c2) ∧ w.cell? ⟨(ad.add (k * 10)).block, (ad.add (k * 10)).off + 8, none⟩ = some (.int .i64 xs[k].x2) ∧ w.cell? ⟨(ad.add (k * 10)).block, (ad.add (k * 10)).off + 9, none⟩ = some (.int .i64 xs[k].y2) := by
  obtain ⟨ad, e, hb, hc⟩ := h.rowK Sv.cells_len (by decide) hk
  have h0 := hc 0 (by decide)
  rw [Nat.add_zero] at h0
  have h1 := hc 1 (by decide)
  rw [add_next] at h1
  have h2 := hc 2 (by decide)
  rw [add_next] at h2
  have h3 := hc 3 (by decide)
  rw [add_next] at h3
  have h4 := hc 4 (by decide)
  rw [add_next] at h4
  have h5 := hc 5 (by decide)
  rw [add_next] at h5
  have h6 := hc 6 (by decide)
  rw [add_next] at h6
  have h7 := hc 7 (by decide)
  rw [add_next] at h7
  have h8 := hc 8 (by decide)
  rw [add_next] at h8
  have h9 := hc 9 (by decide)
  rw [add_next] at h9
  exact ⟨ad, e, hb, h0, h1, h2, h3, h4, h5, h6, h7, h8, h9⟩
theorem Rd.svc {w : World} {B b o : Nat} {xs : List Sv} (h : Rd w B (some ⟨b, o, none⟩) (xs.flatMap Sv.cells)) {k : Nat} (hk : k < xs.length) :
    b < B ∧ w.cell? ⟨b, o + k * 10, none⟩ = some (.int .i64 xs[k].i) ∧ w.cell? ⟨b, o + k * 10 + 1, none⟩ = some (.int .i64 xs[k].k) ∧ w.cell? ⟨b, o + k * 10 + 2, none⟩ = some (.int .i64 xs[k].s1) ∧ w.cell? ⟨b, o + k * 10 + 3, none⟩ = some (.slice xs[k].A xs[k].n xs[k].c) ∧ w.cell? ⟨b, o + k * 10 + 4, none⟩ = some (.int .i64 xs[k].x1) ∧ w.cell? ⟨b, o + k * 10 + 5, none⟩ = some (.int .i64 xs[k].y1) ∧ w.cell? ⟨b, o + k * 10 + 6, none⟩ = some (.int .i64 xs[k].s2) ∧ w.cell? ⟨b, o + k * 10 + 7, none⟩ = some (.slice xs[k].A2 xs[k].m xs[k].c2) ∧ w.cell? ⟨b, o + k * 10 + 8, none⟩ = some (.int .i64 xs[k].x2) ∧ w.cell? ⟨b, o + k * 10 + 9, none⟩ = some (.int .i64 xs[k].y2) := by
  obtain ⟨ad, e, hb, h0, h1, h2, h3, h4, h5, h6, h7, h8, h9⟩ := h.sv hk
  injection e with e; subst e
  have ea : (⟨b, o, none⟩ : Addr).add (k * 10) = ⟨b, o + k * 10, none⟩ := by unfold Addr.add; by_cases h : k * 10 = 0 <;> simp [h]
  rw [ea] at h0 h1 h2 h3 h4 h5 h6 h7 h8 h9
  exact ⟨hb, h0, h1, h2, h3, h4, h5, h6, h7, h8, h9⟩
section
variable {H : Type} {enc : TypeId × Value → H} {w : World} {held : Bool}
set_option maxRecDepth 100000 in
theorem trod_Sv {fuel : Nat} {cs : List Value} {x : DataW H × List MemPlace} (h : DataW.trod enc Tryd.prog w 0 (fun _ => true) held fuel 58 cs = some x) : ∃ r : Sv, cs = r.cells ∧ SvIn w r := by
  obtain ⟨ys, n, _, _, hl, hlen, hg⟩ := DataW.trod_struct Tryd.underlying58 h
  have hC : Tryd.prog.cellsOf 58 = 10 := by kernel_rfl
  rw [hC] at hl
  match cs, hl with
  | [x0, x1, x2, x3, x4, x5, x6, x7, x8, x9], _ =>
    have g0 := hg 0 _ rfl
    have hs0 : ∃ y, ys[0]? = some y := ⟨_, List.getElem?_eq_getElem (by rw [hlen]; decide)⟩
    obtain ⟨y0, hy0⟩ := hs0
    rw [hy0] at g0
    have g0' : DataW.trod enc Tryd.prog w 0 (fun _ => true) held n _ [x0] = some y0 := g0
    obtain ⟨z0, rfl, _⟩ := tr_int Tryd.underlying3 g0'
    have g1 := hg 1 _ rfl
    have hs1 : ∃ y, ys[1]? = some y := ⟨_, List.getElem?_eq_getElem (by rw [hlen]; decide)⟩
    obtain ⟨y1, hy1⟩ := hs1
    rw [hy1] at g1
    have g1' : DataW.trod enc Tryd.prog w 0 (fun _ => true) held n _ [x1] = some y1 := g1
    obtain ⟨z1, rfl, _⟩ := tr_int Tryd.underlying3 g1'
    have g2 := hg 2 _ rfl
    have hs2 : ∃ y, ys[2]? = some y := ⟨_, List.getElem?_eq_getElem (by rw [hlen]; decide)⟩
    obtain ⟨y2, hy2⟩ := hs2
    rw [hy2] at g2
    have g2' : DataW.trod enc Tryd.prog w 0 (fun _ => true) held n _ [x2, x3] = some y2 := g2
    obtain ⟨st2, A2, nn2, c2, zs2, rfl, rfl, _, ha2, hb2, hc2, _⟩ := tr_rt Tryd.underlying54 rfl (by kernel_rfl) rfl (by kernel_rfl) Tryd.underlying3 Tryd.underlying29 Tryd.underlying3 (by kernel_rfl) g2'
    have g3 := hg 3 _ rfl
    have hs3 : ∃ y, ys[3]? = some y := ⟨_, List.getElem?_eq_getElem (by rw [hlen]; decide)⟩
    obtain ⟨y3, hy3⟩ := hs3
    rw [hy3] at g3
    have g3' : DataW.trod enc Tryd.prog w 0 (fun _ => true) held n _ [x4, x5] = some y3 := g3
    obtain ⟨a3, b3, rfl, rfl, _, _⟩ := tr_q2 Tryd.underlying56 rfl (by kernel_rfl) rfl (by kernel_rfl) Tryd.underlying3 Tryd.underlying3 g3'
    have g4 := hg 4 _ rfl
    have hs4 : ∃ y, ys[4]? = some y := ⟨_, List.getElem?_eq_getElem (by rw [hlen]; decide)⟩
    obtain ⟨y4, hy4⟩ := hs4
    rw [hy4] at g4
    have g4' : DataW.trod enc Tryd.prog w 0 (fun _ => true) held n _ [x6, x7] = some y4 := g4
    obtain ⟨st4, A4, nn4, c4, zs4, rfl, rfl, _, ha4, hb4, hc4, _⟩ := tr_rt Tryd.underlying54 rfl (by kernel_rfl) rfl (by kernel_rfl) Tryd.underlying3 Tryd.underlying29 Tryd.underlying3 (by kernel_rfl) g4'
    have g5 := hg 5 _ rfl
    have hs5 : ∃ y, ys[5]? = some y := ⟨_, List.getElem?_eq_getElem (by rw [hlen]; decide)⟩
    obtain ⟨y5, hy5⟩ := hs5
    rw [hy5] at g5
    have g5' : DataW.trod enc Tryd.prog w 0 (fun _ => true) held n _ [x8, x9] = some y5 := g5
    obtain ⟨a5, b5, rfl, rfl, _, _⟩ := tr_q2 Tryd.underlying56 rfl (by kernel_rfl) rfl (by kernel_rfl) Tryd.underlying3 Tryd.underlying3 g5'
    exact ⟨⟨z0, z1, st2, A2, nn2, c2, zs2, a3, b3, st4, A4, nn4, c4, zs4, a5, b5⟩, rfl, ⟨ha2, hb2, hc2⟩, ⟨ha4, hb4, hc4⟩⟩
theorem rd_svs {fuel : Nat} {cs : List Value} {x : DataW H × List MemPlace} (h : DataW.trod enc Tryd.prog w 0 (fun _ => true) held fuel 26 cs = some x) :
    ∃ (A : Option Addr) (n c : Nat) (rows : List Sv), cs = [.slice A n c] ∧ rows.length = n ∧ n ≤ maxLen ∧ Rd w w.heap.size A (rows.flatMap Sv.cells) ∧ ∀ r ∈ rows, SvIn w r :=
  rd_rowsG Sv.cells (SvIn w) 10 Tryd.underlying26 (by kernel_rfl) (by decide) Sv.cells_len (fun _ _ _ h => trod_Sv h) h
set_option maxRecDepth 100000 in
theorem open_service {b0 : Nat} {v : Value} {d : DataW H} {p : List MemPlace} (hv : Value.okWide Tryd.prog w .any b0 58 v) (h : DataW.Trod enc Tryd.prog w 0 (fun _ => true) held 58 v d p) :
    ∃ r : Sv, v = .agg #[.int .i64 r.i, .int .i64 r.k, .int .i64 r.s1, .slice r.A r.n r.c, .int .i64 r.x1, .int .i64 r.y1, .int .i64 r.s2, .slice r.A2 r.m r.c2, .int .i64 r.x2, .int .i64 r.y2] ∧ SvIn w r := by
  obtain ⟨cs, rfl, hsz⟩ := okWide_struct Tryd.underlying58 hv
  obtain ⟨fuel, hf⟩ := h
  obtain ⟨r, e, hin⟩ := trod_Sv hf
  obtain ⟨l⟩ := cs
  have e2 : l = r.cells := by simpa [Value.cells] using e
  subst e2
  exact ⟨r, rfl, hin⟩
end
def SvsSz (left : Int) (n : Nat) (w : World) (e : Ending) (w' : World) : Prop := ∃ v : Int, e = .returned (.int .i64 v) ∧ Below w.heap.size w w' ∧ -1 ≤ v ∧ v ≤ left ∧ (0 ≤ v → v + n ≤ left)
set_option maxRecDepth 100000 in
set_option maxHeartbeats 1000000 in
theorem szSvs (A : Option Addr) (n c : Nat) (left : Int) (xs : List Sv) (w : World) (hn : xs.length = n) (hm : n ≤ maxLen) (hr : Rd w w.heap.size A (xs.flatMap Sv.cells)) (hin : ∀ x ∈ xs, SvIn w x) (hl0 : 0 ≤ left) (hl1 : left ≤ 1048576) :
    Calls Tryd.prog 7 #[.slice A n c, .int .i64 left] w (SvsSz left (n + Svtot xs) w) := by
  unfold maxLen at hm
  by_cases hc : left - n < 0
  · go_enter Tryd.func7, Tryd.ntmps7
    go_wp2
    go_ret
    exact ⟨-1, rfl, Below.refl _ _, by omega, by omega, by omega⟩
  have hc' : 0 ≤ left - n := by omega
  have HN := Lib.hid hn; have HR := Lib.hid hr; have HIN := Lib.hid hin
  clear hc hn hr hin
  go_enter Tryd.func7, Tryd.ntmps7
  go_wp2
  go_loopw [1, 5] (fun l i wr => ∃ (k : Nat) (v : Int), k ≤ n ∧ i = .int .i64 k ∧ l = .int .i64 v ∧ 0 ≤ v ∧ v ≤ left ∧ Hid (v + n + Svtot (xs.take k) ≤ left) ∧ Below w.heap.size w wr) (fun _ i _ => n - (intOf i).toNat)
  case atStart => exact ⟨0, left - n, Nat.zero_le _, rfl, rfl, hc', by omega, Lib.hid (by simp [Svtot]), Below.refl _ _⟩
  case round =>
    obtain ⟨k, v, hk, rfl, rfl, hv0, hv1, HV, hb⟩ := hrel
    by_cases hlt : k < n
    case neg =>
      have HE : Hid (v + (n + Svtot xs : Nat) ≤ left) := Lib.hid (by
        have h1 := HV.out
        rw [List.take_of_length_le (by have := HN.out; omega)] at h1
        omega)
      go_wp2
      go_ret
      exact ⟨v, rfl, hb, by omega, hv1, fun _ => HE.out⟩
    case pos =>
    have hks : k < xs.length := by have := HN.out; omega
    have hx := HIN.out xs[k] (List.getElem_mem hks)
    obtain ⟨ad, rfl, hbl, h0, h1, h2, h3, h4, h5, h6, h7, h8, h9⟩ := HR.out.sv hks
    rw [← hb.cell (by rw [addBlock]; exact hbl)] at h0
    rw [← hb.cell (by simp only [addBlock]; exact hbl)] at h1 h2 h3 h4 h5 h6 h7 h8 h9
    have HTS := Lib.hid (Svtot_snoc xs k hks)
    have CS := Lib.hid (szSv xs[k].i xs[k].k xs[k].s1 xs[k].x1 xs[k].y1 xs[k].s2 xs[k].x2 xs[k].y2 xs[k].A xs[k].n xs[k].c xs[k].A2 xs[k].m xs[k].c2 v wr hx.1.2.1 hx.2.2.1 hv0 (by omega))
    generalize xs[k]'hks = x at h0 h1 h2 h3 h4 h5 h6 h7 h8 h9 HTS CS
    obtain ⟨i_, k_, s1, A', nn, cc, zs, x1, y1, s2, A2, mm, c2, us, x2, y2⟩ := x
    simp only at h0 h1 h2 h3 h4 h5 h6 h7 h8 h9 CS
    clear hx
    go_wp2_with fail
    refine CS.out.mono ?_
    rintro e w2 ⟨u, rfl, hb2, hu0, hu1, hu2⟩
    have HB2 := Lib.hid (hb.trans (hb2.mono hb.size))
    have HU := Lib.hid hu2
    clear hb2 hu2
    by_cases hneg : u < 0
    · go_wp2
      go_ret
      exact ⟨-1, rfl, HB2.out, by omega, by omega, by omega⟩
    · have hpos : 0 ≤ u := by omega
      have HV2 : Hid (u + n + Svtot (xs.take (k + 1)) ≤ left) := Lib.hid (by have h1 := HV.out; have h2 := HU.out hpos; have h3 := HTS.out; (try simp only at h2); (try simp only at h3); omega)
      clear hneg
      go_wp2
      go_roundw
      case rel => exact ⟨k + 1, u, by omega, by go_num, rfl, hpos, by omega, HV2, HB2.out⟩
      case measure => simp [intOf]; omega
/-- a copy's row: its ints in blocks of their own. -/
def SvOwn (B g0 : Nat) (w : World) (y : Sv) : Prop := ∃ q r, (y.A = some ⟨q, 0, none⟩ ∧ y.A2 = some ⟨r, 0, none⟩ ∧ y.c = y.n ∧ y.c2 = y.m) ∧ (y.zs.length = y.n ∧ y.n ≤ 1048576 ∧ y.us.length = y.m ∧ y.m ≤ 1048576) ∧ (q ≠ g0 ∧ r ≠ g0 ∧ q ≠ r) ∧ w.ownsRow B 3 1 (.slice (some ⟨q, 0, none⟩) y.n y.n) y.n (y.zs.map (Value.int .i64)) ∧ w.ownsRow B 3 1 (.slice (some ⟨r, 0, none⟩) y.m y.m) y.m (y.us.map (Value.int .i64))
theorem SvOwn.at_ {B g0 : Nat} {w : World} {y : Sv} (h : SvOwn B g0 w y) : SvAt w y := by
  obtain ⟨q, r, ⟨e, e2, _, _⟩, ⟨h1, h2, h3, h4⟩, _, ho, hp⟩ := h
  exact ⟨⟨h1, h2, by rw [e]; exact Rd.ofOwnK ho⟩, ⟨h3, h4, by rw [e2]; exact Rd.ofOwnK hp⟩⟩
theorem SvOwn.moved {B g0 : Nat} {w w' : World} {y : Sv} (h : SvOwn B g0 w y) (hb : Below w.heap.size w w') : SvOwn B g0 w' y := by
  obtain ⟨q, r, h1, h2, h3, ho, hp⟩ := h
  exact ⟨q, r, h1, h2, h3, ownB ho hb, ownB hp hb⟩
theorem SvOwn.base {B B' g0 : Nat} {w : World} {y : Sv} (h : SvOwn B g0 w y) (hB : B' ≤ B) : SvOwn B' g0 w y := by
  obtain ⟨q, r, h1, h2, h3, ho, hp⟩ := h
  exact ⟨q, r, h1, h2, h3, own_base ho hB, own_base hp hB⟩
theorem SvOwn.set_ {B g0 : Nat} {w : World} {y : Sv} (h : SvOwn B g0 w y) (o : Nat) (u : Value) : SvOwn B g0 (w.setCell ⟨g0, o, none⟩ u) y := by
  obtain ⟨q, r, h1, h2, h3, ho, hp⟩ := h
  exact ⟨q, r, h1, h2, h3, own_set ho (p := ⟨g0, o, none⟩) (fun h => h3.1 h.symm) u, own_set hp (p := ⟨g0, o, none⟩) (fun h => h3.2.1 h.symm) u⟩
/-- no inner row of one lies where one of the other lies. -/
def SvAp (y y' : Sv) : Prop := (y.A ≠ y'.A ∧ y.A ≠ y'.A2) ∧ (y.A2 ≠ y'.A ∧ y.A2 ≠ y'.A2)
/-- a copied slice: row and inner rows of the call's own, no two inner rows in one block. -/
structure Svs (B g n : Nat) (ys : List Sv) (w : World) : Prop where
  len : ys.length = n
  row : w.ownsRow B 67 10 (.slice (some ⟨g, 0, none⟩) n n) n (ys.flatMap Sv.cells)
  own : ∀ y ∈ ys, SvOwn B g w y
  apart : ys.Pairwise SvAp
theorem Svs.moved {B g n : Nat} {ys : List Sv} {w w' : World} (h : Svs B g n ys w) (hb : Below w.heap.size w w') : Svs B g n ys w' := ⟨h.len, ownB h.row hb, fun y hy => (h.own y hy).moved hb, h.apart⟩
theorem Svs.base {B B' g n : Nat} {ys : List Sv} {w : World} (h : Svs B g n ys w) (hB : B' ≤ B) : Svs B' g n ys w := ⟨h.len, own_base h.row hB, fun y hy => (h.own y hy).base hB, h.apart⟩
theorem Svs.rd {B g n : Nat} {ys : List Sv} {w : World} (h : Svs B g n ys w) : Rd w w.heap.size (some ⟨g, 0, none⟩) (ys.flatMap Sv.cells) := Rd.ofOwnK h.row
theorem Svs.at_ {B g n : Nat} {ys : List Sv} {w : World} (h : Svs B g n ys w) : ∀ y ∈ ys, SvAt w y := fun y hy => (h.own y hy).at_
theorem Tryd.inf_Sv : (Tryd.prog.info? 67).map (fun i => (i.zero, i.size, i.bytes)) = some (some (.agg #[.int .i64 0, .int .i64 0, .int .i64 0, .slice none 0 0, .int .i64 0, .int .i64 0, .int .i64 0, .slice none 0 0, .int .i64 0, .int .i64 0]), 10, 112) := by kernel_rfl
def Svz : List Value := [.int .i64 0, .int .i64 0, .int .i64 0, .slice none 0 0, .int .i64 0, .int .i64 0, .int .i64 0, .slice none 0 0, .int .i64 0, .int .i64 0]
theorem Sv_set (ys : List Sv) (m : Nat) (y : Sv) (hm : 0 < m) : (((((((((((fillG Sv.cells Svz ys m).set (ys.length * 10) (.int .i64 y.i)).set (ys.length * 10 + 1) (.int .i64 y.k)).set (ys.length * 10 + 2) (.int .i64 y.s1)).set (ys.length * 10 + 3) (.slice y.A y.n y.c)).set (ys.length * 10 + 4) (.int .i64 y.x1)).set (ys.length * 10 + 5) (.int .i64 y.y1)).set (ys.length * 10 + 6) (.int .i64 y.s2)).set (ys.length * 10 + 7) (.slice y.A2 y.m y.c2)).set (ys.length * 10 + 8) (.int .i64 y.x2)).set (ys.length * 10 + 9) (.int .i64 y.y2)) = fillG Sv.cells Svz (ys ++ [y]) (m - 1) := by
  obtain ⟨m, rfl⟩ : ∃ j, m = j + 1 := ⟨m - 1, by omega⟩
  have hp := fillG_pre Sv.cells_len ys
  unfold fillG
  rw [set_pre0 _ _ _ _ hp, set_pre _ _ _ _ hp, set_pre _ _ _ _ hp, set_pre _ _ _ _ hp, set_pre _ _ _ _ hp, set_pre _ _ _ _ hp, set_pre _ _ _ _ hp, set_pre _ _ _ _ hp, set_pre _ _ _ _ hp, set_pre _ _ _ _ hp, List.replicate_succ, Nat.add_sub_cancel]
  simp only [Svz, Sv.cells, List.flatMap_append, List.flatMap_cons, List.flatMap_nil, List.append_nil, List.append_assoc, List.set_cons_zero, List.set_cons_succ, List.cons_append, List.nil_append]
def SvsOut (xs : List Sv) (n : Nat) (w : World) (e : Ending) (w' : World) : Prop := ∃ (g : Nat) (ys : List Sv), e = .returned (.slice (some ⟨g, 0, none⟩) n n) ∧ w.heap.size ≤ g ∧ ys.map Sv.d = xs.map Sv.d ∧ Svs w.heap.size g n ys w' ∧ Below w.heap.size w w'
set_option maxRecDepth 100000 in
set_option maxHeartbeats 8000000 in
theorem toSvs (A : Option Addr) (n c : Nat) (xs : List Sv) (w : World) (hn : xs.length = n) (hr : Rd w w.heap.size A (xs.flatMap Sv.cells)) (hin : ∀ x ∈ xs, SvAt w x) (hsz : n ≤ 1048576) :
    Calls Tryd.prog 10 #[.slice A n c] w (SvsOut xs n w) := by
  obtain ⟨i0, hi, hz0, hz1, hz2⟩ := info_parts Tryd.inf_Sv
  have HN := Lib.hid hn; have HR := Lib.hid hr; have HIN := Lib.hid hin
  clear hn hr hin
  go_enter Tryd.func10, Tryd.ntmps10
  go_wp2_with (at_make; refine wpList_make_full _ rfl _ _ 36 rfl w.heap.size 67 i0 _ 10 Tryd.underlying36 hi hz0 hz1 .i64 .i64 n n n rfl rfl rfl rfl (by rw [hz2]; omega) (by unfold maxLen; omega) (Nat.le_refl _) ?_)
  intro w1 hown hgrow
  have hb1 : Below w.heap.size w w1 := (Below.refl _ _).grown hgrow (Nat.le_refl _) (fun k h => by cases h)
  clear hgrow
  have hown0 : Hid (w1.ownsRow w.heap.size 67 10 (.slice (some ⟨w.heap.size, 0, none⟩) n n) n (fillG Sv.cells Svz [] n)) := Lib.hid (by rw [madeK _ n 10 rfl (by decide)] at hown; exact hown)
  clear hown hi hz0 hz1 hz2
  go_wp2
  go_loopw [4] (fun i wr => ∃ (k : Nat) (ys : List Sv), k ≤ n ∧ i = .int .i64 k ∧ Hid (ys.length = k) ∧ Hid (ys.map Sv.d = (xs.take k).map Sv.d) ∧ Hid (wr.ownsRow w.heap.size 67 10 (.slice (some ⟨w.heap.size, 0, none⟩) n n) n (fillG Sv.cells Svz ys (n - k))) ∧ Hid (∀ y ∈ ys, SvOwn w.heap.size w.heap.size wr y) ∧ Hid (ys.Pairwise SvAp) ∧ Below w.heap.size w wr) (fun i _ => n - (intOf i).toNat)
  case atStart => exact ⟨0, [], Nat.zero_le _, rfl, Lib.hid rfl, Lib.hid rfl, hown0, Lib.hid (fun y hy => by simp at hy), Lib.hid List.Pairwise.nil, hb1⟩
  case round =>
    clear hown0 hb1
    obtain ⟨k, ys, hk, rfl, HYL, HYD, HO, HY, HP, hb⟩ := hrel
    by_cases hlt : k < n
    case neg =>
      have hkn : k = n := by omega
      have HF : Hid (Svs w.heap.size w.heap.size n ys wr) := Lib.hid ⟨HYL.out.trans hkn, by
        have := HO.out
        rw [hkn, Nat.sub_self] at this
        simpa [fillG] using this, HY.out, HP.out⟩
      have HD : Hid (ys.map Sv.d = xs.map Sv.d) := Lib.hid (by rw [HYD.out, List.take_of_length_le (by have := HN.out; omega)])
      clear hkn
      go_wp2
      go_ret
      exact ⟨_, ys, rfl, Nat.le_refl _, HD.out, HF.out, hb⟩
    case pos =>
    have hks : k < xs.length := by have := HN.out; omega
    have hx := HIN.out xs[k] (List.getElem_mem hks)
    obtain ⟨ad, rfl, hbl, h0, h1, h2, h3, h4, h5, h6, h7, h8, h9⟩ := HR.out.sv hks
    rw [← hb.cell (by rw [addBlock]; exact hbl)] at h0
    rw [← hb.cell (by simp only [addBlock]; exact hbl)] at h1 h2 h3 h4 h5 h6 h7 h8 h9
    obtain ⟨x, hxe⟩ : ∃ x, xs[k]'hks = x := ⟨_, rfl⟩
    rw [hxe] at hx h0 h1 h2 h3 h4 h5 h6 h7 h8 h9
    have HXE := Lib.hid hxe
    have HX1 := Lib.hid hx.1; have HX2 := Lib.hid hx.2
    have HXR := Lib.hid (hx.1.2.2.moved hb); have HXQ := Lib.hid (hx.2.2.2.moved hb)
    have CT := Lib.hid (toSv x.i x.k x.s1 x.x1 x.y1 x.s2 x.x2 x.y2 x.A x.n x.c x.A2 x.m x.c2 x.zs x.us wr HX1.out.1 HXR.out HX1.out.2.1 HX2.out.1 HXQ.out HX2.out.2.1)
    clear hx hxe
    go_wp2_with fail
    refine CT.out.mono ?_
    rintro e w2 ⟨g3, g4, rfl, hown3, hown4, hg34, hb2⟩
    have hown := ownB HO.out hb2
    have hb' : Hid (Below w.heap.size w w2) := Lib.hid (hb.trans (hb2.mono hb.size))
    have HBZ := Lib.hid hb.size
    have hyl := HYL.out
    have hg3 := (hown3.lt g3 rfl).1
    have hg4 := (hown4.lt g4 rfl).1
    have HNE : Hid (g3 ≠ w.heap.size ∧ g4 ≠ w.heap.size ∧ g3 ≠ g4) := Lib.hid (by
      have h1 := (HO.out.lt w.heap.size rfl).2
      omega)
    have HNEW : Hid (∀ y ∈ ys, SvAp y (Sv.mk x.i x.k x.s1 (some ⟨g3, 0, none⟩) x.n x.n x.zs x.x1 x.y1 x.s2 (some ⟨g4, 0, none⟩) x.m x.m x.us x.x2 x.y2)) := Lib.hid (fun y hy => by
      obtain ⟨q, r, ⟨e1, e2, _, _⟩, _, _, ho, hp⟩ := HY.out y hy
      have h1 := (ho.lt q rfl).2
      have h2 := (hp.lt r rfl).2
      unfold SvAp
      rw [e1, e2]
      refine ⟨⟨fun e => ?_, fun e => ?_⟩, ⟨fun e => ?_, fun e => ?_⟩⟩ <;> (injection e with e; injection e with e; omega))
    have HY2 := Lib.hid (fun y hy => (HY.out y hy).moved hb2)
    have HO3 := Lib.hid (own_base hown3 (B' := w.heap.size) HBZ.out)
    have HO4 := Lib.hid (own_base hown4 (B' := w.heap.size) HBZ.out)
    clear h0 h1 h2 h3 h4 h5 h6 h7 h8 h9 hb2 hown3 hown4 hg3 hg4 hg34
    have hold0 : w2.cell? ⟨w.heap.size, k * 10, none⟩ = some (.int .i64 0) := by
      have h9 := hown.cellAt (k * 10) (by omega)
      have h8 := fillG_get Sv.cells_len (z := Svz) rfl ys (n - k) 0 (by omega) (by decide)
      rw [hyl] at h8
      rw [h9]; exact h8
    have hfz0 := hown.frozenAt (k * 10)
    have hold1 : w2.cell? ⟨w.heap.size, k * 10 + 1, none⟩ = some (.int .i64 0) := by
      have h9 := hown.cellAt (k * 10 + 1) (by omega)
      have h8 := fillG_get Sv.cells_len (z := Svz) rfl ys (n - k) 1 (by omega) (by decide)
      rw [hyl] at h8
      rw [h9]; exact h8
    have hfz1 := hown.frozenAt (k * 10 + 1)
    have hold2 : w2.cell? ⟨w.heap.size, k * 10 + 2, none⟩ = some (.int .i64 0) := by
      have h9 := hown.cellAt (k * 10 + 2) (by omega)
      have h8 := fillG_get Sv.cells_len (z := Svz) rfl ys (n - k) 2 (by omega) (by decide)
      rw [hyl] at h8
      rw [h9]; exact h8
    have hfz2 := hown.frozenAt (k * 10 + 2)
    have hold3 : w2.cell? ⟨w.heap.size, k * 10 + 3, none⟩ = some (.slice none 0 0) := by
      have h9 := hown.cellAt (k * 10 + 3) (by omega)
      have h8 := fillG_get Sv.cells_len (z := Svz) rfl ys (n - k) 3 (by omega) (by decide)
      rw [hyl] at h8
      rw [h9]; exact h8
    have hfz3 := hown.frozenAt (k * 10 + 3)
    have hold4 : w2.cell? ⟨w.heap.size, k * 10 + 4, none⟩ = some (.int .i64 0) := by
      have h9 := hown.cellAt (k * 10 + 4) (by omega)
      have h8 := fillG_get Sv.cells_len (z := Svz) rfl ys (n - k) 4 (by omega) (by decide)
      rw [hyl] at h8
      rw [h9]; exact h8
    have hfz4 := hown.frozenAt (k * 10 + 4)
    have hold5 : w2.cell? ⟨w.heap.size, k * 10 + 5, none⟩ = some (.int .i64 0) := by
      have h9 := hown.cellAt (k * 10 + 5) (by omega)
      have h8 := fillG_get Sv.cells_len (z := Svz) rfl ys (n - k) 5 (by omega) (by decide)
      rw [hyl] at h8
      rw [h9]; exact h8
    have hfz5 := hown.frozenAt (k * 10 + 5)
    have hold6 : w2.cell? ⟨w.heap.size, k * 10 + 6, none⟩ = some (.int .i64 0) := by
      have h9 := hown.cellAt (k * 10 + 6) (by omega)
      have h8 := fillG_get Sv.cells_len (z := Svz) rfl ys (n - k) 6 (by omega) (by decide)
      rw [hyl] at h8
      rw [h9]; exact h8
    have hfz6 := hown.frozenAt (k * 10 + 6)
    have hold7 : w2.cell? ⟨w.heap.size, k * 10 + 7, none⟩ = some (.slice none 0 0) := by
      have h9 := hown.cellAt (k * 10 + 7) (by omega)
      have h8 := fillG_get Sv.cells_len (z := Svz) rfl ys (n - k) 7 (by omega) (by decide)
      rw [hyl] at h8
      rw [h9]; exact h8
    have hfz7 := hown.frozenAt (k * 10 + 7)
    have hold8 : w2.cell? ⟨w.heap.size, k * 10 + 8, none⟩ = some (.int .i64 0) := by
      have h9 := hown.cellAt (k * 10 + 8) (by omega)
      have h8 := fillG_get Sv.cells_len (z := Svz) rfl ys (n - k) 8 (by omega) (by decide)
      rw [hyl] at h8
      rw [h9]; exact h8
    have hfz8 := hown.frozenAt (k * 10 + 8)
    have hold9 : w2.cell? ⟨w.heap.size, k * 10 + 9, none⟩ = some (.int .i64 0) := by
      have h9 := hown.cellAt (k * 10 + 9) (by omega)
      have h8 := fillG_get Sv.cells_len (z := Svz) rfl ys (n - k) 9 (by omega) (by decide)
      rw [hyl] at h8
      rw [h9]; exact h8
    have hfz9 := hown.frozenAt (k * 10 + 9)
    have hset := Sv_set ys (n - k) (Sv.mk x.i x.k x.s1 (some ⟨g3, 0, none⟩) x.n x.n x.zs x.x1 x.y1 x.s2 (some ⟨g4, 0, none⟩) x.m x.m x.us x.x2 x.y2) (by omega)
    rw [hyl] at hset
    have HST : Hid ((((((((((((w2.setCell ⟨w.heap.size, k * 10, none⟩ (.int .i64 x.i)).setCell ⟨w.heap.size, k * 10 + 1, none⟩ (.int .i64 x.k)).setCell ⟨w.heap.size, k * 10 + 2, none⟩ (.int .i64 x.s1)).setCell ⟨w.heap.size, k * 10 + 3, none⟩ (.slice (some ⟨g3, 0, none⟩) x.n x.n)).setCell ⟨w.heap.size, k * 10 + 4, none⟩ (.int .i64 x.x1)).setCell ⟨w.heap.size, k * 10 + 5, none⟩ (.int .i64 x.y1)).setCell ⟨w.heap.size, k * 10 + 6, none⟩ (.int .i64 x.s2)).setCell ⟨w.heap.size, k * 10 + 7, none⟩ (.slice (some ⟨g4, 0, none⟩) x.m x.m)).setCell ⟨w.heap.size, k * 10 + 8, none⟩ (.int .i64 x.x2)).setCell ⟨w.heap.size, k * 10 + 9, none⟩ (.int .i64 x.y2))).ownsRow w.heap.size 67 10 (.slice (some ⟨w.heap.size, 0, none⟩) n n) n (fillG Sv.cells Svz (ys ++ [(Sv.mk x.i x.k x.s1 (some ⟨g3, 0, none⟩) x.n x.n x.zs x.x1 x.y1 x.s2 (some ⟨g4, 0, none⟩) x.m x.m x.us x.x2 x.y2)]) (n - (k + 1)))) := Lib.hid (by
      have h9 := (((((((((((((((((((hown.stored (k * 10) (.int .i64 x.i)).1).stored (k * 10 + 1) (.int .i64 x.k)).1).stored (k * 10 + 2) (.int .i64 x.s1)).1).stored (k * 10 + 3) (.slice (some ⟨g3, 0, none⟩) x.n x.n)).1).stored (k * 10 + 4) (.int .i64 x.x1)).1).stored (k * 10 + 5) (.int .i64 x.y1)).1).stored (k * 10 + 6) (.int .i64 x.s2)).1).stored (k * 10 + 7) (.slice (some ⟨g4, 0, none⟩) x.m x.m)).1).stored (k * 10 + 8) (.int .i64 x.x2)).1).stored (k * 10 + 9) (.int .i64 x.y2)).1
      rw [hset] at h9
      exact h9)
    have HYS : Hid (∀ y ∈ ys ++ [(Sv.mk x.i x.k x.s1 (some ⟨g3, 0, none⟩) x.n x.n x.zs x.x1 x.y1 x.s2 (some ⟨g4, 0, none⟩) x.m x.m x.us x.x2 x.y2)], SvOwn w.heap.size w.heap.size (((((((((((w2.setCell ⟨w.heap.size, k * 10, none⟩ (.int .i64 x.i)).setCell ⟨w.heap.size, k * 10 + 1, none⟩ (.int .i64 x.k)).setCell ⟨w.heap.size, k * 10 + 2, none⟩ (.int .i64 x.s1)).setCell ⟨w.heap.size, k * 10 + 3, none⟩ (.slice (some ⟨g3, 0, none⟩) x.n x.n)).setCell ⟨w.heap.size, k * 10 + 4, none⟩ (.int .i64 x.x1)).setCell ⟨w.heap.size, k * 10 + 5, none⟩ (.int .i64 x.y1)).setCell ⟨w.heap.size, k * 10 + 6, none⟩ (.int .i64 x.s2)).setCell ⟨w.heap.size, k * 10 + 7, none⟩ (.slice (some ⟨g4, 0, none⟩) x.m x.m)).setCell ⟨w.heap.size, k * 10 + 8, none⟩ (.int .i64 x.x2)).setCell ⟨w.heap.size, k * 10 + 9, none⟩ (.int .i64 x.y2))) y) := Lib.hid (fun y hy => by
      have h9 : SvOwn w.heap.size w.heap.size w2 y := by
        rcases List.mem_append.1 hy with hy | hy
        · exact HY2.out y hy
        · rw [List.mem_singleton.1 hy]
          exact ⟨g3, g4, ⟨rfl, rfl, rfl, rfl⟩, ⟨HX1.out.1, HX1.out.2.1, HX2.out.1, HX2.out.2.1⟩, HNE.out, HO3.out, HO4.out⟩
      exact ((((((((((h9.set_ _ _).set_ _ _).set_ _ _).set_ _ _).set_ _ _).set_ _ _).set_ _ _).set_ _ _).set_ _ _).set_ _ _))
    have HPS : Hid ((ys ++ [(Sv.mk x.i x.k x.s1 (some ⟨g3, 0, none⟩) x.n x.n x.zs x.x1 x.y1 x.s2 (some ⟨g4, 0, none⟩) x.m x.m x.us x.x2 x.y2)]).Pairwise SvAp) := Lib.hid (List.pairwise_append.2 ⟨HP.out, List.pairwise_singleton _ _, fun y hy y' hy' => by rw [List.mem_singleton.1 hy']; exact HNEW.out y hy⟩)
    have HYDS : Hid ((ys ++ [(Sv.mk x.i x.k x.s1 (some ⟨g3, 0, none⟩) x.n x.n x.zs x.x1 x.y1 x.s2 (some ⟨g4, 0, none⟩) x.m x.m x.us x.x2 x.y2)]).map Sv.d = (xs.take (k + 1)).map Sv.d) := Lib.hid (Lt_snoc HYD.out hks (by rw [HXE.out]; rfl))
    have HYLS : Hid ((ys ++ [(Sv.mk x.i x.k x.s1 (some ⟨g3, 0, none⟩) x.n x.n x.zs x.x1 x.y1 x.s2 (some ⟨g4, 0, none⟩) x.m x.m x.us x.x2 x.y2)]).length = k + 1) := Lib.hid (by rw [List.length_append, hyl]; rfl)
    have HBS : Hid (Below w.heap.size w (((((((((((w2.setCell ⟨w.heap.size, k * 10, none⟩ (.int .i64 x.i)).setCell ⟨w.heap.size, k * 10 + 1, none⟩ (.int .i64 x.k)).setCell ⟨w.heap.size, k * 10 + 2, none⟩ (.int .i64 x.s1)).setCell ⟨w.heap.size, k * 10 + 3, none⟩ (.slice (some ⟨g3, 0, none⟩) x.n x.n)).setCell ⟨w.heap.size, k * 10 + 4, none⟩ (.int .i64 x.x1)).setCell ⟨w.heap.size, k * 10 + 5, none⟩ (.int .i64 x.y1)).setCell ⟨w.heap.size, k * 10 + 6, none⟩ (.int .i64 x.s2)).setCell ⟨w.heap.size, k * 10 + 7, none⟩ (.slice (some ⟨g4, 0, none⟩) x.m x.m)).setCell ⟨w.heap.size, k * 10 + 8, none⟩ (.int .i64 x.x2)).setCell ⟨w.heap.size, k * 10 + 9, none⟩ (.int .i64 x.y2)))) := Lib.hid (((((((((((hb'.out.setCell (p := ⟨w.heap.size, k * 10, none⟩) (Nat.le_refl _) _).setCell (p := ⟨w.heap.size, k * 10 + 1, none⟩) (Nat.le_refl _) _).setCell (p := ⟨w.heap.size, k * 10 + 2, none⟩) (Nat.le_refl _) _).setCell (p := ⟨w.heap.size, k * 10 + 3, none⟩) (Nat.le_refl _) _).setCell (p := ⟨w.heap.size, k * 10 + 4, none⟩) (Nat.le_refl _) _).setCell (p := ⟨w.heap.size, k * 10 + 5, none⟩) (Nat.le_refl _) _).setCell (p := ⟨w.heap.size, k * 10 + 6, none⟩) (Nat.le_refl _) _).setCell (p := ⟨w.heap.size, k * 10 + 7, none⟩) (Nat.le_refl _) _).setCell (p := ⟨w.heap.size, k * 10 + 8, none⟩) (Nat.le_refl _) _).setCell (p := ⟨w.heap.size, k * 10 + 9, none⟩) (Nat.le_refl _) _))
    clear hset hown hyl HO HY HO3 HO4 HNEW HX1 HX2
    go_wp2
    go_roundw
    case rel => exact ⟨k + 1, _, by omega, by go_num, HYLS, HYDS, HST, HYS, HPS, HBS.out⟩
    case measure => simp [intOf]; omega
theorem Sv_same {x y : Sv} (h : x.d = y.d) : x.i = y.i ∧ x.k = y.k ∧ x.s1 = y.s1 ∧ x.zs = y.zs ∧ x.x1 = y.x1 ∧ x.y1 = y.y1 ∧ x.s2 = y.s2 ∧ x.us = y.us ∧ x.x2 = y.x2 ∧ x.y2 = y.y2 := by
  unfold Sv.d at h
  injection h with e0 e1 e2 e3 e4 e5 e6 e7 e8 e9
  exact ⟨e0, e1, e2, e3, e4, e5, e6, e7, e8, e9⟩
set_option maxRecDepth 100000 in
set_option maxHeartbeats 8000000 in
theorem eqSvs (g g' n B B' : Nat) (xs ys : List Sv) (w : World) (hx : Svs B g n xs w) (hy : Svs B' g' n ys w) (hd : xs.map Sv.d = ys.map Sv.d) (hs : n ≤ 1048576) :
    Calls Tryd.prog 14 #[.slice (some ⟨g, 0, none⟩) n n, .slice (some ⟨g', 0, none⟩) n n] w fun e w' => e = .returned (.bool true) ∧ Below w.heap.size w w' := by
  have HX := Lib.hid hx; have HYY := Lib.hid hy; have HD := Lib.hid hd
  clear hx hy hd
  go_enter Tryd.func14, Tryd.ntmps14
  go_wp2
  go_loopw [5] (fun i wr => ∃ k : Nat, k ≤ n ∧ i = .int .i64 k ∧ Below w.heap.size w wr) (fun i _ => n - (intOf i).toNat)
  case atStart => exact ⟨0, Nat.zero_le _, rfl, Below.refl _ _⟩
  case round =>
    obtain ⟨k, hk, rfl, hb⟩ := hrel
    by_cases hlt : k < n
    case neg =>
      go_wp2
      go_ret
      exact ⟨rfl, hb⟩
    case pos =>
    have hkx : k < xs.length := by have := HX.out.len; omega
    have hky : k < ys.length := by have := HYY.out.len; omega
    obtain ⟨hg, c0, c1, c2, c3, c4, c5, c6, c7, c8, c9⟩ := (HX.out.rd.over hb).svc hkx
    obtain ⟨hg', d0, d1, d2, d3, d4, d5, d6, d7, d8, d9⟩ := (HYY.out.rd.over hb).svc hky
    rw [Nat.zero_add] at c0 d0 c1 d1 c2 d2 c3 d3 c4 d4 c5 d5 c6 d6 c7 d7 c8 d8 c9 d9
    have hox := HX.out.own xs[k] (List.getElem_mem hkx)
    have hoy := HYY.out.own ys[k] (List.getElem_mem hky)
    have hde : xs[k].d = ys[k].d := by
      have h9 := congrArg (fun l => l[k]?) HD.out
      simpa [hkx, hky] using h9
    have hsm := Sv_same hde
    generalize xs[k]'hkx = x at c0 c1 c2 c3 c4 c5 c6 c7 c8 c9 hox hsm
    generalize ys[k]'hky = y at d0 d1 d2 d3 d4 d5 d6 d7 d8 d9 hoy hsm
    obtain ⟨i_, k_, s1, A1, m1, cc1, zs, x1, y1, s2, A2, m2, cc2, us, x2, y2⟩ := x
    obtain ⟨i', k', s1', A1', m1', cc1', zs', x1', y1', s2', A2', m2', cc2', us', x2', y2'⟩ := y
    obtain ⟨a1, b1, ⟨e1, e2, e3, e4⟩, ⟨l1, l2, l3, l4⟩, _, ho1, hp1⟩ := hox
    obtain ⟨a2, b2, ⟨e5, e6, e7, e8⟩, ⟨l5, l6, l7, l8⟩, _, ho2, hp2⟩ := hoy
    simp only at e1 e2 e3 e4 e5 e6 e7 e8 l1 l2 l3 l4 l5 l6 l7 l8 ho1 hp1 ho2 hp2 hsm
    obtain ⟨rfl, rfl, rfl, rfl, rfl, rfl, rfl, rfl, rfl, rfl⟩ := hsm
    subst e1 e2 e5 e6
    have em : m1 = m1' := by rw [← l1, ← l5]
    have em2 : m2 = m2' := by rw [← l3, ← l7]
    have e3s := e3.symm; have e4s := e4.symm; have e7s := e7.symm; have e8s := e8.symm
    subst em em2 e3s e4s e7s e8s
    have HZN := Lib.hid l1; have HZS := Lib.hid l2; have HUN := Lib.hid l3; have HUS := Lib.hid l4
    have HZ1 := Lib.hid (Rd.ofOwnK ho1); have HZ2 := Lib.hid (Rd.ofOwnK ho2)
    have HU1 := Lib.hid (Rd.ofOwnK hp1); have HU2 := Lib.hid (Rd.ofOwnK hp2)
    clear l1 l2 l3 l4 l5 l6 l7 l8 ho1 ho2 hp1 hp2 hde hkx hky
    go_wp2
    have hbd : Bel w wr.drew := Bel.of hb.drew
    go_region_held3 (fun U => U.cell? ⟨g, k * 10, none⟩ = some (.int .i64 i_) ∧ U.cell? ⟨g, k * 10 + 1, none⟩ = some (.int .i64 k_) ∧ U.cell? ⟨g, k * 10 + 2, none⟩ = some (.int .i64 s1) ∧ U.cell? ⟨g, k * 10 + 3, none⟩ = some (.slice (some ⟨a1, 0, none⟩) m1 m1) ∧ U.cell? ⟨g, k * 10 + 4, none⟩ = some (.int .i64 x1) ∧ U.cell? ⟨g, k * 10 + 5, none⟩ = some (.int .i64 y1) ∧ U.cell? ⟨g, k * 10 + 6, none⟩ = some (.int .i64 s2) ∧ U.cell? ⟨g, k * 10 + 7, none⟩ = some (.slice (some ⟨b1, 0, none⟩) m2 m2) ∧ U.cell? ⟨g, k * 10 + 8, none⟩ = some (.int .i64 x2) ∧ U.cell? ⟨g, k * 10 + 9, none⟩ = some (.int .i64 y2) ∧ U.cell? ⟨g', k * 10, none⟩ = some (.int .i64 i_) ∧ U.cell? ⟨g', k * 10 + 1, none⟩ = some (.int .i64 k_) ∧ U.cell? ⟨g', k * 10 + 2, none⟩ = some (.int .i64 s1) ∧ U.cell? ⟨g', k * 10 + 3, none⟩ = some (.slice (some ⟨a2, 0, none⟩) m1 m1) ∧ U.cell? ⟨g', k * 10 + 4, none⟩ = some (.int .i64 x1) ∧ U.cell? ⟨g', k * 10 + 5, none⟩ = some (.int .i64 y1) ∧ U.cell? ⟨g', k * 10 + 6, none⟩ = some (.int .i64 s2) ∧ U.cell? ⟨g', k * 10 + 7, none⟩ = some (.slice (some ⟨b2, 0, none⟩) m2 m2) ∧ U.cell? ⟨g', k * 10 + 8, none⟩ = some (.int .i64 x2) ∧ U.cell? ⟨g', k * 10 + 9, none⟩ = some (.int .i64 y2) ∧ Bel w U)
      (first | go_keep | (go_split_ands; (refine ⟨?_, ?_, ?_, ?_, ?_, ?_, ?_, ?_, ?_, ?_, ?_, ?_, ?_, ?_, ?_, ?_, ?_, ?_, ?_, ?_, ?_⟩ <;> first | assumption | exact Bel.step (by assumption) hb2 | exact (Bel.at_ (by assumption) hb2 (by assumption)).trans (by assumption))))
      (first | (go_at_call 38; go_split_ands; refine (eqSv _ _ _ _ _ _ _ _ a1 a2 _ _ _ b1 b2 _ _ _ zs us _ HZN.out HZS.out (HZ1.out.moved (Bel.out (by assumption))) (HZ2.out.moved (Bel.out (by assumption))) HUN.out HUS.out (HU1.out.moved (Bel.out (by assumption))) (HU2.out.moved (Bel.out (by assumption)))).mono ?_; rintro e w2 ⟨rfl, hb2⟩))
    all_goals
      go_wp2
      go_roundw
      case rel => (go_split_ands; exact ⟨k + 1, by omega, by go_num, Bel.out (by assumption)⟩)
      case measure => simp [intOf]; omega
end Go.Proofs.YtlgkjidginibdaaDoor
