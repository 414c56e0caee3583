/- Lights: a step of defragmentation: the specification's contract. No condition but those typed. -/
import Derived.Test.YtflniajjecfgeaaGreatDoorDfP
import Derived.Test.YtflniajjecfgeaaGreatDoorLowG
import Derived.Test.YtflniajjecfgeaaGreatDoorCpp
import Derived.BigRegion
namespace Go.Proofs.YtflniajjecfgeaaGreatDoor
open Go.ChangeShapes Go.WideShapes Go.ChangeAt Go.RowKit

theorem own_cap {w : World} {B E s n c g : Nat} {xs : List Value} (h : w.ownsRow B E s (.slice (some ⟨g, 0, none⟩) n c) n xs) : n ≤ c := by
  rcases h.2 with ⟨h9, _⟩ | ⟨g9, cap, cur, h9, _, _, h10, _⟩
  · cases h9
  · injection h9 with _ _ h11; omega
theorem setsLt5 : ∀ (ys : List Lt) (k : Nat) (hk : k < ys.length) (y' : Lt), ((((((ys.flatMap Lt.cells).set (k * 5) (.int .i64 y'.p0)).set (k * 5 + 1) (.int .i64 y'.p1)).set (k * 5 + 2) (.slice y'.A y'.n y'.c)).set (k * 5 + 3) (.int .i64 y'.q0)).set (k * 5 + 4) (.int .i64 y'.q1)) = (ys.set k y').flatMap Lt.cells
  | q :: r, 0, _, y' => by simp [Lt.cells]
  | q :: r, k + 1, h, y' => by
    have ih := setsLt5 r k (by simpa using h) y'
    rw [List.flatMap_cons, lt_skip0, lt_skip, lt_skip, lt_skip, lt_skip, ih]
    simp
/-- the lights behind the stores of a step. -/
theorem dg_store {B g n d k : Nat} {zs : List Lt} {w3 : World} (hC : LtC B (some ⟨g, 0, none⟩) n d zs w3) (hk : k < zs.length) (o : Obj) (u3 u4 : Value) (q0 : Int) :
    LtC B (some ⟨g, 0, none⟩) n d (zs.set k ⟨zs[k].p0, zs[k].p1, zs[k].A, zs[k].n, zs[k].c, zs[k].zs, q0, zs[k].q1⟩)
      ((((((((w3.alloc o).setCell ⟨w3.heap.size, 3, none⟩ u3).setCell ⟨w3.heap.size, 4, none⟩ u4).setCell ⟨g, k * 5, none⟩ (.int .i64 zs[k].p0)).setCell ⟨g, k * 5 + 1, none⟩ (.int .i64 zs[k].p1)).setCell ⟨g, k * 5 + 2, none⟩ (.slice zs[k].A zs[k].n zs[k].c)).setCell ⟨g, k * 5 + 3, none⟩ (.int .i64 q0)).setCell ⟨g, k * 5 + 4, none⟩ (.int .i64 zs[k].q1)) := by
  have hg := (hC.row.lt g rfl).2
  have hrow : ∀ {E s m : Nat} {v : Value} {xs : List Value}, w3.ownsRow B E s v m xs → (((w3.alloc o).setCell ⟨w3.heap.size, 3, none⟩ u3).setCell ⟨w3.heap.size, 4, none⟩ u4).ownsRow B E s v m xs := fun h => by
    have hne : ∀ b, b = w3.heap.size → _root_.Go.Value.ownBlock _ ≠ some b := fun b hb e => by have := (h.lt b e).2; omega
    exact ownsRow_setCell_other (ownsRow_setCell_other (h.alloc o) (a := ⟨w3.heap.size, 3, none⟩) (hne _ rfl) _) (a := ⟨w3.heap.size, 4, none⟩) (hne _ rfl) _
  have h5 := hrow hC.row
  have h6 := ((((((h5.stored (k * 5) (.int .i64 zs[k].p0)).1.stored (k * 5 + 1) (.int .i64 zs[k].p1)).1.stored (k * 5 + 2) (.slice zs[k].A zs[k].n zs[k].c)).1.stored (k * 5 + 3) (.int .i64 q0)).1.stored (k * 5 + 4) (.int .i64 zs[k].q1)).1)
  have hoth : ∀ y ∈ zs, LtO B ((((((((w3.alloc o).setCell ⟨w3.heap.size, 3, none⟩ u3).setCell ⟨w3.heap.size, 4, none⟩ u4).setCell ⟨g, k * 5, none⟩ (.int .i64 zs[k].p0)).setCell ⟨g, k * 5 + 1, none⟩ (.int .i64 zs[k].p1)).setCell ⟨g, k * 5 + 2, none⟩ (.slice zs[k].A zs[k].n zs[k].c)).setCell ⟨g, k * 5 + 3, none⟩ (.int .i64 q0)).setCell ⟨g, k * 5 + 4, none⟩ (.int .i64 zs[k].q1)) y := fun y hy => by
    have ho := hC.own y hy
    have hne : (ltv y).ownBlock ≠ some g := fun e => hC.ap ho g e rfl
    exact ⟨ho.1, ho.2.1, ownsRow_setCell_other (ownsRow_setCell_other (ownsRow_setCell_other (ownsRow_setCell_other (ownsRow_setCell_other (hrow ho.2.2) (a := ⟨g, _, none⟩) hne _) (a := ⟨g, _, none⟩) hne _) (a := ⟨g, _, none⟩) hne _) (a := ⟨g, _, none⟩) hne _) (a := ⟨g, _, none⟩) hne _⟩
  have hyk := hoth zs[k] (List.getElem_mem hk)
  refine hC.setN hk (y' := ⟨zs[k].p0, zs[k].p1, zs[k].A, zs[k].n, zs[k].c, zs[k].zs, q0, zs[k].q1⟩) rfl rfl rfl ?_ ⟨hyk.1, hyk.2.1, hyk.2.2⟩ (fun i hi _ => hoth zs[i] (List.getElem_mem hi))
  rw [← setsLt5 zs k hk ⟨zs[k].p0, zs[k].p1, zs[k].A, zs[k].n, zs[k].c, zs[k].zs, q0, zs[k].q1⟩]
  exact h6
def stepDs (ds : List LtD) (hl : Bool) : List LtD := match stepF ds hl with
  | none => ds
  | some i => mvD ds hl i
def stepId (ds : List LtD) (hl : Bool) : Int := match stepF ds hl with
  | none => 0
  | some i => (dn ds i).p0
/-- an answer: a plan and a number. -/
def StpO (ss : List ByteArray) (fs : List Q4) (n1 n2 n3 : Nat) (ds : List LtD) (v : Int) (w : World) (e : Ending) (w' : World) : Prop :=
  ∃ (A1 A2 A3 : Option Addr) (d1 d2 d3 : Nat) (zs : List Lt), e = .returned (.tuple #[.agg #[.slice A1 n1 d1, .slice A2 n2 d2, .slice A3 n3 d3], .int .i64 v]) ∧ Hid (zs.map Lt.d = ds) ∧
    w'.ownsRow (w.heap.size + 2) 9 1 (.slice A1 n1 d1) n1 (ss.map Value.string) ∧ w'.ownsRow (w.heap.size + 2) 109 4 (.slice A2 n2 d2) n2 (fs.flatMap Q4.cells) ∧ LtC (w.heap.size + 2) A3 n3 d3 zs w' ∧ Below w.heap.size w w'
theorem StpO_fin {w X : World} {ss : List ByteArray} {fs : List Q4} {ds : List LtD} {v : Int} {A1 A2 A3 : Option Addr} {n1 n2 n3 d1 d2 d3 : Nat} {zs : List Lt} {u1 u2 u3 : Value} (hz : zs.map Lt.d = ds)
    (ho1 : X.ownsRow (w.heap.size + 2) 9 1 (.slice A1 n1 d1) n1 (ss.map Value.string)) (ho2 : X.ownsRow (w.heap.size + 2) 109 4 (.slice A2 n2 d2) n2 (fs.flatMap Q4.cells)) (hC : LtC (w.heap.size + 2) A3 n3 d3 zs X) (hbw : Below w.heap.size w X) :
    StpO ss fs n1 n2 n3 ds v w (.returned (.tuple #[.agg #[.slice A1 n1 d1, .slice A2 n2 d2, .slice A3 n3 d3], .int .i64 v])) (((X.setCell ⟨w.heap.size + 1, 0, none⟩ u1).setCell ⟨w.heap.size + 1, 1, none⟩ u2).setCell ⟨w.heap.size + 1, 2, none⟩ u3) :=
  ⟨A1, A2, A3, d1, d2, d3, zs, rfl, Lib.hid hz,
    ownsRow_setCell_below (ownsRow_setCell_below (ownsRow_setCell_below ho1 (a := ⟨w.heap.size + 1, 0, none⟩) (Nat.lt_succ_self _) _) (a := ⟨w.heap.size + 1, 1, none⟩) (Nat.lt_succ_self _) _) (a := ⟨w.heap.size + 1, 2, none⟩) (Nat.lt_succ_self _) _,
    ownsRow_setCell_below (ownsRow_setCell_below (ownsRow_setCell_below ho2 (a := ⟨w.heap.size + 1, 0, none⟩) (Nat.lt_succ_self _) _) (a := ⟨w.heap.size + 1, 1, none⟩) (Nat.lt_succ_self _) _) (a := ⟨w.heap.size + 1, 2, none⟩) (Nat.lt_succ_self _) _,
    LtC.low (LtC.low (LtC.low hC (Nat.lt_succ_self _) _) (Nat.lt_succ_self _) _) (Nat.lt_succ_self _) _,
    ((hbw.setCell (p := ⟨w.heap.size + 1, 0, none⟩) (Nat.le_succ _) _).setCell (p := ⟨w.heap.size + 1, 1, none⟩) (Nat.le_succ _) _).setCell (p := ⟨w.heap.size + 1, 2, none⟩) (Nat.le_succ _) _⟩
theorem StpO.drew {w w' : World} {e : Ending} {ss : List ByteArray} {fs : List Q4} {n1 n2 n3 : Nat} {ds : List LtD} {v : Int} (h : StpO ss fs n1 n2 n3 ds v w e w') : StpO ss fs n1 n2 n3 ds v w e w'.drew := by
  obtain ⟨A1, A2, A3, d1, d2, d3, zs, a1, a2, a3, a4, a5, a6⟩ := h
  exact ⟨A1, A2, A3, d1, d2, d3, zs, a1, a2, own_heapW rfl a3, own_heapW rfl a4, a5.heapW rfl, a6.drew⟩

set_option maxRecDepth 100000 in
set_option maxHeartbeats 2000000 in
theorem l21Step_ {g1 g2 g3 n1 n2 n3 c1 c2 c3 : Nat} {ss : List ByteArray} {fs : List Q4} {ys : List Lt} {ds : List LtD} {w : World} (h : NetAt g1 g2 n1 n2 c1 c2 ss fs w) (hT : LtR (some ⟨g3, 0, none⟩) n3 ys w) (hd : ys.map Lt.d = ds) (hs : n3 ≤ 12)
    (hblk : ∀ t, t < ds.length → blkP (dn ds t).q0 (dn ds t).q1) (hne : ∀ d ∈ ds, d.zs ≠ []) (hso : ∀ y ∈ ys, ∃ ad, y.A = some ad) (hp1 : 0 < n1) (hp2 : 0 < n3 → 0 < n2) (hl : Bool) :
    Calls Tryz.prog 27 #[.agg #[.slice (some ⟨g1, 0, none⟩) n1 c1, .slice (some ⟨g2, 0, none⟩) n2 c2, .slice (some ⟨g3, 0, none⟩) n3 c3], .bool hl] w (StpO ss fs n1 n2 n3 (stepDs ds hl) (stepId ds hl) w) := by
  have HNT := Lib.hid h; have HT := Lib.hid hT; have HD := Lib.hid hd; have HSO := Lib.hid hso; have HBLK := Lib.hid hblk; have HNE := Lib.hid hne; have HP2 := Lib.hid hp2
  have HLD : Hid (ds.length = n3) := Lib.hid (by rw [← hd, List.length_map]; exact hT.len)
  clear h hT hd hso hblk hne hp2
  obtain ⟨sD, hsD⟩ : ∃ r, stepDs ds hl = r := ⟨_, rfl⟩
  obtain ⟨sI, hsI⟩ : ∃ r, stepId ds hl = r := ⟨_, rfl⟩
  have HSD := Lib.hid hsD; have HSI := Lib.hid hsI
  rw [hsD, hsI]
  clear hsD hsI
  go_enter Tryz.func27, Tryz.ntmps27
  go_wp2_with fail
  obtain ⟨W0, hW0⟩ : ∃ W0, (w.alloc (Obj.cells #[.slice (some ⟨g1, 0, none⟩) n1 c1, .slice (some ⟨g2, 0, none⟩) n2 c2, .slice (some ⟨g3, 0, none⟩) n3 c3] 35)).alloc (Obj.cells #[.slice none 0 0, .slice none 0 0, .slice none 0 0] 35) = W0 := ⟨_, rfl⟩
  have hb0 : Below w.heap.size w W0 := by rw [← hW0]; exact ((Below.refl _ _).alloc (Nat.le_refl _) _).alloc (by simp) _
  have HR0 : Hid (W0.ownsRow (w.heap.size + 1) 35 3 (.slice (some ⟨w.heap.size + 1, 0, none⟩) 1 1) 1 [.slice none 0 0, .slice none 0 0, .slice none 0 0]) := Lib.hid (by
    rw [← hW0]
    have := one_rowP (w.alloc (Obj.cells #[.slice (some ⟨g1, 0, none⟩) n1 c1, .slice (some ⟨g2, 0, none⟩) n2 c2, .slice (some ⟨g3, 0, none⟩) n3 c3] 35)) (.slice none 0 0) (.slice none 0 0) (.slice none 0 0) (base := w.heap.size + 1) (by simp)
    simpa using this)
  have hz0 : W0.heap.size = w.heap.size + 2 := by rw [← hW0]; simp
  have HB0 := Lib.hid hb0; have HZ0 := Lib.hid hz0
  rw [hW0]
  clear hW0 hb0
  have CN := Lib.hid (l9Own_ (c3 := c3) (HNT.out.moved HB0.out) HT.out.len (HT.out.moved HB0.out).rd (HT.out.moved HB0.out).at_ HSO.out (by omega))
  refine CN.out.mono ?_
  rintro e w1 ⟨A1, A2, A3, d1, d2, d3, zs, rfl, hzd, hn1, hn2, hlc, hb1⟩
  have HZD : Hid (zs.map Lt.d = ds) := Lib.hid (hzd.trans HD.out)
  have HLC := Lib.hid (hlc.base (B' := w.heap.size + 2) (by have := HZ0.out; omega))
  have HO1 := Lib.hid (own_base (B' := w.heap.size + 2) hn1 (by have := HZ0.out; omega)); have HO2 := Lib.hid (own_base (B' := w.heap.size + 2) hn2 (by have := HZ0.out; omega))
  have HR1 := Lib.hid (ownB HR0.out hb1)
  have HB1 := Lib.hid (HB0.out.trans (hb1.mono (by have := HZ0.out; omega)))
  have HZW : Hid (w.heap.size + 2 ≤ w1.heap.size) := Lib.hid (by have := hb1.size; have := HZ0.out; omega)
  clear hzd hn1 hn2 hlc hb1 hz0
  go_wp2_with fail
  obtain ⟨bx, hbx⟩ : ∃ b, w1.heap.size = b := ⟨_, rfl⟩
  obtain ⟨w2, hw2⟩ : ∃ w2, w1.alloc (Obj.cells #[.slice A1 n1 d1, .slice A2 n2 d2, .slice A3 n3 d3] 35) = w2 := ⟨_, rfl⟩
  have hb2 : Below w1.heap.size w1 w2 := by rw [← hw2]; exact (Below.refl _ _).alloc (Nat.le_refl _) _
  have hrx : w2.ownsRow bx 35 3 (.slice (some ⟨bx, 0, none⟩) 1 1) 1 [.slice A1 n1 d1, .slice A2 n2 d2, .slice A3 n3 d3] := by rw [← hw2, ← hbx]; exact one_rowP w1 _ _ _ (Nat.le_refl _)
  have HB2 := Lib.hid (HB1.out.trans (hb2.mono HB1.out.size))
  have HLC2 := Lib.hid (HLC.out.moved hb2)
  have HO12 := Lib.hid (ownB HO1.out hb2); have HO22 := Lib.hid (ownB HO2.out hb2)
  have HR2 := Lib.hid (ownB HR1.out hb2)
  have HK : Hid (∀ u, Below w2.heap.size w2 u → u.cell? ⟨bx, 0, none⟩ = some (.slice A1 n1 d1) ∧ u.cell? ⟨bx, 1, none⟩ = some (.slice A2 n2 d2) ∧ u.cell? ⟨bx, 2, none⟩ = some (.slice A3 n3 d3) ∧ bx < u.heap.size) := Lib.hid fun u hu => by
    obtain ⟨a, b, c, _, _, _, d⟩ := px_facts (ownB hrx hu)
    exact ⟨a, b, c, d⟩
  have HS : Hid (∀ u, Below w2.heap.size w2 u → u.cell? ⟨w.heap.size + 1, 0, none⟩ = some (.slice none 0 0) ∧ u.cell? ⟨w.heap.size + 1, 1, none⟩ = some (.slice none 0 0) ∧ u.cell? ⟨w.heap.size + 1, 2, none⟩ = some (.slice none 0 0) ∧ u.frozen? ⟨w.heap.size + 1, 0, none⟩ = false ∧ u.frozen? ⟨w.heap.size + 1, 1, none⟩ = false ∧ u.frozen? ⟨w.heap.size + 1, 2, none⟩ = false ∧ w.heap.size + 1 < u.heap.size) := Lib.hid fun u hu => px_facts (ownB HR2.out hu)
  have HZ2 : Hid (w.heap.size + 2 ≤ bx ∧ bx < w2.heap.size) := Lib.hid ⟨by have := HZW.out; omega, by rw [← hw2, ← hbx]; simp⟩
  have HRX := Lib.hid hrx
  rw [hw2, hbx]
  clear hw2 hbx hb2 hrx
  clear HLC HO1 HO2 HR1 HR0
  have ⟨y0, y1, y2, y3⟩ := HK.out w2 (Below.refl _ _)
  go_wp2_with fail
  clear y0 y1 y2 y3
  go_loopw [7] (fun i wr => ∃ k : Nat, k ≤ n3 ∧ i = .int .i64 (k : Int) ∧ Hid (∀ j, j < k → canB ds hl j = false) ∧ Below w2.heap.size w2 wr) (fun i _ => n3 - (intOf i).toNat)
  case atStart => exact ⟨0, Nat.zero_le _, rfl, Lib.hid (fun j hj => absurd hj (by omega)), Below.refl _ _⟩
  case round =>
    obtain ⟨k, hk, rfl, HNO, hb⟩ := hrel
    have HBR := Lib.hid hb
    have HBW := Lib.hid (HB2.out.trans (hb.mono HB2.out.size))
    obtain ⟨y0, y1, y2, y3⟩ := HK.out wr hb
    clear hb
    by_cases hlt : k < n3
    case neg =>
      have HSN : Hid (stepF ds hl = none) := Lib.hid (stepR_none (fun j hj => HNO.out j (by have := HLD.out; omega)))
      have HE : Hid (sD = ds ∧ sI = 0) := Lib.hid ⟨by rw [← HSD.out]; unfold stepDs; rw [HSN.out], by rw [← HSI.out]; unfold stepId; rw [HSN.out]⟩
      obtain ⟨rfl, rfl⟩ := HE.out
      obtain ⟨s0, s1, s2, s3, s4, s5, s6⟩ := HS.out wr HBR.out
      have hl1 : ¬ ((k : Int) < (n3 : Int)) := by omega
      go_wp2
      refine bodyPost_ret (v := .tuple #[.agg #[.slice A1 n1 d1, .slice A2 n2 d2, .slice A3 n3 d3], .int .i64 0]) ?_ rfl ?_
      · simp [results, Tryz.results27, go_sem, s0, s1, s2, s6]
      · exact StpO_fin HZD.out (ownB HO12.out HBR.out) (ownB HO22.out HBR.out) (HLC2.out.moved HBR.out) HBW.out
    case pos =>
    have hkz : k < zs.length := by rw [HLC2.out.len]; exact hlt
    obtain ⟨h1, rfl⟩ := own_some HO12.out hp1
    obtain ⟨h2, rfl⟩ := own_some HO22.out (HP2.out (by omega))
    obtain ⟨h3, rfl⟩ := own_some HLC2.out.row (by omega)
    have HNX : Hid (∀ u, Below w2.heap.size w2 u → NetAt h1 h2 n1 n2 d1 d2 ss fs u) := Lib.hid fun u hu => ⟨HNT.out.ln1, HNT.out.sm1, own_cap HO12.out, (Rd.ofOwn (ownB HO12.out hu)), HNT.out.ws, HNT.out.ln2, HNT.out.sm2, rdOwnA (ownB HO22.out hu)⟩
    have HTX : Hid (∀ u, Below w2.heap.size w2 u → LtR (some ⟨h3, 0, none⟩) n3 zs u) := Lib.hid fun u hu => (HLC2.out.moved hu).toR
    have HSX : Hid (∀ y ∈ zs, ∃ ad, y.A = some ad) := Lib.hid fun y hy => by
      have ho := HLC2.out.own y hy
      have hm : y.d ∈ ds := by rw [← HZD.out]; exact List.mem_map_of_mem hy
      have h9 := HNE.out _ hm
      have h10 : 0 < y.n := by
        rw [← ho.1]
        exact List.length_pos_iff.2 h9
      obtain ⟨q, hq⟩ := own_some ho.2.2 h10
      exact ⟨_, hq⟩
    have CL := Lib.hid (l21LowG_ (c3 := d3) (HNX.out wr HBR.out) (HTX.out wr HBR.out) HZD.out hs HBLK.out HSX.out k hlt hl)
    obtain ⟨r, hr⟩ : ∃ r, lowV ds k hl = r := ⟨_, rfl⟩
    rw [hr] at CL
    have HRV := Lib.hid hr
    clear hr
    obtain ⟨f, c, hf0, hc0, hc1, hfc⟩ := blk_parts (HBLK.out k (by rw [HLD.out]; exact hlt))
    obtain ⟨x, hxe⟩ : ∃ y, zs[k]'hkz = y := ⟨_, rfl⟩
    have HDX := Lib.hid (dn_at HZD.out hkz hxe)
    have HXE := Lib.hid hxe
    rw [HDX.out] at hf0 hc0
    have hqf : x.q0 = (f : Int) := hf0
    have hqc : x.q1 = (c : Int) := hc0
    have HFT : Hid ((dn ds k).q0.toNat = f) := Lib.hid (by rw [HDX.out]; show x.q0.toNat = f; rw [hqf]; rfl)
    have HQF := Lib.hid hqf; have HQC := Lib.hid hqc
    have HCL : Hid (∀ u, Below w2.heap.size w2 u → h3 < u.heap.size ∧ u.cell? ⟨h3, k * 5, none⟩ = some (.int .i64 x.p0) ∧ u.cell? ⟨h3, k * 5 + 1, none⟩ = some (.int .i64 x.p1) ∧ u.cell? ⟨h3, k * 5 + 2, none⟩ = some (.slice x.A x.n x.c) ∧ u.cell? ⟨h3, k * 5 + 3, none⟩ = some (.int .i64 (f : Int)) ∧ u.cell? ⟨h3, k * 5 + 4, none⟩ = some (.int .i64 (c : Int))) := Lib.hid fun u hu => by
      have h9 := (HTX.out u hu).rd.ltc hkz
      rw [Nat.zero_add, HXE.out, HQF.out, HQC.out] at h9
      exact h9
    clear hf0 hc0 hqf hqc hxe
    have hkI : (k : Int) < (n3 : Int) := by omega
    go_wp2_with fail
    refine CL.out.mono ?_
    rintro e w3 ⟨rfl, hb3⟩
    have HB3 := Lib.hid (HBR.out.trans (hb3.mono HBR.out.size))
    have HB3W := Lib.hid (HBW.out.trans (hb3.mono HBW.out.size))
    clear hb3 y0 y1 y2 y3
    obtain ⟨y0, y1, y2, y3⟩ := HK.out w3 HB3.out
    obtain ⟨e0, e1, e2, e3, e4, e5⟩ := HCL.out w3 HB3.out
    by_cases hrf : r < f
    case neg =>
      have HNO2 : Hid (∀ j, j < k + 1 → canB ds hl j = false) := Lib.hid (fun j hj => by
        by_cases hjk : j < k
        · exact HNO.out j hjk
        · obtain rfl : j = k := by omega
          unfold canB; rw [HRV.out, HFT.out]; exact decide_eq_false hrf)
      have hr1 : ¬ ((r : Int) < (f : Int)) := by omega
      have hr2 : decide ((r : Int) < (f : Int)) = false := decide_eq_false hr1
      have hr3 : decide (r < f) = false := decide_eq_false hrf
      clear hlt
      go_wp2
      go_roundw
      case rel => exact ⟨k + 1, by omega, by go_num, HNO2, HB3.out⟩
      case measure => simp [intOf]; omega
    case pos =>
    have HSN : Hid (stepF ds hl = some k) := Lib.hid (stepR_some (by unfold canB; rw [HRV.out, HFT.out]; exact decide_eq_true hrf) HNO.out (by rw [HLD.out]; exact hlt))
    have HE : Hid (sD = mvD ds hl k ∧ sI = x.p0) := Lib.hid ⟨by rw [← HSD.out]; unfold stepDs; rw [HSN.out], by rw [← HSI.out]; unfold stepId; rw [HSN.out]; show (dn ds k).p0 = x.p0; rw [HDX.out]; rfl⟩
    obtain ⟨rfl, rfl⟩ := HE.out
    have HZF : Hid ((zs.set k ⟨zs[k].p0, zs[k].p1, zs[k].A, zs[k].n, zs[k].c, zs[k].zs, (r : Int), zs[k].q1⟩).map Lt.d = mvD ds hl k) := Lib.hid (by
      rw [List.map_set, HZD.out]
      unfold mvD mvX
      rw [HRV.out, HDX.out, HXE.out]; rfl)
    have hr1 : (r : Int) < (f : Int) := by omega
    have hr2 : decide ((r : Int) < (f : Int)) = true := decide_eq_true hr1
    have hr3 : decide (r < f) = true := decide_eq_true hrf
    clear hlt
    go_upto_region 8 with fail
    obtain ⟨b9, hb9⟩ : ∃ b, w3.heap.size = b := ⟨_, rfl⟩
    have HB9 := Lib.hid hb9
    obtain ⟨W4, hW4⟩ : ∃ W4, w3.alloc (Obj.cells #[.int .i64 x.p0, .int .i64 x.p1, .slice x.A x.n x.c, .int .i64 (f : Int), .int .i64 (c : Int)] 62) = W4 := ⟨_, rfl⟩
    have hb4 : Below w3.heap.size w3 W4 := by rw [← hW4]; exact (Below.refl _ _).alloc (Nat.le_refl _) _
    have hr9 : W4.ownsRow b9 62 5 (.slice (some ⟨b9, 0, none⟩) 1 1) 1 [.int .i64 x.p0, .int .i64 x.p1, .slice x.A x.n x.c, .int .i64 (f : Int), .int .i64 (c : Int)] := by rw [← hW4, ← hb9]; exact one_rowL w3 _ _ _ _ _ (Nat.le_refl _)
    have HW4 := Lib.hid hW4
    have HR9 := Lib.hid hr9
    have HB4 := Lib.hid (HB3.out.trans (hb4.mono HB3.out.size))
    have hz4 := (hr9.lt b9 rfl).2
    have t3 := hr9.frozenAt 3; have t4 := hr9.frozenAt 4
    have v4 := hr9.cellAt 4 (by decide)
    have v3 := hr9.cellAt 3 (by decide)
    simp only [List.getElem?_cons_zero, List.getElem?_cons_succ] at v3 v4
    rw [hW4, hb9]
    clear hW4 hb4 hr9 hb9 y0 y1 y2 y3 e0 e1 e2 e3 e4 e5
    go_upto_region 9 with fail
    obtain ⟨W5, hW5⟩ : ∃ W5, (W4.setCell ⟨b9, 3, none⟩ (.int .i64 (r : Int))).setCell ⟨b9, 4, none⟩ (.int .i64 (c : Int)) = W5 := ⟨_, rfl⟩
    have HW5 := Lib.hid hW5
    have hr5 : W5.ownsRow b9 62 5 (.slice (some ⟨b9, 0, none⟩) 1 1) 1 [.int .i64 x.p0, .int .i64 x.p1, .slice x.A x.n x.c, .int .i64 (r : Int), .int .i64 (c : Int)] := by
      rw [← hW5]
      exact ((HR9.out.stored 3 (.int .i64 (r : Int))).1.stored 4 (.int .i64 (c : Int))).1
    have hz39 : w3.heap.size ≤ b9 := Nat.le_of_eq HB9.out
    have hb5 : Below w3.heap.size w3 W5 := by
      rw [← hW5, ← HW4.out]
      exact (((Below.refl w3.heap.size w3).alloc (Nat.le_refl _) _).setCell (p := ⟨b9, 3, none⟩) hz39 _).setCell (p := ⟨b9, 4, none⟩) hz39 _
    have HB5 := Lib.hid (HB3.out.trans (hb5.mono HB3.out.size))
    have HB5W := Lib.hid (HB3W.out.trans (hb5.mono HB3W.out.size))
    have HR5 := Lib.hid hr5
    have c0 := hr5.cellAt 0 (by decide); have c1_ := hr5.cellAt 1 (by decide); have c2_ := hr5.cellAt 2 (by decide); have c3_ := hr5.cellAt 3 (by decide); have c4_ := hr5.cellAt 4 (by decide)
    simp only [List.getElem?_cons_zero, List.getElem?_cons_succ] at c0 c1_ c2_ c3_ c4_
    have hz5 := (hr5.lt b9 rfl).2
    rw [hW5]
    clear hW5 hr5 hb5 t3 t4 v3 v4 hz4 hz39
    obtain ⟨y0, y1, y2, y3⟩ := HK.out W5 HB5.out
    obtain ⟨e0, e1, e2, e3, e4, e5⟩ := HCL.out W5 HB5.out
    have hrow5 := HLC2.out.moved HB5.out
    have f0 := hrow5.row.frozenAt (k * 5); have f1 := hrow5.row.frozenAt (k * 5 + 1); have f2 := hrow5.row.frozenAt (k * 5 + 2); have f3 := hrow5.row.frozenAt (k * 5 + 3); have f4 := hrow5.row.frozenAt (k * 5 + 4)
    clear hrow5
    go_upto_region 10 with fail
    obtain ⟨W6, hW6⟩ : ∃ W6, ((((W5.setCell ⟨h3, k * 5, none⟩ (.int .i64 x.p0)).setCell ⟨h3, k * 5 + 1, none⟩ (.int .i64 x.p1)).setCell ⟨h3, k * 5 + 2, none⟩ (.slice x.A x.n x.c)).setCell ⟨h3, k * 5 + 3, none⟩ (.int .i64 (r : Int))).setCell ⟨h3, k * 5 + 4, none⟩ (.int .i64 (c : Int)) = W6 := ⟨_, rfl⟩
    have hd9 := dg_store (HLC2.out.moved HB3.out) hkz (Obj.cells #[.int .i64 x.p0, .int .i64 x.p1, .slice x.A x.n x.c, .int .i64 (f : Int), .int .i64 (c : Int)] 62) (.int .i64 (r : Int)) (.int .i64 (c : Int)) (r : Int)
    have hzf := HZF.out
    rw [HXE.out, HB9.out, HW4.out, HW5.out, HQC.out, hW6] at hd9
    rw [HXE.out, HQC.out] at hzf
    have HD9 := Lib.hid hd9; have HZ9 := Lib.hid hzf
    have hl3 := HLC2.out.row.lt h3 rfl
    have hall : ∀ {E s m : Nat} {v : Value} {xs : List Value} {B : Nat}, W5.ownsRow B E s v m xs → v.ownBlock ≠ some h3 → W6.ownsRow B E s v m xs := fun h hne => by
      rw [← hW6]
      exact ownsRow_setCell_other (ownsRow_setCell_other (ownsRow_setCell_other (ownsRow_setCell_other (ownsRow_setCell_other h (a := ⟨h3, _, none⟩) hne _) (a := ⟨h3, _, none⟩) hne _) (a := ⟨h3, _, none⟩) hne _) (a := ⟨h3, _, none⟩) hne _) (a := ⟨h3, _, none⟩) hne _
    have HO16 := Lib.hid (hall (ownB HO12.out HB5.out) (fun e => own_type_apart HO12.out HLC2.out.row (by decide) h3 e rfl))
    have HO26 := Lib.hid (hall (ownB HO22.out HB5.out) (fun e => own_type_apart HO22.out HLC2.out.row (by decide) h3 e rfl))
    obtain ⟨y60, y61, y62, _, _, _, y63⟩ := px_facts (hall (ownB HRX.out HB5.out) (fun e => own_type_apart HRX.out HLC2.out.row (by decide) h3 e rfl))
    obtain ⟨s0, s1, s2, s3, s4, s5, s6⟩ := px_facts (hall (ownB HR2.out HB5.out) (fun e => own_type_apart HR2.out HLC2.out.row (by decide) h3 e rfl))
    have hc60 := (hall HR5.out (fun e => by
      have h9 : b9 = h3 := by injection e
      have := (HTX.out w3 HB3.out).rd.ltc hkz
      have := HB9.out
      omega)).cellAt 0 (by decide)
    simp only [List.getElem?_cons_zero, List.getElem?_cons_succ] at hc60
    have hz69 : b9 < W6.heap.size := by rw [← hW6]; simpa using hz5
    have HB6W : Hid (Below w.heap.size w W6) := Lib.hid (by
      have hh : w.heap.size ≤ h3 := by omega
      rw [← hW6]
      exact ((((HB5W.out.setCell (p := ⟨h3, _, none⟩) hh _).setCell (p := ⟨h3, _, none⟩) hh _).setCell (p := ⟨h3, _, none⟩) hh _).setCell (p := ⟨h3, _, none⟩) hh _).setCell (p := ⟨h3, _, none⟩) hh _)
    rw [hW6]
    clear hW6 hd9 hzf hl3 hall y0 y1 y2 y3 e0 e1 e2 e3 e4 e5 f0 f1 f2 f3 f4 c0 c1_ c2_ c3_ c4_ hz5
    have hn9 : w.heap.size + 1 < b9 := by have := HB9.out; have := HB3.out.size; have := HZ2.out; omega
    have hn8 : ¬ (b9 = w.heap.size + 1) := by omega
    have hn7 : ¬ (w.heap.size + 1 = b9) := by omega
    go_wp2_with fail
    go_region
    all_goals
      go_wp2_with fail
      refine bodyPost_ret (v := .tuple #[.agg #[.slice (some ⟨h1, 0, none⟩) n1 d1, .slice (some ⟨h2, 0, none⟩) n2 d2, .slice (some ⟨h3, 0, none⟩) n3 d3], .int .i64 x.p0]) ?_ rfl ?_
      · simp [results, Tryz.results27, go_sem, s0, s1, s2, s6]
      · first | exact StpO_fin HZ9.out HO16.out HO26.out HD9.out HB6W.out | exact (StpO_fin HZ9.out HO16.out HO26.out HD9.out HB6W.out).drew
end Go.Proofs.YtflniajjecfgeaaGreatDoor
