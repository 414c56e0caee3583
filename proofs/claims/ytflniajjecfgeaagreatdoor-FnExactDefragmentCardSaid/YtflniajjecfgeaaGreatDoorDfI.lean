/- Lights: steps of defragmentation on lights of the call's own: the implementation's contract. Condition: the table of math/bits holds what Go's text lays. -/
import Derived.Test.YtflniajjecfgeaaGreatDoorDfP
import Derived.Test.YtflniajjecfgeaaGreatDoorLowG
import Derived.WalkMore
namespace Go.Proofs.YtflniajjecfgeaaGreatDoor
open Go.ChangeShapes Go.WideShapes Go.ChangeAt Go.RowKit

def slN : Value → Nat
  | .slice _ n _ => n
  | _ => 0
theorem setLt3 : ∀ (ys : List Lt) (k : Nat) (hk : k < ys.length) (q : Int), (ys.flatMap Lt.cells).set (k * 5 + 3) (.int .i64 q) = (ys.set k ⟨ys[k].p0, ys[k].p1, ys[k].A, ys[k].n, ys[k].c, ys[k].zs, q, ys[k].q1⟩).flatMap Lt.cells
  | y :: r, 0, _, q => by simp [Lt.cells]
  | y :: r, k + 1, h, q => by
    have ih := setLt3 r k (by simpa using h) q
    rw [List.flatMap_cons, lt_skip, ih]
    simp
/-- the lights of the call's own, their routes in what was there. -/
structure LtS (w00 : World) (g n : Nat) (zs : List Lt) (w : World) : Prop where
  len : zs.length = n
  row : w.ownsRow w00.heap.size 62 5 (.slice (some ⟨g, 0, none⟩) n n) n (zs.flatMap Lt.cells)
  at_ : ∀ y ∈ zs, LtAt w00 y
  so : ∀ y ∈ zs, ∃ q, y.A = some ⟨q, 0, none⟩
theorem LtS.moved {w00 w w' : World} {g n : Nat} {zs : List Lt} (h : LtS w00 g n zs w) (hb : Below w.heap.size w w') : LtS w00 g n zs w' := ⟨h.len, ownB h.row hb, h.at_, h.so⟩
theorem LtS.toR {w00 w : World} {g n : Nat} {zs : List Lt} (h : LtS w00 g n zs w) (hb : Below w00.heap.size w00 w) : LtR (some ⟨g, 0, none⟩) n zs w := ⟨h.len, rdOwnA h.row, fun y hy => (h.at_ y hy).moved hb⟩
theorem LtS.set {w00 w : World} {g n k : Nat} {zs : List Lt} (h : LtS w00 g n zs w) (hk : k < zs.length) (q : Int) : LtS w00 g n (zs.set k ⟨zs[k].p0, zs[k].p1, zs[k].A, zs[k].n, zs[k].c, zs[k].zs, q, zs[k].q1⟩) (w.setCell ⟨g, k * 5 + 3, none⟩ (.int .i64 q)) := by
  refine ⟨by rw [List.length_set]; exact h.len, ?_, fun y hy => ?_, fun y hy => ?_⟩
  · rw [← setLt3 zs k hk q]
    exact (h.row.stored (k * 5 + 3) (.int .i64 q)).1
  · rcases List.mem_or_eq_of_mem_set hy with hy | rfl
    · exact h.at_ y hy
    · have := h.at_ _ (List.getElem_mem hk)
      exact ⟨this.1, this.2.1, this.2.2⟩
  · rcases List.mem_or_eq_of_mem_set hy with hy | rfl
    · exact h.so y hy
    · exact h.so zs[k] (List.getElem_mem hk)
theorem LtS.keep {w00 w w' : World} {g n : Nat} {zs : List Lt} (h : LtS w00 g n zs w) (hr : w'.ownsRow w00.heap.size 62 5 (.slice (some ⟨g, 0, none⟩) n n) n (zs.flatMap Lt.cells)) : LtS w00 g n zs w' := ⟨h.len, hr, h.at_, h.so⟩

set_option maxRecDepth 100000 in
set_option maxHeartbeats 2000000 in
theorem lowerLights_ {w00 : World} {g n : Nat} {ys : List Lt} {ds : List LtD} {w : World} (h0 : Below w00.heap.size w00 w) (hT : LtS w00 g n ys w) (hd : ys.map Lt.d = ds) (hn : n ≤ 12)
    (hblk : ∀ t, t < ds.length → blkP (dn ds t).q0 (dn ds t).q1) (hz : ∀ t, t < ds.length → ∀ k, k < (dn ds t).zs.length → 0 ≤ nth (dn ds t).zs k ∧ nth (dn ds t).zs k < 20) (hne : ∀ d ∈ ds, d.zs ≠ [])
    (hl : Bool) (lim : Nat) (hlim : lim ≤ 60) (hTab : Tab w00) :
    Calls Tryz.prog 39 #[.slice (some ⟨g, 0, none⟩) n n, .bool hl, .int .i64 (lim : Int)] w fun e w' => ∃ (A : Option Addr) (N c : Nat) (zs : List Lt), e = .returned (.slice A N c) ∧ Hid (N = (dgL ds hl lim).length) ∧ w'.ownsRow w00.heap.size 3 1 (.slice A N c) N ((dgL ds hl lim).map (Value.int .i64)) ∧ LtS w00 g n zs w' ∧ Hid (zs.map Lt.d = dgD ds hl lim) ∧ Below w00.heap.size w00 w' := by
  have HT := Lib.hid hT; have HD := Lib.hid hd; have HNE := Lib.hid hne; have HZ := Lib.hid hz; have HTAB := Lib.hid hTab; have H0 := Lib.hid h0
  have HINV : Hid (∀ t, DgP ds (dgD ds hl t)) := Lib.hid (dg_inv hblk hl)
  have HLD : Hid (ds.length = n) := Lib.hid (by rw [← hd, List.length_map]; exact hT.len)
  have HG : Hid (w00.heap.size ≤ g) := Lib.hid (hT.row.lt g rfl).1
  obtain ⟨i0, hi, hz0_, hz1_, hz2_⟩ := info_parts Tryz.inf_int
  have HI := Lib.hid hi; have HZ0 := Lib.hid hz0_; have HZ1 := Lib.hid hz1_; have HZ2 := Lib.hid hz2_
  clear hT hd hblk hz hne hTab h0 hi hz0_ hz1_ hz2_
  go_enter Tryz.func39, Tryz.ntmps39
  go_wp2
  go_step3
  go_wp2_with fail
  go_step3
  go_wp2_with fail
  go_loopw [7] (fun v wr => ∃ (t : Nat) (A : Option Addr) (c : Nat) (zs : List Lt), t ≤ lim ∧ v = .slice A t c ∧ Hid (t = (dgL ds hl t).length) ∧ Hid (wr.ownsRow w00.heap.size 3 1 (.slice A t c) t ((dgL ds hl t).map (Value.int .i64))) ∧ Hid (LtS w00 g n zs wr) ∧ Hid (zs.map Lt.d = dgD ds hl t) ∧ Below w00.heap.size w00 wr) (fun v _ => lim - slN v)
  case atStart => exact ⟨0, none, 0, ys, Nat.zero_le _, rfl, Lib.hid rfl, Lib.hid (World.ownsRow_nil _ _ _ _), HT, HD, H0.out⟩
  case round =>
    obtain ⟨t, A, c, zs, ht, rfl, HTL, HOW, HLS, HZD, hb⟩ := hrel
    have HBR := Lib.hid hb
    clear hb
    by_cases hlt : t < lim
    case neg =>
      have HTE : Hid (t = lim) := Lib.hid (by omega)
      have hge : ¬ ((t : Int) < (lim : Int)) := by omega
      go_wp2
      go_ret
      have e := HTE.out
      subst e
      exact ⟨A, t, c, zs, rfl, HTL, HOW.out, HLS.out, HZD, HBR.out⟩
    case pos =>
    have htI : (t : Int) < (lim : Int) := by omega
    have HDP := Lib.hid (HINV.out t)
    obtain ⟨es, hes⟩ : ∃ es, dgD ds hl t = es := ⟨_, rfl⟩
    have HES := Lib.hid hes
    rw [hes] at HZD HDP
    clear hes
    have HTL2 : Hid (es.length = n) := Lib.hid (by rw [HDP.out.len, HLD.out])
    have HEND : Hid (stepF es hl = none → dgD ds hl lim = es ∧ dgL ds hl lim = dgL ds hl t) := Lib.hid (fun h => by
      have h9 := dg_end (ds := ds) (hl := hl) (t := t) (m := lim) (by rw [HES.out]; exact h) ht
      rw [HES.out] at h9; exact h9)
    have HNX : Hid (∀ i, stepF es hl = some i → dgD ds hl (t + 1) = mvD es hl i ∧ dgL ds hl (t + 1) = dgL ds hl t ++ [(dn es i).p0]) := Lib.hid (fun i h => by
      have h9 := dg_next (ds := ds) (hl := hl) (t := t) (i := i) (by rw [HES.out]; exact h)
      rw [HES.out] at h9; exact h9)
    go_wp2_with fail
    obtain ⟨wo, rfl⟩ : ∃ wo, wo = wr := ⟨wr, rfl⟩
    go_loopw [7, 17] (fun v i wr => ∃ k : Nat, k ≤ n ∧ v = .slice A t c ∧ i = .int .i64 (k : Int) ∧ Hid (∀ j, j < k → canB es hl j = false) ∧ Hid (LtS w00 g n zs wr) ∧ Below wo.heap.size wo wr) (fun _ i _ => n - (intOf i).toNat)
    case atStart => exact ⟨0, Nat.zero_le _, rfl, rfl, Lib.hid (fun j hj => absurd hj (by omega)), HLS, Below.refl _ _⟩
    case round =>
      obtain ⟨k, hk, rfl, rfl, HNO, HLV, hb⟩ := hrel
      have HBV := Lib.hid hb
      have HBVW := Lib.hid (HBR.out.trans (hb.mono HBR.out.size))
      clear hb
      by_cases hkn : k < n
      case neg =>
        have HE := Lib.hid (HEND.out (stepR_none (fun j hj => HNO.out j (by have := HTL2.out; omega))))
        have HOV := Lib.hid (ownB HOW.out HBV.out)
        have hge : ¬ ((k : Int) < (n : Int)) := by omega
        go_wp2
        go_ret
        refine ⟨A, t, c, zs, rfl, ?_, ?_, HLV.out, ?_, HBVW.out⟩
        · rw [HE.out.2]; exact HTL
        · rw [HE.out.2]; exact HOV.out
        · rw [HE.out.1]; exact HZD
      case pos =>
      have hkz : k < zs.length := by rw [HLV.out.len]; exact hkn
      have hke : k < es.length := by rw [HTL2.out]; exact hkn
      have hkd : k < ds.length := by rw [HLD.out]; exact hkn
      have HNEK : Hid ((dn es k).zs ≠ []) := Lib.hid (by rw [HDP.out.zs k hkd, dn_eq hkd]; exact HNE.out _ (List.getElem_mem hkd))
      obtain ⟨x, hxe⟩ : ∃ y, zs[k]'hkz = y := ⟨_, rfl⟩
      have HDX := Lib.hid (dn_at HZD.out hkz hxe)
      have HXE := Lib.hid hxe
      obtain ⟨f, cc, hf0, hc0, hc1, hfc⟩ := blk_parts (HDP.out.blk k hkd)
      rw [HDX.out] at hf0 hc0
      have hqf : x.q0 = (f : Int) := hf0
      have hqc : x.q1 = (cc : Int) := hc0
      have HFT : Hid ((dn es k).q0.toNat = f) := Lib.hid (by rw [HDX.out]; show x.q0.toNat = f; rw [hqf]; rfl)
      have hcl := (HLV.out.toR HBVW.out).rd.ltc hkz
      rw [Nat.zero_add, hxe, hqf, hqc] at hcl
      obtain ⟨hg3, e0, e1, e2, e3, e4⟩ := hcl
      clear hf0 hc0 hxe
      have hkI : (k : Int) < (n : Int) := by omega
      obtain ⟨W1, hW1⟩ : ∃ W1, wr.alloc (Obj.cells #[.int .i64 x.p0, .int .i64 x.p1, .slice x.A x.n x.c, .int .i64 (f : Int), .int .i64 (cc : Int)] 62) = W1 := ⟨_, rfl⟩
      have hb1 : Below wr.heap.size wr W1 := by rw [← hW1]; exact (Below.refl _ _).alloc (Nat.le_refl _) _
      obtain ⟨j0, j1, j2, j3, j4⟩ := new5 _ _ _ _ _ _ _ W1 hW1 rfl
      have hz1 : wr.heap.size < W1.heap.size := by rw [← hW1]; simp
      have HB1W := Lib.hid (HBVW.out.trans (hb1.mono HBVW.out.size))
      have HB1 := Lib.hid (HBV.out.trans (hb1.mono HBV.out.size))
      have HLS1 := Lib.hid (HLV.out.moved hb1)
      have HKB : Hid (∀ u, Below W1.heap.size W1 u → u.cell? ⟨wr.heap.size, 0, none⟩ = some (.int .i64 x.p0) ∧ u.cell? ⟨wr.heap.size, 3, none⟩ = some (.int .i64 (f : Int)) ∧ wr.heap.size < u.heap.size) := Lib.hid fun u hu => ⟨(hu.cell (p := ⟨wr.heap.size, 0, none⟩) hz1).trans j0, (hu.cell (p := ⟨wr.heap.size, 3, none⟩) hz1).trans j3, Nat.lt_of_lt_of_le hz1 hu.size⟩
      have CL := Lib.hid (implLowG (c3 := n) (HLS1.out.toR HB1W.out) HZD.out hn (fun t ht => HDP.out.blk t (by have := HDP.out.len; omega)) (fun t ht k hk => by
        have h9 := HDP.out.zs t (by have := HDP.out.len; omega)
        rw [h9] at hk ⊢
        exact HZ.out t (by have := HDP.out.len; omega) k hk) k hkn HNEK.out hl (HTAB.out.over HB1W.out))
      obtain ⟨r, hr⟩ : ∃ r, lowV es k hl = r := ⟨_, rfl⟩
      rw [hr] at CL
      have HRV := Lib.hid hr
      clear hr
      have HQF := Lib.hid hqf
      have HGV : Hid (g < wr.heap.size) := Lib.hid hg3
      clear hb1 j0 j1 j2 j3 j4 hz1 hqf hqc
      go_wp2_with fail
      refine CL.out.mono ?_
      rintro e w3 ⟨rfl, hb3⟩
      have HB3 := Lib.hid (HB1.out.trans (hb3.mono HB1.out.size))
      have HB3W := Lib.hid (HB1W.out.trans (hb3.mono HB1W.out.size))
      have HLS3 := Lib.hid (HLS1.out.moved hb3)
      obtain ⟨z0, z3, z9⟩ := HKB.out w3 hb3
      clear hb3 e0 e1 e2 e3 e4 hg3
      by_cases hrf : r < f
      case neg =>
        have HNO2 : Hid (∀ j, j < k + 1 → canB es hl j = false) := Lib.hid (fun j hj => by
          by_cases hjk : j < k
          · exact HNO.out j hjk
          · obtain rfl : j = k := by omega
            unfold canB; rw [HRV.out, HFT.out]; exact decide_eq_false hrf)
        have hr1 : ¬ ((r : Int) < (f : Int)) := by omega
        have hr2 : decide ((r : Int) < (f : Int)) = false := decide_eq_false hr1
        have hr3 : decide (r < f) = false := decide_eq_false hrf
        go_wp2
        go_roundw
        case rel => exact ⟨k + 1, by omega, rfl, by go_num, HNO2, HLS3, HB3.out⟩
        case measure => simp [intOf]; omega
      case pos =>
      have HSN : Hid (stepF es hl = some k) := Lib.hid (stepR_some (by unfold canB; rw [HRV.out, HFT.out]; exact decide_eq_true hrf) HNO.out (by rw [HTL2.out]; exact hkn))
      have HNX2 := Lib.hid (HNX.out k HSN.out)
      have hr1 : (r : Int) < (f : Int) := by omega
      have hr2 : decide ((r : Int) < (f : Int)) = true := decide_eq_true hr1
      have hr3 : decide (r < f) = true := decide_eq_true hrf
      have hf3 := HLS3.out.row.frozenAt (k * 5 + 3)
      have hcl := (HLS3.out.toR HB3W.out).rd.ltc hkz
      rw [Nat.zero_add, HXE.out, HQF.out] at hcl
      obtain ⟨hg3, e0, e1, e2, e3, e4⟩ := hcl
      go_upto_region 9 with fail
      obtain ⟨w4, hw4⟩ : ∃ w4, w3.setCell ⟨g, k * 5 + 3, none⟩ (.int .i64 (r : Int)) = w4 := ⟨_, rfl⟩
      have hls4 := HLS3.out.set hkz (r : Int)
      rw [hw4, HXE.out] at hls4
      have HLS4 := Lib.hid hls4
      have hown : w4.ownsRow w00.heap.size 3 1 (.slice A t c) t ((dgL ds hl t).map (Value.int .i64)) := by
        rw [← hw4]
        exact ownsRow_setCell_other (ownB HOW.out HB3.out) (a := ⟨g, _, none⟩) (fun e => own_type_apart (ownB HOW.out HB3.out) HLS3.out.row (by decide) g e rfl) _
      have hne9 : ¬ (g = wr.heap.size) := by have := HGV.out; omega
      have hne8 : ¬ (wr.heap.size = g) := fun e => hne9 e.symm
      have z40 : w4.cell? ⟨wr.heap.size, 0, none⟩ = some (.int .i64 x.p0) := by rw [← hw4]; simp [go_sem, hne9, hne8, z0]
      have z49 : wr.heap.size < w4.heap.size := by rw [← hw4]; simpa using z9
      have HB4W : Hid (Below w00.heap.size w00 w4) := Lib.hid (by rw [← hw4]; exact HB3W.out.setCell (p := ⟨g, k * 5 + 3, none⟩) HG.out _)
      have hsz4 : w00.heap.size ≤ w4.heap.size := HB4W.out.size
      have hzf : (zs.set k ⟨x.p0, x.p1, x.A, x.n, x.c, x.zs, (r : Int), x.q1⟩).map Lt.d = mvD es hl k := by
        rw [List.map_set, HZD.out]
        unfold mvD mvX
        rw [HRV.out, HDX.out]; rfl
      have HZF := Lib.hid hzf
      have ht60 : t ≤ 60 := by omega
      rw [hw4]
      clear hw4 hls4 e0 e1 e2 e3 e4 hg3 z0 z3 z9 hf3 hzf
      go_wp2_with (at_builtin; refine wpList_append_own _ rfl _ _ 42 rfl w00.heap.size 3 i0 (.int .i64 0) 1 8 Tryz.underlying42 HI.out HZ0.out HZ1.out HZ2.out rfl (by decide) _ t _ rfl (hown.alloc _) ⟨w4.heap.size, 0, none⟩ 1 1 [.int .i64 x.p0] rfl rfl (new_one _ _ _) (new_int _) (by unfold maxLen; omega) (by omega) (by simp; omega) ?_)
      intro v1 w5 hown1 hgrow1 _
      have hB5 : Below w00.heap.size w00 w5 := (HB4W.out.alloc hsz4 _).grown hgrow1 (by simp; omega) (fun g hg => (hown.lt g hg).1)
      have hls5 : LtS w00 g n (zs.set k ⟨x.p0, x.p1, x.A, x.n, x.c, x.zs, (r : Int), x.q1⟩) w5 := HLS4.out.keep ((own_type_apart (HLS4.out.row.alloc (Obj.cells #[.int .i64 x.p0] 3)) (hown.alloc (Obj.cells #[.int .i64 x.p0] 3)) (by decide)).kept (HLS4.out.row.alloc (Obj.cells #[.int .i64 x.p0] 3)) hgrow1)
      obtain ⟨A1, cc1, rfl⟩ := formOf hown1
      have HOW5 : Hid (w5.ownsRow w00.heap.size 3 1 (.slice A1 (t + 1) cc1) (t + 1) ((dgL ds hl (t + 1)).map (Value.int .i64))) := Lib.hid (by
        rw [HNX2.out.2, HDX.out, List.map_append]
        exact hown1)
      have HTL5 : Hid (t + 1 = (dgL ds hl (t + 1)).length) := Lib.hid (by rw [HNX2.out.2, List.length_append, ← HTL.out]; rfl)
      have HZ5 : Hid ((zs.set k ⟨x.p0, x.p1, x.A, x.n, x.c, x.zs, (r : Int), x.q1⟩).map Lt.d = dgD ds hl (t + 1)) := Lib.hid (by rw [HZF.out, HNX2.out.1])
      have HB5 := Lib.hid hB5; have HLS5 := Lib.hid hls5
      clear hown1 hgrow1 hown hB5 hls5 z40 z49
      go_wp2
      go_roundw
      case rel => exact ⟨t + 1, A1, cc1, _, by omega, rfl, HTL5, HOW5, HLS5, HZ5, HB5.out⟩
      case measure => simp [slN]; omega
end Go.Proofs.YtflniajjecfgeaaGreatDoor
