/- The fewest risk groups without which two nodes are not connected: contracts of GroupCut, both sides. Condition: the table of math/bits holds what Go's text lays (on impl's side). -/
import Derived.Test.YtnbeomnlobfpfaaDoorMc
import Derived.Test.YtnbeomnlobfpfaaDoorAv
import Derived.Test.YtnbeomnlobfpfaaDoorGrpS
import Derived.Test.YtnbeomnlobfpfaaDoorBoth
import Derived.Test.YtnbeomnlobfpfaaDoorSplit6
namespace Go.Proofs.YtnbeomnlobfpfaaDoor
open Go.ChangeShapes Go.WideShapes Go.ChangeAt Go.RowKit

def gmN (fs : List Q4) : List Nat := (rgL fs).map mkN
theorem gmN_len (fs : List Q4) : (gmN fs).length = (rgL fs).length := by unfold gmN; rw [List.length_map]
theorem gm_row (fs : List Q4) : (gmL fs).map (Value.int .i64) = (gmN fs).map fun s : Nat => Value.int .i64 (s : Int) := by unfold gmL gmN; rw [List.map_map, List.map_map]; rfl
theorem gmN_bd {ss : List ByteArray} {fs : List Q4} (hv : netP ss fs) : ∀ k, k < (rgL fs).length → (gmN fs).getD k 0 < 2 ^ 20 := fun k hk => by
  unfold gmN
  rw [List.getD_eq_getElem?_getD, List.getElem?_map, List.getElem?_eq_getElem hk]
  exact mk_lt (rg_gb hv _ (List.getElem_mem hk))
def gmZ (fs : List Q4) (k : Nat) : List Int := (gmL fs).take k
theorem gmZ_len {fs : List Q4} {k : Nat} (h : k ≤ (rgL fs).length) : (gmZ fs k).length = k := by unfold gmZ gmL; rw [List.length_take, List.length_map]; omega
theorem gmZ_succ {fs : List Q4} {k : Nat} (h : k < (rgL fs).length) : gmZ fs (k + 1) = gmZ fs k ++ [(mkN ((rgL fs).getD k []) : Int)] := by
  unfold gmZ
  rw [List.take_succ_eq_append_getElem (by unfold gmL; rw [List.length_map]; exact h)]
  congr 2
  unfold gmL
  rw [List.getElem_map, List.getD_eq_getElem?_getD, List.getElem?_eq_getElem h]; rfl
theorem gmZ_end (fs : List Q4) : gmZ fs (rgL fs).length = gmL fs := by unfold gmZ; rw [List.take_of_length_le (by unfold gmL; rw [List.length_map]; exact Nat.le_refl _)]
noncomputable def gcL (ss : List ByteArray) (fs : List Q4) (x y : Int) : List Int := if pb (endP ss fs x y) then fewL fs x.toNat y.toNat (gmN fs) else []
theorem gc_no {ss : List ByteArray} {fs : List Q4} {x y : Int} (h : ¬ endP ss fs x y) : gcL ss fs x y = [] ∧ pb (endP ss fs x y) = false := by
  have e := pb_false h
  exact ⟨by unfold gcL; rw [e]; rfl, e⟩
theorem gc_yes {ss : List ByteArray} {fs : List Q4} {x y : Int} (h : endP ss fs x y) : gcL ss fs x y = fewL fs x.toNat y.toNat (gmN fs) ∧ pb (endP ss fs x y) = true := by
  have e := pb_true h
  exact ⟨by unfold gcL; rw [e]; rfl, e⟩
theorem gcL_len (ss : List ByteArray) (fs : List Q4) (x y : Int) : (gcL ss fs x y).length ≤ fs.length := by
  unfold gcL; split
  · exact Nat.le_trans (fewL_len _ _ _ _) (by rw [gmN_len]; exact rgp_len fs)
  · simp
set_option maxRecDepth 100000 in
set_option maxHeartbeats 2000000 in
theorem specGC {g1 g2 n1 n2 c1 c2 : Nat} {ss : List ByteArray} {fs : List Q4} {w : World} (h : NetAt g1 g2 n1 n2 c1 c2 ss fs w) (x y : Int) :
    Calls Tryd.prog 8 #[.agg #[.slice (some ⟨g1, 0, none⟩) n1 c1, .slice (some ⟨g2, 0, none⟩) n2 c2], .int .i64 x, .int .i64 y] w (IntsP (gcL ss fs x y) (pb (endP ss fs x y)) w) := by
  have HNT := Lib.hid h
  have HL1 := Lib.hid h.ln1; have HL2 := Lib.hid h.ln2
  obtain ⟨RL, hRL⟩ : ∃ r, gcL ss fs x y = r := ⟨_, rfl⟩
  obtain ⟨RB, hRB⟩ : ∃ r, pb (endP ss fs x y) = r := ⟨_, rfl⟩
  have HNO : Hid (¬ endP ss fs x y → RL = [] ∧ RB = false) := Lib.hid (fun e => by rw [← hRL, ← hRB]; exact gc_no e)
  have HYES : Hid (endP ss fs x y → RL = fewL fs x.toNat y.toNat (gmN fs) ∧ RB = true) := Lib.hid (fun e => by rw [← hRL, ← hRB]; exact gc_yes e)
  have CV := Lib.hid (fun (W : World) (hb : Below w.heap.size w W) => ends6_ (h.moved hb) x y)
  rw [hRB] at CV
  rw [hRL, hRB]
  have HVB := Lib.hid hRB
  clear h hRL hRB
  go_enter Tryd.func8, Tryd.ntmps8
  go_wp2_with fail
  obtain ⟨W0, hW0⟩ : ∃ W0, (w.alloc (Obj.cells #[.slice (some ⟨g1, 0, none⟩) n1 c1, .slice (some ⟨g2, 0, none⟩) n2 c2] 32)) = W0 := ⟨_, rfl⟩
  have hb0 : Below w.heap.size w W0 := by rw [← hW0]; exact (Below.refl _ _).alloc (Nat.le_refl _) _
  have k0_0 : W0.cell? ⟨w.heap.size, 0, none⟩ = some (.slice (some ⟨g1, 0, none⟩) n1 c1) := by rw [← hW0]; simp [go_sem]
  have k0_1 : W0.cell? ⟨w.heap.size, 1, none⟩ = some (.slice (some ⟨g2, 0, none⟩) n2 c2) := by rw [← hW0]; simp [go_sem]
  have hz0 : w.heap.size < W0.heap.size := by rw [← hW0]; simp
  have HKB : Hid (∀ W, Below W0.heap.size W0 W → W.cell? ⟨w.heap.size, 0, none⟩ = some (.slice (some ⟨g1, 0, none⟩) n1 c1) ∧ W.cell? ⟨w.heap.size, 1, none⟩ = some (.slice (some ⟨g2, 0, none⟩) n2 c2) ∧ w.heap.size < W.heap.size) := Lib.hid (fun W hW => ⟨(hW.cell (p := ⟨w.heap.size, 0, none⟩) (by show w.heap.size < _; omega)).trans k0_0, (hW.cell (p := ⟨w.heap.size, 1, none⟩) (by show w.heap.size < _; omega)).trans k0_1, Nat.lt_of_lt_of_le hz0 hW.size⟩)
  have HSZ0 : Hid (W0.heap.size = w.heap.size + 1) := Lib.hid (by rw [← hW0]; simp)
  have HB0 := Lib.hid hb0
  rw [hW0]
  clear hW0 hb0 hz0 k0_0 k0_1
  refine (CV.out _ HB0.out).mono ?_
  rintro e w1 ⟨rfl, hb9⟩
  have HWw1 := Lib.hid hb9
  have HBw1 := Lib.hid (HB0.out.trans (hb9.mono HB0.out.size))
  clear hb9
  obtain ⟨k0, k1, hgz⟩ := HKB.out _ HWw1.out
  cases RB
  case false =>
    have HE := Lib.hid (HNO.out (of_npb HVB.out))
    clear k0 k1 hgz
    go_wp2
    go_ret2
    obtain ⟨rfl, _⟩ := HE.out
    exact ⟨_, 0, _, rfl, Lib.hid rfl, lit_rowH rfl _ HBw1.out.size, HBw1.out.alloc HBw1.out.size _⟩
  case true =>
  have HS : Hid (endP ss fs x y) := Lib.hid (of_pb HVB.out)
  have HE := Lib.hid (HYES.out HS.out)
  obtain ⟨hv, ⟨hx0, hx1⟩, ⟨hy0, hy1⟩, _⟩ := HS.out
  obtain ⟨xn, rfl⟩ : ∃ m : Nat, x = m := ⟨x.toNat, by omega⟩
  obtain ⟨yn, rfl⟩ : ∃ m : Nat, y = m := ⟨y.toNat, by omega⟩
  have hxn : xn < n1 := by have := HL1.out; omega
  have hyn : yn < n1 := by have := HL1.out; omega
  have hf14 : fs.length ≤ 14 := hv.2.1
  have hn14 : n2 ≤ 14 := by have := HL2.out; omega
  have HX : Hid (fewL fs xn yn (gmN fs) = RL) := Lib.hid (by rw [HE.out.1]; rfl)
  have hgl : (rgL fs).length ≤ 14 := by have := rgp_len fs; omega
  have HVV := Lib.hid hv
  have CT : Hid (∀ W A9 N9 c9, Below w1.heap.size w1 W → N9 = (rgL fs).length → Rd W W.heap.size A9 ((gmL fs).map (Value.int .i64)) → Calls Tryd.prog 35 #[.agg #[.slice (some ⟨g1, 0, none⟩) n1 c1, .slice (some ⟨g2, 0, none⟩) n2 c2], .int .i64 (xn : Int), .int .i64 (yn : Int), .slice A9 N9 c9] W (IntP RL W)) := Lib.hid (fun W A9 N9 c9 hW hN9 hR9 => by
    subst hN9
    rw [gm_row] at hR9
    have h9 := cut_ (cc := c9) ((HNT.out.moved HBw1.out).moved hW) HVV.out xn yn hxn hyn (gmN_len _) (by omega) (gmN_bd HVV.out) hR9
    rw [HX.out] at h9; exact h9)
  clear hx0 hx1 hy0 hy1 hf14
  have CGR := Lib.hid (l2Groups_ (HNT.out.moved HBw1.out) hv)
  clear hv
  go_wp2_with fail
  clear k0 k1 hgz
  refine CGR.out.mono ?_
  rintro e w2 ⟨AG, NG, cG, ysG, rfl, HGD, hrw, hb9⟩
  have HW2 := Lib.hid hb9
  have HK2 := Lib.hid (HWw1.out.trans (hb9.mono HWw1.out.size))
  have HB2 := Lib.hid (HBw1.out.trans (hb9.mono HBw1.out.size))
  have HRW := Lib.hid hrw
  have HNG : Hid (NG = (rgL fs).length) := Lib.hid (by have h1 := hrw.len; have h2 := congrArg List.length HGD.out; rw [List.length_map] at h2; omega)
  clear hb9 hrw
  have hNG14 : NG ≤ 14 := by rw [HNG.out]; exact hgl
  go_wp2
  have HOL := Lib.hid (lit_rowH (w := w2) rfl w1.heap.size HW2.out.size)
  have HBL := Lib.hid (HW2.out.alloc HW2.out.size (Obj.cells #[] 3))
  have HGB9 := Lib.hid (rg_gb HVV.out)
  go_loopw [9, 10] (fun v l wr => ∃ (k : Nat) (A1 : Option Addr) (N1 d1 : Nat), k ≤ NG ∧ l = .int .i64 k ∧ v = .slice A1 N1 d1 ∧ N1 ≤ k ∧ Hid (N1 = k) ∧ Hid (wr.ownsRow w2.heap.size 3 1 (.slice A1 N1 d1) N1 ((gmZ fs k).map (Value.int .i64))) ∧ Below w2.heap.size w2 wr) (fun _ l _ => NG - (intOf l).toNat)
  case atStart => exact ⟨0, _, 0, _, Nat.zero_le _, rfl, rfl, Nat.le_refl _, Lib.hid rfl, Lib.hid (lit_rowH (w := w2) rfl w2.heap.size (Nat.le_refl _)), (Below.refl _ _).alloc (Nat.le_refl _) _⟩
  case round =>
    obtain ⟨k, A1, N1, d1, hk, rfl, rfl, hN1, HN1, HOW, hb⟩ := hrel
    have HBR := Lib.hid hb
    have HKR := Lib.hid (HK2.out.trans (hb.mono HK2.out.size))
    have HWR := Lib.hid (HW2.out.trans (hb.mono HW2.out.size))
    have HBW := Lib.hid (HB2.out.trans (hb.mono HB2.out.size))
    clear hb
    by_cases hlt : k < NG
    case neg =>
      obtain rfl : k = NG := by omega
      have HR9 := Lib.hid (Rd.ofOwn HOW.out)
      rw [show gmZ fs k = gmL fs by rw [HNG.out]; exact gmZ_end fs] at HR9
      have C := Lib.hid (CT.out wr A1 N1 d1 HWR.out (HN1.out.trans HNG.out) HR9.out)
      have hltI : ¬ (k : Int) < k := by omega
      obtain ⟨k0, k1, hgz⟩ := HKB.out _ HKR.out
      clear hlt
      go_wp2_with fail
      clear k0 k1 hgz
      refine C.out.mono ?_
      rintro e w5 ⟨A9, N9, c9, rfl, HN9, ho9, hb9⟩
      have HB5 := Lib.hid (HBW.out.trans (hb9.mono HBW.out.size))
      have HO9 := Lib.hid (own_base ho9 HBW.out.size)
      clear ho9 hb9
      go_wp2
      go_ret2
      exact ⟨A9, N9, c9, rfl, HN9, HO9.out, HB5.out⟩
    case pos =>
    have hltI : (k : Int) < NG := by omega
    have hky : k < ysG.length := by have := HRW.out.len; omega
    obtain ⟨y9, hy9⟩ : ∃ y, ysG[k]'hky = y := ⟨_, rfl⟩
    obtain ⟨g9, hA, hgl9, hcl, hown⟩ := (HRW.out.moved HBR.out).at_ hky hy9
    subst hA
    have hyz : (rgL fs).getD k [] = y9.zs := by rw [← HGD.out, List.getD_eq_getElem?_getD, List.getElem?_map, List.getElem?_eq_getElem hky, hy9]; rfl
    have hmem : y9.zs ∈ rgL fs := by rw [← HGD.out, List.mem_map]; exact ⟨y9, by rw [← hy9]; exact List.getElem_mem hky, rfl⟩
    have HYB : Hid (∀ j, j < y9.zs.length → 0 ≤ nth y9.zs j ∧ nth y9.zs j < 20) := Lib.hid (HGB9.out _ hmem)
    have hzl : y9.zs.length ≤ 1048576 := by have := rgp_le hmem; have := HVV.out.2.1; omega
    obtain ⟨yA, yn_, yc, zs⟩ := y9
    have hyn_ : yn_ = zs.length := hown.1
    have hzl2 : zs.length ≤ 1048576 := hzl
    have CM : Hid (∀ W, Below wr.heap.size wr W → Calls Tryd.prog 34 #[.slice yA yn_ yc] W fun e w' => e = .returned (.int .i64 (mkN zs : Nat)) ∧ w' = W) := Lib.hid (fun W hW => by
      have h9 := l6Mask_ yA yn_ yc zs W hyn_.symm (by omega) (hown.rd.moved hW) (fun j hj => HYB.out j (by simp only; omega))
      unfold mkN
      rw [← hyn_]
      exact h9.mono fun _ _ h => ⟨h.1, h.2.symm⟩)
    have HTO : Hid (gmZ fs (k + 1) = gmZ fs k ++ [(mkN zs : Int)]) := Lib.hid (by rw [gmZ_succ (by have := HNG.out; omega), hyz])
    simp only at hcl
    obtain ⟨z, hz⟩ : ∃ z, mkN zs = z := ⟨_, rfl⟩
    rw [hz] at CM HTO
    have hsz : w2.heap.size ≤ wr.heap.size := HBR.out.size
    clear hown hy9 hyz hz hyn_ hmem hzl hzl2
    go_wp2_with fail
    refine (CM.out _ (Below.refl _ _)).mono ?_
    rintro e w9 ⟨rfl, rfl⟩
    clear hcl
    go_wp2_with (at_builtin; refine wp_app rfl (.tmp 26) (.tmp 32) 27 3 rfl w2.heap.size Tryd.underlying27 Tryd.inf_int rfl (by decide) (by decide) _ N1 _ rfl (HOW.out.alloc _) _ _ [.int .i64 (z : Int)] rfl rfl (news1 (new_at_ _ _ _ _ rfl)) (news_int _) (by omega) (by simp; omega) ?_)
    intro A3 d3 N3 w3 hN3 hown3 hgrow3 hloc3
    have HB3 := Lib.hid ((HBR.out.alloc hsz _).grown hgrow3 (by simp; omega) (fun g hg => (HOW.out.lt g hg).1))
    have HO3 : Hid (w3.ownsRow w2.heap.size 3 1 (.slice A3 N3 d3) N3 ((gmZ fs (k + 1)).map (Value.int .i64))) := Lib.hid (by rw [HTO.out, List.map_append]; exact hown3)
    have HN5 : Hid (N3 = k + 1) := Lib.hid (by have := HN1.out; omega)
    have hN5 : N3 ≤ k + 1 := by omega
    clear hown3 hgrow3 hloc3 hN3
    go_wp2
    go_roundw
    case rel => exact ⟨k + 1, A3, N3, d3, by omega, by go_num, rfl, hN5, HN5, HO3, HB3.out⟩
    case measure => simp [intOf]; omega
set_option maxRecDepth 100000 in
set_option maxHeartbeats 2000000 in
theorem implGC {g1 g2 n1 n2 c1 c2 : Nat} {ss : List ByteArray} {fs : List Q4} {w : World} (h : NetAt g1 g2 n1 n2 c1 c2 ss fs w) (x y : Int) (hTab : Tab w) :
    Calls Tryd.prog 10 #[.agg #[.slice (some ⟨g1, 0, none⟩) n1 c1, .slice (some ⟨g2, 0, none⟩) n2 c2], .int .i64 x, .int .i64 y] w (IntsP (gcL ss fs x y) (pb (endP ss fs x y)) w) := by
  have HTB := Lib.hid hTab
  clear hTab
  have HNT := Lib.hid h
  have HL1 := Lib.hid h.ln1; have HL2 := Lib.hid h.ln2
  obtain ⟨RL, hRL⟩ : ∃ r, gcL ss fs x y = r := ⟨_, rfl⟩
  obtain ⟨RB, hRB⟩ : ∃ r, pb (endP ss fs x y) = r := ⟨_, rfl⟩
  have HNO : Hid (¬ endP ss fs x y → RL = [] ∧ RB = false) := Lib.hid (fun e => by rw [← hRL, ← hRB]; exact gc_no e)
  have HYES : Hid (endP ss fs x y → RL = fewL fs x.toNat y.toNat (gmN fs) ∧ RB = true) := Lib.hid (fun e => by rw [← hRL, ← hRB]; exact gc_yes e)
  have CV := Lib.hid (fun (W : World) (hb : Below w.heap.size w W) => isPair_ (h.moved hb) x y)
  rw [hRB] at CV
  rw [hRL, hRB]
  have HVB := Lib.hid hRB
  clear h hRL hRB
  go_enter Tryd.func10, Tryd.ntmps10
  go_wp2_with fail
  obtain ⟨W0, hW0⟩ : ∃ W0, (w.alloc (Obj.cells #[.slice (some ⟨g1, 0, none⟩) n1 c1, .slice (some ⟨g2, 0, none⟩) n2 c2] 32)) = W0 := ⟨_, rfl⟩
  have hb0 : Below w.heap.size w W0 := by rw [← hW0]; exact (Below.refl _ _).alloc (Nat.le_refl _) _
  have k0_0 : W0.cell? ⟨w.heap.size, 0, none⟩ = some (.slice (some ⟨g1, 0, none⟩) n1 c1) := by rw [← hW0]; simp [go_sem]
  have k0_1 : W0.cell? ⟨w.heap.size, 1, none⟩ = some (.slice (some ⟨g2, 0, none⟩) n2 c2) := by rw [← hW0]; simp [go_sem]
  have hz0 : w.heap.size < W0.heap.size := by rw [← hW0]; simp
  have HKB : Hid (∀ W, Below W0.heap.size W0 W → W.cell? ⟨w.heap.size, 0, none⟩ = some (.slice (some ⟨g1, 0, none⟩) n1 c1) ∧ W.cell? ⟨w.heap.size, 1, none⟩ = some (.slice (some ⟨g2, 0, none⟩) n2 c2) ∧ w.heap.size < W.heap.size) := Lib.hid (fun W hW => ⟨(hW.cell (p := ⟨w.heap.size, 0, none⟩) (by show w.heap.size < _; omega)).trans k0_0, (hW.cell (p := ⟨w.heap.size, 1, none⟩) (by show w.heap.size < _; omega)).trans k0_1, Nat.lt_of_lt_of_le hz0 hW.size⟩)
  have HSZ0 : Hid (W0.heap.size = w.heap.size + 1) := Lib.hid (by rw [← hW0]; simp)
  have HB0 := Lib.hid hb0
  rw [hW0]
  clear hW0 hb0 hz0 k0_0 k0_1
  refine (CV.out _ HB0.out).mono ?_
  rintro e w1 ⟨rfl, hb9⟩
  have HWw1 := Lib.hid hb9
  have HBw1 := Lib.hid (HB0.out.trans (hb9.mono HB0.out.size))
  clear hb9
  obtain ⟨k0, k1, hgz⟩ := HKB.out _ HWw1.out
  cases RB
  case false =>
    have HE := Lib.hid (HNO.out (of_npb HVB.out))
    clear k0 k1 hgz
    go_wp2
    go_ret2
    exact ints_no ⟨HE.out.1, rfl⟩ HBw1.out
  case true =>
  have HS : Hid (endP ss fs x y) := Lib.hid (of_pb HVB.out)
  have HE := Lib.hid (HYES.out HS.out)
  obtain ⟨hv, ⟨hx0, hx1⟩, ⟨hy0, hy1⟩, _⟩ := HS.out
  obtain ⟨xn, rfl⟩ : ∃ m : Nat, x = m := ⟨x.toNat, by omega⟩
  obtain ⟨yn, rfl⟩ : ∃ m : Nat, y = m := ⟨y.toNat, by omega⟩
  have hxn : xn < n1 := by have := HL1.out; omega
  have hyn : yn < n1 := by have := HL1.out; omega
  have hf14 : fs.length ≤ 14 := hv.2.1
  have hn14 : n2 ≤ 14 := by have := HL2.out; omega
  have HX : Hid (fewL fs xn yn (gmN fs) = RL) := Lib.hid (by rw [HE.out.1]; rfl)
  have hgl : (rgL fs).length ≤ 14 := by have := rgp_len fs; omega
  have HVV := Lib.hid hv
  have CG : Hid (Calls Tryd.prog 39 #[.agg #[.slice (some ⟨g1, 0, none⟩) n1 c1, .slice (some ⟨g2, 0, none⟩) n2 c2]] w1 (IntsP (gmL fs) true w1)) := Lib.hid (by
    have h9 := groupMasks_ (HNT.out.moved HBw1.out)
    rw [gmV_yes hv, pb_true hv] at h9; exact h9)
  have CT : Hid (∀ W A9 N9 c9, Below w1.heap.size w1 W → N9 = (gmL fs).length → Rd W W.heap.size A9 ((gmL fs).map (Value.int .i64)) → Calls Tryd.prog 40 #[.agg #[.slice (some ⟨g1, 0, none⟩) n1 c1, .slice (some ⟨g2, 0, none⟩) n2 c2], .int .i64 (xn : Int), .int .i64 (yn : Int), .slice A9 N9 c9] W (IntP RL W)) := Lib.hid (fun W A9 N9 c9 hW hN9 hR9 => by
    subst hN9
    rw [gm_row] at hR9
    have hgn : (gmL fs).length = (rgL fs).length := by unfold gmL; rw [List.length_map]
    have h9 := fewest_ (cc := c9) (N := (gmL fs).length) ((HNT.out.moved HBw1.out).moved hW) HVV.out xn yn hxn hyn ((gmN_len _).trans hgn.symm) (by omega) (fun k hk => gmN_bd HVV.out k (by omega)) hR9 ((HTB.out.over HBw1.out).over hW)
    rw [HX.out] at h9; exact h9)
  clear hv hx0 hx1 hy0 hy1 hf14
  go_wp2_with fail
  refine CG.out.mono ?_
  rintro e w2 ⟨A9, N9, c9, rfl, HN9, ho9, hb9⟩
  have HK2 := Lib.hid (HWw1.out.trans (hb9.mono HWw1.out.size))
  have HB2 := Lib.hid (HBw1.out.trans (hb9.mono HBw1.out.size))
  have C := Lib.hid (CT.out w2 A9 N9 c9 hb9 HN9.out (Rd.ofOwn ho9))
  clear k0 k1 hgz ho9 hb9
  obtain ⟨k0, k1, hgz⟩ := HKB.out _ HK2.out
  go_wp2_with fail
  clear k0 k1 hgz
  refine C.out.mono ?_
  rintro e w5 ⟨A8, N8, c8, rfl, HN8, ho8, hb8⟩
  have HB5 := Lib.hid (HB2.out.trans (hb8.mono HB2.out.size))
  have HO8 := Lib.hid (own_base ho8 HB2.out.size)
  clear ho8 hb8
  go_wp2
  go_ret2
  exact ⟨A8, N8, c8, rfl, HN8, HO8.out, HB5.out⟩
end Go.Proofs.YtnbeomnlobfpfaaDoor
