/- Plans: the slots that are occupied on each fiber: contracts of FiberMasks, both sides. No condition but those typed. -/
import Derived.Test.YtnbeomnlobfpfaaDoorGD
import Derived.Test.YtnbeomnlobfpfaaDoorGB
namespace Go.Proofs.YtnbeomnlobfpfaaDoor
open Go.ChangeShapes Go.WideShapes Go.ChangeAt Go.RowKit Go.Maps

def fmK (ds : List LtD) (k : Nat) : List Int := (List.range k).map fun (i : Nat) => (usedK ds ds.length (i : Int) : Int)
theorem fm_snoc (ds : List LtD) (k : Nat) : fmK ds (k + 1) = fmK ds k ++ [(usedK ds ds.length (k : Int) : Int)] := by unfold fmK; rw [List.range_succ, List.map_append]; rfl
theorem fm_len (ds : List LtD) (k : Nat) : (fmK ds k).length = k := by unfold fmK; simp
noncomputable def fmB (ss : List ByteArray) (fs : List Q4) (ds : List LtD) : Bool := pb (planP ss fs ds)
noncomputable def fmL (ss : List ByteArray) (fs : List Q4) (ds : List LtD) : List Int := if fmB ss fs ds then fmK ds fs.length else []
theorem fm_no {ss : List ByteArray} {fs : List Q4} {ds : List LtD} (e : ¬ planP ss fs ds) : fmL ss fs ds = [] ∧ fmB ss fs ds = false := by
  have hb : fmB ss fs ds = false := pb_false e
  exact ⟨by unfold fmL; rw [hb]; rfl, hb⟩
theorem fm_yes {ss : List ByteArray} {fs : List Q4} {ds : List LtD} (e : planP ss fs ds) : fmL ss fs ds = fmK ds fs.length ∧ fmB ss fs ds = true := by
  have hb : fmB ss fs ds = true := pb_true e
  exact ⟨by unfold fmL; rw [hb]; rfl, hb⟩
theorem fmL_len (ss : List ByteArray) (fs : List Q4) (ds : List LtD) : (fmL ss fs ds).length ≤ fs.length := by
  unfold fmL
  split
  · rw [fm_len]; exact Nat.le_refl _
  · simp
theorem fm_set (ds : List LtD) (k n : Nat) (b : Int) (hk : k < n) (hb : (usedK ds ds.length (k : Int) : Int) = b) :
    ((fmK ds k ++ List.replicate (n - k) (0 : Int)).map (Value.int .i64)).set k (.int .i64 b) = (fmK ds (k + 1) ++ List.replicate (n - (k + 1)) (0 : Int)).map (Value.int .i64) := by
  obtain ⟨m, hm⟩ : ∃ m, n - k = m + 1 := ⟨n - k - 1, by omega⟩
  have hm2 : n - (k + 1) = m := by omega
  have hl := fm_len ds k
  rw [hm, hm2, fm_snoc, hb, List.map_append, List.set_append_right _ _ (by simp [hl]), List.length_map, hl, Nat.sub_self, List.replicate_succ, List.map_cons, List.set_cons_zero]
  simp
theorem fm_get (ds : List LtD) (k n : Nat) (hk : k < n) : (fmK ds k ++ List.replicate (n - k) (0 : Int)).getD k 0 = 0 := by
  have hl := fm_len ds k
  rw [List.getD_eq_getElem?_getD, List.getElem?_append_right (by omega), hl, Nat.sub_self, List.getElem?_replicate, if_pos (by omega)]; rfl

set_option maxRecDepth 100000 in
set_option maxHeartbeats 4000000 in
theorem implFM {g1 g2 g3 n1 n2 n3 c1 c2 B : Nat} {ss : List ByteArray} {fs : List Q4} {ys : List Lt} {ds : List LtD} {w : World} (h : NetAt g1 g2 n1 n2 c1 c2 ss fs w) (hT : Lts B g3 n3 ys w) (hd : ys.map Lt.d = ds) (hs : n3 ≤ 1048576) :
    Calls Tryd.prog 56 #[.agg #[.slice (some ⟨g1, 0, none⟩) n1 c1, .slice (some ⟨g2, 0, none⟩) n2 c2, .slice (some ⟨g3, 0, none⟩) n3 n3]] w (IntsP (fmL ss fs ds) (fmB ss fs ds) w) := by
  have HL2 := Lib.hid h.ln2
  have HNT := Lib.hid h; have HT := Lib.hid hT; have HD := Lib.hid hd
  have HLD : Hid (ds.length = n3) := Lib.hid (by rw [← hd, List.length_map]; exact hT.len)
  clear h hT hd
  obtain ⟨i0, hi, hz0_, hz1_, hz2_⟩ := info_parts Tryd.inf_int
  have HI := Lib.hid hi; have HZ0 := Lib.hid hz0_; have HZ1 := Lib.hid hz1_; have HZ2 := Lib.hid hz2_
  clear hi hz0_ hz1_ hz2_
  obtain ⟨RL, hRL⟩ : ∃ r, fmL ss fs ds = r := ⟨_, rfl⟩
  obtain ⟨RB, hRB⟩ : ∃ r, fmB ss fs ds = r := ⟨_, rfl⟩
  rw [hRL, hRB]
  have HNO : Hid (¬ planP ss fs ds → RL = [] ∧ RB = false) := Lib.hid (fun e => by rw [← hRL, ← hRB]; exact fm_no e)
  have HYES : Hid (planP ss fs ds → RL = fmK ds fs.length ∧ RB = true) := Lib.hid (fun e => by rw [← hRL, ← hRB]; exact fm_yes e)
  clear hRL hRB
  go_enter Tryd.func56, Tryd.ntmps56
  go_wp2_with fail
  obtain ⟨W0, hW0⟩ : ∃ W0, w.alloc (Obj.cells #[.slice (some ⟨g1, 0, none⟩) n1 c1, .slice (some ⟨g2, 0, none⟩) n2 c2, .slice (some ⟨g3, 0, none⟩) n3 n3] 47) = W0 := ⟨_, rfl⟩
  have hb0 : Below w.heap.size w W0 := by rw [← hW0]; exact (Below.refl _ _).alloc (Nat.le_refl _) _
  have hk0 : W0.cell? ⟨w.heap.size, 0, none⟩ = some (.slice (some ⟨g1, 0, none⟩) n1 c1) := by rw [← hW0]; simp [go_sem]
  have hk1 : W0.cell? ⟨w.heap.size, 1, none⟩ = some (.slice (some ⟨g2, 0, none⟩) n2 c2) := by rw [← hW0]; simp [go_sem]
  have hk2 : W0.cell? ⟨w.heap.size, 2, none⟩ = some (.slice (some ⟨g3, 0, none⟩) n3 n3) := by rw [← hW0]; simp [go_sem]
  have hz0 : w.heap.size  < W0.heap.size := by rw [← hW0]; simp
  have HB0 := Lib.hid hb0
  rw [hW0]
  clear hW0 hb0
  have CG := Lib.hid (implVP (HNT.out.moved HB0.out) (HT.out.moved HB0.out) HD.out hs)
  obtain ⟨b, hb⟩ : ∃ b, pb (planP ss fs ds) = b := ⟨_, rfl⟩
  rw [hb] at CG
  have HPB := Lib.hid hb
  clear hb
  refine CG.out.mono ?_
  rintro e w1 ⟨rfl, hb1⟩
  have HB1 := Lib.hid (HB0.out.trans (hb1.mono HB0.out.size))
  have l0 := (hb1.cell (p := ⟨w.heap.size, 0, none⟩) (by show w.heap.size < _; omega)).trans hk0
  have l1 := (hb1.cell (p := ⟨w.heap.size, 1, none⟩) (by show w.heap.size < _; omega)).trans hk1
  have l2 := (hb1.cell (p := ⟨w.heap.size, 2, none⟩) (by show w.heap.size < _; omega)).trans hk2

  have hzw : w.heap.size  < w1.heap.size := Nat.lt_of_lt_of_le hz0 hb1.size
  clear hb1 hk0 hk1 hk2 hz0
  cases b
  case false =>
    have HNOB := Lib.hid (HNO.out (fun hp => by have := pb_true hp; rw [HPB.out] at this; cases this))
    go_wp2
    go_ret2
    exact ints_no HNOB.out HB1.out
  case true =>
  have HPL : Hid (planP ss fs ds) := Lib.hid (of_pb HPB.out)
  have HYS := Lib.hid (HYES.out HPL.out)
  have hnf : n2 ≤ 14 := by have := HPL.out.1.2.1; have := HL2.out; omega
  have HBLK : Hid (∀ t, t < ds.length → blkP (dn ds t).q0 (dn ds t).q1) := Lib.hid (fun t ht => (HPL.out.2.2.1 t ht).1.2.2)
  have CO := Lib.hid (occupied_ (HT.out.moved HB1.out) HD.out (by have := HPL.out.2.1; have := HLD.out; omega) (fun t ht => lightP_good (HPL.out.2.2.1 t ht).1 HPL.out.1))
  go_wp2_with fail
  refine CO.out.mono ?_
  rintro e w3 ⟨hb3, h3⟩
  have HB3 := Lib.hid (HB1.out.trans (hb3.mono HB1.out.size))
  have q1 := (hb3.cell (p := ⟨w.heap.size, 1, none⟩) hzw).trans l1
  clear hb3 l0 l1 l2 hzw
  rcases h3 with ⟨hap, _⟩ | ⟨_, MB, cnt, D, rfl, _, hown, hmf⟩
  · exact absurd HPL.out.2.2.2 hap
  have HMF := Lib.hid hmf
  have HOM := Lib.hid hown
  clear hmf hown
  go_wp2_with (at_make; refine wpList_make_full _ rfl _ _ 27 rfl w3.heap.size 3 i0 (.int .i64 0) 1 Tryd.underlying27 HI.out HZ0.out HZ1.out .i64 .i64 _ _ n2 rfl rfl rfl rfl (by rw [HZ2.out]; omega) (by unfold maxLen; omega) (Nat.le_refl _) ?_)
  intro w4 hown4 hgrow4
  have HB4 : Hid (Below w3.heap.size w3 w4) := Lib.hid ((Below.refl _ _).grown hgrow4 (Nat.le_refl _) (fun k h => by cases h))
  rw [toList_madeCells_one] at hown4
  have HO4 : Hid (w4.ownsRow w3.heap.size 3 1 (.slice (some ⟨w3.heap.size, 0, none⟩) n2 n2) n2 ((fmK ds 0 ++ List.replicate (n2 - 0) (0 : Int)).map (Value.int .i64))) := Lib.hid (by
    have : (fmK ds 0 ++ List.replicate (n2 - 0) (0 : Int)).map (Value.int .i64) = List.replicate n2 (Value.int .i64 0) := by simp [fmK]
    rw [this]; exact hown4)
  clear hown4 hgrow4 q1
  go_wp2
  go_loopw [24] (fun i wr => ∃ (k : Nat), k ≤ n2 ∧ i = .int .i64 k ∧ Hid (wr.ownsRow w3.heap.size 3 1 (.slice (some ⟨w3.heap.size, 0, none⟩) n2 n2) n2 ((fmK ds k ++ List.replicate (n2 - k) (0 : Int)).map (Value.int .i64))) ∧ Below w3.heap.size w3 wr) (fun i _ => n2 - (intOf i).toNat)
  case atStart => exact ⟨0, Nat.zero_le _, rfl, HO4, HB4.out⟩
  case round =>
    obtain ⟨k, hk, rfl, HOW, hb⟩ := hrel
    by_cases hlt : k < n2
    case neg =>
      have HRL : Hid (RL = fmK ds n2) := Lib.hid (by rw [HYS.out.1, show fs.length = n2 by have := HL2.out; omega])
      have HRW : Hid (wr.ownsRow w3.heap.size 3 1 (.slice (some ⟨w3.heap.size, 0, none⟩) n2 n2) n2 ((fmK ds n2).map (Value.int .i64))) := Lib.hid (by
        have h9 := HOW.out
        rw [show k = n2 by omega, Nat.sub_self, List.replicate_zero, List.append_nil] at h9
        exact h9)
      go_wp2
      go_ret2
      rw [HRL.out, HYS.out.2]
      exact ⟨_, n2, n2, rfl, Lib.hid (fm_len ds n2).symm, own_base HRW.out HB3.out.size, HB3.out.trans (hb.mono HB3.out.size)⟩
    case pos =>
    have hown := HOM.out.below hb
    have HKEY := Lib.hid (keyOf_int_mk (P := Tryd.prog) Tryd.underlying3 (a := (k : Int)) (WalkArith.wf_i64 (by omega)))
    have HVAL : Hid (∀ c : Int, D.atKey (.int .i64 (k : Int)) (.lit (.int .i64 0)) = .lit (.int .i64 c) → c = (usedK ds ds.length (k : Int) : Int)) := Lib.hid (fun c hat => HMF.out.val hat)
    have ho := HOW.out
    have hold := own_int (k := k) ho (by rw [List.length_append, fm_len, List.length_replicate]; omega) hlt (fm_get ds k n2 hlt)
    have hfz := ho.frozenAt k
    obtain ⟨b, hbb⟩ : ∃ b, usedK ds ds.length (k : Int) = b := ⟨_, rfl⟩
    rw [hbb] at HVAL
    have hst := (ho.stored k (.int .i64 (b : Int))).1
    rw [fm_set ds k n2 (b : Int) hlt (by rw [hbb])] at hst
    have HST := Lib.hid hst
    have HBS := Lib.hid (hb.setCell (p := ⟨w3.heap.size, k, none⟩) (Nat.le_refl _) (.int .i64 (b : Int)))
    clear ho hst hbb hb
    go_wp2_with (first
      | (at_lookup; refine wpList_lookup_own_int _ rfl _ _ 135 rfl 3 3 .i64 law_int Tryd.underlying135 Tryd.underlying3 (zero_int _) MB cnt _ rfl hown _ _ rfl HKEY.out ?_; intro c hat hwc; obtain rfl := HVAL.out c hat; clear hat hwc)
      | go_in)
    go_roundw
    case rel => exact ⟨k + 1, by omega, by go_num, HST, HBS.out⟩
    case measure => simp [intOf]; omega
end Go.Proofs.YtnbeomnlobfpfaaDoor
