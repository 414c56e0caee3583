/- Traffic between nodes: contract of impl.TrafficBetween. No condition but those typed. -/
import Derived.Test.YtnbeomnlobfpfaaTb
namespace Go.Proofs.Ytnbeomnlobfpfaa
open Go.ChangeShapes Go.WideShapes Go.ChangeAt Go.RowKit

theorem one_rowD (w : World) (a b c d : Value) {base : Nat} (hb : base ≤ w.heap.size) : (w.alloc (.cells #[a, b, c, d] 160)).ownsRow base 160 4 (.slice (some ⟨w.heap.size, 0, none⟩) 1 1) 1 [a, b, c, d] := by
  have := World.ownsRow_lit (base := base) (e := 160) (size := 4) w #[a, b, c, d] 1 hb (by unfold maxLen; omega) rfl
  simpa using this
theorem tb_rowset (ys : List Rw) (k n : Nat) (y : Rw) (hl : ys.length = k) (hk : k < n) :
    (ys.map Rw.val ++ List.replicate (n - k) (Value.slice none 0 0)).set k y.val = (ys ++ [y]).map Rw.val ++ List.replicate (n - (k + 1)) (Value.slice none 0 0) := by
  obtain ⟨m, hm⟩ : ∃ m, n - k = m + 1 := ⟨n - k - 1, by omega⟩
  have hm2 : n - (k + 1) = m := by omega
  rw [hm, hm2, List.set_append_right _ _ (by simp [hl]), List.length_map, hl, Nat.sub_self, List.replicate_succ, List.set_cons_zero, List.map_append, List.append_assoc]
  rfl
set_option maxRecDepth 100000 in
set_option maxHeartbeats 8000000 in
theorem implTB {g1 g2 n1 n2 c1 c2 : Nat} {ss : List ByteArray} {fs : List Q4} {w : World} (h : NetAt g1 g2 n1 n2 c1 c2 ss fs w) {g3 n3 c3 : Nat} {ds : List Q4} (hn3 : ds.length = n3) (hrd : Rd w w.heap.size (some ⟨g3, 0, none⟩) (ds.flatMap Q4.cells)) (hs3 : n3 ≤ 1048576) :
    Calls Try.prog 39 #[.agg #[.slice (some ⟨g1, 0, none⟩) n1 c1, .slice (some ⟨g2, 0, none⟩) n2 c2], .slice (some ⟨g3, 0, none⟩) n3 c3] w (RowsP (tbL ss fs ds) (pb (demsP ss fs ds)) w) := by
  have HNT := Lib.hid h; have HN3 := Lib.hid hn3; have HRD := Lib.hid hrd
  have HL1 := Lib.hid h.ln1
  clear h hn3 hrd
  obtain ⟨i0, hi, hz0_, hz1_, hz2_⟩ := info_parts Try.inf_int
  have HI := Lib.hid hi; have HZI0 := Lib.hid hz0_; have HZI1 := Lib.hid hz1_; have HZI2 := Lib.hid hz2_
  clear hi hz0_ hz1_ hz2_
  obtain ⟨j0, hj, hy0_, hy1_, hy2_⟩ := info_parts Try.inf_ss
  have HJ := Lib.hid hj; have HYI0 := Lib.hid hy0_; have HYI1 := Lib.hid hy1_; have HYI2 := Lib.hid hy2_
  clear hj hy0_ hy1_ hy2_
  obtain ⟨RL, hRL⟩ : ∃ r, tbL ss fs ds = r := ⟨_, rfl⟩
  obtain ⟨RB, hRB⟩ : ∃ r, pb (demsP ss fs ds) = r := ⟨_, rfl⟩
  rw [hRL, hRB]
  have HRL := Lib.hid hRL; have HRB := Lib.hid hRB
  clear hRL hRB
  go_enter Try.func39, Try.ntmps39
  go_wp2_with fail
  obtain ⟨W0, hW0⟩ : ∃ W0, w.alloc (Obj.cells #[.slice (some ⟨g1, 0, none⟩) n1 c1, .slice (some ⟨g2, 0, none⟩) n2 c2] 34) = W0 := ⟨_, rfl⟩
  have hb0 : Below w.heap.size w W0 := by rw [← hW0]; exact (Below.refl _ _).alloc (Nat.le_refl _) _
  have hk0 : W0.cell? ⟨w.heap.size, 0, none⟩ = some (.slice (some ⟨g1, 0, none⟩) n1 c1) := by rw [← hW0]; simp [go_sem]
  have hk1 : W0.cell? ⟨w.heap.size, 1, none⟩ = some (.slice (some ⟨g2, 0, none⟩) n2 c2) := by rw [← hW0]; simp [go_sem]
  have hz0 : w.heap.size < W0.heap.size := by rw [← hW0]; simp
  have HB0 := Lib.hid hb0
  rw [hW0]
  clear hW0 hb0
  have CD := Lib.hid (implDems (HNT.out.moved HB0.out) g3 n3 c3 ds HN3.out hs3 (HRD.out.moved HB0.out))
  rw [HRB.out] at CD
  refine CD.out.mono ?_
  rintro e w1 ⟨rfl, hb1⟩
  have HB1 := Lib.hid (HB0.out.trans (hb1.mono HB0.out.size))
  have HK0 := Lib.hid ((hb1.cell (p := ⟨w.heap.size, 0, none⟩) hz0).trans hk0)
  have HK1 := Lib.hid ((hb1.cell (p := ⟨w.heap.size, 1, none⟩) hz0).trans hk1)
  have HZW : Hid (w.heap.size < w1.heap.size) := Lib.hid (Nat.lt_of_lt_of_le hz0 hb1.size)
  clear hb1 hk0 hk1 hz0
  cases RB
  case false =>
    have HNL : Hid (RL = []) := Lib.hid (by rw [← HRL.out]; exact (tb_no (fun hp => by have := pb_true hp; rw [HRB.out] at this; cases this)).1)
    obtain rfl := HNL.out
    go_wp2
    go_ret2
    exact rows_no ⟨rfl, rfl⟩ HB1.out
  case true =>
  have HP : Hid (demsP ss fs ds) := Lib.hid (of_pb HRB.out)
  have HLE : Hid (RL = tbK ds n1 n1 n3) := Lib.hid (by rw [← HRL.out, (tb_yes HP.out).1, HL1.out, HN3.out])
  have hn8 : n1 ≤ 8 := by have := HP.out.2.2.1; have := HL1.out; omega
  have hn12 : n3 ≤ 12 := by have := HP.out.1; have := HN3.out; omega
  have HDP : Hid (∀ t, t < ds.length → demP (dqn ds t) n1) := Lib.hid (fun t ht => by rw [dqn_at ht rfl, ← HL1.out]; exact HP.out.2.1 t ht)
  have HVI : Hid (∀ i j : Int, ∀ t : Nat, t ≤ n3 → 0 ≤ tbV ds i j t ∧ tbV ds i j t ≤ 24000) := Lib.hid (fun i j t ht => by have := tbV_in (fun t ht => (HDP.out t ht).2.2.2.1) i j t (by rw [HN3.out]; exact ht); omega)
  have l0 := HK0.out
  have hzw := HZW.out
  go_wp2_with (at_make; refine wpList_make_full _ rfl _ _ 69 rfl w1.heap.size 57 j0 (.slice none 0 0) 1 Try.underlying69 HJ.out HYI0.out HYI1.out .i64 .i64 _ _ n1 rfl rfl rfl rfl (by rw [HYI2.out]; omega) (by unfold maxLen; omega) (Nat.le_refl _) ?_)
  intro w2 hown2 hgrow2
  clear l0 hzw
  obtain ⟨gT, hgT⟩ : ∃ g, w1.heap.size = g := ⟨_, rfl⟩
  have HGT := Lib.hid hgT
  have HB2 : Hid (Below gT w1 w2) := Lib.hid (by rw [← hgT]; exact (Below.refl _ _).grown hgrow2 (Nat.le_refl _) (fun k h => by cases h))
  have HO2 : Hid (w2.ownsRow gT 57 1 (.slice (some ⟨gT, 0, none⟩) n1 n1) n1 (([] : List Rw).map Rw.val ++ List.replicate (n1 - 0) (Value.slice none 0 0))) := Lib.hid (by
    have e9 : ([] : List Rw).map Rw.val ++ List.replicate (n1 - 0) (Value.slice none 0 0) = List.replicate n1 (Value.slice none 0 0) := by simp
    rw [e9, ← hgT]
    rw [toList_madeCells_one] at hown2
    exact hown2)
  rw [hgT]
  clear hgT hown2 hgrow2
  go_wp2
  go_loopw [20] (fun l wr => ∃ (k : Nat) (ys : List Rw), k ≤ n1 ∧ l = .int .i64 k ∧ Hid (ys.length = k) ∧ Hid (ys.map Rw.zs = List.replicate k (List.replicate n1 (0 : Int))) ∧ Hid (wr.ownsRow gT 57 1 (.slice (some ⟨gT, 0, none⟩) n1 n1) n1 (ys.map Rw.val ++ List.replicate (n1 - k) (Value.slice none 0 0))) ∧ Hid (∀ y ∈ ys, RwOwn gT wr y) ∧ Hid (ys.Pairwise fun y y' => Apart y.val y'.val) ∧ Below gT w1 wr) (fun l _ => n1 - (intOf l).toNat)
  case atStart => exact ⟨0, [], Nat.zero_le _, rfl, Lib.hid rfl, Lib.hid rfl, HO2, Lib.hid (fun y hy => by simp at hy), Lib.hid List.Pairwise.nil, HB2.out⟩
  case round =>
    obtain ⟨k, ys, hk, rfl, HYL, HYZ, HOT, HOY, HAP, hb⟩ := hrel
    have HBR := Lib.hid hb
    have HSZ : Hid (gT < wr.heap.size) := Lib.hid (HOT.out.lt gT rfl).2
    have hc0 := (hb.cell (p := ⟨w.heap.size, 0, none⟩) (by show w.heap.size < gT; have := HGT.out; have := HZW.out; omega)).trans HK0.out
    have hcz : w.heap.size < wr.heap.size := by have := HSZ.out; have := HGT.out; have := HZW.out; omega
    clear hb
    by_cases hlt : k < n1
    case pos =>
      go_wp2_with (at_make; refine wpList_make_full _ rfl _ _ 57 rfl wr.heap.size 3 i0 (.int .i64 0) 1 Try.underlying57 HI.out HZI0.out HZI1.out .i64 .i64 _ _ n1 rfl rfl rfl rfl (by rw [HZI2.out]; omega) (by unfold maxLen; omega) (Nat.le_refl _) ?_)
      intro w4 hown4 hgrow4
      have HB4 : Hid (Below wr.heap.size wr w4) := Lib.hid ((Below.refl _ _).grown hgrow4 (Nat.le_refl _) (fun k h => by cases h))
      rw [toList_madeCells_one] at hown4
      have HN4 : Hid (RwOwn wr.heap.size w4 ⟨some ⟨wr.heap.size, 0, none⟩, n1, n1, List.replicate n1 (0 : Int)⟩) := Lib.hid ⟨by simp, by simpa using hown4⟩
      have hot := ownB HOT.out HB4.out
      have hold := hot.cellAt k (by omega)
      rw [List.getElem?_append_right (by rw [List.length_map, HYL.out]; exact Nat.le_refl _), List.length_map, HYL.out, Nat.sub_self, List.getElem?_replicate, if_pos (by omega)] at hold
      have hfz := hot.frozenAt k
      have hst := (hot.stored k (Rw.mk (some ⟨wr.heap.size, 0, none⟩) n1 n1 (List.replicate n1 (0 : Int))).val).1
      rw [tb_rowset ys k n1 _ HYL.out hlt] at hst
      have HST := Lib.hid hst
      have hoff : Off (fun b => b = gT) w4 (w4.setCell ⟨gT, k, none⟩ (.slice (some ⟨wr.heap.size, 0, none⟩) n1 n1)) := Off.set_ (Off.refl (fun b => b = gT) w4) (p := ⟨gT, k, none⟩) rfl _
      have HNW_ := Lib.hid (HN4.out.base (B' := gT) (by have := HSZ.out; omega))
      have HOY2 : Hid (∀ y ∈ ys ++ [Rw.mk (some ⟨wr.heap.size, 0, none⟩) n1 n1 (List.replicate n1 (0 : Int))], RwOwn gT (w4.setCell ⟨gT, k, none⟩ (.slice (some ⟨wr.heap.size, 0, none⟩) n1 n1)) y) := Lib.hid (fun y hy => by
        have hyo : RwOwn gT w4 y := by
          rcases List.mem_append.1 hy with h1 | h1
          · exact (HOY.out y h1).moved HB4.out
          · rw [List.mem_singleton.1 h1]; exact HNW_.out
        exact hyo.off hoff (fun g2 hg2 e => own_type_apart hyo.2 hot (by decide) g2 hg2 (by rw [e]; rfl)))
      have HAP2 : Hid ((ys ++ [Rw.mk (some ⟨wr.heap.size, 0, none⟩) n1 n1 (List.replicate n1 (0 : Int))]).Pairwise fun y y' => Apart y.val y'.val) := Lib.hid (List.pairwise_append.2 ⟨HAP.out, List.pairwise_singleton _ _, fun x hx x' hx' => by
        rw [List.mem_singleton.1 hx']
        exact (apart_new (HOY.out x hx).2 HN4.out.2 (Nat.le_refl _)).symm⟩)
      have HYZ2 : Hid ((ys ++ [Rw.mk (some ⟨wr.heap.size, 0, none⟩) n1 n1 (List.replicate n1 (0 : Int))]).map Rw.zs = List.replicate (k + 1) (List.replicate n1 (0 : Int))) := Lib.hid (by rw [List.map_append, HYZ.out, List.replicate_succ']; rfl)
      have HYL2 : Hid ((ys ++ [Rw.mk (some ⟨wr.heap.size, 0, none⟩) n1 n1 (List.replicate n1 (0 : Int))]).length = k + 1) := Lib.hid (by rw [List.length_append, HYL.out]; rfl)
      have HBS := Lib.hid ((HBR.out.trans (HB4.out.mono (by have := HSZ.out; omega))).setCell (p := ⟨gT, k, none⟩) (Nat.le_refl _) (.slice (some ⟨wr.heap.size, 0, none⟩) n1 n1))
      clear hown4 hgrow4 hot hst hoff hc0 hcz
      go_wp2
      go_roundw
      case rel => exact ⟨k + 1, _, by omega, by go_num, HYL2, HYZ2, HST, HOY2, HAP2, HBS.out⟩
      case measure => simp [intOf]; omega
    case neg =>
    obtain rfl : k = n1 := by omega
    have HRW0 : Hid (Rws gT (some ⟨gT, 0, none⟩) k k ys wr) := Lib.hid ⟨HYL.out, by have h9 := HOT.out; rw [Nat.sub_self, List.replicate_zero, List.append_nil] at h9; exact h9, HOY.out, HAP.out⟩
    have HYZ0 : Hid (ys.map Rw.zs = tbK ds k k 0) := Lib.hid (by rw [tbK_zero]; exact HYZ.out)
    clear hlt hk hc0 hcz HYL HYZ HOT HOY HAP
    go_wp2
    go_loopw [33] (fun l wv => ∃ (t : Nat) (zs : List Rw), t ≤ n3 ∧ l = .int .i64 t ∧ Hid (zs.map Rw.zs = tbK ds k k t) ∧ Hid (Rws gT (some ⟨gT, 0, none⟩) k k zs wv) ∧ Below gT w1 wv) (fun l _ => n3 - (intOf l).toNat)
    case atStart => exact ⟨0, ys, Nat.zero_le _, rfl, HYZ0, HRW0, HBR.out⟩
    case round =>
      clear HBR HSZ HRW0 HYZ0 ys
      obtain ⟨t, ys, ht, rfl, HYZ, HRW, hb⟩ := hrel
      have HBV := Lib.hid hb
      have HBVW : Hid (Below w.heap.size w wr) := Lib.hid (HB1.out.trans (hb.mono (by have := HGT.out; have := HB1.out.size; omega)))
      have HSV : Hid (gT ≤ wr.heap.size) := Lib.hid (by have := hb.size; have := HGT.out; omega)
      clear hb
      by_cases hlt : t < n3
      case neg =>
        obtain rfl : t = n3 := by omega
        obtain rfl := HLE.out
        clear hlt
        go_wp2
        go_ret2
        exact ⟨_, k, k, ys, rfl, HYZ, HRW.out.base (by have := HGT.out; have := HB1.out.size; omega), HBVW.out⟩
      case pos =>
      have hks : t < ds.length := by have := HN3.out; omega
      obtain ⟨⟨q0, q1, q2, q3⟩, hq⟩ : ∃ q, ds[t]'hks = q := ⟨_, rfl⟩
      have HQ := Lib.hid (dqn_at hks hq)
      have hdp := HDP.out t hks
      rw [HQ.out] at hdp
      obtain ⟨⟨ha0, ha1⟩, ⟨hb0, hb1⟩, hne, ⟨hc0, hc1⟩, _⟩ := hdp
      simp only at ha0 ha1 hb0 hb1 hne hc0 hc1
      obtain ⟨an, rfl⟩ : ∃ m : Nat, q0 = m := ⟨q0.toNat, by omega⟩
      obtain ⟨bn, rfl⟩ : ∃ m : Nat, q1 = m := ⟨q1.toNat, by omega⟩
      obtain ⟨hg, f0, f1, f2, f3⟩ := (HRD.out.moved HBVW.out).q4c hks
      rw [Nat.zero_add, hq] at f0 f1 f2 f3
      simp only at f0 f1 f2 f3
      have han : an < k := by omega
      have hbn : bn < k := by omega
      have hanb : an ≠ bn := fun e => hne (by rw [e])
      have HLY : Hid (ys.length = k) := Lib.hid HRW.out.len
      have hya : an < ys.length := by have := HLY.out; omega
      have hyb : bn < ys.length := by have := HLY.out; omega
      have HSTEP := Lib.hid (tbK_step (n := k) HQ.out hne rfl rfl han hbn)
      have hva := HVI.out (an : Int) (bn : Int) t ht
      have hvb := HVI.out (bn : Int) (an : Int) t ht
      have HTA : Hid ((tbR ds k (an : Int) t).getD bn 0 = tbV ds (an : Int) (bn : Int) t) := Lib.hid (by rw [List.getD_eq_getElem?_getD, List.getElem?_eq_getElem (by rw [tbR_len]; exact hbn), tbR_at _ _ _ _ _ hbn]; rfl)
      have HTB_ : Hid ((tbR ds k (bn : Int) t).getD an 0 = tbV ds (bn : Int) (an : Int) t) := Lib.hid (by rw [List.getD_eq_getElem?_getD, List.getElem?_eq_getElem (by rw [tbR_len]; exact han), tbR_at _ _ _ _ _ han]; rfl)
      obtain ⟨va, hva_⟩ : ∃ v, tbV ds (an : Int) (bn : Int) t = v := ⟨_, rfl⟩
      obtain ⟨vb, hvb_⟩ : ∃ v, tbV ds (bn : Int) (an : Int) t = v := ⟨_, rfl⟩
      rw [hva_] at hva HTA HSTEP
      rw [hvb_] at hvb HTB_ HSTEP
      have hwa : IntKind.i64.wrap (va + q2) = va + q2 := IntWalk.i64_in _ (by omega)
      have hwb : IntKind.i64.wrap (vb + q2) = vb + q2 := IntWalk.i64_in _ (by omega)
      have hzsa : (ys[an]).zs = tbR ds k (an : Int) t := by
        have h1 : (ys.map Rw.zs)[an]? = (tbK ds k k t)[an]? := by rw [HYZ.out]
        rw [List.getElem?_map, List.getElem?_eq_getElem hya, List.getElem?_eq_getElem (by rw [tbK_len]; exact han), tbK_at _ _ _ _ _ han] at h1
        simpa using h1
      have hzsb : (ys[bn]).zs = tbR ds k (bn : Int) t := by
        have h1 : (ys.map Rw.zs)[bn]? = (tbK ds k k t)[bn]? := by rw [HYZ.out]
        rw [List.getElem?_map, List.getElem?_eq_getElem hyb, List.getElem?_eq_getElem (by rw [tbK_len]; exact hbn), tbK_at _ _ _ _ _ hbn] at h1
        simpa using h1
      obtain ⟨w2', hw2⟩ : ∃ w2, wr.alloc (Obj.cells #[.int .i64 (an : Int), .int .i64 (bn : Int), .int .i64 q2, .int .i64 q3] 160) = w2 := ⟨_, rfl⟩
      obtain ⟨bx, hbx⟩ : ∃ b, wr.heap.size = b := ⟨_, rfl⟩
      have HOB : Hid (w2'.ownsRow gT 160 4 (.slice (some ⟨bx, 0, none⟩) 1 1) 1 [.int .i64 (an : Int), .int .i64 (bn : Int), .int .i64 q2, .int .i64 q3]) := Lib.hid (by rw [← hw2, ← hbx]; exact one_rowD wr _ _ _ _ HSV.out)
      have HR2 : Hid (Rws gT (some ⟨gT, 0, none⟩) k k ys w2') := Lib.hid (by rw [← hw2]; exact HRW.out.alloc _)
      have HB2' : Hid (Below gT w1 w2') := Lib.hid (by rw [← hw2]; exact HBV.out.alloc HSV.out _)
      have HW2 := Lib.hid hw2; have HBX := Lib.hid hbx
      clear hw2 hbx hva_ hvb_ hq
      obtain ⟨g8, e8, hg8, hca, hoa⟩ := HR2.out.at_ hya rfl
      obtain rfl : gT = g8 := by injection e8 with e8; injection e8
      obtain ⟨g9, e9, hg9, hcb, hob⟩ := HR2.out.at_ hyb rfl
      obtain rfl : gT = g9 := by injection e9 with e9; injection e9
      clear e8 e9
      obtain ⟨ya, hya_⟩ : ∃ y, ys[an]'hya = y := ⟨_, rfl⟩
      obtain ⟨yb, hyb_⟩ : ∃ y, ys[bn]'hyb = y := ⟨_, rfl⟩
      rw [hya_] at hca hoa hzsa
      rw [hyb_] at hcb hob hzsb
      have HYA := Lib.hid hya_; have HYB := Lib.hid hyb_
      clear hya_ hyb_
      obtain ⟨yaA, yan, yac, yaz⟩ := ya
      obtain ⟨ybA, ybn, ybc, ybz⟩ := yb
      simp only at hca hoa hzsa hcb hob hzsb
      subst hzsa hzsb
      obtain rfl : yan = k := by have := hoa.1; simp only at this; rw [tbR_len] at this; exact this
      obtain rfl : yan = ybn := by have := hob.1; simp only at this; rw [tbR_len] at this; exact this.symm
      obtain ⟨ga, rfl⟩ := own_some hoa.2 (by simp only; omega)
      obtain ⟨gb, rfl⟩ := own_some hob.2 (by simp only; omega)
      have hga := hoa.2.lt ga rfl
      have hgb := hob.2.lt gb rfl
      have HAPT : Hid (ga ≠ gb) := Lib.hid (fun e => by
        have hp := List.pairwise_iff_getElem.1 HR2.out.apart
        rcases Nat.lt_or_gt_of_ne hanb with h1 | h1
        · have h2 := hp an bn hya hyb h1
          rw [HYA.out, HYB.out] at h2
          exact h2 ga rfl (by rw [e]; rfl)
        · have h2 := hp bn an hyb hya h1
          rw [HYA.out, HYB.out] at h2
          exact h2 gb rfl (by rw [← e]; rfl))
      have HGTA : Hid (ga ≠ gT ∧ gb ≠ gT) := Lib.hid ⟨fun e => HR2.out.ap hoa gT (by rw [← e]; rfl) rfl, fun e => HR2.out.ap hob gT (by rw [← e]; rfl) rfl⟩
      have HBXA : Hid (ga ≠ bx ∧ gb ≠ bx) := Lib.hid ⟨fun e => own_type_apart hoa.2 HOB.out (by decide) bx (by rw [← e]; rfl) rfl, fun e => own_type_apart hob.2 HOB.out (by decide) bx (by rw [← e]; rfl) rfl⟩
      have va0 := hoa.2.cellAt bn (by simp only; omega)
      try simp only at va0
      rw [List.getElem?_map, List.getElem?_eq_getElem (by rw [tbR_len]; exact hbn)] at va0
      have e1 : (tbR ds yan (an : Int) t)[bn]'(by rw [tbR_len]; exact hbn) = va := by have h9 := HTA.out; rw [List.getD_eq_getElem?_getD, List.getElem?_eq_getElem (by rw [tbR_len]; exact hbn)] at h9; exact h9
      rw [e1] at va0
      simp only [Option.map_some] at va0
      have za0 := hoa.2.frozenAt bn
      try simp only at za0
      have b0 := HOB.out.cellAt 0 (by decide)
      have b1 := HOB.out.cellAt 1 (by decide)
      have b2 := HOB.out.cellAt 2 (by decide)
      have b3 := HOB.out.cellAt 3 (by decide)
      simp only [List.getElem?_cons_zero, List.getElem?_cons_succ] at b0 b1 b2 b3
      have HS1 := Lib.hid (HR2.out.store hya HYA.out rfl bn (va + q2))
      have HOB1 := Lib.hid (own_set HOB.out (p := ⟨ga, bn, none⟩) (by exact HBXA.out.1) (.int .i64 (va + q2)))
      have HBS1 := Lib.hid (HB2'.out.setCell (p := ⟨ga, bn, none⟩) hga.1 (.int .i64 (va + q2)))
      have HRB1 : Hid ((w2'.setCell ⟨ga, bn, none⟩ (.int .i64 (va + q2))).ownsRow gT 3 1 (.slice (some ⟨gb, 0, none⟩) yan ybc) yan ((tbR ds yan (bn : Int) t).map (Value.int .i64))) := Lib.hid (own_set hob.2 (p := ⟨ga, bn, none⟩) (by exact HAPT.out) _)
      have HCB := Lib.hid hcb
      clear hva hvb e1 hoa hob hcb
      go_wp2
      rw [HW2.out, HBX.out]
      clear f0 f1 f2 f3 hg
      go_region
      obtain ⟨wd, hwd⟩ : ∃ wd, (w2'.setCell ⟨ga, bn, none⟩ (.int .i64 (va + q2))).drew = wd := ⟨_, rfl⟩
      have hcb2 : wd.cell? ⟨gT, bn, none⟩ = some (.slice (some ⟨gb, 0, none⟩) yan ybc) := by
        rw [← hwd]
        exact (Off.cell (Off.set_ (Off.refl (fun b => b = ga) w2') (p := ⟨ga, bn, none⟩) rfl (.int .i64 (va + q2))) (p := ⟨gT, bn, none⟩) hg8 (fun e => HGTA.out.1 e.symm)).trans HCB.out
      have HS1d : Hid (Rws gT (some ⟨gT, 0, none⟩) yan yan (ys.set an ⟨some ⟨ga, 0, none⟩, yan, yac, (tbR ds yan (an : Int) t).set bn (va + q2)⟩) wd) := Lib.hid (by rw [← hwd]; exact HS1.out.heapW rfl)
      have HOB1d : Hid (wd.ownsRow gT 160 4 (.slice (some ⟨bx, 0, none⟩) 1 1) 1 [.int .i64 (an : Int), .int .i64 (bn : Int), .int .i64 q2, .int .i64 q3]) := Lib.hid (by rw [← hwd]; exact HOB1.out.drew)
      have HBS1d : Hid (Below gT w1 wd) := Lib.hid (by rw [← hwd]; exact HBS1.out.drew)
      have HRB1d : Hid (wd.ownsRow gT 3 1 (.slice (some ⟨gb, 0, none⟩) yan ybc) yan ((tbR ds yan (bn : Int) t).map (Value.int .i64))) := Lib.hid (by rw [← hwd]; exact HRB1.out.drew)
      rw [hwd]
      clear hwd va0 za0 b0 b1 b2 b3 hca hg8 hg9
      have vb0 := HRB1d.out.cellAt an (by omega)
      rw [List.getElem?_map, List.getElem?_eq_getElem (by rw [tbR_len]; exact han)] at vb0
      have e1 : (tbR ds yan (bn : Int) t)[an]'(by rw [tbR_len]; exact han) = vb := by have h9 := HTB_.out; rw [List.getD_eq_getElem?_getD, List.getElem?_eq_getElem (by rw [tbR_len]; exact han)] at h9; exact h9
      rw [e1] at vb0
      simp only [Option.map_some] at vb0
      have zb0 := HRB1d.out.frozenAt an
      have b0 := HOB1d.out.cellAt 0 (by decide)
      have b1 := HOB1d.out.cellAt 1 (by decide)
      have b2 := HOB1d.out.cellAt 2 (by decide)
      have b3 := HOB1d.out.cellAt 3 (by decide)
      simp only [List.getElem?_cons_zero, List.getElem?_cons_succ] at b0 b1 b2 b3
      have hyb2 : bn < (ys.set an ⟨some ⟨ga, 0, none⟩, yan, yac, (tbR ds yan (an : Int) t).set bn (va + q2)⟩).length := by rw [List.length_set]; exact hyb
      have hyb3 : (ys.set an ⟨some ⟨ga, 0, none⟩, yan, yac, (tbR ds yan (an : Int) t).set bn (va + q2)⟩)[bn]'hyb2 = ⟨some ⟨gb, 0, none⟩, yan, ybc, tbR ds yan (bn : Int) t⟩ := by rw [List.getElem_set, if_neg hanb]; exact HYB.out
      have HS2 := Lib.hid (HS1d.out.store hyb2 hyb3 rfl an (vb + q2))
      have HBS2 := Lib.hid (HBS1d.out.setCell (p := ⟨gb, an, none⟩) hgb.1 (.int .i64 (vb + q2)))
      have HYZ2 : Hid (((ys.set an ⟨some ⟨ga, 0, none⟩, yan, yac, (tbR ds yan (an : Int) t).set bn (va + q2)⟩).set bn ⟨some ⟨gb, 0, none⟩, yan, ybc, (tbR ds yan (bn : Int) t).set an (vb + q2)⟩).map Rw.zs = tbK ds yan yan (t + 1)) := Lib.hid (by rw [HSTEP.out, ← HYZ.out, List.map_set, List.map_set])
      clear e1 hyb2 hyb3
      go_wp2
      go_region
      clear vb0 zb0 b0 b1 b2 b3 hcb2
      go_wp2
      go_roundw
      case rel => exact ⟨t + 1, _, by omega, by go_num, HYZ2, Lib.hid (HS2.out.heapW rfl), HBS2.out.drew⟩
      case measure => simp [intOf]; omega
end Go.Proofs.Ytnbeomnlobfpfaa
