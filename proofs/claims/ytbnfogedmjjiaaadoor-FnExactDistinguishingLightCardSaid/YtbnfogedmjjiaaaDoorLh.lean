/- The lights of a set told by their Ids; contracts of LightsHit and DistinguishingLight, both sides. Condition: the table of math/bits holds what Go's text lays (on impl's side). -/
import Derived.Test.YtbnfogedmjjiaaaDoorIe
import Derived.Test.YtbnfogedmjjiaaaDoorOl
import Derived.Test.YtbnfogedmjjiaaaDoorLst
import Derived.Test.YtbnfogedmjjiaaaDoorGB
import Derived.Test.YtbnfogedmjjiaaaDoorLab
namespace Go.Proofs.YtbnfogedmjjiaaaDoor
open Go.ChangeShapes Go.WideShapes Go.ChangeAt Go.RowKit Go.Maps

/-- a row that is changed in place, from the front. -/
def mixL (f : Int → Int) (L : List Int) (k : Nat) : List Int := (L.take k).map f ++ L.drop k
theorem mix_zero (f : Int → Int) (L : List Int) : mixL f L 0 = L := by unfold mixL; simp
theorem mix_end (f : Int → Int) (L : List Int) {k : Nat} (h : k = L.length) : mixL f L k = L.map f := by unfold mixL; subst h; simp
theorem mix_len (f : Int → Int) (L : List Int) {k : Nat} (h : k ≤ L.length) : (mixL f L k).length = L.length := by unfold mixL; simp; omega
theorem mix_get {f : Int → Int} {L : List Int} {k : Nat} (h : k < L.length) : (mixL f L k).getD k 0 = L[k] := by
  unfold mixL
  rw [List.getD_eq_getElem?_getD, List.getElem?_append_right (by rw [List.length_map, List.length_take]; omega), List.length_map, List.length_take, show k - min k L.length = 0 by omega, List.drop_eq_getElem_cons h]; rfl
theorem mix_step {f : Int → Int} {L : List Int} {k : Nat} (h : k < L.length) : (mixL f L k).set k (f L[k]) = mixL f L (k + 1) := by
  unfold mixL
  rw [List.set_append_right _ _ (by rw [List.length_map, List.length_take]; omega), List.length_map, List.length_take, show k - min k L.length = 0 by omega, List.drop_eq_getElem_cons h, List.set_cons_zero, List.take_succ_eq_append_getElem h, List.map_append, List.append_assoc]; rfl
def idF (ds : List LtD) (i : Int) : Int := (dn ds i.toNat).p0
/-- the Ids of the lights of a set. -/
def idsL (ds : List LtD) (m n : Nat) : List Int := (selK m.testBit n).map (idF ds)
theorem ids_in {ds : List LtD} {m n : Nat} (h : m.testBit n = true) : idsL ds m (n + 1) = idsL ds m n ++ [(dn ds n).p0] := by
  unfold idsL; rw [sel_in h, List.map_append]; rfl
theorem ids_out {ds : List LtD} {m n : Nat} (h : m.testBit n = false) : idsL ds m (n + 1) = idsL ds m n := by
  unfold idsL; rw [sel_out h]
theorem idsL_len (ds : List LtD) (m n : Nat) : (idsL ds m n).length ≤ n := by unfold idsL; rw [List.length_map]; exact sel_len _ _
theorem ids_more (ds : List LtD) (m n : Nat) : ∀ d, ∃ t, idsL ds m (n + d) = idsL ds m n ++ t
  | 0 => ⟨[], by simp⟩
  | d + 1 => by
    obtain ⟨t, ht⟩ := ids_more ds m n d
    cases hb : m.testBit (n + d) with
    | true => exact ⟨t ++ [(dn ds (n + d)).p0], by rw [← Nat.add_assoc, ids_in hb, ht, List.append_assoc]⟩
    | false => exact ⟨t, by rw [← Nat.add_assoc, ids_out hb, ht]⟩
set_option maxRecDepth 100000 in
set_option maxHeartbeats 4000000 in
theorem ids_ {B g3 n3 : Nat} {ys : List Lt} {ds : List LtD} {w : World} (hT : Lts B g3 n3 ys w) (hd : ys.map Lt.d = ds) (hl : n3 ≤ 12) {m : Nat} (hm : m < 2 ^ n3) (H : Value) (hTab : Tab w) :
    Calls Tryd.prog 129 #[.agg #[.slice (some ⟨g3, 0, none⟩) n3 n3, H], .int .i64 (m : Int)] w (IntP (idsL ds m n3) w) := by
  have HT := Lib.hid hT; have HD := Lib.hid hd
  have HLD : Hid (ds.length = n3) := Lib.hid (by rw [← hd, List.length_map]; exact hT.len)
  have hm24 : m < 16777216 := Nat.lt_of_lt_of_le hm (Nat.le_trans (Nat.pow_le_pow_right (by decide) hl) (by decide : 2 ^ 12 ≤ 16777216))
  have CL := Lib.hid (fun (W : World) (hb : Below w.heap.size w W) => listOf_ m W hm24 (hTab.over hb))
  have HBL : Hid (∀ x ∈ bl m, ∃ i : Nat, x = (i : Int) ∧ i < n3) := Lib.hid (fun x hx => by
    rw [bl_sel (n := n3) (by omega) hm] at hx
    obtain ⟨k, e, hk, _⟩ := sel_mem.1 hx
    exact ⟨k, e, hk⟩)
  have HEQ : Hid (idsL ds m n3 = (bl m).map (idF ds)) := Lib.hid (by unfold idsL; rw [bl_sel (n := n3) (by omega) hm])
  have hbl := bl_len m
  obtain ⟨L, hL⟩ : ∃ L, bl m = L := ⟨_, rfl⟩
  rw [hL] at CL HBL HEQ hbl
  clear hT hd hm hm24 hTab hL
  go_enter Tryd.func129, Tryd.ntmps129
  go_wp2_with fail
  obtain ⟨W0, hW0⟩ : ∃ W0, w.alloc (Obj.cells #[.slice (some ⟨g3, 0, none⟩) n3 n3, H] 161) = W0 := ⟨_, rfl⟩
  have hb0 : Below w.heap.size w W0 := by rw [← hW0]; exact (Below.refl _ _).alloc (Nat.le_refl _) _
  have k0 : W0.cell? ⟨w.heap.size, 0, none⟩ = some (.slice (some ⟨g3, 0, none⟩) n3 n3) := by rw [← hW0]; simp [go_sem]
  have hz0 : w.heap.size < W0.heap.size := by rw [← hW0]; simp
  have HB0 := Lib.hid hb0; have HK0 := Lib.hid k0; have HZ0 := Lib.hid hz0
  rw [hW0]
  clear hW0 hb0 k0 hz0
  refine (CL.out _ HB0.out).mono ?_
  rintro e w1 ⟨A, N, c, rfl, HN, ho, hb1⟩
  have HB1 := Lib.hid hb1
  have HO1 := Lib.hid ho
  have hN24 : N ≤ 24 := by have := HN.out; omega
  clear hb1 ho hbl
  go_wp2
  go_loopw [12] (fun i wr => ∃ k : Nat, k ≤ N ∧ i = .int .i64 k ∧ Hid (wr.ownsRow W0.heap.size 3 1 (.slice A N c) N ((mixL (idF ds) L k).map (Value.int .i64))) ∧ Below W0.heap.size W0 wr) (fun i _ => N - (intOf i).toNat)
  case atStart => exact ⟨0, Nat.zero_le _, rfl, Lib.hid (by rw [mix_zero]; exact HO1.out), HB1.out⟩
  case round =>
    obtain ⟨k, hk, rfl, HOW, hb⟩ := hrel
    have HBR := Lib.hid hb
    have HBW := Lib.hid (HB0.out.trans (hb.mono HB0.out.size))
    have k0 := (hb.cell (p := ⟨w.heap.size, 0, none⟩) HZ0.out).trans HK0.out
    have hg0 : w.heap.size < wr.heap.size := Nat.lt_of_lt_of_le HZ0.out hb.size
    clear hb
    by_cases hlt : k < N
    case neg =>
      have HF : Hid (mixL (idF ds) L k = idsL ds m n3) := Lib.hid (by rw [mix_end _ _ (by have := HN.out; omega), HEQ.out])
      clear k0 hg0
      go_wp2
      go_ret
      exact ⟨A, N, c, rfl, Lib.hid (by rw [HEQ.out, List.length_map]; exact HN.out), by rw [← HF.out]; exact own_base HOW.out HB0.out.size, HBW.out⟩
    case pos =>
    have hkL : k < L.length := by have := HN.out; omega
    obtain ⟨g, rfl⟩ := own_some HOW.out (by omega)
    obtain ⟨i, hi, hin⟩ := HBL.out L[k] (List.getElem_mem hkL)
    have hck := own_int (k := k) HOW.out (by rw [mix_len _ _ (by omega)]; exact HN.out) hlt (v := (i : Int)) (by rw [mix_get hkL, hi])
    have hjl : i < ys.length := by have := HT.out.len; omega
    obtain ⟨z, hze⟩ : ∃ y, ys[i]'hjl = y := ⟨_, rfl⟩
    have HDK := Lib.hid (dn_at HD.out hjl hze)
    obtain ⟨hgl, f0, f1, f2, f3, f4⟩ := (HT.out.moved HBW.out).rd.ltc hjl
    clear f1 f2 f3 f4
    rw [Nat.zero_add, hze] at f0
    obtain ⟨p0, p1, zA, zn, zc, zzs, q0, q1⟩ := z
    simp only at f0
    have HID : Hid (idF ds L[k] = p0) := Lib.hid (by unfold idF; rw [hi, show ((i : Int)).toNat = i by omega, HDK.out]; rfl)
    have hgg := HOW.out.lt g rfl
    have hfz := HOW.out.frozenAt k
    have HOS : Hid ((wr.setCell ⟨g, k, none⟩ (.int .i64 p0)).ownsRow W0.heap.size 3 1 (.slice (some ⟨g, 0, none⟩) N c) N ((mixL (idF ds) L (k + 1)).map (Value.int .i64))) := Lib.hid (by
      have h9 := (HOW.out.stored k (.int .i64 p0)).1
      rw [set_mapI, ← HID.out, mix_step hkL, HID.out] at h9
      exact h9)
    have HBS := Lib.hid (HBR.out.setCell (p := ⟨g, k, none⟩) hgg.1 (.int .i64 p0))
    have hiI : (i : Int) < n3 := by omega
    clear hi hze hjl
    go_wp2
    go_roundw
    case rel => exact ⟨k + 1, by omega, by go_num, HOS, HBS.out⟩
    case measure => simp [intOf]; omega

/-- both sides' conditions. -/
def lhP (ss : List ByteArray) (fs : List Q4) (ds : List LtD) (ks : List Int) : Prop := planP ss fs ds ∧ risB ks ((rgL fs).length : Int) = true
noncomputable def lhB (ss : List ByteArray) (fs : List Q4) (ds : List LtD) (ks : List Int) : Bool := pb (lhP ss fs ds ks)
noncomputable def lhL (ss : List ByteArray) (fs : List Q4) (ds : List LtD) (ks : List Int) : List Int := if lhB ss fs ds ks then idsL ds (unK ds (rgL fs) ks ks.length) ds.length else []
theorem lh_no {ss : List ByteArray} {fs : List Q4} {ds : List LtD} {ks : List Int} (h : ¬ lhP ss fs ds ks) : lhL ss fs ds ks = [] ∧ lhB ss fs ds ks = false := by
  have e : lhB ss fs ds ks = false := pb_false h
  exact ⟨by unfold lhL; rw [e]; rfl, e⟩
theorem lh_yes {ss : List ByteArray} {fs : List Q4} {ds : List LtD} {ks : List Int} (h : lhP ss fs ds ks) : lhL ss fs ds ks = idsL ds (unK ds (rgL fs) ks ks.length) ds.length ∧ lhB ss fs ds ks = true := by
  have e : lhB ss fs ds ks = true := pb_true h
  exact ⟨by unfold lhL; rw [e]; rfl, e⟩
theorem lhL_len (ss : List ByteArray) (fs : List Q4) (ds : List LtD) (ks : List Int) : (lhL ss fs ds ks).length ≤ ds.length := by
  unfold lhL; split
  · exact idsL_len _ _ _
  · simp
theorem un_lt2 {ds : List LtD} {gs : List (List Int)} {ks : List Int} : ∀ {k : Nat}, unK ds gs ks k < 2 ^ ds.length
  | 0 => Nat.two_pow_pos _
  | k + 1 => Nat.or_lt_two_pow un_lt2 hit_lt
set_option maxRecDepth 100000 in
set_option maxHeartbeats 4000000 in
theorem implLH {g1 g2 g3 n1 n2 n3 c1 c2 B : Nat} {ss : List ByteArray} {fs : List Q4} {ys : List Lt} {ds : List LtD} {w : World} (h : NetAt g1 g2 n1 n2 c1 c2 ss fs w) (hT : Lts B g3 n3 ys w) (hd : ys.map Lt.d = ds) (hs : n3 ≤ 1048576) {K : Option Addr} {m dK : Nat} {ks : List Int} (hm : ks.length = m) (hr2 : Rd w w.heap.size K (ks.map (Value.int .i64))) (hs2 : m ≤ 1048576) (hTab : Tab w) :
    Calls Tryd.prog 58 #[.agg #[.slice (some ⟨g1, 0, none⟩) n1 c1, .slice (some ⟨g2, 0, none⟩) n2 c2, .slice (some ⟨g3, 0, none⟩) n3 n3], .slice K m dK] w (IntsP (lhL ss fs ds ks) (lhB ss fs ds ks) w) := by
  have HRZ := Lib.hid hr2; have HM := Lib.hid hm; have HT := Lib.hid hT; have HD := Lib.hid hd; have HTB := Lib.hid hTab
  have HLD : Hid (ds.length = n3) := Lib.hid (by rw [← hd, List.length_map]; exact hT.len)
  have HGL : Hid (planP ss fs ds → (rgL fs).length ≤ 14) := Lib.hid (fun hp => by have := rgp_len fs; have := hp.1.2.1; omega)
  obtain ⟨RL, hRL⟩ : ∃ r, lhL ss fs ds ks = r := ⟨_, rfl⟩
  obtain ⟨RB, hRB⟩ : ∃ r, lhB ss fs ds ks = r := ⟨_, rfl⟩
  have HNO : Hid (¬ lhP ss fs ds ks → RL = [] ∧ RB = false) := Lib.hid (fun e => by rw [← hRL, ← hRB]; exact lh_no e)
  have HYES : Hid (lhP ss fs ds ks → RL = idsL ds (unK ds (rgL fs) ks ks.length) ds.length ∧ RB = true) := Lib.hid (fun e => by rw [← hRL, ← hRB]; exact lh_yes e)
  rw [hRL, hRB]
  have CO := Lib.hid (fun (W : World) (hb : Below w.heap.size w W) => outlookOf_ (h.moved hb) (hT.moved hb) hd hs)
  clear h hT hd hm hr2 hRL hRB hTab
  obtain ⟨V, hVe⟩ : ∃ b, pb (planP ss fs ds) = b := ⟨_, rfl⟩
  rw [hVe] at CO
  have HVB := Lib.hid hVe
  clear hVe
  go_enter Tryd.func58, Tryd.ntmps58
  go_wp2_with fail
  have HB0 := Lib.hid ((Below.refl w.heap.size w).alloc (Nat.le_refl _) (Obj.cells #[.slice (some ⟨g1, 0, none⟩) n1 c1, .slice (some ⟨g2, 0, none⟩) n2 c2, .slice (some ⟨g3, 0, none⟩) n3 n3] 82))
  refine (CO.out _ HB0.out).mono ?_
  rintro e w1 (⟨rfl, rfl, hb1⟩ | ⟨A1, N, cA, rfl, rfl, HNL, ho, hb1⟩)
  case inl =>
    have HE := Lib.hid (HNO.out (fun h => of_npb HVB.out h.1))
    have HB1 := Lib.hid (HB0.out.trans (hb1.mono HB0.out.size))
    have HB2 := Lib.hid (HB1.out.alloc HB1.out.size (Obj.cells #[.slice none 0 0, .slice none 0 0] 161))
    clear hb1
    go_wp2
    go_ret2
    exact ints_no HE.out HB2.out
  case inr =>
  have HB1 := Lib.hid (HB0.out.trans (hb1.mono HB0.out.size))
  have HOW := Lib.hid ho
  clear hb1 ho
  have HP : Hid (planP ss fs ds) := Lib.hid (of_pb HVB.out)
  have HN : Hid (N = (rgL fs).length) := Lib.hid (by rw [HNL.out]; unfold htL; rw [List.length_map])
  have hN14 : N ≤ 14 := by have := HN.out; have := HGL.out HP.out; omega
  have hn12 : n3 ≤ 12 := by have := HP.out.2.1; have := HLD.out; omega
  obtain ⟨W2, hW2⟩ : ∃ W2, w1.alloc (Obj.cells #[.slice (some ⟨g3, 0, none⟩) n3 n3, .slice A1 N cA] 161) = W2 := ⟨_, rfl⟩
  have hb2 : Below w1.heap.size w1 W2 := by rw [← hW2]; exact (Below.refl _ _).alloc (Nat.le_refl _) _
  have q0 : W2.cell? ⟨w1.heap.size, 0, none⟩ = some (.slice (some ⟨g3, 0, none⟩) n3 n3) := by rw [← hW2]; simp [go_sem]
  have q1 : W2.cell? ⟨w1.heap.size, 1, none⟩ = some (.slice A1 N cA) := by rw [← hW2]; simp [go_sem]
  have qz : w1.heap.size < W2.heap.size := by rw [← hW2]; simp
  have HB2 := Lib.hid (HB1.out.trans (hb2.mono HB1.out.size))
  have HOW2 := Lib.hid (ownB HOW.out hb2)
  have HQ0 := Lib.hid q0; have HQ1 := Lib.hid q1; have HQZ := Lib.hid qz; have HW2 := Lib.hid hW2
  clear hW2 hb2 q0 q1 qz
  have CG := Lib.hid (hasG_ (V := .slice (some ⟨g3, 0, none⟩) n3 n3) (A := A1) (N := N) (c := cA) (dK := dK) HM.out (HRZ.out.moved HB2.out) hs2)
  obtain ⟨b, hbe⟩ : ∃ b, risB ks (N : Int) = b := ⟨_, rfl⟩
  rw [hbe] at CG
  have HRB := Lib.hid hbe
  clear hbe
  go_wp2_with fail
  rw [HW2.out]
  refine CG.out.mono ?_
  rintro e w3 ⟨rfl, hb3⟩
  have HB3 := Lib.hid (HB2.out.trans (hb3.mono HB2.out.size))
  have q0 := (hb3.cell (p := ⟨w1.heap.size, 0, none⟩) HQZ.out).trans HQ0.out
  have q1 := (hb3.cell (p := ⟨w1.heap.size, 1, none⟩) HQZ.out).trans HQ1.out
  have HOW3 := Lib.hid (ownB HOW2.out hb3)
  have hg3 : w1.heap.size < w3.heap.size := Nat.lt_of_lt_of_le HQZ.out hb3.size
  clear hb3
  cases b
  case false =>
    have HE := Lib.hid (HNO.out (fun h => by have h9 := h.2; rw [← HN.out, HRB.out] at h9; cases h9))
    clear q0 q1 hg3
    go_wp2
    go_ret2
    exact ints_no HE.out HB3.out
  case true =>
  have HKS : Hid (∀ j, j < m → 0 ≤ nth ks j ∧ nth ks j < N) := Lib.hid (fun j hj => ris_all HRB.out j (by have := HM.out; omega))
  have HE := Lib.hid (HYES.out ⟨HP.out, by rw [← HN.out]; exact HRB.out⟩)
  have HUL : Hid (unK ds (rgL fs) ks m < 2 ^ n3) := Lib.hid (by rw [← HLD.out]; exact un_lt2)
  have CH : Hid (∀ W, Bel w3 W → Calls Tryd.prog 130 #[.agg #[.slice (some ⟨g3, 0, none⟩) n3 n3, .slice A1 N cA], .slice K m dK] W (RetP (.int .i64 (unK ds (rgL fs) ks m : Nat)) W)) := Lib.hid (fun W hW => hitBy_ (V := .slice (some ⟨g3, 0, none⟩) n3 n3) (A := A1) (c := cA) (dK := dK) HP.out.2.1 HN.out (Rd.ofOwn (ownB HOW3.out hW.out)) hN14 HM.out ((HRZ.out.moved HB3.out).moved hW.out) hs2 HKS.out)
  have CI : Hid (∀ W, Bel w3 W → Calls Tryd.prog 129 #[.agg #[.slice (some ⟨g3, 0, none⟩) n3 n3, .slice A1 N cA], .int .i64 (unK ds (rgL fs) ks m : Nat)] W fun e w' => ∃ (A9 : Option Addr) (N9 c9 : Nat), e = .returned (.slice A9 N9 c9) ∧ Hid (N9 = (idsL ds (unK ds (rgL fs) ks m) n3).length) ∧ Hid (w'.ownsRow w3.heap.size 3 1 (.slice A9 N9 c9) N9 ((idsL ds (unK ds (rgL fs) ks m) n3).map (Value.int .i64))) ∧ Below W.heap.size W w') := Lib.hid (fun W hW => (ids_ ((HT.out.moved HB3.out).moved hW.out) HD.out hn12 HUL.out _ ((HTB.out.over HB3.out).over hW.out)).mono fun e w' h => by
    obtain ⟨A9, N9, c9, h1, h2, h3, h4⟩ := h
    exact ⟨A9, N9, c9, h1, h2, Lib.hid (own_base h3 hW.out.size), h4⟩)
  have HEL : Hid (RL = idsL ds (unK ds (rgL fs) ks m) n3) := Lib.hid (by rw [HE.out.1, HM.out, HLD.out])
  obtain ⟨u, hu⟩ : ∃ u, unK ds (rgL fs) ks m = u := ⟨_, rfl⟩
  rw [hu] at CH CI HEL
  obtain ⟨L, hL⟩ : ∃ r, idsL ds u n3 = r := ⟨_, rfl⟩
  rw [hL] at CI HEL
  clear hu hL
  have hbd : Bel w3 w3.drew := Bel.of (Below.refl _ _).drew
  go_upto_region 4 with fail
  go_cut [4, 5] (fun s4 s5 wx => ∃ (A9 : Option Addr) (N9 c9 : Nat), s4 = .slice A9 N9 c9 ∧ s5 = .bool true ∧ Hid (N9 = L.length) ∧ Hid (wx.ownsRow w3.heap.size 3 1 (.slice A9 N9 c9) N9 (L.map (Value.int .i64))) ∧ Bel w3 wx)
  case first =>
    go_region_held3 (fun U => U.cell? ⟨w1.heap.size, 0, none⟩ = some (.slice (some ⟨g3, 0, none⟩) n3 n3) ∧ U.cell? ⟨w1.heap.size, 1, none⟩ = some (.slice A1 N cA) ∧ Bel w3 U)
      (first | (go_keep; done) | (go_split_ands; (refine ⟨?_, ?_, ?_⟩ <;> first | assumption | exact Bel.step (by assumption) hb9 | exact (Bel.at_ (by assumption) hb9 (by assumption)).trans (by assumption) | exact Bel.step (by assumption) hb8 | exact (Bel.at_ (by assumption) hb8 (by assumption)).trans (by assumption))))
      (first
        | (go_at_call 130; go_split_ands; refine (CH.out _ (by assumption)).mono ?_; rintro e u1 ⟨rfl, hb8⟩)
        | (go_at_call 129; go_split_ands; refine (CI.out _ (by assumption)).mono ?_; rintro e u2 ⟨A9, N9, c9, rfl, HN9, HO9, hb9⟩))
    all_goals
      go_split_ands
      have hbl9 : Bel w3 u2 := by assumption
      go_wp2_with fail
      go_meet
      exact ⟨A9, N9, c9, rfl, rfl, HN9, HO9, hbl9⟩
  case rest =>
  clear hbd q0 q1 hg3
  revert hcut; generalize wc = w5; intro hcut
  obtain ⟨A9, N9, c9, h0_, h1_, HN9, HO9, hb9⟩ := hcut
  subst h0_ h1_
  have HB5 := Lib.hid (HB3.out.trans ((Bel.out hb9).mono HB3.out.size))
  have HF := Lib.hid HE.out.2
  clear hb9
  go_wp2
  go_ret2
  rw [HEL.out, HF.out]
  exact ⟨A9, N9, c9, rfl, HN9, own_base HO9.out HB3.out.size, HB5.out⟩
set_option maxRecDepth 100000 in
set_option maxHeartbeats 2000000 in
theorem l25GrN_ {g1 g2 g3 n1 n2 n3 c1 c2 B : Nat} {ss : List ByteArray} {fs : List Q4} {ys : List Lt} {ds : List LtD} {w : World} (h : NetAt g1 g2 n1 n2 c1 c2 ss fs w) (hT : Lts B g3 n3 ys w) (hd : ys.map Lt.d = ds) (hs : n3 ≤ 1048576) {K : Option Addr} {m dK : Nat} {ks : List Int} (hm : ks.length = m) (hr2 : Rd w w.heap.size K (ks.map (Value.int .i64))) (hs2 : m ≤ 1048576) :
    Calls Tryd.prog 124 #[.agg #[.slice (some ⟨g1, 0, none⟩) n1 c1, .slice (some ⟨g2, 0, none⟩) n2 c2, .slice (some ⟨g3, 0, none⟩) n3 n3], .slice K m dK] w (RetP (.bool (lhB ss fs ds ks)) w) := by
  by_cases hp : planP ss fs ds
  case pos =>
    have e : lhB ss fs ds ks = risB ks ((rgL fs).length : Int) := by
      cases hb : risB ks ((rgL fs).length : Int) with
      | false => exact pb_false (fun h => by have := h.2; rw [hb] at this; cases this)
      | true => exact pb_true ⟨hp, hb⟩
    rw [e]
    exact l25Gr_ h hT hd hs hm hr2 hs2 hp
  case neg =>
  rw [show lhB ss fs ds ks = false from pb_false (fun h => hp h.1)]
  have CG := Lib.hid (fun (W : World) (hb : Below w.heap.size w W) => l9Good_ (h.moved hb) (hT.moved hb) hd hs)
  rw [pb_false hp] at CG
  clear h hT hd hm hr2 hp
  go_enter Tryd.func124, Tryd.ntmps124
  go_wp2_with fail
  have HB0 := Lib.hid ((Below.refl w.heap.size w).alloc (Nat.le_refl _) (Obj.cells #[.slice (some ⟨g1, 0, none⟩) n1 c1, .slice (some ⟨g2, 0, none⟩) n2 c2, .slice (some ⟨g3, 0, none⟩) n3 n3] 82))
  refine (CG.out _ HB0.out).mono ?_
  rintro e w1 ⟨rfl, hb1⟩
  have HB1 := Lib.hid (HB0.out.trans (hb1.mono HB0.out.size))
  clear hb1
  go_wp2
  go_ret
  exact ⟨rfl, HB1.out⟩
set_option maxRecDepth 100000 in
set_option maxHeartbeats 4000000 in
theorem specLH {g1 g2 g3 n1 n2 n3 c1 c2 B : Nat} {ss : List ByteArray} {fs : List Q4} {ys : List Lt} {ds : List LtD} {w : World} (h : NetAt g1 g2 n1 n2 c1 c2 ss fs w) (hT : Lts B g3 n3 ys w) (hd : ys.map Lt.d = ds) (hs : n3 ≤ 1048576) {K : Option Addr} {m dK : Nat} {ks : List Int} (hm : ks.length = m) (hr2 : Rd w w.heap.size K (ks.map (Value.int .i64))) (hs2 : m ≤ 1048576) :
    Calls Tryd.prog 56 #[.agg #[.slice (some ⟨g1, 0, none⟩) n1 c1, .slice (some ⟨g2, 0, none⟩) n2 c2, .slice (some ⟨g3, 0, none⟩) n3 n3], .slice K m dK] w (IntsP (lhL ss fs ds ks) (lhB ss fs ds ks) w) := by
  have HRZ := Lib.hid hr2; have HM := Lib.hid hm; have HT := Lib.hid hT; have HD := Lib.hid hd
  have HLD : Hid (ds.length = n3) := Lib.hid (by rw [← hd, List.length_map]; exact hT.len)
  have HGL : Hid (planP ss fs ds → (rgL fs).length ≤ 14) := Lib.hid (fun hp => by have := rgp_len fs; have := hp.1.2.1; omega)
  obtain ⟨RL, hRL⟩ : ∃ r, lhL ss fs ds ks = r := ⟨_, rfl⟩
  obtain ⟨RB, hRB⟩ : ∃ r, lhB ss fs ds ks = r := ⟨_, rfl⟩
  have HNO : Hid (¬ lhP ss fs ds ks → RL = [] ∧ RB = false) := Lib.hid (fun e => by rw [← hRL, ← hRB]; exact lh_no e)
  have HYES : Hid (lhP ss fs ds ks → RL = idsL ds (unK ds (rgL fs) ks ks.length) ds.length ∧ RB = true) := Lib.hid (fun e => by rw [← hRL, ← hRB]; exact lh_yes e)
  have CG := Lib.hid (fun (W : World) (hb : Below w.heap.size w W) => l25GrN_ (dK := dK) (h.moved hb) (hT.moved hb) hd hs hm (hr2.moved hb) hs2)
  have CH := Lib.hid (fun (hp : planP ss fs ds) (W : World) (hb : Below w.heap.size w W) => l25Hits_ (h.moved hb) (hT.moved hb) hd hs hp.1 (by have := hp.2.1; have := HLD.out; omega))
  rw [hRB] at CG
  rw [hRL, hRB]
  have HVB := Lib.hid hRB
  clear h hT hd hm hr2 hRL hRB
  go_enter Tryd.func56, Tryd.ntmps56
  go_wp2_with fail
  obtain ⟨W0, hW0⟩ : ∃ W0, (w.alloc (Obj.cells #[.slice (some ⟨g1, 0, none⟩) n1 c1, .slice (some ⟨g2, 0, none⟩) n2 c2, .slice (some ⟨g3, 0, none⟩) n3 n3] 82)).alloc (Obj.cells #[] 3) = W0 := ⟨_, rfl⟩
  have hb0 : Below w.heap.size w W0 := by rw [← hW0]; exact ((Below.refl _ _).alloc (Nat.le_refl _) _).alloc (by simp) _
  have k0 : W0.cell? ⟨w.heap.size, 0, none⟩ = some (.slice (some ⟨g1, 0, none⟩) n1 c1) := by rw [← hW0]; simp [go_sem]
  have k1 : W0.cell? ⟨w.heap.size, 1, none⟩ = some (.slice (some ⟨g2, 0, none⟩) n2 c2) := by rw [← hW0]; simp [go_sem]
  have k2 : W0.cell? ⟨w.heap.size, 2, none⟩ = some (.slice (some ⟨g3, 0, none⟩) n3 n3) := by rw [← hW0]; simp [go_sem]
  have hz0 : w.heap.size + 1 < W0.heap.size := by rw [← hW0]; simp
  have HO0 : Hid (W0.ownsRow (w.heap.size + 1) 3 1 (.slice (some ⟨w.heap.size + 1, 0, none⟩) 0 0) 0 []) := Lib.hid (by
    rw [← hW0]
    have h9 := World.ownsRow_lit (base := w.heap.size + 1) (e := 3) (size := 1) (w.alloc (Obj.cells #[.slice (some ⟨g1, 0, none⟩) n1 c1, .slice (some ⟨g2, 0, none⟩) n2 c2, .slice (some ⟨g3, 0, none⟩) n3 n3] 82)) #[] 0 (by simp) (by unfold maxLen; omega) rfl
    simpa using h9)
  have HB0 := Lib.hid hb0; have HZ0 := Lib.hid hz0
  have HKB : Hid (∀ W, Below (w.heap.size + 1) W0 W → W.cell? ⟨w.heap.size, 0, none⟩ = some (.slice (some ⟨g1, 0, none⟩) n1 c1) ∧ W.cell? ⟨w.heap.size, 1, none⟩ = some (.slice (some ⟨g2, 0, none⟩) n2 c2) ∧ W.cell? ⟨w.heap.size, 2, none⟩ = some (.slice (some ⟨g3, 0, none⟩) n3 n3) ∧ w.heap.size < W.heap.size) := Lib.hid (fun W hW => ⟨(hW.cell (p := ⟨w.heap.size, 0, none⟩) (Nat.lt_succ_self _)).trans k0, (hW.cell (p := ⟨w.heap.size, 1, none⟩) (Nat.lt_succ_self _)).trans k1, (hW.cell (p := ⟨w.heap.size, 2, none⟩) (Nat.lt_succ_self _)).trans k2, by have := hW.size; omega⟩)
  rw [hW0]
  clear hW0 hb0 k0 k1 k2 hz0
  refine (CG.out _ HB0.out).mono ?_
  rintro e w1 ⟨rfl, hb1⟩
  have HB1 := Lib.hid (HB0.out.trans (hb1.mono HB0.out.size))
  have HB1W := Lib.hid (hb1.mono (by have := HZ0.out; omega : w.heap.size + 1 ≤ W0.heap.size))
  have HO1 := Lib.hid (ownB HO0.out hb1)
  clear hb1
  cases RB
  case false =>
    have HE := Lib.hid (HNO.out (of_npb HVB.out))
    go_wp2
    go_ret2
    obtain ⟨rfl, _⟩ := HE.out
    exact ⟨_, 0, _, rfl, Lib.hid rfl, own_base HO1.out (Nat.le_succ _), HB1.out⟩
  case true =>
  have HP : Hid (lhP ss fs ds ks) := Lib.hid (of_pb HVB.out)
  have HE := Lib.hid (HYES.out HP.out)
  have hn12 : n3 ≤ 12 := by have := HP.out.1.2.1; have := HLD.out; omega
  have hgl := HGL.out HP.out.1
  obtain ⟨gs, hgs⟩ : ∃ gs, rgL fs = gs := ⟨_, rfl⟩
  have HPR : Hid (risB ks (gs.length : Int) = true) := Lib.hid (by rw [← hgs]; exact HP.out.2)
  rw [hgs] at CH HE hgl
  clear hgs
  obtain ⟨k0, k1, k2, hg1⟩ := HKB.out _ HB1W.out
  go_wp2_with fail
  refine (CH.out HP.out.1 _ HB1.out).mono ?_
  rintro e w2 ⟨A0, N0, d0, rfl, HN0, ho2, hb2⟩
  have HB2 := Lib.hid (HB1.out.trans (hb2.mono HB1.out.size))
  have HB2W := Lib.hid (HB1W.out.trans (hb2.mono (by have := HB1W.out.size; have := HZ0.out; omega)))
  have HO2 := Lib.hid (ownB HO1.out hb2)
  have HN : Hid (N0 = gs.length) := Lib.hid (by rw [HN0.out]; unfold htL; rw [List.length_map])
  have hN14 : N0 ≤ 14 := by have := HN.out; omega
  have HKS : Hid (∀ j, j < m → 0 ≤ nth ks j ∧ nth ks j < N0) := Lib.hid (fun j hj => by rw [HN.out]; exact ris_all HPR.out j (by have := HM.out; omega))
  have CU := Lib.hid (union_ (c := d0) (dK := dK) HP.out.1.2.1 HN.out (Rd.ofOwn ho2) hN14 HM.out (HRZ.out.moved HB2.out) hs2 HKS.out)
  have HUL : Hid (unK ds gs ks m < 2 ^ 12) := Lib.hid (un_lt HP.out.1.2.1)
  have HEL : Hid (RL = idsL ds (unK ds gs ks m) n3) := Lib.hid (by rw [HE.out.1, HM.out, HLD.out])
  obtain ⟨u, hu⟩ : ∃ u, unK ds gs ks m = u := ⟨_, rfl⟩
  rw [hu] at CU HUL HEL
  clear hb2 ho2 k0 k1 k2 hg1 hu
  go_wp2_with fail
  refine CU.out.mono ?_
  rintro e w3 ⟨rfl, hb3⟩
  have HB3 := Lib.hid (HB2.out.trans (hb3.mono HB2.out.size))
  have HB3W := Lib.hid (HB2W.out.trans (hb3.mono (by have := HB2W.out.size; have := HZ0.out; omega)))
  have HO3 := Lib.hid (ownB HO2.out hb3)
  have hu62 : u < 2 ^ 62 := Nat.lt_trans HUL.out (by decide)
  clear hb3
  go_wp2
  go_loopw [6, 8] (fun v i wr => ∃ (k : Nat) (A3 : Option Addr) (N3 d3 : Nat), k ≤ n3 ∧ i = .int .i64 k ∧ v = .slice A3 N3 d3 ∧ N3 ≤ k ∧ Hid (N3 = (idsL ds u k).length) ∧ Hid (wr.ownsRow (w.heap.size + 1) 3 1 (.slice A3 N3 d3) N3 ((idsL ds u k).map (Value.int .i64))) ∧ Below (w.heap.size + 1) W0 wr) (fun _ i _ => n3 - (intOf i).toNat)
  case atStart => exact ⟨0, _, 0, _, Nat.zero_le _, rfl, rfl, Nat.le_refl _, Lib.hid rfl, HO3, HB3W.out⟩
  case round =>
    obtain ⟨k, A3, N3, d3, hk, rfl, rfl, hNk, HN3, HOW, hb⟩ := hrel
    have HBR := Lib.hid hb
    have HBW := Lib.hid (HB0.out.trans (hb.mono (Nat.le_succ _)))
    have hsz : w.heap.size + 1 ≤ wr.heap.size := by have := hb.size; have := HZ0.out; omega
    obtain ⟨k0, k1, k2, hg1⟩ := HKB.out _ hb
    clear hb k0 k1
    by_cases hlt : k < n3
    case neg =>
      have HF : Hid (RL = idsL ds u k) := Lib.hid (by rw [HEL.out, show n3 = k by omega])
      have hlt2 : ¬ (k : Int) < n3 := by omega
      clear hlt
      go_wp2
      go_ret2
      rw [HF.out]
      exact ⟨A3, N3, d3, rfl, HN3, own_base HOW.out (Nat.le_succ _), HBW.out⟩
    case pos =>
    have hbit := bit_of u k hu62
    cases hfk : u.testBit k
    case false =>
      rw [hfk, if_neg (by decide)] at hbit
      have HN4 : Hid (N3 = (idsL ds u (k + 1)).length) := Lib.hid (by rw [ids_out hfk]; exact HN3.out)
      have HO4 : Hid (wr.ownsRow (w.heap.size + 1) 3 1 (.slice A3 N3 d3) N3 ((idsL ds u (k + 1)).map (Value.int .i64))) := Lib.hid (by rw [ids_out hfk]; exact HOW.out)
      clear hfk
      go_wp2
      go_roundw
      case rel => exact ⟨k + 1, A3, N3, d3, by omega, by go_num, rfl, by omega, HN4, HO4, HBR.out⟩
      case measure => simp [intOf]; omega
    case true =>
      rw [hfk, if_pos rfl] at hbit
      have hjl : k < ys.length := by have := HT.out.len; omega
      obtain ⟨z, hze⟩ : ∃ y, ys[k]'hjl = y := ⟨_, rfl⟩
      have HDK := Lib.hid (dn_at HD.out hjl hze)
      obtain ⟨hgl, f0, f1, f2, f3, f4⟩ := (HT.out.moved HBW.out).rd.ltc hjl
      clear f1 f2 f3 f4
      rw [Nat.zero_add, hze] at f0
      obtain ⟨p0, p1, zA, zn, zc, zzs, q0, q1⟩ := z
      simp only at f0
      have HTO : Hid (idsL ds u (k + 1) = idsL ds u k ++ [p0]) := Lib.hid (by rw [ids_in hfk, HDK.out]; rfl)
      clear hfk hze hjl
      go_wp2_with (at_builtin; refine wp_app rfl (.tmp 32) (.tmp 39) 29 3 rfl (w.heap.size + 1) Tryd.underlying29 Tryd.inf_int rfl (by decide) (by decide) _ N3 _ rfl (HOW.out.alloc _) _ _ [.int .i64 p0] rfl rfl (news1 (new_at_ _ _ _ _ rfl)) (news_int _) (by omega) (by simp; omega) ?_)
      intro A4 d4 N4 w4 hN4 hown4 hgrow4 hloc4
      have HB4 := Lib.hid ((HBR.out.alloc hsz _).grown hgrow4 (by simp; omega) (fun g hg => (HOW.out.lt g hg).1))
      have HO4 : Hid (w4.ownsRow (w.heap.size + 1) 3 1 (.slice A4 N4 d4) N4 ((idsL ds u (k + 1)).map (Value.int .i64))) := Lib.hid (by rw [HTO.out, List.map_append]; exact hown4)
      have HN5 : Hid (N4 = (idsL ds u (k + 1)).length) := Lib.hid (by rw [HTO.out, List.length_append, ← HN3.out, hN4]; rfl)
      have hN5 : N4 ≤ k + 1 := by omega
      clear hown4 hgrow4 hloc4 hN4
      go_wp2
      go_roundw
      case rel => exact ⟨k + 1, A4, N4, d4, by omega, by go_num, rfl, hN5, HN5, HO4, HB4.out⟩
      case measure => simp [intOf]; omega
end Go.Proofs.YtbnfogedmjjiaaaDoor
