/- The light that tells two sets of groups apart: contracts of DistinguishingLight, both sides. Condition: the table of math/bits holds what Go's text lays (on impl's side). -/
import Derived.Test.YtbnfogedmjjiaaaDoorLh
import Derived.Test.YtbnfogedmjjiaaaDoorGC
namespace Go.Proofs.YtbnfogedmjjiaaaDoor
open Go.ChangeShapes Go.WideShapes Go.ChangeAt Go.RowKit Go.Maps

theorem xor_nat (k : IntKind) (j : Nat) (hj : j ≤ k.bits) (hk : ∀ n : Int, 0 ≤ n → n < 2 ^ j → k.wrap n = n) (a b : Nat) (ha : a < 2 ^ j) (hb : b < 2 ^ j) : bits .xor k a b = ((a ^^^ b : Nat) : Int) := by
  have hp : 2 ^ j ≤ 2 ^ k.bits := Nat.pow_le_pow_right (by decide) hj
  have ha' : a % 2 ^ k.bits = a := Nat.mod_eq_of_lt (Nat.lt_of_lt_of_le ha hp)
  have hb' : b % 2 ^ k.bits = b := Nat.mod_eq_of_lt (Nat.lt_of_lt_of_le hb hp)
  have cast : ∀ n : Nat, n < 2 ^ j → ((n : Nat) : Int) < 2 ^ j := fun n h => by exact_mod_cast h
  simp only [bits, BitVec.ofInt_natCast, BitVec.toNat_xor, BitVec.toNat_ofNat, ha', hb']
  exact hk _ (Int.natCast_nonneg _) (cast _ (Nat.xor_lt_two_pow ha hb))
theorem xor_i64 (a b : Nat) (ha : a < 2 ^ 62) (hb : b < 2 ^ 62) : bits .xor .i64 (a : Int) (b : Int) = ((a ^^^ b : Nat) : Int) := by
  have wr : ∀ n : Int, 0 ≤ n → n < 2 ^ 62 → IntKind.i64.wrap n = n := by intro n h0 h1; rw [IntKind.wrap_i64]; omega
  exact xor_nat .i64 62 (by decide) wr a b ha hb
def dlP (ss : List ByteArray) (fs : List Q4) (ds : List LtD) (ks js : List Int) : Prop := lhP ss fs ds ks ∧ lhP ss fs ds js
noncomputable def dlB (ss : List ByteArray) (fs : List Q4) (ds : List LtD) (ks js : List Int) : Bool := pb (dlP ss fs ds ks js)
def dlL (fs : List Q4) (ds : List LtD) (ks js : List Int) : List Int := idsL ds (unK ds (rgL fs) ks ks.length ^^^ unK ds (rgL fs) js js.length) ds.length
noncomputable def dlV (ss : List ByteArray) (fs : List Q4) (ds : List LtD) (ks js : List Int) : Int := if dlB ss fs ds ks js then (dlL fs ds ks js).headD 0 else 0
noncomputable def dlR (ss : List ByteArray) (fs : List Q4) (ds : List LtD) (ks js : List Int) : Value := .tuple #[.int .i64 (dlV ss fs ds ks js), .bool (dlB ss fs ds ks js)]
theorem dl_no {ss : List ByteArray} {fs : List Q4} {ds : List LtD} {ks js : List Int} (h : ¬ dlP ss fs ds ks js) : (.tuple #[.int .i64 0, .bool false] : Value) = dlR ss fs ds ks js := by
  unfold dlR dlV; rw [show dlB ss fs ds ks js = false from pb_false h]; rfl
theorem dl_yes {ss : List ByteArray} {fs : List Q4} {ds : List LtD} {ks js : List Int} (h : dlP ss fs ds ks js) : (.tuple #[.int .i64 ((dlL fs ds ks js).headD 0), .bool true] : Value) = dlR ss fs ds ks js := by
  unfold dlR dlV; rw [show dlB ss fs ds ks js = true from pb_true h]; rfl
set_option maxRecDepth 100000 in
set_option maxHeartbeats 4000000 in
theorem specDL {g1 g2 g3 n1 n2 n3 c1 c2 B : Nat} {ss : List ByteArray} {fs : List Q4} {ys : List Lt} {ds : List LtD} {w : World} (h : NetAt g1 g2 n1 n2 c1 c2 ss fs w) (hT : Lts B g3 n3 ys w) (hd : ys.map Lt.d = ds) (hs : n3 ≤ 1048576) {K : Option Addr} {m dK : Nat} {ks : List Int} (hm : ks.length = m) (hr2 : Rd w w.heap.size K (ks.map (Value.int .i64))) (hs2 : m ≤ 1048576) {J : Option Addr} {l dJ : Nat} {js : List Int} (hl : js.length = l) (hr3 : Rd w w.heap.size J (js.map (Value.int .i64))) (hs3 : l ≤ 1048576) :
    Calls Tryd.prog 60 #[.agg #[.slice (some ⟨g1, 0, none⟩) n1 c1, .slice (some ⟨g2, 0, none⟩) n2 c2, .slice (some ⟨g3, 0, none⟩) n3 n3], .slice K m dK, .slice J l dJ] w (RetP (dlR ss fs ds ks js) w) := by
  have HRZ := Lib.hid hr2; have HM := Lib.hid hm; have HT := Lib.hid hT; have HD := Lib.hid hd; have HRJ := Lib.hid hr3; have HLJ := Lib.hid hl
  have HLD : Hid (ds.length = n3) := Lib.hid (by rw [← hd, List.length_map]; exact hT.len)
  have HGL : Hid (planP ss fs ds → (rgL fs).length ≤ 14) := Lib.hid (fun hp => by have := rgp_len fs; have := hp.1.2.1; omega)
  obtain ⟨R, hR⟩ : ∃ r, dlR ss fs ds ks js = r := ⟨_, rfl⟩
  have HNO : Hid (¬ dlP ss fs ds ks js → (.tuple #[.int .i64 0, .bool false] : Value) = R) := Lib.hid (fun e => by rw [← hR]; exact dl_no e)
  have HYES : Hid (dlP ss fs ds ks js → (.tuple #[.int .i64 ((dlL fs ds ks js).headD 0), .bool true] : Value) = R) := Lib.hid (fun e => by rw [← hR]; exact dl_yes e)
  rw [hR]
  have CG := Lib.hid (fun (W : World) (hb : Below w.heap.size w W) => l25GrN_ (dK := dK) (h.moved hb) (hT.moved hb) hd hs hm (hr2.moved hb) hs2)
  have CJ := Lib.hid (fun (W : World) (hb : Below w.heap.size w W) => l25GrN_ (dK := dJ) (h.moved hb) (hT.moved hb) hd hs hl (hr3.moved hb) hs3)
  have CH := Lib.hid (fun (hp : planP ss fs ds) (W : World) (hb : Below w.heap.size w W) => l25Hits_ (h.moved hb) (hT.moved hb) hd hs hp.1 (by have := hp.2.1; have := HLD.out; omega))
  obtain ⟨v1, hv1⟩ : ∃ b, lhB ss fs ds ks = b := ⟨_, rfl⟩
  obtain ⟨v2, hv2⟩ : ∃ b, lhB ss fs ds js = b := ⟨_, rfl⟩
  rw [hv1] at CG
  rw [hv2] at CJ
  have HV1 := Lib.hid hv1; have HV2 := Lib.hid hv2
  clear h hT hd hm hr2 hl hr3 hR hv1 hv2
  go_enter Tryd.func60, Tryd.ntmps60
  go_wp2_with fail
  obtain ⟨W0, hW0⟩ : ∃ W0, (w.alloc (Obj.cells #[.slice (some ⟨g1, 0, none⟩) n1 c1, .slice (some ⟨g2, 0, none⟩) n2 c2, .slice (some ⟨g3, 0, none⟩) n3 n3] 82)) = W0 := ⟨_, rfl⟩
  have hb0 : Below w.heap.size w W0 := by rw [← hW0]; exact (Below.refl _ _).alloc (Nat.le_refl _) _
  have k0_0 : W0.cell? ⟨w.heap.size, 0, none⟩ = some (.slice (some ⟨g1, 0, none⟩) n1 c1) := by rw [← hW0]; simp [go_sem]
  have k0_1 : W0.cell? ⟨w.heap.size, 1, none⟩ = some (.slice (some ⟨g2, 0, none⟩) n2 c2) := by rw [← hW0]; simp [go_sem]
  have k0_2 : W0.cell? ⟨w.heap.size, 2, none⟩ = some (.slice (some ⟨g3, 0, none⟩) n3 n3) := by rw [← hW0]; simp [go_sem]
  have hz0 : w.heap.size < W0.heap.size := by rw [← hW0]; simp
  have HKB : Hid (∀ W, Below W0.heap.size W0 W → W.cell? ⟨w.heap.size, 0, none⟩ = some (.slice (some ⟨g1, 0, none⟩) n1 c1) ∧ W.cell? ⟨w.heap.size, 1, none⟩ = some (.slice (some ⟨g2, 0, none⟩) n2 c2) ∧ W.cell? ⟨w.heap.size, 2, none⟩ = some (.slice (some ⟨g3, 0, none⟩) n3 n3) ∧ w.heap.size < W.heap.size) := Lib.hid (fun W hW => ⟨(hW.cell (p := ⟨w.heap.size, 0, none⟩) (by show w.heap.size < _; omega)).trans k0_0, (hW.cell (p := ⟨w.heap.size, 1, none⟩) (by show w.heap.size < _; omega)).trans k0_1, (hW.cell (p := ⟨w.heap.size, 2, none⟩) (by show w.heap.size < _; omega)).trans k0_2, Nat.lt_of_lt_of_le hz0 hW.size⟩)
  have HSZ0 : Hid (W0.heap.size = w.heap.size + 1) := Lib.hid (by rw [← hW0]; simp)
  have HB0 := Lib.hid hb0
  rw [hW0]
  clear hW0 hb0 hz0 k0_0 k0_1 k0_2
  refine (CG.out _ HB0.out).mono ?_
  rintro e w1 ⟨rfl, hb9⟩
  have HWw1 := Lib.hid hb9
  have HBw1 := Lib.hid (HB0.out.trans (hb9.mono HB0.out.size))
  clear hb9
  obtain ⟨k0, k1, k2, hgz⟩ := HKB.out _ HWw1.out
  cases v1
  case false =>
    have HE := Lib.hid (HNO.out (fun hp => of_npb HV1.out hp.1))
    clear k0 k1 k2 hgz
    go_wp2
    go_ret2
    exact ⟨ret_tupC HE.out, HBw1.out⟩
  case true =>
  go_wp2_with fail
  clear k0 k1 k2 hgz
  refine (CJ.out _ HBw1.out).mono ?_
  rintro e w2 ⟨rfl, hb9⟩
  have HWw2 := Lib.hid (HWw1.out.trans (hb9.mono HWw1.out.size))
  have HBw2 := Lib.hid (HBw1.out.trans (hb9.mono HBw1.out.size))
  clear hb9
  obtain ⟨k0, k1, k2, hgz⟩ := HKB.out _ HWw2.out
  cases v2
  case false =>
    have HE := Lib.hid (HNO.out (fun hp => of_npb HV2.out hp.2))
    clear k0 k1 k2 hgz
    go_wp2
    go_ret2
    exact ⟨ret_tupC HE.out, HBw2.out⟩
  case true =>
  have HP1 : Hid (lhP ss fs ds ks) := Lib.hid (of_pb HV1.out)
  have HP2 : Hid (lhP ss fs ds js) := Lib.hid (of_pb HV2.out)
  have HE := Lib.hid (HYES.out ⟨HP1.out, HP2.out⟩)
  have hn12 : n3 ≤ 12 := by have := HP1.out.1.2.1; have := HLD.out; omega
  have hgl := HGL.out HP1.out.1
  unfold dlL at HE
  obtain ⟨gs, hgs⟩ : ∃ gs, rgL fs = gs := ⟨_, rfl⟩
  have HPR : Hid (risB ks (gs.length : Int) = true) := Lib.hid (by rw [← hgs]; exact HP1.out.2)
  have HPJ : Hid (risB js (gs.length : Int) = true) := Lib.hid (by rw [← hgs]; exact HP2.out.2)
  rw [hgs] at CH HE hgl
  clear hgs
  go_wp2_with fail
  clear k0 k1 k2 hgz
  refine (CH.out HP1.out.1 _ HBw2.out).mono ?_
  rintro e w3 ⟨A0, N0, d0, rfl, HN0, ho3, hb9⟩
  have HWw3 := Lib.hid (HWw2.out.trans (hb9.mono HWw2.out.size))
  have HBw3 := Lib.hid (HBw2.out.trans (hb9.mono HBw2.out.size))
  have HR3 := Lib.hid (Rd.ofOwn ho3)
  have HN : Hid (N0 = gs.length) := Lib.hid (by rw [HN0.out]; unfold htL; rw [List.length_map])
  have hN14 : N0 ≤ 14 := by have := HN.out; omega
  have HKS : Hid (∀ j, j < m → 0 ≤ nth ks j ∧ nth ks j < N0) := Lib.hid (fun j hj => by rw [HN.out]; exact ris_all HPR.out j (by have := HM.out; omega))
  have HJS : Hid (∀ j, j < l → 0 ≤ nth js j ∧ nth js j < N0) := Lib.hid (fun j hj => by rw [HN.out]; exact ris_all HPJ.out j (by have := HLJ.out; omega))
  have CU := Lib.hid (union_ (c := d0) (dK := dK) HP1.out.1.2.1 HN.out HR3.out hN14 HM.out (HRZ.out.moved HBw3.out) hs2 HKS.out)
  have CV : Hid (∀ W, Below w3.heap.size w3 W → Calls Tryd.prog 125 #[.slice A0 N0 d0, .slice J l dJ] W (RetP (.int .i64 (unK ds gs js l : Nat)) W)) := Lib.hid (fun W hW => union_ (c := d0) (dK := dJ) HP1.out.1.2.1 HN.out (HR3.out.moved hW) hN14 HLJ.out ((HRJ.out.moved HBw3.out).moved hW) hs3 HJS.out)
  have hu12 : unK ds gs ks m < 2 ^ 12 := un_lt HP1.out.1.2.1
  have hv12 : unK ds gs js l < 2 ^ 12 := un_lt HP1.out.1.2.1
  rw [HM.out, HLJ.out, HLD.out] at HE
  have hxor := xor_i64 (unK ds gs ks m) (unK ds gs js l) (by omega) (by omega)
  have hx12 := Nat.xor_lt_two_pow hu12 hv12
  obtain ⟨u, hu⟩ : ∃ u, unK ds gs ks m = u := ⟨_, rfl⟩
  obtain ⟨v, hv⟩ : ∃ u, unK ds gs js l = u := ⟨_, rfl⟩
  rw [hu, hv] at hxor hx12 HE
  rw [hu] at CU hu12
  rw [hv] at CV hv12
  obtain ⟨x, hx⟩ : ∃ x, u ^^^ v = x := ⟨_, rfl⟩
  rw [hx] at hxor hx12 HE
  have hx62 : x < 2 ^ 62 := Nat.lt_trans hx12 (by decide)
  have HLE := Lib.hid (ids_more ds x)
  clear hb9 ho3 hu hv hx hx12
  go_wp2_with fail
  refine CU.out.mono ?_
  rintro e w4 ⟨rfl, hb4⟩
  have HW4 := Lib.hid hb4
  have HWw4 := Lib.hid (HWw3.out.trans (hb4.mono HWw3.out.size))
  have HBw4 := Lib.hid (HBw3.out.trans (hb4.mono HBw3.out.size))
  clear hb4
  go_wp2_with fail
  refine (CV.out _ HW4.out).mono ?_
  rintro e w5 ⟨rfl, hb5⟩
  have HWw5 := Lib.hid (HWw4.out.trans (hb5.mono HWw4.out.size))
  have HBw5 := Lib.hid (HBw4.out.trans (hb5.mono HBw4.out.size))
  clear hb5
  go_wp2
  clear hxor hu12 hv12
  obtain ⟨k0, k1, k2, hgz⟩ := HKB.out _ HWw5.out
  clear k0 k1
  go_loop [10] (fun i => ∃ k : Nat, k ≤ n3 ∧ i = .int .i64 k ∧ Hid (idsL ds x k = [])) (fun i => n3 - (intOf i).toNat)
  case atStart => exact ⟨0, Nat.zero_le _, rfl, Lib.hid rfl⟩
  case round =>
    obtain ⟨k, hk, rfl, HI⟩ := hrel
    by_cases hlt : k < n3
    case neg =>
      have HF : Hid ((.tuple #[.int .i64 0, .bool true] : Value) = R) := Lib.hid (by
        have h9 := HE.out
        rw [show n3 = k by omega, HI.out] at h9; exact h9)
      have hlt2 : ¬ (k : Int) < n3 := by omega
      clear hlt
      go_wp2
      go_ret2
      exact ⟨ret_tupC HF.out, HBw5.out⟩
    case pos =>
    have hbit := bit_of x k hx62
    cases hfk : x.testBit k
    case false =>
      rw [hfk, if_neg (by decide)] at hbit
      have HI2 : Hid (idsL ds x (k + 1) = []) := Lib.hid (by rw [ids_out hfk]; exact HI.out)
      clear hfk
      go_wp2
      go_round
      case rel => exact ⟨k + 1, by omega, by go_num, HI2⟩
      case measure => simp [intOf]; omega
    case true =>
      rw [hfk, if_pos rfl] at hbit
      have hjl : k < ys.length := by have := HT.out.len; omega
      obtain ⟨z, hze⟩ : ∃ y, ys[k]'hjl = y := ⟨_, rfl⟩
      have HDK := Lib.hid (dn_at HD.out hjl hze)
      obtain ⟨hgl2, f0, f1, f2, f3, f4⟩ := (HT.out.moved HBw5.out).rd.ltc hjl
      clear f1 f2 f3 f4
      rw [Nat.zero_add, hze] at f0
      obtain ⟨p0, p1, zA, zn, zc, zzs, q0, q1⟩ := z
      simp only at f0
      have HF : Hid ((.tuple #[.int .i64 p0, .bool true] : Value) = R) := Lib.hid (by
        have h9 := HE.out
        obtain ⟨tl, htl⟩ := HLE.out (k + 1) (n3 - (k + 1))
        rw [show k + 1 + (n3 - (k + 1)) = n3 by omega] at htl
        rw [htl, ids_in hfk, HI.out, HDK.out] at h9
        exact h9)
      clear hfk hze hjl
      go_wp2
      go_ret2
      exact ⟨ret_tupC HF.out, HBw5.out⟩
set_option maxRecDepth 100000 in
set_option maxHeartbeats 4000000 in
theorem implDL {g1 g2 g3 n1 n2 n3 c1 c2 B : Nat} {ss : List ByteArray} {fs : List Q4} {ys : List Lt} {ds : List LtD} {w : World} (h : NetAt g1 g2 n1 n2 c1 c2 ss fs w) (hT : Lts B g3 n3 ys w) (hd : ys.map Lt.d = ds) (hs : n3 ≤ 1048576) {K : Option Addr} {m dK : Nat} {ks : List Int} (hm : ks.length = m) (hr2 : Rd w w.heap.size K (ks.map (Value.int .i64))) (hs2 : m ≤ 1048576) {J : Option Addr} {l dJ : Nat} {js : List Int} (hl : js.length = l) (hr3 : Rd w w.heap.size J (js.map (Value.int .i64))) (hs3 : l ≤ 1048576) (hTab : Tab w) :
    Calls Tryd.prog 61 #[.agg #[.slice (some ⟨g1, 0, none⟩) n1 c1, .slice (some ⟨g2, 0, none⟩) n2 c2, .slice (some ⟨g3, 0, none⟩) n3 n3], .slice K m dK, .slice J l dJ] w (RetP (dlR ss fs ds ks js) w) := by
  have HTB := Lib.hid hTab
  have HRZ := Lib.hid hr2; have HM := Lib.hid hm; have HT := Lib.hid hT; have HD := Lib.hid hd; have HRJ := Lib.hid hr3; have HLJ := Lib.hid hl
  have HLD : Hid (ds.length = n3) := Lib.hid (by rw [← hd, List.length_map]; exact hT.len)
  have HGL : Hid (planP ss fs ds → (rgL fs).length ≤ 14) := Lib.hid (fun hp => by have := rgp_len fs; have := hp.1.2.1; omega)
  obtain ⟨R, hR⟩ : ∃ r, dlR ss fs ds ks js = r := ⟨_, rfl⟩
  have HNO : Hid (¬ dlP ss fs ds ks js → (.tuple #[.int .i64 0, .bool false] : Value) = R) := Lib.hid (fun e => by rw [← hR]; exact dl_no e)
  have HYES : Hid (dlP ss fs ds ks js → (.tuple #[.int .i64 ((dlL fs ds ks js).headD 0), .bool true] : Value) = R) := Lib.hid (fun e => by rw [← hR]; exact dl_yes e)
  rw [hR]
  have CO := Lib.hid (fun (W : World) (hb : Below w.heap.size w W) => outlookOf_ (h.moved hb) (hT.moved hb) hd hs)
  clear h hT hd hm hr2 hl hr3 hR hTab
  obtain ⟨V, hVe⟩ : ∃ b, pb (planP ss fs ds) = b := ⟨_, rfl⟩
  rw [hVe] at CO
  have HVB := Lib.hid hVe
  clear hVe
  go_enter Tryd.func61, Tryd.ntmps61
  go_wp2_with fail
  have HB0 := Lib.hid ((Below.refl w.heap.size w).alloc (Nat.le_refl _) (Obj.cells #[.slice (some ⟨g1, 0, none⟩) n1 c1, .slice (some ⟨g2, 0, none⟩) n2 c2, .slice (some ⟨g3, 0, none⟩) n3 n3] 82))
  refine (CO.out _ HB0.out).mono ?_
  rintro e w1 (⟨rfl, rfl, hb1⟩ | ⟨A1, N, cA, rfl, rfl, HNL, ho, hb1⟩)
  case inl =>
    have HE := Lib.hid (HNO.out (fun h => of_npb HVB.out h.1.1))
    have HB1 := Lib.hid (HB0.out.trans (hb1.mono HB0.out.size))
    have HB2 := Lib.hid (HB1.out.alloc HB1.out.size (Obj.cells #[.slice none 0 0, .slice none 0 0] 161))
    clear hb1
    go_wp2
    go_ret2
    exact ⟨ret_tupC HE.out, HB2.out⟩
  case inr =>
  have HB1 := Lib.hid (HB0.out.trans (hb1.mono HB0.out.size))
  have HOW := Lib.hid ho
  clear hb1 ho
  have HP : Hid (planP ss fs ds) := Lib.hid (of_pb HVB.out)
  have HN : Hid (N = (rgL fs).length) := Lib.hid (by rw [HNL.out]; unfold htL; rw [List.length_map])
  have hN14 : N ≤ 14 := by have := HN.out; have := HGL.out HP.out; omega
  have hn12 : n3 ≤ 12 := by have := HP.out.2.1; have := HLD.out; omega
  obtain ⟨W2, hW2⟩ : ∃ W2, w1.alloc (Obj.cells #[.slice (some ⟨g3, 0, none⟩) n3 n3, .slice A1 N cA] 161) = W2 := ⟨_, rfl⟩
  have hb2 : Below w1.heap.size w1 W2 := by rw [← hW2]; exact (Below.refl _ _).alloc (Nat.le_refl _) _
  have q0 : W2.cell? ⟨w1.heap.size, 0, none⟩ = some (.slice (some ⟨g3, 0, none⟩) n3 n3) := by rw [← hW2]; simp [go_sem]
  have q1 : W2.cell? ⟨w1.heap.size, 1, none⟩ = some (.slice A1 N cA) := by rw [← hW2]; simp [go_sem]
  have qz : w1.heap.size < W2.heap.size := by rw [← hW2]; simp
  have HB2 := Lib.hid (HB1.out.trans (hb2.mono HB1.out.size))
  have HOW2 := Lib.hid (ownB HOW.out hb2)
  have HQ0 := Lib.hid q0; have HQ1 := Lib.hid q1; have HQZ := Lib.hid qz; have HW2 := Lib.hid hW2
  clear hW2 hb2 q0 q1 qz
  have HZ2 := Lib.hid (Below.refl W2.heap.size W2)
  have CG1 := Lib.hid (hasG_ (V := .slice (some ⟨g3, 0, none⟩) n3 n3) (A := A1) (N := N) (c := cA) (dK := dK) HM.out (HRZ.out.moved HB2.out) hs2)
  obtain ⟨b, hbe⟩ : ∃ b, risB ks (N : Int) = b := ⟨_, rfl⟩
  rw [hbe] at CG1
  have HRB1 := Lib.hid hbe
  clear hbe
  go_wp2_with fail
  rw [HW2.out]
  refine CG1.out.mono ?_
  rintro e w3 ⟨rfl, hb9⟩
  have HBw3 := Lib.hid (HB2.out.trans (hb9.mono HB2.out.size))
  have HZw3 := Lib.hid (HZ2.out.trans (hb9.mono HZ2.out.size))
  have q0 := (HZw3.out.cell (p := ⟨w1.heap.size, 0, none⟩) HQZ.out).trans HQ0.out
  have q1 := (HZw3.out.cell (p := ⟨w1.heap.size, 1, none⟩) HQZ.out).trans HQ1.out
  have hg3 : w1.heap.size < w3.heap.size := Nat.lt_of_lt_of_le HQZ.out HZw3.out.size
  clear hb9
  cases b
  case false =>
    have HE := Lib.hid (HNO.out (fun h => by have h9 := h.1.2; rw [← HN.out, HRB1.out] at h9; cases h9))
    clear q0 q1 hg3
    go_wp2
    go_ret2
    exact ⟨ret_tupC HE.out, HBw3.out⟩
  case true =>
  have CG2 := Lib.hid (hasG_ (V := .slice (some ⟨g3, 0, none⟩) n3 n3) (A := A1) (N := N) (c := cA) (dK := dJ) HLJ.out (HRJ.out.moved HBw3.out) hs3)
  obtain ⟨b, hbe⟩ : ∃ b, risB js (N : Int) = b := ⟨_, rfl⟩
  rw [hbe] at CG2
  have HRB2 := Lib.hid hbe
  clear hbe
  go_wp2_with fail
  clear q0 q1 hg3
  refine CG2.out.mono ?_
  rintro e w4 ⟨rfl, hb9⟩
  have HBw4 := Lib.hid (HBw3.out.trans (hb9.mono HBw3.out.size))
  have HZw4 := Lib.hid (HZw3.out.trans (hb9.mono HZw3.out.size))
  have q0 := (HZw4.out.cell (p := ⟨w1.heap.size, 0, none⟩) HQZ.out).trans HQ0.out
  have q1 := (HZw4.out.cell (p := ⟨w1.heap.size, 1, none⟩) HQZ.out).trans HQ1.out
  have hg3 : w1.heap.size < w4.heap.size := Nat.lt_of_lt_of_le HQZ.out HZw4.out.size
  clear hb9
  cases b
  case false =>
    have HE := Lib.hid (HNO.out (fun h => by have h9 := h.2.2; rw [← HN.out, HRB2.out] at h9; cases h9))
    clear q0 q1 hg3
    go_wp2
    go_ret2
    exact ⟨ret_tupC HE.out, HBw4.out⟩
  case true =>
  have HOW4 := Lib.hid (ownB HOW2.out HZw4.out)
  have HKS : Hid (∀ j, j < m → 0 ≤ nth ks j ∧ nth ks j < N) := Lib.hid (fun j hj => ris_all HRB1.out j (by have := HM.out; omega))
  have HJS : Hid (∀ j, j < l → 0 ≤ nth js j ∧ nth js j < N) := Lib.hid (fun j hj => ris_all HRB2.out j (by have := HLJ.out; omega))
  have HE := Lib.hid (HYES.out ⟨⟨HP.out, by rw [← HN.out]; exact HRB1.out⟩, ⟨HP.out, by rw [← HN.out]; exact HRB2.out⟩⟩)
  have HUL : Hid (unK ds (rgL fs) ks m < 2 ^ n3) := Lib.hid (by rw [← HLD.out]; exact un_lt2)
  have HUJ : Hid (unK ds (rgL fs) js l < 2 ^ n3) := Lib.hid (by rw [← HLD.out]; exact un_lt2)
  have h2n : 2 ^ n3 ≤ 2 ^ 12 := Nat.pow_le_pow_right (by decide) hn12
  have CH : Hid (∀ W, Bel w4 W → Calls Tryd.prog 130 #[.agg #[.slice (some ⟨g3, 0, none⟩) n3 n3, .slice A1 N cA], .slice K m dK] W (RetP (.int .i64 (unK ds (rgL fs) ks m : Nat)) W)) := Lib.hid (fun W hW => hitBy_ (V := .slice (some ⟨g3, 0, none⟩) n3 n3) (A := A1) (c := cA) (dK := dK) HP.out.2.1 HN.out (Rd.ofOwn (ownB HOW4.out hW.out)) hN14 HM.out ((HRZ.out.moved HBw4.out).moved hW.out) hs2 HKS.out)
  have CJ : Hid (∀ W, Bel w4 W → Calls Tryd.prog 130 #[.agg #[.slice (some ⟨g3, 0, none⟩) n3 n3, .slice A1 N cA], .slice J l dJ] W (RetP (.int .i64 (unK ds (rgL fs) js l : Nat)) W)) := Lib.hid (fun W hW => hitBy_ (V := .slice (some ⟨g3, 0, none⟩) n3 n3) (A := A1) (c := cA) (dK := dJ) HP.out.2.1 HN.out (Rd.ofOwn (ownB HOW4.out hW.out)) hN14 HLJ.out ((HRJ.out.moved HBw4.out).moved hW.out) hs3 HJS.out)
  have HDL : Hid (dlL fs ds ks js = idsL ds (unK ds (rgL fs) ks m ^^^ unK ds (rgL fs) js l) n3) := Lib.hid (by unfold dlL; rw [HM.out, HLJ.out, HLD.out])
  rw [HDL.out] at HE
  have hx2 := Nat.xor_lt_two_pow HUL.out HUJ.out
  have hxor := xor_i64 (unK ds (rgL fs) ks m) (unK ds (rgL fs) js l) (by have := HUL.out; omega) (by have := HUJ.out; omega)
  obtain ⟨u, hu⟩ : ∃ u, unK ds (rgL fs) ks m = u := ⟨_, rfl⟩
  obtain ⟨v, hv⟩ : ∃ u, unK ds (rgL fs) js l = u := ⟨_, rfl⟩
  rw [hu, hv] at hxor hx2 HE
  rw [hu] at CH
  rw [hv] at CJ
  obtain ⟨x, hx⟩ : ∃ x, u ^^^ v = x := ⟨_, rfl⟩
  rw [hx] at hxor hx2 HE
  have CI : Hid (∀ W, Bel w4 W → Calls Tryd.prog 129 #[.agg #[.slice (some ⟨g3, 0, none⟩) n3 n3, .slice A1 N cA], .int .i64 (x : Nat)] W fun e w' => ∃ (A9 : Option Addr) (N9 c9 : Nat), e = .returned (.slice A9 N9 c9) ∧ Hid (N9 = (idsL ds x n3).length) ∧ Hid (Rd w' w'.heap.size A9 ((idsL ds x n3).map (Value.int .i64))) ∧ Below W.heap.size W w') := Lib.hid (fun W hW => (ids_ ((HT.out.moved HBw4.out).moved hW.out) HD.out hn12 hx2 _ ((HTB.out.over HBw4.out).over hW.out)).mono fun e w' h => by
    obtain ⟨A9, N9, c9, h1, h2, h3, h4⟩ := h
    exact ⟨A9, N9, c9, h1, h2, Lib.hid (Rd.ofOwn h3), h4⟩)
  have hll := idsL_len ds x n3
  obtain ⟨L, hL⟩ : ∃ r, idsL ds x n3 = r := ⟨_, rfl⟩
  rw [hL] at CI HE hll
  have hL12 : L.length ≤ 12 := by omega
  clear hu hv hx hL hx2 hll h2n
  have hbd : Bel w4 w4.drew := Bel.of (Below.refl _ _).drew
  go_upto_region 4 with fail
  go_cut [10] (fun s4 wx => ∃ (A9 : Option Addr) (N9 c9 : Nat), s4 = .slice A9 N9 c9 ∧ Hid (N9 = L.length) ∧ Hid (Rd wx wx.heap.size A9 (L.map (Value.int .i64))) ∧ Bel w4 wx)
  case first =>
    go_region_held3 (fun U => U.cell? ⟨w1.heap.size, 0, none⟩ = some (.slice (some ⟨g3, 0, none⟩) n3 n3) ∧ U.cell? ⟨w1.heap.size, 1, none⟩ = some (.slice A1 N cA) ∧ Bel w4 U)
      (first | (go_keep; done) | (go_split_ands; (refine ⟨?_, ?_, ?_⟩ <;> first | assumption | exact Bel.step (by assumption) hb9 | exact (Bel.at_ (by assumption) hb9 (by assumption)).trans (by assumption) | exact Bel.step (by assumption) hb8 | exact (Bel.at_ (by assumption) hb8 (by assumption)).trans (by assumption) | exact Bel.step (by assumption) hb7 | exact (Bel.at_ (by assumption) hb7 (by assumption)).trans (by assumption))))
      (first
        | (go_at_call_of 130 (Value.slice K m dK); go_split_ands; (with_reducible refine (CH.out _ (by assumption)).mono ?_); rintro e u1 ⟨rfl, hb8⟩)
        | (go_at_call_of 130 (Value.slice J l dJ); go_split_ands; (with_reducible refine (CJ.out _ (by assumption)).mono ?_); rintro e u1 ⟨rfl, hb7⟩)
        | (go_at_call 129; go_split_ands; refine (CI.out _ (by assumption)).mono ?_; rintro e u2 ⟨A9, N9, c9, rfl, HN9, HR9, hb9⟩))
    all_goals
      go_split_ands
      have hbl9 : Bel w4 u2 := by assumption
      go_wp2_with fail
      go_meet
      exact ⟨A9, N9, c9, rfl, HN9, HR9, hbl9⟩
  case rest =>
  clear hbd q0 q1 hg3 hxor
  revert hcut; generalize wc = w5; intro hcut
  obtain ⟨A9, N9, c9, h0_, HN9, HR9, hb9⟩ := hcut
  subst h0_
  have HB5 := Lib.hid (HBw4.out.trans ((Bel.out hb9).mono HBw4.out.size))
  have hN9 : N9 ≤ 12 := by have := HN9.out; omega
  clear hb9
  rcases L with _ | ⟨y, L⟩
  case nil =>
    obtain rfl : N9 = 0 := HN9.out
    go_wp2
    go_ret2
    exact ⟨ret_tupC HE.out, HB5.out⟩
  case cons =>
    obtain ⟨ad, hA, _, hc⟩ := ints_at HR9.out (k := 0) (by simp)
    subst hA
    have hne : ((N9 : Int) == 0) = false := beq_eq_false_iff_ne.2 (by have := HN9.out; simp at this; omega)
    have hne2 : (N9 == 0) = false := beq_eq_false_iff_ne.2 (by have := HN9.out; simp at this; omega)
    have hp0 : 0 < N9 := by have := HN9.out; simp at this; omega
    have hp1 : (0 : Int) < N9 := by omega
    have hc1 : w5.cell? ad = some (.int .i64 y) := by simpa [Addr.add] using hc
    simp only [List.getElem_cons_zero] at hc
    go_wp2
    go_ret2
    exact ⟨ret_tupC HE.out, HB5.out⟩
end Go.Proofs.YtbnfogedmjjiaaaDoor
