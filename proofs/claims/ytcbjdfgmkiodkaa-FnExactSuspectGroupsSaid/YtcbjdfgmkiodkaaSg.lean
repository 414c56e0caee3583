/- Suspect groups: contracts of SuspectGroups, both sides. No condition but those typed. -/
import Derived.Test.YtcbjdfgmkiodkaaOa
import Derived.Test.YtcbjdfgmkiodkaaIe
import Derived.Test.YtcbjdfgmkiodkaaGB
namespace Go.Proofs.Ytcbjdfgmkiodkaa
open Go.ChangeShapes Go.WideShapes Go.ChangeAt Go.RowKit Go.Maps

noncomputable def sgQ (ds : List LtD) (gs : List (List Int)) (d : Nat) (k : Nat) : Bool := pb (susP ds gs (k : Int) d)
noncomputable def sgL (ss : List ByteArray) (fs : List Q4) (ds : List LtD) (zs : List Int) : List Int := selV (dwP ss fs ds zs) (sgQ ds (rgL fs) (mskK ds zs zs.length)) (rgL fs).length
set_option maxRecDepth 100000 in
set_option maxHeartbeats 1500000 in
theorem sus25_ {ds : List LtD} {gs : List (List Int)} {A : Option Addr} {N c : Nat} {w : World} (d : Nat) (hl : ds.length ≤ 12) (hN : N = gs.length) (hr : Rd w w.heap.size A ((htL ds gs).map (Value.int .i64))) (hN14 : N ≤ 14) (hd : d < 2 ^ 12) :
    Calls Try.prog 151 #[.slice A N c, .int .i64 (d : Int)] w (IntsO (selK (sgQ ds gs d) N) w) := by
  have HR := Lib.hid hr; have HN := Lib.hid hN
  have HVL : Hid (∀ x, hvN ds gs x < 2 ^ 12) := Lib.hid (fun x => hv_lt hl)
  clear hr hN
  have HE0 := Lib.hid ((Below.refl w.heap.size w).alloc (Nat.le_refl _) (Obj.cells #[] 3))
  have HOE : Hid ((w.alloc (Obj.cells #[] 3)).ownsRow w.heap.size 3 1 (.slice (some ⟨w.heap.size, 0, none⟩) 0 0) 0 ((selK (sgQ ds gs d) 0).map (Value.int .i64))) := Lib.hid (World.ownsRow_lit (base := w.heap.size) (e := 3) (size := 1) w #[] 0 (Nat.le_refl _) (by unfold maxLen; omega) rfl)
  go_enter Try.func151, Try.ntmps151
  go_wp2
  go_loopw [5, 6] (fun v i wr => ∃ (k : Nat) (A1 : Option Addr) (N1 d1 : Nat), k ≤ N ∧ i = .int .i64 k ∧ v = .slice A1 N1 d1 ∧ N1 ≤ k ∧ Hid (N1 = (selK (sgQ ds gs d) k).length) ∧ Hid (wr.ownsRow w.heap.size 3 1 (.slice A1 N1 d1) N1 ((selK (sgQ ds gs d) k).map (Value.int .i64))) ∧ Below w.heap.size w wr) (fun _ i _ => N - (intOf i).toNat)
  case atStart => exact ⟨0, _, 0, _, Nat.zero_le _, rfl, rfl, Nat.le_refl _, Lib.hid rfl, HOE, HE0.out⟩
  case round =>
    obtain ⟨k, A1, N1, d1, hk, rfl, rfl, hNk, HN1, HOW, hb⟩ := hrel
    have HBR := Lib.hid hb
    have HSZ : Hid (w.heap.size ≤ wr.heap.size) := Lib.hid hb.size
    clear hb
    by_cases hlt : k < N
    case neg =>
      obtain rfl : k = N := by omega
      clear hlt
      go_wp2
      go_ret
      exact ⟨A1, N1, d1, rfl, HN1, HOW.out, HBR.out⟩
    case pos =>
    obtain ⟨hk2, hv⟩ := ht_at (ds := ds) (gs := gs) (x := (k : Int)) (by omega) (by have := HN.out; omega)
    obtain ⟨ad2, hA2, _, hc2⟩ := ints_at (HR.out.moved HBR.out) hk2
    rw [hv] at hc2
    rw [show ((k : Int)).toNat = k from Int.toNat_natCast k] at hc2
    have hh12 := HVL.out (k : Int)
    have hS : sgQ ds gs d k = true ↔ hvN ds gs (k : Int) ≠ 0 ∧ anN (hvN ds gs (k : Int)) d = 0 := by unfold sgQ; exact ⟨fun e => of_pb e, fun e => pb_true e⟩
    obtain ⟨h, hhe⟩ : ∃ h, hvN ds gs (k : Int) = h := ⟨_, rfl⟩
    rw [hhe] at hc2 hh12 hS
    have han := an_i64 h d (by omega) (by omega)
    obtain ⟨u, hu⟩ : ∃ u, anN h d = u := ⟨_, rfl⟩
    rw [hu] at han hS
    have HS := Lib.hid hS
    subst hA2
    clear hk2 hv hhe hu hS
    have OUT : Hid (sgQ ds gs d k = false → selK (sgQ ds gs d) (k + 1) = selK (sgQ ds gs d) k) := Lib.hid (fun e => sel_out e)
    by_cases hz : h = 0
    case pos =>
      have HTO := Lib.hid (OUT.out (Bool.eq_false_iff.2 (fun e => (HS.out.1 e).1 hz)))
      have hz2 : ((h : Int) != 0) = false := by rw [hz]; rfl
      have hz3 : (h != 0) = false := by rw [hz]; rfl
      clear hz han
      go_wp2
      go_roundw
      case rel => exact ⟨k + 1, A1, N1, d1, by omega, by go_num, rfl, by omega, Lib.hid (by rw [HTO.out]; exact HN1.out), Lib.hid (by rw [HTO.out]; exact HOW.out), HBR.out⟩
      case measure => simp [intOf]; omega
    case neg =>
    have hz2 : ((h : Int) != 0) = true := bne_iff_ne.2 (by omega)
    have hz3 : (h != 0) = true := bne_iff_ne.2 hz
    have hz4 : ¬ (h : Int) = 0 := by omega
    by_cases huz : u = 0
    case neg =>
      have HTO := Lib.hid (OUT.out (Bool.eq_false_iff.2 (fun e => huz (HS.out.1 e).2)))
      have hu4 : ((u : Int) == 0) = false := beq_eq_false_iff_ne.2 (by omega)
      have hu5 : (u == 0) = false := beq_eq_false_iff_ne.2 huz
      go_wp2
      go_roundw
      case rel => exact ⟨k + 1, A1, N1, d1, by omega, by go_num, rfl, by omega, Lib.hid (by rw [HTO.out]; exact HN1.out), Lib.hid (by rw [HTO.out]; exact HOW.out), HBR.out⟩
      case measure => simp [intOf]; omega
    case pos =>
      have HTO : Hid (selK (sgQ ds gs d) (k + 1) = selK (sgQ ds gs d) k ++ [(k : Int)]) := Lib.hid (sel_in (HS.out.2 ⟨hz, huz⟩))
      have hu4 : ((u : Int) == 0) = true := by rw [huz]; rfl
      have hu5 : (u == 0) = true := by rw [huz]; rfl
      clear huz hz
      go_wp2_with (at_builtin; refine wp_app rfl (.tmp 28) (.tmp 30) 39 3 rfl w.heap.size Try.underlying39 Try.inf_int rfl (by decide) (by decide) _ N1 _ rfl (HOW.out.alloc _) _ _ [.int .i64 (k : Int)] rfl rfl (news1 (new_at_ _ _ _ _ rfl)) (news_int _) (by omega) (by have := HSZ.out; simp; omega) ?_)
      intro A3 d3 N3 w4 hN3 hown3 hgrow3 hloc3
      have HB3_ := Lib.hid ((HBR.out.alloc HSZ.out _).grown hgrow3 (by have := HSZ.out; simp; omega) (fun g hg => (HOW.out.lt g hg).1))
      have HO3_ : Hid (w4.ownsRow w.heap.size 3 1 (.slice A3 N3 d3) N3 ((selK (sgQ ds gs d) (k + 1)).map (Value.int .i64))) := Lib.hid (by rw [HTO.out, List.map_append]; exact hown3)
      have HN4 : Hid (N3 = (selK (sgQ ds gs d) (k + 1)).length) := Lib.hid (by rw [HTO.out, List.length_append, ← HN1.out, hN3]; rfl)
      have hN5 : N3 ≤ k + 1 := by omega
      clear hown3 hgrow3 hloc3 hN3 hc2 hu4 hu5 hz2 hz3 hz4 han
      go_wp2
      go_roundw
      case rel => exact ⟨k + 1, A3, N3, d3, by omega, by go_num, rfl, hN5, HN4, HO3_, HB3_.out⟩
      case measure => simp [intOf]; omega
set_option maxRecDepth 100000 in
set_option maxHeartbeats 1500000 in
theorem implSG {g1 g2 g3 n1 n2 n3 c1 c2 B : Nat} {ss : List ByteArray} {fs : List Q4} {ys : List Lt} {ds : List LtD} {w : World} (h : NetAt g1 g2 n1 n2 c1 c2 ss fs w) (hT : Lts B g3 n3 ys w) (hd : ys.map Lt.d = ds) (hs : n3 ≤ 1048576) {A : Option Addr} {n c : Nat} {zs : List Int} (hn : zs.length = n) (hr : Rd w w.heap.size A (zs.map (Value.int .i64))) (hx : n ≤ 1048576) :
    Calls Try.prog 64 #[.agg #[.slice (some ⟨g1, 0, none⟩) n1 c1, .slice (some ⟨g2, 0, none⟩) n2 c2, .slice (some ⟨g3, 0, none⟩) n3 n3], .slice A n c] w (IntsP (sgL ss fs ds zs) (dwB ss fs ds zs) w) := by
  have HLD : Hid (ds.length = n3) := Lib.hid (by rw [← hd, List.length_map]; exact hT.len)
  have HGL : Hid (planP ss fs ds → (rgL fs).length ≤ 14) := Lib.hid (fun hp => by have := rgp_len fs; have := hp.1.2.1; omega)
  obtain ⟨RL, hRL⟩ : ∃ r, sgL ss fs ds zs = r := ⟨_, rfl⟩
  have HNO : Hid (¬ dwP ss fs ds zs → RL = []) := Lib.hid (fun e => by rw [← hRL]; exact (selV_no e).1)
  have HYES : Hid (dwP ss fs ds zs → RL = selK (sgQ ds (rgL fs) (mskK ds zs zs.length)) (rgL fs).length) := Lib.hid (fun e => by rw [← hRL]; exact (selV_yes e).1)
  rw [hRL]
  have CO := Lib.hid (fun (W : World) (hb : Below w.heap.size w W) => outAt_ (c := c) (h.moved hb) (hT.moved hb) hd hs hn (hr.moved hb) hx)
  clear h hT hd hn hr hRL
  obtain ⟨b, hbe⟩ : ∃ b, dwB ss fs ds zs = b := ⟨_, rfl⟩
  rw [hbe] at CO ⊢
  have HBE := Lib.hid hbe
  clear hbe
  go_enter Try.func64, Try.ntmps64
  go_wp2_with fail
  have HB0 := Lib.hid ((Below.refl w.heap.size w).alloc (Nat.le_refl _) (Obj.cells #[.slice (some ⟨g1, 0, none⟩) n1 c1, .slice (some ⟨g2, 0, none⟩) n2 c2, .slice (some ⟨g3, 0, none⟩) n3 n3] 76))
  refine (CO.out _ HB0.out).mono ?_
  rintro e w1 ⟨U, A1, M, cU, N, cA, rfl, hb1, HOK⟩
  have HB1 := Lib.hid (HB0.out.trans (hb1.mono HB0.out.size))
  clear hb1
  cases b
  case false =>
    have HE := Lib.hid (HNO.out (fun h => by have h9 := HBE.out; unfold dwB at h9; rw [pb_true h] at h9; cases h9))
    have HB2 := Lib.hid (HB1.out.alloc HB1.out.size (Obj.cells #[.slice U M cU, .slice A1 N cA] 181))
    go_wp2
    go_ret2
    exact ints_no ⟨HE.out, rfl⟩ HB2.out
  case true =>
  have HDW : Hid (dwP ss fs ds zs) := Lib.hid (of_pb HBE.out)
  have hNL := (HOK.out rfl).2.1
  have hown := (HOK.out rfl).2.2
  have HN : Hid (N = (rgL fs).length) := Lib.hid (by rw [hNL]; unfold htL; rw [List.length_map])
  have hN14 : N ≤ 14 := by have := HN.out; have := HGL.out HDW.out.1; omega
  have HOH := Lib.hid hown
  have HMV : Hid (dwV ss fs ds zs = (mskK ds zs zs.length : Int)) := Lib.hid (by unfold dwV; rw [HBE.out]; rfl)
  have hm12 : mskK ds zs zs.length < 2 ^ 12 := msk_lt HDW.out.1.2.1 (fun j hj => HDW.out.2.2 j hj)
  have HE := Lib.hid (HYES.out HDW.out)
  obtain ⟨d, hde⟩ : ∃ d, mskK ds zs zs.length = d := ⟨_, rfl⟩
  rw [hde] at HMV HE hm12
  rw [HMV.out]
  obtain ⟨gs, hgs⟩ : ∃ gs, rgL fs = gs := ⟨_, rfl⟩
  rw [hgs] at HE HN HOH
  clear hNL hown hde hgs
  obtain ⟨W2, hW2⟩ : ∃ W2, w1.alloc (Obj.cells #[.slice U M cU, .slice A1 N cA] 181) = W2 := ⟨_, rfl⟩
  have hb2 : Below w1.heap.size w1 W2 := by rw [← hW2]; exact (Below.refl _ _).alloc (Nat.le_refl _) _
  have q0 : W2.cell? ⟨w1.heap.size, 0, none⟩ = some (.slice U M cU) := by rw [← hW2]; simp [go_sem]
  have q1 : W2.cell? ⟨w1.heap.size, 1, none⟩ = some (.slice A1 N cA) := by rw [← hW2]; simp [go_sem]
  have qz : w1.heap.size < W2.heap.size := by rw [← hW2]; simp
  have HB2 := Lib.hid (HB1.out.trans (hb2.mono HB1.out.size))
  have HOH2 := Lib.hid (ownB HOH.out hb2)
  have HQ0 := Lib.hid q0; have HQ1 := Lib.hid q1; have HQZ := Lib.hid qz; have HW2 := Lib.hid hW2
  clear hW2 hb2 q0 q1 qz
  go_wp2_with fail
  rw [HW2.out]
  have hb00 := Lib.hid (Below.refl W2.heap.size W2)
  go_loopw [9, 23] (fun v i wr => ∃ (k : Nat) (A3 : Option Addr) (N3 d3 : Nat), k ≤ N ∧ i = .int .i64 k ∧ v = .slice A3 N3 d3 ∧ N3 ≤ k ∧ Hid (N3 = (selK (sgQ ds gs d) k).length) ∧ Hid (wr.ownsRow W2.heap.size 3 1 (.slice A3 N3 d3) N3 ((selK (sgQ ds gs d) k).map (Value.int .i64))) ∧ Below W2.heap.size W2 wr) (fun _ i _ => N - (intOf i).toNat)
  case atStart => exact ⟨0, none, 0, 0, Nat.zero_le _, rfl, rfl, Nat.le_refl _, Lib.hid rfl, Lib.hid (World.ownsRow_nil _ _ _ _), hb00.out⟩
  case round =>
    obtain ⟨k, A3, N3, d3, hk, rfl, rfl, hNk, HN3, HOW, hb⟩ := hrel
    have HBR := Lib.hid hb
    have HBY := Lib.hid (HB2.out.trans (hb.mono HB2.out.size))
    have HSZ : Hid (W2.heap.size ≤ wr.heap.size) := Lib.hid hb.size
    have q0 := (hb.cell (p := ⟨w1.heap.size, 0, none⟩) HQZ.out).trans HQ0.out
    have q1 := (hb.cell (p := ⟨w1.heap.size, 1, none⟩) HQZ.out).trans HQ1.out
    clear hb
    by_cases hlt : k < N
    case neg =>
      obtain rfl : k = N := by omega
      have HF : Hid (RL = selK (sgQ ds gs d) k) := Lib.hid (by rw [HE.out, HN.out])
      clear hlt q0 q1
      go_wp2
      go_ret2
      rw [HF.out]
      exact ⟨A3, N3, d3, rfl, HN3, own_base HOW.out HB2.out.size, HBY.out⟩
    case pos =>
    have CS := Lib.hid (isSus_ (V := .slice U M cU) (A := A1) (c := cA) (k : Int) d HDW.out.1.2.1 HN.out (Rd.ofOwn (ownB HOH2.out HBR.out)) (by omega) (by omega) hN14 hm12)
    obtain ⟨b, hbe⟩ : ∃ b, sgQ ds gs d k = b := ⟨_, rfl⟩
    have HBQ := Lib.hid hbe
    unfold sgQ at hbe
    rw [hbe] at CS
    clear hbe
    go_wp2_with fail
    refine CS.out.mono ?_
    rintro e w3 ⟨rfl, hb3⟩
    have HB3 := Lib.hid (HBR.out.trans (hb3.mono HBR.out.size))
    have HOW3 := Lib.hid (ownB HOW.out hb3)
    have HSZ3 : Hid (W2.heap.size ≤ w3.heap.size) := Lib.hid HB3.out.size
    clear hb3 q0 q1
    cases b
    case false =>
      have HTO := Lib.hid (sel_out HBQ.out)
      go_wp2
      go_roundw
      case rel => exact ⟨k + 1, A3, N3, d3, by omega, by go_num, rfl, by omega, Lib.hid (by rw [HTO.out]; exact HN3.out), Lib.hid (by rw [HTO.out]; exact HOW3.out), HB3.out⟩
      case measure => simp [intOf]; omega
    case true =>
      have HTO := Lib.hid (sel_in HBQ.out)
      go_wp2_with (at_builtin; refine wp_app rfl (.tmp 30) (.tmp 32) 39 3 rfl W2.heap.size Try.underlying39 Try.inf_int rfl (by decide) (by decide) _ N3 _ rfl (HOW3.out.alloc _) _ _ [.int .i64 (k : Int)] rfl rfl (news1 (new_at_ _ _ _ _ rfl)) (news_int _) (by omega) (by have := HSZ3.out; simp; omega) ?_)
      intro A4 d4 N4 w4 hN4 hown4 hgrow4 hloc4
      have HB4_ := Lib.hid ((HB3.out.alloc HSZ3.out _).grown hgrow4 (by have := HSZ3.out; simp; omega) (fun g hg => (HOW3.out.lt g hg).1))
      have HO4_ : Hid (w4.ownsRow W2.heap.size 3 1 (.slice A4 N4 d4) N4 ((selK (sgQ ds gs d) (k + 1)).map (Value.int .i64))) := Lib.hid (by rw [HTO.out, List.map_append]; exact hown4)
      have HN4 : Hid (N4 = (selK (sgQ ds gs d) (k + 1)).length) := Lib.hid (by rw [HTO.out, List.length_append, ← HN3.out, hN4]; rfl)
      have hN5 : N4 ≤ k + 1 := by omega
      clear hown4 hgrow4 hloc4 hN4
      go_wp2
      go_roundw
      case rel => exact ⟨k + 1, A4, N4, d4, by omega, by go_num, rfl, hN5, HN4, HO4_, HB4_.out⟩
      case measure => simp [intOf]; omega
set_option maxRecDepth 100000 in
set_option maxHeartbeats 1500000 in
theorem specSG {g1 g2 g3 n1 n2 n3 c1 c2 B : Nat} {ss : List ByteArray} {fs : List Q4} {ys : List Lt} {ds : List LtD} {w : World} (h : NetAt g1 g2 n1 n2 c1 c2 ss fs w) (hT : Lts B g3 n3 ys w) (hd : ys.map Lt.d = ds) (hs : n3 ≤ 1048576) {A : Option Addr} {n c : Nat} {zs : List Int} (hn : zs.length = n) (hr : Rd w w.heap.size A (zs.map (Value.int .i64))) (hx : n ≤ 1048576) :
    Calls Try.prog 62 #[.agg #[.slice (some ⟨g1, 0, none⟩) n1 c1, .slice (some ⟨g2, 0, none⟩) n2 c2, .slice (some ⟨g3, 0, none⟩) n3 n3], .slice A n c] w (IntsP (sgL ss fs ds zs) (dwB ss fs ds zs) w) := by
  have HLD : Hid (ds.length = n3) := Lib.hid (by rw [← hd, List.length_map]; exact hT.len)
  have HGL : Hid (planP ss fs ds → (rgL fs).length ≤ 14) := Lib.hid (fun hp => by have := rgp_len fs; have := hp.1.2.1; omega)
  obtain ⟨RL, hRL⟩ : ∃ r, sgL ss fs ds zs = r := ⟨_, rfl⟩
  have HNO : Hid (¬ dwP ss fs ds zs → RL = []) := Lib.hid (fun e => by rw [← hRL]; exact (selV_no e).1)
  have HYES : Hid (dwP ss fs ds zs → RL = selK (sgQ ds (rgL fs) (mskK ds zs zs.length)) (rgL fs).length) := Lib.hid (fun e => by rw [← hRL]; exact (selV_yes e).1)
  rw [hRL]
  have CO := Lib.hid (fun (W : World) (hb : Below w.heap.size w W) => l25Down_ (c := c) (h.moved hb) (hT.moved hb) hd hs hn (hr.moved hb) hx)
  have CH := Lib.hid (fun (hp : planP ss fs ds) (W : World) (hb : Below w.heap.size w W) => l25Hits_ (h.moved hb) (hT.moved hb) hd hs hp.1 (by have := hp.2.1; have := HLD.out; omega))
  clear h hT hd hn hr hRL
  unfold dwR at CO
  obtain ⟨b, hbe⟩ : ∃ b, dwB ss fs ds zs = b := ⟨_, rfl⟩
  rw [hbe] at CO ⊢
  have HBE := Lib.hid hbe
  clear hbe
  go_enter Try.func62, Try.ntmps62
  go_wp2_with fail
  obtain ⟨W0, hW0⟩ : ∃ W0, w.alloc (Obj.cells #[.slice (some ⟨g1, 0, none⟩) n1 c1, .slice (some ⟨g2, 0, none⟩) n2 c2, .slice (some ⟨g3, 0, none⟩) n3 n3] 76) = W0 := ⟨_, rfl⟩
  have hb0 : Below w.heap.size w W0 := by rw [← hW0]; exact (Below.refl _ _).alloc (Nat.le_refl _) _
  have k0 : W0.cell? ⟨w.heap.size, 0, none⟩ = some (.slice (some ⟨g1, 0, none⟩) n1 c1) := by rw [← hW0]; simp [go_sem]
  have k1 : W0.cell? ⟨w.heap.size, 1, none⟩ = some (.slice (some ⟨g2, 0, none⟩) n2 c2) := by rw [← hW0]; simp [go_sem]
  have k2 : W0.cell? ⟨w.heap.size, 2, none⟩ = some (.slice (some ⟨g3, 0, none⟩) n3 n3) := by rw [← hW0]; simp [go_sem]
  have hz0 : w.heap.size < W0.heap.size := by rw [← hW0]; simp
  have HB0 := Lib.hid hb0; have HK0 := Lib.hid k0; have HK1 := Lib.hid k1; have HK2 := Lib.hid k2; have HZ0 := Lib.hid hz0
  rw [hW0]
  clear hW0 hb0
  clear k0 k1 k2 hz0
  refine (CO.out _ HB0.out).mono ?_
  rintro e w1 ⟨rfl, hb1⟩
  have HB1 := Lib.hid (HB0.out.trans (hb1.mono HB0.out.size))
  have k0 := (hb1.cell (p := ⟨w.heap.size, 0, none⟩) HZ0.out).trans HK0.out
  have k1 := (hb1.cell (p := ⟨w.heap.size, 1, none⟩) HZ0.out).trans HK1.out
  have k2 := (hb1.cell (p := ⟨w.heap.size, 2, none⟩) HZ0.out).trans HK2.out
  clear hb1
  cases b
  case false =>
    have HE := Lib.hid (HNO.out (fun h => by have h9 := HBE.out; unfold dwB at h9; rw [pb_true h] at h9; cases h9))
    have HB2 := Lib.hid (HB1.out.alloc HB1.out.size (Obj.cells #[] 3))
    have HOE : Hid ((w1.alloc (Obj.cells #[] 3)).ownsRow w.heap.size 3 1 (.slice (some ⟨w1.heap.size, 0, none⟩) 0 0) 0 []) := Lib.hid (World.ownsRow_lit (base := w.heap.size) (e := 3) (size := 1) w1 #[] 0 HB1.out.size (by unfold maxLen; omega) rfl)
    clear k0 k1 k2
    go_wp2
    go_ret2
    rw [HE.out]
    exact ⟨_, 0, _, rfl, Lib.hid rfl, HOE.out, HB2.out⟩
  case true =>
  have HDW : Hid (dwP ss fs ds zs) := Lib.hid (of_pb HBE.out)
  have HMV : Hid (dwV ss fs ds zs = (mskK ds zs zs.length : Int)) := Lib.hid (by unfold dwV; rw [HBE.out]; rfl)
  have hm12 : mskK ds zs zs.length < 2 ^ 12 := msk_lt HDW.out.1.2.1 (fun j hj => HDW.out.2.2 j hj)
  have HE := Lib.hid (HYES.out HDW.out)
  have hgl := HGL.out HDW.out.1
  obtain ⟨d, hde⟩ : ∃ d, mskK ds zs zs.length = d := ⟨_, rfl⟩
  rw [hde] at HMV HE hm12
  rw [HMV.out]
  obtain ⟨gs, hgs⟩ : ∃ gs, rgL fs = gs := ⟨_, rfl⟩
  rw [hgs] at HE CH hgl
  clear hde hgs
  go_wp2_with fail
  refine (CH.out HDW.out.1 _ HB1.out).mono ?_
  rintro e w3 ⟨A0, N0, d0, rfl, HN0, ho3, hb3⟩
  have HB3 := Lib.hid (HB1.out.trans (hb3.mono HB1.out.size))
  have HN : Hid (N0 = gs.length) := Lib.hid (by rw [HN0.out]; unfold htL; rw [List.length_map])
  have CS := Lib.hid (sus25_ (c := d0) d HDW.out.1.2.1 HN.out (Rd.ofOwn ho3) (by have := HN.out; omega) hm12)
  have HF : Hid (RL = selK (sgQ ds gs d) N0) := Lib.hid (by rw [HE.out, HN.out])
  clear hb3 ho3 k0 k1 k2
  go_wp2_with fail
  refine CS.out.mono ?_
  rintro e w4 ⟨A4, N4, d4, rfl, HN4, ho4, hb4⟩
  have HB4 := Lib.hid (HB3.out.trans (hb4.mono HB3.out.size))
  have HO4 := Lib.hid (own_base ho4 HB3.out.size)
  clear hb4 ho4
  go_wp2
  go_ret2
  rw [HF.out]
  exact ⟨A4, N4, d4, rfl, HN4, HO4.out, HB4.out⟩
end Go.Proofs.Ytcbjdfgmkiodkaa
