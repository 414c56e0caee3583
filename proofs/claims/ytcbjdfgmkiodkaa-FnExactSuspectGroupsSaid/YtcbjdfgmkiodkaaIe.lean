/- Explanations of alarms: contracts of IsExplanation, both sides. No condition but those typed. -/
import Derived.Test.YtcbjdfgmkiodkaaOa
import Derived.Test.YtcbjdfgmkiodkaaGrpS
namespace Go.Proofs.Ytcbjdfgmkiodkaa
open Go.ChangeShapes Go.WideShapes Go.ChangeAt Go.RowKit Go.Maps

noncomputable def ieB (ss : List ByteArray) (fs : List Q4) (ds : List LtD) (zs ks : List Int) : Bool := pb (dwP ss fs ds zs ∧ risB ks ((rgL fs).length : Int) = true)
noncomputable def ieY (ss : List ByteArray) (fs : List Q4) (ds : List LtD) (zs ks : List Int) : Bool := pb ((dwP ss fs ds zs ∧ risB ks ((rgL fs).length : Int) = true) ∧ exP ds (rgL fs) ks (mskK ds zs zs.length))
noncomputable def ieR (ss : List ByteArray) (fs : List Q4) (ds : List LtD) (zs ks : List Int) : Value := .tuple #[.bool (ieY ss fs ds zs ks), .bool (ieB ss fs ds zs ks)]
theorem ie_no {ss : List ByteArray} {fs : List Q4} {ds : List LtD} {zs ks : List Int} (h : ¬ (dwP ss fs ds zs ∧ risB ks ((rgL fs).length : Int) = true)) : (.tuple #[.bool false, .bool false] : Value) = ieR ss fs ds zs ks := by
  unfold ieR; rw [show ieB ss fs ds zs ks = false from pb_false h, show ieY ss fs ds zs ks = false from pb_false (fun e => h e.1)]
theorem ie_yes {ss : List ByteArray} {fs : List Q4} {ds : List LtD} {zs ks : List Int} (h : dwP ss fs ds zs ∧ risB ks ((rgL fs).length : Int) = true) {b : Bool} (hb : b = true ↔ exP ds (rgL fs) ks (mskK ds zs zs.length)) : (.tuple #[.bool b, .bool true] : Value) = ieR ss fs ds zs ks := by
  unfold ieR; rw [show ieB ss fs ds zs ks = true from pb_true h]
  have : ieY ss fs ds zs ks = b := by
    cases b
    · exact pb_false (fun e => by have := hb.2 e.2; cases this)
    · exact pb_true ⟨h, hb.1 rfl⟩
  rw [this]
set_option maxRecDepth 100000 in
set_option maxHeartbeats 4000000 in
theorem union_ {ds : List LtD} {gs : List (List Int)} {A K : Option Addr} {N c m dK : Nat} {ks : List Int} {w : World} (hl : ds.length ≤ 12) (hN : N = gs.length) (hr : Rd w w.heap.size A ((htL ds gs).map (Value.int .i64))) (hN14 : N ≤ 14)
    (hm : ks.length = m) (hr2 : Rd w w.heap.size K (ks.map (Value.int .i64))) (hs2 : m ≤ 1048576) (hks : ∀ j, j < m → 0 ≤ nth ks j ∧ nth ks j < N) :
    Calls Try.prog 159 #[.slice A N c, .slice K m dK] w (RetP (.int .i64 (unK ds gs ks m : Nat)) w) := by
  have HR := Lib.hid hr; have HR2 := Lib.hid hr2; have HM := Lib.hid hm; have HKS := Lib.hid hks; have HN := Lib.hid hN
  have HLT : Hid (∀ k, unK ds gs ks k < 2 ^ 12) := Lib.hid (fun k => un_lt hl)
  have HVL : Hid (∀ x, hvN ds gs x < 2 ^ 12) := Lib.hid (fun x => hv_lt hl)
  clear hr hr2 hm hks hN
  go_enter Try.func159, Try.ntmps159
  go_wp2
  go_loop [5, 6] (fun v i => ∃ (k u : Nat), k ≤ m ∧ i = .int .i64 k ∧ v = .int .i64 u ∧ Hid (unK ds gs ks k = u)) (fun _ i => m - (intOf i).toNat)
  case atStart => exact ⟨0, 0, Nat.zero_le _, rfl, rfl, Lib.hid rfl⟩
  case round =>
    obtain ⟨k, u, hk, rfl, rfl, HU⟩ := hrel
    by_cases hlt : k < m
    case neg =>
      obtain rfl : k = m := by omega
      obtain rfl : unK ds gs ks k = u := HU.out
      clear hlt
      go_wp2
      go_ret
      exact ⟨rfl, Below.refl _ _⟩
    case pos =>
    have hks : k < ks.length := by have := HM.out; omega
    obtain ⟨ad, hA, _, hc⟩ := ints_at HR2.out hks
    subst hA
    rw [nth_eq hks] at hc
    have hb := HKS.out k hlt
    obtain ⟨x, hx⟩ : ∃ x : Nat, nth ks k = (x : Int) := ⟨(nth ks k).toNat, by omega⟩
    rw [hx] at hc hb
    obtain ⟨hb0, hb1⟩ := hb
    obtain ⟨hk2, hv⟩ := ht_at (ds := ds) (gs := gs) (x := (x : Int)) (by omega) (by have := HN.out; omega)
    obtain ⟨ad2, hA2, _, hc2⟩ := ints_at HR.out hk2
    rw [hv] at hc2
    rw [show ((x : Int)).toNat = x from Int.toNat_natCast x] at hc2
    have hu12 : u < 2 ^ 12 := by rw [← HU.out]; exact HLT.out k
    have hh12 := HVL.out (x : Int)
    have HS : Hid (unK ds gs ks (k + 1) = u ||| hvN ds gs (x : Int)) := Lib.hid (by unfold unK; rw [HU.out, hx])
    obtain ⟨h, hhe⟩ : ∃ h, hvN ds gs (x : Int) = h := ⟨_, rfl⟩
    rw [hhe] at hc2 hh12 HS
    have hor := or_i64_ u h (by omega) (by omega)
    obtain ⟨u2, hu2⟩ : ∃ y, u ||| h = y := ⟨_, rfl⟩
    rw [hu2] at hor HS
    subst hA2
    clear hks hk2 hv hhe hu2 hx
    go_wp2
    go_round
    case rel => exact ⟨k + 1, u2, by omega, by go_num, by go_num, HS⟩
    case measure => simp [intOf]; omega

set_option maxRecDepth 100000 in
set_option maxHeartbeats 4000000 in
theorem hasG_ {V : Value} {A K : Option Addr} {N c m dK : Nat} {ks : List Int} {w : World} (hm : ks.length = m) (hr2 : Rd w w.heap.size K (ks.map (Value.int .i64))) (hs2 : m ≤ 1048576) :
    Calls Try.prog 160 #[.agg #[V, .slice A N c], .slice K m dK] w (RetP (.bool (risB ks (N : Int))) w) := by
  have hb0 := (Below.refl w.heap.size w).alloc (Nat.le_refl _) (Obj.cells #[V, .slice A N c] 181)
  have CI := Lib.hid (isSet_ K m dK ks (N : Int) _ hm hs2 (hr2.moved hb0))
  have HB := Lib.hid hb0
  obtain ⟨b, hb⟩ : ∃ b, risB ks (N : Int) = b := ⟨_, rfl⟩
  rw [hb] at CI ⊢
  clear hm hr2 hb0 hb
  go_enter Try.func160, Try.ntmps160
  go_wp2_with fail
  refine CI.out.mono ?_
  rintro _ _ ⟨rfl, rfl⟩
  go_wp2
  go_ret
  exact ⟨rfl, HB.out⟩

set_option maxRecDepth 100000 in
set_option maxHeartbeats 1500000 in
theorem l25Gr_ {g1 g2 g3 n1 n2 n3 c1 c2 B : Nat} {ss : List ByteArray} {fs : List Q4} {ys : List Lt} {ds : List LtD} {w : World} (h : NetAt g1 g2 n1 n2 c1 c2 ss fs w) (hT : Lts B g3 n3 ys w) (hd : ys.map Lt.d = ds) (hs : n3 ≤ 1048576) {K : Option Addr} {m dK : Nat} {ks : List Int} (hm : ks.length = m) (hr2 : Rd w w.heap.size K (ks.map (Value.int .i64))) (hs2 : m ≤ 1048576) (hp : planP ss fs ds) :
    Calls Try.prog 158 #[.agg #[.slice (some ⟨g1, 0, none⟩) n1 c1, .slice (some ⟨g2, 0, none⟩) n2 c2, .slice (some ⟨g3, 0, none⟩) n3 n3], .slice K m dK] w (RetP (.bool (risB ks ((rgL fs).length : Int))) w) := by
  have hgl : (rgL fs).length ≤ 14 := by have := rgp_len fs; have := hp.1.2.1; omega
  have CG := Lib.hid (fun (W : World) (hb : Below w.heap.size w W) => l9Good_ (h.moved hb) (hT.moved hb) hd hs)
  have CL := Lib.hid (fun (W : World) (hb : Below w.heap.size w W) => l2Groups_ (h.moved hb) hp.1)
  obtain ⟨gs, hgs⟩ : ∃ gs, rgL fs = gs := ⟨_, rfl⟩
  have CR := Lib.hid (fun (W : World) (hb : Below w.heap.size w W) => rising_ K m dK ks ((gs.length : Int) - 1) W hm hs2 (hr2.moved hb))
  rw [show (gs.length : Int) - 1 + 1 = gs.length by omega] at CR
  rw [pb_true hp] at CG
  rw [hgs] at CL hgl ⊢
  obtain ⟨b, hb⟩ : ∃ b, risB ks (gs.length : Int) = b := ⟨_, rfl⟩
  rw [hb] at CR ⊢
  clear h hT hd hm hr2 hp hgs hb
  go_enter Try.func158, Try.ntmps158
  go_wp2_with fail
  obtain ⟨W0, hW0⟩ : ∃ W0, w.alloc (Obj.cells #[.slice (some ⟨g1, 0, none⟩) n1 c1, .slice (some ⟨g2, 0, none⟩) n2 c2, .slice (some ⟨g3, 0, none⟩) n3 n3] 76) = W0 := ⟨_, rfl⟩
  have hb0 : Below w.heap.size w W0 := by rw [← hW0]; exact (Below.refl _ _).alloc (Nat.le_refl _) _
  have k0 : W0.cell? ⟨w.heap.size, 0, none⟩ = some (.slice (some ⟨g1, 0, none⟩) n1 c1) := by rw [← hW0]; simp [go_sem]
  have k1 : W0.cell? ⟨w.heap.size, 1, none⟩ = some (.slice (some ⟨g2, 0, none⟩) n2 c2) := by rw [← hW0]; simp [go_sem]
  have hz0 : w.heap.size < W0.heap.size := by rw [← hW0]; simp
  have HB0 := Lib.hid hb0; have HK0 := Lib.hid k0; have HK1 := Lib.hid k1; have HZ0 := Lib.hid hz0
  rw [hW0]
  clear hW0 hb0 k0 k1 hz0
  refine (CG.out _ HB0.out).mono ?_
  rintro e w1 ⟨rfl, hb1⟩
  have HB1 := Lib.hid (HB0.out.trans (hb1.mono HB0.out.size))
  have k0 := (hb1.cell (p := ⟨w.heap.size, 0, none⟩) HZ0.out).trans HK0.out
  have k1 := (hb1.cell (p := ⟨w.heap.size, 1, none⟩) HZ0.out).trans HK1.out
  have hz1 : w.heap.size < w1.heap.size := Nat.lt_of_lt_of_le HZ0.out hb1.size
  clear hb1
  go_wp2_with fail
  refine (CL.out _ HB1.out).mono ?_
  rintro e w2 ⟨A0, N0, d0, zs, rfl, HGD, hR3, hb2⟩
  have HB2 := Lib.hid (HB1.out.trans (hb2.mono HB1.out.size))
  have hN0 : N0 = gs.length := by have h1 := hR3.len; have h2 := congrArg List.length HGD.out; rw [List.length_map] at h2; omega
  subst hN0
  clear hb2 hR3 k0 k1 hz1
  have e7 : IntKind.i64.wrap ((gs.length : Int) - 1) = (gs.length : Int) - 1 := IntWalk.i64_in _ (by omega)
  go_wp2_with fail
  refine (CR.out _ HB2.out).mono ?_
  rintro e w3 ⟨rfl, hb3⟩
  have HB3 := Lib.hid (HB2.out.trans (hb3.mono HB2.out.size))
  clear hb3 e7
  go_wp2
  go_ret
  exact ⟨rfl, HB3.out⟩
set_option maxRecDepth 100000 in
set_option maxHeartbeats 1500000 in
theorem implIE {g1 g2 g3 n1 n2 n3 c1 c2 B : Nat} {ss : List ByteArray} {fs : List Q4} {ys : List Lt} {ds : List LtD} {w : World} (h : NetAt g1 g2 n1 n2 c1 c2 ss fs w) (hT : Lts B g3 n3 ys w) (hd : ys.map Lt.d = ds) (hs : n3 ≤ 1048576) {A : Option Addr} {n c : Nat} {zs : List Int} (hn : zs.length = n) (hr : Rd w w.heap.size A (zs.map (Value.int .i64))) (hx : n ≤ 1048576) {K : Option Addr} {m dK : Nat} {ks : List Int} (hm : ks.length = m) (hr2 : Rd w w.heap.size K (ks.map (Value.int .i64))) (hs2 : m ≤ 1048576) :
    Calls Try.prog 68 #[.agg #[.slice (some ⟨g1, 0, none⟩) n1 c1, .slice (some ⟨g2, 0, none⟩) n2 c2, .slice (some ⟨g3, 0, none⟩) n3 n3], .slice A n c, .slice K m dK] w (RetP (ieR ss fs ds zs ks) w) := by
  have HRZ := Lib.hid hr2; have HM := Lib.hid hm
  have HLD : Hid (ds.length = n3) := Lib.hid (by rw [← hd, List.length_map]; exact hT.len)
  have HGL : Hid (planP ss fs ds → (rgL fs).length ≤ 14) := Lib.hid (fun hp => by have := rgp_len fs; have := hp.1.2.1; omega)
  obtain ⟨R, hR⟩ : ∃ r, ieR ss fs ds zs ks = r := ⟨_, rfl⟩
  have HNO : Hid (¬ (dwP ss fs ds zs ∧ risB ks ((rgL fs).length : Int) = true) → (.tuple #[.bool false, .bool false] : Value) = R) := Lib.hid (fun e => by rw [← hR]; exact ie_no e)
  have HYES : Hid (∀ b : Bool, dwP ss fs ds zs ∧ risB ks ((rgL fs).length : Int) = true → (b = true ↔ exP ds (rgL fs) ks (mskK ds zs zs.length)) → (.tuple #[.bool b, .bool true] : Value) = R) := Lib.hid (fun b e hb => by rw [← hR]; exact ie_yes e hb)
  rw [hR]
  have CO := Lib.hid (fun (W : World) (hb : Below w.heap.size w W) => outAt_ (c := c) (h.moved hb) (hT.moved hb) hd hs hn (hr.moved hb) hx)
  clear h hT hd hn hr hm hr2 hR
  obtain ⟨b, hbe⟩ : ∃ b, dwB ss fs ds zs = b := ⟨_, rfl⟩
  rw [hbe] at CO
  have HBE := Lib.hid hbe
  clear hbe
  go_enter Try.func68, Try.ntmps68
  go_wp2_with fail
  have HB0 := Lib.hid ((Below.refl w.heap.size w).alloc (Nat.le_refl _) (Obj.cells #[.slice (some ⟨g1, 0, none⟩) n1 c1, .slice (some ⟨g2, 0, none⟩) n2 c2, .slice (some ⟨g3, 0, none⟩) n3 n3] 76))
  refine (CO.out _ HB0.out).mono ?_
  rintro e w1 ⟨U, A1, M, cU, N, cA, rfl, hb1, HOK⟩
  have HB1 := Lib.hid (HB0.out.trans (hb1.mono HB0.out.size))
  clear hb1
  cases b
  case false =>
    have HE := Lib.hid (HNO.out (fun h => by have h9 := HBE.out; unfold dwB at h9; rw [pb_true h.1] at h9; cases h9))
    have HB2 := Lib.hid (HB1.out.alloc HB1.out.size (Obj.cells #[.slice U M cU, .slice A1 N cA] 181))
    go_wp2
    go_ret2
    exact ⟨ret_tupC HE.out, HB2.out⟩
  case true =>
  have HDW : Hid (dwP ss fs ds zs) := Lib.hid (of_pb HBE.out)
  have hNL := (HOK.out rfl).2.1
  have hown := (HOK.out rfl).2.2
  have HN : Hid (N = (rgL fs).length) := Lib.hid (by rw [hNL]; unfold htL; rw [List.length_map])
  have hN14 : N ≤ 14 := by have := HN.out; have := HGL.out HDW.out.1; omega
  have HOW := Lib.hid hown
  have HMV : Hid (dwV ss fs ds zs = (mskK ds zs zs.length : Int)) := Lib.hid (by unfold dwV; rw [HBE.out]; rfl)
  have hm12 : mskK ds zs zs.length < 2 ^ 12 := msk_lt HDW.out.1.2.1 (fun j hj => HDW.out.2.2 j hj)
  obtain ⟨d, hde⟩ : ∃ d, mskK ds zs zs.length = d := ⟨_, rfl⟩
  rw [hde] at HMV HYES hm12
  rw [HMV.out]
  clear hNL hown hde
  obtain ⟨W2, hW2⟩ : ∃ W2, w1.alloc (Obj.cells #[.slice U M cU, .slice A1 N cA] 181) = W2 := ⟨_, rfl⟩
  have hb2 : Below w1.heap.size w1 W2 := by rw [← hW2]; exact (Below.refl _ _).alloc (Nat.le_refl _) _
  have q0 : W2.cell? ⟨w1.heap.size, 0, none⟩ = some (.slice U M cU) := by rw [← hW2]; simp [go_sem]
  have q1 : W2.cell? ⟨w1.heap.size, 1, none⟩ = some (.slice A1 N cA) := by rw [← hW2]; simp [go_sem]
  have qz : w1.heap.size < W2.heap.size := by rw [← hW2]; simp
  have HB2 := Lib.hid (HB1.out.trans (hb2.mono HB1.out.size))
  have HOW2 := Lib.hid (ownB HOW.out hb2)
  have HQ0 := Lib.hid q0; have HQ1 := Lib.hid q1; have HQZ := Lib.hid qz; have HW2 := Lib.hid hW2
  clear hW2 hb2 q0 q1 qz
  have CG := Lib.hid (hasG_ (V := .slice U M cU) (A := A1) (N := N) (c := cA) (dK := dK) HM.out (HRZ.out.moved HB2.out) hs2)
  obtain ⟨b, hbe⟩ : ∃ b, risB ks (N : Int) = b := ⟨_, rfl⟩
  rw [hbe] at CG
  have HRB := Lib.hid hbe
  clear hbe
  go_wp2_with fail
  rw [HW2.out]
  refine CG.out.mono ?_
  rintro e w3 ⟨rfl, hb3⟩
  have HB3 := Lib.hid (HB2.out.trans (hb3.mono HB2.out.size))
  have q0 := (hb3.cell (p := ⟨w1.heap.size, 0, none⟩) HQZ.out).trans HQ0.out
  have q1 := (hb3.cell (p := ⟨w1.heap.size, 1, none⟩) HQZ.out).trans HQ1.out
  have HOW3 := Lib.hid (ownB HOW2.out hb3)
  clear hb3
  cases b
  case false =>
    have HE := Lib.hid (HNO.out (fun h => by have h9 := h.2; rw [← HN.out, HRB.out] at h9; cases h9))
    clear q0 q1
    go_wp2
    go_ret2
    exact ⟨ret_tupC HE.out, HB3.out⟩
  case true =>
  have HKS : Hid (∀ j, j < m → 0 ≤ nth ks j ∧ nth ks j < N) := Lib.hid (fun j hj => ris_all HRB.out j (by have := HM.out; omega))
  have CE := Lib.hid (expl_ (V := .slice U M cU) (A := A1) (c := cA) (dK := dK) d HDW.out.1.2.1 HN.out (Rd.ofOwn HOW3.out) hN14 HM.out (HRZ.out.moved HB3.out) hs2 HKS.out hm12)
  obtain ⟨b, hbe⟩ : ∃ b, pb (exP ds (rgL fs) ks d) = b := ⟨_, rfl⟩
  rw [hbe] at CE
  have HE := Lib.hid (HYES.out b ⟨HDW.out, by rw [← HN.out]; exact HRB.out⟩ ⟨fun e => of_pb (by rw [hbe]; exact e), fun e => by rw [← hbe]; exact pb_true e⟩)
  clear hbe
  go_wp2_with fail
  refine CE.out.mono ?_
  rintro e w4 ⟨rfl, hb4⟩
  have HB4 := Lib.hid (HB3.out.trans (hb4.mono HB3.out.size))
  clear hb4 q0 q1
  go_wp2
  go_ret2
  exact ⟨ret_tupC HE.out, HB4.out⟩
set_option maxRecDepth 100000 in
set_option maxHeartbeats 1500000 in
theorem specIE {g1 g2 g3 n1 n2 n3 c1 c2 B : Nat} {ss : List ByteArray} {fs : List Q4} {ys : List Lt} {ds : List LtD} {w : World} (h : NetAt g1 g2 n1 n2 c1 c2 ss fs w) (hT : Lts B g3 n3 ys w) (hd : ys.map Lt.d = ds) (hs : n3 ≤ 1048576) {A : Option Addr} {n c : Nat} {zs : List Int} (hn : zs.length = n) (hr : Rd w w.heap.size A (zs.map (Value.int .i64))) (hx : n ≤ 1048576) {K : Option Addr} {m dK : Nat} {ks : List Int} (hm : ks.length = m) (hr2 : Rd w w.heap.size K (ks.map (Value.int .i64))) (hs2 : m ≤ 1048576) :
    Calls Try.prog 67 #[.agg #[.slice (some ⟨g1, 0, none⟩) n1 c1, .slice (some ⟨g2, 0, none⟩) n2 c2, .slice (some ⟨g3, 0, none⟩) n3 n3], .slice A n c, .slice K m dK] w (RetP (ieR ss fs ds zs ks) w) := by
  have HRZ := Lib.hid hr2; have HM := Lib.hid hm
  have HLD : Hid (ds.length = n3) := Lib.hid (by rw [← hd, List.length_map]; exact hT.len)
  have HGL : Hid (planP ss fs ds → (rgL fs).length ≤ 14) := Lib.hid (fun hp => by have := rgp_len fs; have := hp.1.2.1; omega)
  obtain ⟨R, hR⟩ : ∃ r, ieR ss fs ds zs ks = r := ⟨_, rfl⟩
  have HNO : Hid (¬ (dwP ss fs ds zs ∧ risB ks ((rgL fs).length : Int) = true) → (.tuple #[.bool false, .bool false] : Value) = R) := Lib.hid (fun e => by rw [← hR]; exact ie_no e)
  have HYES : Hid (∀ b : Bool, dwP ss fs ds zs ∧ risB ks ((rgL fs).length : Int) = true → (b = true ↔ exP ds (rgL fs) ks (mskK ds zs zs.length)) → (.tuple #[.bool b, .bool true] : Value) = R) := Lib.hid (fun b e hb => by rw [← hR]; exact ie_yes e hb)
  rw [hR]
  have CO := Lib.hid (fun (W : World) (hb : Below w.heap.size w W) => l25Down_ (c := c) (h.moved hb) (hT.moved hb) hd hs hn (hr.moved hb) hx)
  have CG := Lib.hid (fun (hp : planP ss fs ds) (W : World) (hb : Below w.heap.size w W) => l25Gr_ (dK := dK) (h.moved hb) (hT.moved hb) hd hs hm (hr2.moved hb) hs2 hp)
  have CH := Lib.hid (fun (hp : planP ss fs ds) (W : World) (hb : Below w.heap.size w W) => l25Hits_ (h.moved hb) (hT.moved hb) hd hs hp.1 (by have := hp.2.1; have := HLD.out; omega))
  clear h hT hd hn hr hm hr2 hR
  unfold dwR at CO
  obtain ⟨b, hbe⟩ : ∃ b, dwB ss fs ds zs = b := ⟨_, rfl⟩
  rw [hbe] at CO
  have HBE := Lib.hid hbe
  clear hbe
  go_enter Try.func67, Try.ntmps67
  go_wp2_with fail
  obtain ⟨W0, hW0⟩ : ∃ W0, w.alloc (Obj.cells #[.slice (some ⟨g1, 0, none⟩) n1 c1, .slice (some ⟨g2, 0, none⟩) n2 c2, .slice (some ⟨g3, 0, none⟩) n3 n3] 76) = W0 := ⟨_, rfl⟩
  have hb0 : Below w.heap.size w W0 := by rw [← hW0]; exact (Below.refl _ _).alloc (Nat.le_refl _) _
  have k0 : W0.cell? ⟨w.heap.size, 0, none⟩ = some (.slice (some ⟨g1, 0, none⟩) n1 c1) := by rw [← hW0]; simp [go_sem]
  have k1 : W0.cell? ⟨w.heap.size, 1, none⟩ = some (.slice (some ⟨g2, 0, none⟩) n2 c2) := by rw [← hW0]; simp [go_sem]
  have k2 : W0.cell? ⟨w.heap.size, 2, none⟩ = some (.slice (some ⟨g3, 0, none⟩) n3 n3) := by rw [← hW0]; simp [go_sem]
  have hz0 : w.heap.size < W0.heap.size := by rw [← hW0]; simp
  have HB0 := Lib.hid hb0; have HK0 := Lib.hid k0; have HK1 := Lib.hid k1; have HK2 := Lib.hid k2; have HZ0 := Lib.hid hz0
  rw [hW0]
  clear hW0 hb0
  clear k0 k1 k2 hz0
  have HKB : Hid (∀ W, Below W0.heap.size W0 W → W.cell? ⟨w.heap.size, 0, none⟩ = some (.slice (some ⟨g1, 0, none⟩) n1 c1) ∧ W.cell? ⟨w.heap.size, 1, none⟩ = some (.slice (some ⟨g2, 0, none⟩) n2 c2) ∧ W.cell? ⟨w.heap.size, 2, none⟩ = some (.slice (some ⟨g3, 0, none⟩) n3 n3)) := Lib.hid (fun W hW => ⟨(hW.cell (p := ⟨w.heap.size, 0, none⟩) HZ0.out).trans HK0.out, (hW.cell (p := ⟨w.heap.size, 1, none⟩) HZ0.out).trans HK1.out, (hW.cell (p := ⟨w.heap.size, 2, none⟩) HZ0.out).trans HK2.out⟩)
  refine (CO.out _ HB0.out).mono ?_
  rintro e w1 ⟨rfl, hb1⟩
  have HB1 := Lib.hid (HB0.out.trans (hb1.mono HB0.out.size))
  have HB1W := Lib.hid hb1
  obtain ⟨k0, k1, k2⟩ := HKB.out _ hb1
  clear hb1
  cases b
  case false =>
    have HE := Lib.hid (HNO.out (fun h => by have h9 := HBE.out; unfold dwB at h9; rw [pb_true h.1] at h9; cases h9))
    clear k0 k1 k2
    go_wp2
    go_ret2
    exact ⟨ret_tupC HE.out, HB1.out⟩
  case true =>
  have HDW : Hid (dwP ss fs ds zs) := Lib.hid (of_pb HBE.out)
  have HMV : Hid (dwV ss fs ds zs = (mskK ds zs zs.length : Int)) := Lib.hid (by unfold dwV; rw [HBE.out]; rfl)
  obtain ⟨d, hde⟩ : ∃ d, mskK ds zs zs.length = d := ⟨_, rfl⟩
  rw [hde] at HMV HYES
  rw [HMV.out]
  clear hde
  have hgl := HGL.out HDW.out.1
  obtain ⟨gs, hgs⟩ : ∃ gs, rgL fs = gs := ⟨_, rfl⟩
  rw [hgs] at CG CH HNO HYES hgl
  clear hgs
  obtain ⟨b, hbe⟩ : ∃ b, risB ks (gs.length : Int) = b := ⟨_, rfl⟩
  rw [hbe] at CG
  have HRB := Lib.hid hbe
  clear hbe
  go_wp2_with fail
  refine (CG.out HDW.out.1 _ HB1.out).mono ?_
  rintro e w2 ⟨rfl, hb2⟩
  have HB2 := Lib.hid (HB1.out.trans (hb2.mono HB1.out.size))
  have HB2W := Lib.hid (HB1W.out.trans (hb2.mono HB1W.out.size))
  clear hb2 k0 k1 k2
  obtain ⟨k0, k1, k2⟩ := HKB.out _ HB2W.out
  cases b
  case false =>
    have HE := Lib.hid (HNO.out (fun h => by have h9 := h.2; rw [HRB.out] at h9; cases h9))
    clear k0 k1 k2
    go_wp2
    go_ret2
    exact ⟨ret_tupC HE.out, HB2.out⟩
  case true =>
  have HYES2 : Hid (∀ b : Bool, (b = true ↔ exP ds gs ks d) → (.tuple #[.bool b, .bool true] : Value) = R) := Lib.hid (fun b hb => HYES.out b ⟨HDW.out, HRB.out⟩ hb)
  go_wp2_with fail
  refine (CH.out HDW.out.1 _ HB2.out).mono ?_
  rintro e w3 ⟨A0, N0, d0, rfl, HN0, ho3, hb3⟩
  have HB3 := Lib.hid (HB2.out.trans (hb3.mono HB2.out.size))
  have HOW := Lib.hid ho3
  have HN : Hid (N0 = gs.length) := Lib.hid (by rw [HN0.out]; unfold htL; rw [List.length_map])
  have hN14 : N0 ≤ 14 := by have := HN.out; omega
  have HKS : Hid (∀ j, j < m → 0 ≤ nth ks j ∧ nth ks j < N0) := Lib.hid (fun j hj => by rw [HN.out]; exact ris_all HRB.out j (by have := HM.out; omega))
  have HVL : Hid (∀ x, hvN ds gs x < 2 ^ 12) := Lib.hid (fun x => hv_lt HDW.out.1.2.1)
  have HRK := Lib.hid (HRZ.out.moved HB3.out)
  have HR3 := Lib.hid (Rd.ofOwn HOW.out)
  clear hb3 ho3 k0 k1 k2
  go_wp2
  go_loop [11] (fun i => ∃ k : Nat, k ≤ m ∧ i = .int .i64 k ∧ Hid (∀ j, j < k → hvN ds gs (nth ks j) ≠ 0)) (fun i => m - (intOf i).toNat)
  case atStart => exact ⟨0, Nat.zero_le _, rfl, Lib.hid (fun j hj => by omega)⟩
  case round =>
    obtain ⟨k, hk, rfl, HA⟩ := hrel
    by_cases hlt : k < m
    case neg =>
      obtain rfl : k = m := by omega
      have CU := Lib.hid (union_ (c := d0) (dK := dK) HDW.out.1.2.1 HN.out HR3.out hN14 HM.out HRK.out hs2 HKS.out)
      have HIF : Hid (exP ds gs ks d ↔ unK ds gs ks k = d) := Lib.hid ⟨fun h => by rw [← h.2, HM.out], fun h => ⟨fun j hj => HA.out j (by have := HM.out; omega), by rw [HM.out]; exact h⟩⟩
      obtain ⟨u, hu⟩ : ∃ u, unK ds gs ks k = u := ⟨_, rfl⟩
      rw [hu] at CU HIF
      have HE := Lib.hid (HYES2.out ((u : Int) == (d : Int)) ⟨fun e => HIF.out.2 (by have := beq_iff_eq.1 e; omega), fun e => beq_iff_eq.2 (by have := HIF.out.1 e; omega)⟩)
      have HE2 := Lib.hid (HYES2.out (u == d) ⟨fun e => HIF.out.2 (beq_iff_eq.1 e), fun e => beq_iff_eq.2 (HIF.out.1 e)⟩)
      clear hlt hu
      go_wp2_with fail
      refine CU.out.mono ?_
      rintro e w4 ⟨rfl, hb4⟩
      have HB4 := Lib.hid (HB3.out.trans (hb4.mono HB3.out.size))
      clear hb4
      go_wp2
      go_ret2
      exact ⟨by first | exact ret_tupC HE.out | exact ret_tupC HE2.out, HB4.out⟩
    case pos =>
    have hks : k < ks.length := by have := HM.out; omega
    obtain ⟨ad, hA, _, hc⟩ := ints_at HRK.out hks
    subst hA
    rw [nth_eq hks] at hc
    have hb := HKS.out k hlt
    obtain ⟨x, hx⟩ : ∃ x : Nat, nth ks k = (x : Int) := ⟨(nth ks k).toNat, by omega⟩
    rw [hx] at hc hb
    obtain ⟨hb0, hb1⟩ := hb
    obtain ⟨hk2, hv⟩ := ht_at (ds := ds) (gs := gs) (x := (x : Int)) (by omega) (by have := HN.out; omega)
    obtain ⟨ad2, hA2, _, hc2⟩ := ints_at HR3.out hk2
    rw [hv] at hc2
    rw [show ((x : Int)).toNat = x from Int.toNat_natCast x] at hc2
    have HX := Lib.hid hx
    have hh12 := HVL.out (x : Int)
    obtain ⟨h, hhe⟩ : ∃ h, hvN ds gs (x : Int) = h := ⟨_, rfl⟩
    rw [hhe] at hc2 hh12
    have HH := Lib.hid hhe
    have HMK := Lib.hid hks
    subst hA2
    clear hks hk2 hv hhe hx
    by_cases hz : h = 0
    case pos =>
      have HE := Lib.hid (HYES2.out false ⟨fun e => (by cases e), fun e => absurd (by rw [HX.out, HH.out]; exact hz) (e.1 k HMK.out)⟩)
      have hz2 : ((h : Int) == 0) = true := by rw [hz]; rfl
      have hz3 : (h == 0) = true := by rw [hz]; rfl
      clear hz
      go_wp2
      go_ret2
      exact ⟨ret_tupC HE.out, HB3.out⟩
    case neg =>
      have HA2 : Hid (∀ j, j < k + 1 → hvN ds gs (nth ks j) ≠ 0) := Lib.hid (fun j hj => by
        by_cases e : j = k
        · subst e; rw [HX.out, HH.out]; exact hz
        · exact HA.out j (by omega))
      have hz2 : ((h : Int) == 0) = false := beq_eq_false_iff_ne.2 (by omega)
      have hz3 : (h == 0) = false := beq_eq_false_iff_ne.2 hz
      have hz4 : ¬ (h : Int) = 0 := by omega
      go_wp2
      go_round
      case rel => exact ⟨k + 1, by omega, by go_num, HA2⟩
      case measure => simp [intOf]; omega
end Go.Proofs.Ytcbjdfgmkiodkaa
