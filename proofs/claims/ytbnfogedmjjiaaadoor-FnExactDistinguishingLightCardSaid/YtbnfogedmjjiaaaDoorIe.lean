/- Explanations of alarms: contracts of IsExplanation, both sides. No condition but those typed. -/
import Derived.Test.YtbnfogedmjjiaaaDoorOa
import Derived.Test.YtbnfogedmjjiaaaDoorGrpS
namespace Go.Proofs.YtbnfogedmjjiaaaDoor
open Go.ChangeShapes Go.WideShapes Go.ChangeAt Go.RowKit Go.Maps

noncomputable def ieB (ss : List ByteArray) (fs : List Q4) (ds : List LtD) (zs ks : List Int) : Bool := pb (dwP ss fs ds zs ∧ risB ks ((rgL fs).length : Int) = true)
noncomputable def ieY (ss : List ByteArray) (fs : List Q4) (ds : List LtD) (zs ks : List Int) : Bool := pb ((dwP ss fs ds zs ∧ risB ks ((rgL fs).length : Int) = true) ∧ exP ds (rgL fs) ks (mskK ds zs zs.length))
noncomputable def ieR (ss : List ByteArray) (fs : List Q4) (ds : List LtD) (zs ks : List Int) : Value := .tuple #[.bool (ieY ss fs ds zs ks), .bool (ieB ss fs ds zs ks)]
theorem ie_no {ss : List ByteArray} {fs : List Q4} {ds : List LtD} {zs ks : List Int} (h : ¬ (dwP ss fs ds zs ∧ risB ks ((rgL fs).length : Int) = true)) : (.tuple #[.bool false, .bool false] : Value) = ieR ss fs ds zs ks := by
  unfold ieR; rw [show ieB ss fs ds zs ks = false from pb_false h, show ieY ss fs ds zs ks = false from pb_false (fun e => h e.1)]
theorem ie_yes {ss : List ByteArray} {fs : List Q4} {ds : List LtD} {zs ks : List Int} (h : dwP ss fs ds zs ∧ risB ks ((rgL fs).length : Int) = true) {b : Bool} (hb : b = true ↔ exP ds (rgL fs) ks (mskK ds zs zs.length)) : (.tuple #[.bool b, .bool true] : Value) = ieR ss fs ds zs ks := by
  unfold ieR; rw [show ieB ss fs ds zs ks = true from pb_true h]
  have : ieY ss fs ds zs ks = b := by
    cases b
    · exact pb_false (fun e => by have := hb.2 e.2; cases this)
    · exact pb_true ⟨h, hb.1 rfl⟩
  rw [this]
set_option maxRecDepth 100000 in
set_option maxHeartbeats 4000000 in
theorem union_ {ds : List LtD} {gs : List (List Int)} {A K : Option Addr} {N c m dK : Nat} {ks : List Int} {w : World} (hl : ds.length ≤ 12) (hN : N = gs.length) (hr : Rd w w.heap.size A ((htL ds gs).map (Value.int .i64))) (hN14 : N ≤ 14)
    (hm : ks.length = m) (hr2 : Rd w w.heap.size K (ks.map (Value.int .i64))) (hs2 : m ≤ 1048576) (hks : ∀ j, j < m → 0 ≤ nth ks j ∧ nth ks j < N) :
    Calls Tryd.prog 125 #[.slice A N c, .slice K m dK] w (RetP (.int .i64 (unK ds gs ks m : Nat)) w) := by
  have HR := Lib.hid hr; have HR2 := Lib.hid hr2; have HM := Lib.hid hm; have HKS := Lib.hid hks; have HN := Lib.hid hN
  have HLT : Hid (∀ k, unK ds gs ks k < 2 ^ 12) := Lib.hid (fun k => un_lt hl)
  have HVL : Hid (∀ x, hvN ds gs x < 2 ^ 12) := Lib.hid (fun x => hv_lt hl)
  clear hr hr2 hm hks hN
  go_enter Tryd.func125, Tryd.ntmps125
  go_wp2
  go_loop [5, 6] (fun v i => ∃ (k u : Nat), k ≤ m ∧ i = .int .i64 k ∧ v = .int .i64 u ∧ Hid (unK ds gs ks k = u)) (fun _ i => m - (intOf i).toNat)
  case atStart => exact ⟨0, 0, Nat.zero_le _, rfl, rfl, Lib.hid rfl⟩
  case round =>
    obtain ⟨k, u, hk, rfl, rfl, HU⟩ := hrel
    by_cases hlt : k < m
    case neg =>
      obtain rfl : k = m := by omega
      obtain rfl : unK ds gs ks k = u := HU.out
      clear hlt
      go_wp2
      go_ret
      exact ⟨rfl, Below.refl _ _⟩
    case pos =>
    have hks : k < ks.length := by have := HM.out; omega
    obtain ⟨ad, hA, _, hc⟩ := ints_at HR2.out hks
    subst hA
    rw [nth_eq hks] at hc
    have hb := HKS.out k hlt
    obtain ⟨x, hx⟩ : ∃ x : Nat, nth ks k = (x : Int) := ⟨(nth ks k).toNat, by omega⟩
    rw [hx] at hc hb
    obtain ⟨hb0, hb1⟩ := hb
    obtain ⟨hk2, hv⟩ := ht_at (ds := ds) (gs := gs) (x := (x : Int)) (by omega) (by have := HN.out; omega)
    obtain ⟨ad2, hA2, _, hc2⟩ := ints_at HR.out hk2
    rw [hv] at hc2
    rw [show ((x : Int)).toNat = x from Int.toNat_natCast x] at hc2
    have hu12 : u < 2 ^ 12 := by rw [← HU.out]; exact HLT.out k
    have hh12 := HVL.out (x : Int)
    have HS : Hid (unK ds gs ks (k + 1) = u ||| hvN ds gs (x : Int)) := Lib.hid (by unfold unK; rw [HU.out, hx])
    obtain ⟨h, hhe⟩ : ∃ h, hvN ds gs (x : Int) = h := ⟨_, rfl⟩
    rw [hhe] at hc2 hh12 HS
    have hor := or_i64_ u h (by omega) (by omega)
    obtain ⟨u2, hu2⟩ : ∃ y, u ||| h = y := ⟨_, rfl⟩
    rw [hu2] at hor HS
    subst hA2
    clear hks hk2 hv hhe hu2 hx
    go_wp2
    go_round
    case rel => exact ⟨k + 1, u2, by omega, by go_num, by go_num, HS⟩
    case measure => simp [intOf]; omega

set_option maxRecDepth 100000 in
set_option maxHeartbeats 4000000 in
theorem hasG_ {V : Value} {A K : Option Addr} {N c m dK : Nat} {ks : List Int} {w : World} (hm : ks.length = m) (hr2 : Rd w w.heap.size K (ks.map (Value.int .i64))) (hs2 : m ≤ 1048576) :
    Calls Tryd.prog 128 #[.agg #[V, .slice A N c], .slice K m dK] w (RetP (.bool (risB ks (N : Int))) w) := by
  have hb0 := (Below.refl w.heap.size w).alloc (Nat.le_refl _) (Obj.cells #[V, .slice A N c] 161)
  have CI := Lib.hid (isSet_ K m dK ks (N : Int) _ hm hs2 (hr2.moved hb0))
  have HB := Lib.hid hb0
  obtain ⟨b, hb⟩ : ∃ b, risB ks (N : Int) = b := ⟨_, rfl⟩
  rw [hb] at CI ⊢
  clear hm hr2 hb0 hb
  go_enter Tryd.func128, Tryd.ntmps128
  go_wp2_with fail
  refine CI.out.mono ?_
  rintro _ _ ⟨rfl, rfl⟩
  go_wp2
  go_ret
  exact ⟨rfl, HB.out⟩

set_option maxRecDepth 100000 in
set_option maxHeartbeats 1500000 in
theorem l25Gr_ {g1 g2 g3 n1 n2 n3 c1 c2 B : Nat} {ss : List ByteArray} {fs : List Q4} {ys : List Lt} {ds : List LtD} {w : World} (h : NetAt g1 g2 n1 n2 c1 c2 ss fs w) (hT : Lts B g3 n3 ys w) (hd : ys.map Lt.d = ds) (hs : n3 ≤ 1048576) {K : Option Addr} {m dK : Nat} {ks : List Int} (hm : ks.length = m) (hr2 : Rd w w.heap.size K (ks.map (Value.int .i64))) (hs2 : m ≤ 1048576) (hp : planP ss fs ds) :
    Calls Tryd.prog 124 #[.agg #[.slice (some ⟨g1, 0, none⟩) n1 c1, .slice (some ⟨g2, 0, none⟩) n2 c2, .slice (some ⟨g3, 0, none⟩) n3 n3], .slice K m dK] w (RetP (.bool (risB ks ((rgL fs).length : Int))) w) := by
  have hgl : (rgL fs).length ≤ 14 := by have := rgp_len fs; have := hp.1.2.1; omega
  have CG := Lib.hid (fun (W : World) (hb : Below w.heap.size w W) => l9Good_ (h.moved hb) (hT.moved hb) hd hs)
  have CL := Lib.hid (fun (W : World) (hb : Below w.heap.size w W) => l2Groups_ (h.moved hb) hp.1)
  obtain ⟨gs, hgs⟩ : ∃ gs, rgL fs = gs := ⟨_, rfl⟩
  have CR := Lib.hid (fun (W : World) (hb : Below w.heap.size w W) => rising_ K m dK ks ((gs.length : Int) - 1) W hm hs2 (hr2.moved hb))
  rw [show (gs.length : Int) - 1 + 1 = gs.length by omega] at CR
  rw [pb_true hp] at CG
  rw [hgs] at CL hgl ⊢
  obtain ⟨b, hb⟩ : ∃ b, risB ks (gs.length : Int) = b := ⟨_, rfl⟩
  rw [hb] at CR ⊢
  clear h hT hd hm hr2 hp hgs hb
  go_enter Tryd.func124, Tryd.ntmps124
  go_wp2_with fail
  obtain ⟨W0, hW0⟩ : ∃ W0, w.alloc (Obj.cells #[.slice (some ⟨g1, 0, none⟩) n1 c1, .slice (some ⟨g2, 0, none⟩) n2 c2, .slice (some ⟨g3, 0, none⟩) n3 n3] 82) = W0 := ⟨_, rfl⟩
  have hb0 : Below w.heap.size w W0 := by rw [← hW0]; exact (Below.refl _ _).alloc (Nat.le_refl _) _
  have k0 : W0.cell? ⟨w.heap.size, 0, none⟩ = some (.slice (some ⟨g1, 0, none⟩) n1 c1) := by rw [← hW0]; simp [go_sem]
  have k1 : W0.cell? ⟨w.heap.size, 1, none⟩ = some (.slice (some ⟨g2, 0, none⟩) n2 c2) := by rw [← hW0]; simp [go_sem]
  have hz0 : w.heap.size < W0.heap.size := by rw [← hW0]; simp
  have HB0 := Lib.hid hb0; have HK0 := Lib.hid k0; have HK1 := Lib.hid k1; have HZ0 := Lib.hid hz0
  rw [hW0]
  clear hW0 hb0 k0 k1 hz0
  refine (CG.out _ HB0.out).mono ?_
  rintro e w1 ⟨rfl, hb1⟩
  have HB1 := Lib.hid (HB0.out.trans (hb1.mono HB0.out.size))
  have k0 := (hb1.cell (p := ⟨w.heap.size, 0, none⟩) HZ0.out).trans HK0.out
  have k1 := (hb1.cell (p := ⟨w.heap.size, 1, none⟩) HZ0.out).trans HK1.out
  have hz1 : w.heap.size < w1.heap.size := Nat.lt_of_lt_of_le HZ0.out hb1.size
  clear hb1
  go_wp2_with fail
  refine (CL.out _ HB1.out).mono ?_
  rintro e w2 ⟨A0, N0, d0, zs, rfl, HGD, hR3, hb2⟩
  have HB2 := Lib.hid (HB1.out.trans (hb2.mono HB1.out.size))
  have hN0 : N0 = gs.length := by have h1 := hR3.len; have h2 := congrArg List.length HGD.out; rw [List.length_map] at h2; omega
  subst hN0
  clear hb2 hR3 k0 k1 hz1
  have e7 : IntKind.i64.wrap ((gs.length : Int) - 1) = (gs.length : Int) - 1 := IntWalk.i64_in _ (by omega)
  go_wp2_with fail
  refine (CR.out _ HB2.out).mono ?_
  rintro e w3 ⟨rfl, hb3⟩
  have HB3 := Lib.hid (HB2.out.trans (hb3.mono HB2.out.size))
  clear hb3 e7
  go_wp2
  go_ret
  exact ⟨rfl, HB3.out⟩
end Go.Proofs.YtbnfogedmjjiaaaDoor
