/- Proved: at every argument impl.SharedSaving answers as spec.SharedSaving does and leaves its arguments alone (the law FnExactSharedSaving returns true). The table of math/bits as Go's text lays it. -/
import Derived.Test.YtlgkjidginibdaaDoorRows
import Derived.Test.YtlgkjidginibdaaDoorCards
import Derived.Test.YtlgkjidginibdaaDoorTie
import Derived.Test.YtlgkjidginibdaaDoorJn
import Derived.JoinedOf
import Derived.Test.YtlgkjidginibdaaDoorGC
import Derived.Test.YtlgkjidginibdaaDoorGB
import Derived.Test.YtlgkjidginibdaaDoorSsI
import Derived.WalkKit
import Derived.ProofKit
import Derived.OpenShut
import Derived.ShutString
import Derived.SizedLaws
import Derived.Carry
import Derived.LaidMore
import Derived.LaidHandle
import Derived.MakeChecks
import Derived.Stop.Joined
import Derived.SevenTiedAt
import Derived.SliceStrings
import Derived.DataBytes
import Derived.OpenVars
import Derived.ChangeVars
namespace Go.Proofs.YtlgkjidginibdaaDoor.fnExactSharedSaving
open Go.ChangeShapes Go.WideShapes Go.ChangeAt Go.RowKit
open Go.ChangeMaps (open_string shut_string)

set_option maxRecDepth 100000 in
set_option maxHeartbeats 8000000 in
theorem walk (A1 : Option Addr) (n1 c1 : Nat) (ss : List ByteArray) (A2 : Option Addr) (n2 c2 : Nat) (fs : List Q4) (Axs : Option Addr) (nxs cxs : Nat) (xs : List Sv) (w : World) (hn1 : ss.length = n1) (hm1 : n1 ≤ maxLen) (hr1 : Rd w w.heap.size A1 (ss.map Value.string)) (hws : ∀ s ∈ ss, s.size ≤ maxLen) (hn2 : fs.length = n2) (hm2 : n2 ≤ maxLen) (hr2 : Rd w w.heap.size A2 (fs.flatMap Q4.cells)) (_hwf : ∀ q ∈ fs, q.wf) (hnxs : xs.length = nxs) (hmxs : nxs ≤ maxLen) (hrxs : Rd w w.heap.size Axs (xs.flatMap Sv.cells)) (hixs : ∀ x ∈ xs, SvIn w x) (hpow : Tab w) :
    Calls Tryd.prog 4 #[.agg #[.slice A1 n1 c1, .slice A2 n2 c2], .slice Axs nxs cxs] w fun e w' => e = .returned (.bool true) ∧ Below w.heap.size w w' := by
  have HN1 := Lib.hid hn1; have HN2 := Lib.hid hn2; have HWS := Lib.hid hws; clear hn1 hn2 hws _hwf
  have HNxs := Lib.hid hnxs; clear hnxs
  obtain ⟨r1, hr1e⟩ : ∃ r, ssV ss fs (xs.map Sv.d) = r := ⟨_, rfl⟩
  obtain ⟨r2, hr2e⟩ : ∃ r, pb (svsP ss fs (xs.map Sv.d)) = r := ⟨_, rfl⟩
  have HRV : Hid (ssR ss fs (xs.map Sv.d) = .tuple #[.int .i64 r1, .bool r2]) := Lib.hid (by unfold ssR; rw [hr1e, hr2e])
  clear hr1e hr2e
  go_enter Tryd.func4, Tryd.ntmps4
  go_wp2_with fail
  obtain ⟨W, hW⟩ : ∃ W, (w.alloc (Obj.cells #[.slice A1 n1 c1, .slice A2 n2 c2] 25)) = W := ⟨_, rfl⟩
  have hk0_0 : W.cell? ⟨w.heap.size, 0, none⟩ = some (.slice A1 n1 c1) := by rw [← hW]; simp [go_sem]
  have hk0_1 : W.cell? ⟨w.heap.size, 1, none⟩ = some (.slice A2 n2 c2) := by rw [← hW]; simp [go_sem]
  have hz : w.heap.size < W.heap.size := by rw [← hW]; simp
  have hbw : Below w.heap.size w W := by rw [← hW]; exact ((Below.refl w.heap.size w).alloc (Nat.le_refl _) _)
  have HBW := Lib.hid hbw
  have HTAB : Hid (∀ V, Below W.heap.size W V → Tab V) := Lib.hid fun V hV => (hpow.over hbw).over hV
  clear hpow
  rw [hW]
  clear hW
  have HR1 : Hid (∀ V, Below W.heap.size W V → Rd V V.heap.size A1 (ss.map Value.string)) := Lib.hid fun V hV => (hr1.moved hbw).moved hV
  clear hr1
  have HR2 : Hid (∀ V, Below W.heap.size W V → Rd V V.heap.size A2 (fs.flatMap Q4.cells)) := Lib.hid fun V hV => (hr2.moved hbw).moved hV
  clear hr2
  have HK0_0 : Hid (∀ V, Below W.heap.size W V → V.cell? ⟨w.heap.size, 0, none⟩ = some (.slice A1 n1 c1)) := Lib.hid fun V hV => (hV.cell (p := ⟨_, _, none⟩) (by show w.heap.size < _; omega)).trans hk0_0
  have HK0_1 : Hid (∀ V, Below W.heap.size W V → V.cell? ⟨w.heap.size, 1, none⟩ = some (.slice A2 n2 c2)) := Lib.hid fun V hV => (hV.cell (p := ⟨_, _, none⟩) (by show w.heap.size < _; omega)).trans hk0_1
  have HRxs : Hid (∀ V, Below W.heap.size W V → Rd V V.heap.size Axs (xs.flatMap Sv.cells)) := Lib.hid fun V hV => (hrxs.moved hbw).moved hV
  clear hrxs
  have HIxs : Hid (∀ V, Below W.heap.size W V → ∀ x ∈ xs, SvIn V x) := Lib.hid fun V hV x hx => ((hixs x hx).moved hbw).moved hV
  clear hixs
  clear hk0_0 hk0_1
  have HZ := Lib.hid hz
  clear hz hbw
  have B0 := Lib.hid (Below.refl W.heap.size W)
  refine (szNet A1 A2 n1 c1 n2 c2 1048576 ss fs W HN1.out hm1 (HR1.out _ B0.out) HWS.out hm2 (by omega) (by omega)).mono ?_
  rintro e w1 ⟨v0, rfl, hb1, hv00, hv10, hv20⟩
  have B1_W := Lib.hid (B0.out.trans (hb1.mono B0.out.size))
  have HLAST1 := Lib.hid hb1
  clear hb1
  by_cases hneg0 : v0 < 0
  · go_wp2
    go_ret
    exact ⟨rfl, HBW.out.trans (B1_W.out.mono HBW.out.size)⟩
  have hp0 : 0 ≤ v0 := by omega
  have hsm1 : n1 ≤ 1048576 := by have := hv20 hp0; omega
  have hsm2 : n2 ≤ 1048576 := by have := hv20 hp0; omega
  have HSZ0 := Lib.hid (hv20 hp0)
  clear hneg0 hv20 hm1 hm2
  go_wp2_with fail
  refine (szSvs Axs nxs cxs v0 xs w1 HNxs.out hmxs (HRxs.out _ B1_W.out) (HIxs.out _ B1_W.out) (by omega) (by omega)).mono ?_
  rintro e w2 ⟨v1, rfl, hb2, hv01, hv11, hv21⟩
  have B2_W := Lib.hid (B1_W.out.trans (hb2.mono B1_W.out.size))
  have HLAST2 := Lib.hid hb2
  clear hb2
  by_cases hneg1 : v1 < 0
  · go_wp2
    go_ret
    exact ⟨rfl, HBW.out.trans (B2_W.out.mono HBW.out.size)⟩
  have hp1 : 0 ≤ v1 := by omega
  have hsmxs : nxs ≤ 1048576 := by have := hv21 hp1; omega
  have HSZ1 := Lib.hid (hv21 hp1)
  have HRIxs : Hid (∀ V, Below W.heap.size W V → ∀ x ∈ xs, SvAt V x) := Lib.hid fun V hV x hx => by have h1 := hv21 hp1; have h2 := Svtot_le hx; have h3 := HIxs.out V hV x hx; exact ⟨⟨h3.1.1, by omega, h3.1.2.2⟩, ⟨h3.2.1, by omega, h3.2.2.2⟩⟩
  clear HIxs
  clear hneg1 hv21 hmxs
  have ka0_0 := HK0_0.out _ B2_W.out
  have ka0_1 := HK0_1.out _ B2_W.out
  go_wp2_with fail
  clear ka0_0 ka0_1
  refine (toNet A1 A2 n1 c1 n2 c2 ss fs w2 HN1.out (HR1.out _ B2_W.out) hsm1 HN2.out (HR2.out _ B2_W.out) hsm2).mono ?_
  rintro e w3 ⟨s01, s02, rfl, hos01, hos02, hb3⟩
  have B3_W := Lib.hid (B2_W.out.trans (hb3.mono B2_W.out.size))
  have HLAST3 := Lib.hid hb3
  clear hb3
  have Os01 := Lib.hid hos01
  have Rs01 : Hid (∀ V, Below w3.heap.size w3 V → Rd V V.heap.size (some ⟨s01, 0, none⟩) (ss.map Value.string)) := Lib.hid fun V hV => (Rd.ofOwnK hos01).moved hV
  have Os02 := Lib.hid hos02
  have Rs02 : Hid (∀ V, Below w3.heap.size w3 V → Rd V V.heap.size (some ⟨s02, 0, none⟩) (fs.flatMap Q4.cells)) := Lib.hid fun V hV => (Rd.ofOwnK hos02).moved hV
  clear hos01 hos02
  have Zw3 := Lib.hid (Below.refl w3.heap.size w3)
  go_wp2_with fail
  refine (toSvs Axs nxs cxs xs w3 HNxs.out (HRxs.out _ B3_W.out) (HRIxs.out _ B3_W.out) hsmxs).mono ?_
  rintro e w4 ⟨s1, yss1, rfl, hgs1, hds1, hTs1, hb4⟩
  have B4_W := Lib.hid (B3_W.out.trans (hb4.mono B3_W.out.size))
  have B4_w3 := Lib.hid (Zw3.out.trans (hb4.mono Zw3.out.size))
  have HLAST4 := Lib.hid hb4
  clear hb4
  have Ds1 := Lib.hid hds1
  have Ts1 : Hid (∀ V, Below w4.heap.size w4 V → Svs w3.heap.size s1 nxs yss1 V) := Lib.hid fun V hV => hTs1.moved hV
  clear hds1 hTs1 hgs1
  have Zw4 := Lib.hid (Below.refl w4.heap.size w4)
  go_wp2_with fail
  refine (specSS ⟨HN1.out, hsm1, Nat.le_refl _, Rs01.out _ B4_w3.out, HWS.out, HN2.out, hsm2, Rs02.out _ B4_w3.out⟩ (Ts1.out _ Zw4.out) Ds1.out hsmxs).mono ?_
  rw [HRV.out]
  rintro e w5 ⟨rfl, hb5⟩
  have B5_W := Lib.hid (B4_W.out.trans (hb5.mono B4_W.out.size))
  have B5_w3 := Lib.hid (B4_w3.out.trans (hb5.mono B4_w3.out.size))
  have B5_w4 := Lib.hid (Zw4.out.trans (hb5.mono Zw4.out.size))
  have HLAST5 := Lib.hid hb5
  clear hb5
  have ka0_0 := HK0_0.out _ B5_W.out
  have ka0_1 := HK0_1.out _ B5_W.out
  go_wp2_with fail
  clear ka0_0 ka0_1
  have ZPRE0 := Lib.hid (Nat.le_refl 0)
  refine (toNet A1 A2 n1 c1 n2 c2 ss fs w5 HN1.out (HR1.out _ B5_W.out) hsm1 HN2.out (HR2.out _ B5_W.out) hsm2).mono ?_
  rintro e w6 ⟨x01, x02, rfl, hox01, hox02, hb6⟩
  have B6_W := Lib.hid (B5_W.out.trans (hb6.mono B5_W.out.size))
  have HLAST6 := Lib.hid hb6
  clear hb6
  have Ox01 := Lib.hid hox01
  have Rx01 : Hid (∀ V, Below w6.heap.size w6 V → Rd V V.heap.size (some ⟨x01, 0, none⟩) (ss.map Value.string)) := Lib.hid fun V hV => (Rd.ofOwnK hox01).moved hV
  have Ox02 := Lib.hid hox02
  have Rx02 : Hid (∀ V, Below w6.heap.size w6 V → Rd V V.heap.size (some ⟨x02, 0, none⟩) (fs.flatMap Q4.cells)) := Lib.hid fun V hV => (Rd.ofOwnK hox02).moved hV
  clear hox01 hox02
  have Zw6 := Lib.hid (Below.refl w6.heap.size w6)
  go_wp2_with fail
  obtain ⟨V0, hV0⟩ : ∃ V, (w6.alloc (Obj.cells #[.slice (some ⟨x01, 0, none⟩) n1 n1, .slice (some ⟨x02, 0, none⟩) n2 n2] 34)) = V := ⟨_, rfl⟩
  have hx0_0 : V0.cell? ⟨w6.heap.size, 0, none⟩ = some (.slice (some ⟨x01, 0, none⟩) n1 n1) := by rw [← hV0]; simp [go_sem]
  have hx0_1 : V0.cell? ⟨w6.heap.size, 1, none⟩ = some (.slice (some ⟨x02, 0, none⟩) n2 n2) := by rw [← hV0]; simp [go_sem]
  have hzV0 : w6.heap.size < V0.heap.size := by rw [← hV0]; simp
  have hbV0 : Below w6.heap.size w6 V0 := by rw [← hV0]; exact (Below.refl _ _).alloc (Nat.le_refl _) _
  rw [hV0]
  clear hV0
  have CV0_W := Lib.hid (B6_W.out.trans (hbV0.mono B6_W.out.size))
  have CV0_w6 := Lib.hid (Zw6.out.trans (hbV0.mono Zw6.out.size))
  have HX0_0 : Hid (∀ U, Below V0.heap.size V0 U → U.cell? ⟨w6.heap.size, 0, none⟩ = some (.slice (some ⟨x01, 0, none⟩) n1 n1)) := Lib.hid fun U hU => (hU.cell (p := ⟨_, _, none⟩) hzV0).trans hx0_0
  have HX0_1 : Hid (∀ U, Below V0.heap.size V0 U → U.cell? ⟨w6.heap.size, 1, none⟩ = some (.slice (some ⟨x02, 0, none⟩) n2 n2)) := Lib.hid fun U hU => (hU.cell (p := ⟨_, _, none⟩) hzV0).trans hx0_1
  have HZV0 := Lib.hid hzV0
  clear hzV0 hbV0 hx0_0 hx0_1
  have ZV0 := Lib.hid (Below.refl V0.heap.size V0)
  have ZPRE1 := Lib.hid (Nat.le_refl 0)
  refine (toSvs Axs nxs cxs xs V0 HNxs.out (HRxs.out _ CV0_W.out) (HRIxs.out _ CV0_W.out) hsmxs).mono ?_
  rintro e w7 ⟨x1, ysx1, rfl, hgx1, hdx1, hTx1, hb7⟩
  have B7_W := Lib.hid (CV0_W.out.trans (hb7.mono CV0_W.out.size))
  have B7_w6 := Lib.hid (CV0_w6.out.trans (hb7.mono CV0_w6.out.size))
  have B7_V0 := Lib.hid (ZV0.out.trans (hb7.mono ZV0.out.size))
  have HLAST7 := Lib.hid hb7
  clear hb7
  have Dx1 := Lib.hid hdx1
  have Tx1 : Hid (∀ V, Below w7.heap.size w7 V → Svs V0.heap.size x1 nxs ysx1 V) := Lib.hid fun V hV => hTx1.moved hV
  clear hdx1 hTx1 hgx1
  have Zw7 := Lib.hid (Below.refl w7.heap.size w7)
  have kz0_0 := HX0_0.out _ B7_V0.out
  have kz0_1 := HX0_1.out _ B7_V0.out
  have hgz0 : w6.heap.size < w7.heap.size := Nat.lt_of_lt_of_le HZV0.out B7_V0.out.size
  go_wp2_with fail
  clear kz0_0 kz0_1 hgz0
  refine (implSS ⟨HN1.out, hsm1, Nat.le_refl _, Rx01.out _ B7_w6.out, HWS.out, HN2.out, hsm2, Rx02.out _ B7_w6.out⟩ (Tx1.out _ Zw7.out) Dx1.out hsmxs (HTAB.out _ B7_W.out)).mono ?_
  rw [HRV.out]
  rintro e w8 ⟨rfl, hb8⟩
  have B8_W := Lib.hid (B7_W.out.trans (hb8.mono B7_W.out.size))
  have B8_w6 := Lib.hid (B7_w6.out.trans (hb8.mono B7_w6.out.size))
  have B8_V0 := Lib.hid (B7_V0.out.trans (hb8.mono B7_V0.out.size))
  have B8_w7 := Lib.hid (Zw7.out.trans (hb8.mono Zw7.out.size))
  have HLAST8 := Lib.hid hb8
  clear hb8
  have ka0_0 := HK0_0.out _ B8_W.out
  have ka0_1 := HK0_1.out _ B8_W.out
  have kx0_0 := HX0_0.out _ B8_V0.out
  have kx0_1 := HX0_1.out _ B8_V0.out
  have hgx : w6.heap.size < w8.heap.size := Nat.lt_of_lt_of_le HZV0.out B8_V0.out.size
  have hgw : w.heap.size < w8.heap.size := Nat.lt_of_lt_of_le (by have := HZ.out; omega) B8_W.out.size
  have hbd : Bel w8 w8.drew := Bel.of (Below.refl _ _).drew
  go_upto_region 14 with fail
  go_cut [52] (fun s52 wx => s52 = .bool false ∧ Bel w8 wx)
  case first =>
    go_region_held3 (fun U => U.cell? ⟨w6.heap.size, 0, none⟩ = some (.slice (some ⟨x01, 0, none⟩) n1 n1) ∧ U.cell? ⟨w6.heap.size, 1, none⟩ = some (.slice (some ⟨x02, 0, none⟩) n2 n2) ∧ U.cell? ⟨w.heap.size, 0, none⟩ = some (.slice A1 n1 c1) ∧ U.cell? ⟨w.heap.size, 1, none⟩ = some (.slice A2 n2 c2) ∧ Bel w8 U)
      (first | go_keep | (go_split_ands; (refine ⟨?_, ?_, ?_, ?_, ?_⟩ <;> first | assumption | exact Bel.step (by assumption) hbt9 | exact Bel.step (by assumption) hbt10 | exact (Bel.at_ (by assumption) hbt9 (by assumption)).trans (by assumption) | exact (Bel.at_ (by assumption) hbt10 (by assumption)).trans (by assumption))))
      (first
        | (go_at_call 9
           go_split_ands
           refine (toNet A1 A2 n1 c1 n2 c2 ss fs _ HN1.out (HR1.out _ (Below.trans B8_W.out ((Bel.out (by assumption)).mono B8_W.out.size))) hsm1 HN2.out (HR2.out _ (Below.trans B8_W.out ((Bel.out (by assumption)).mono B8_W.out.size))) hsm2).mono ?_
           rintro e t9 ⟨y101, y102, rfl, hoy101, hoy102, hbt9⟩
           have Sy101 := Lib.hid (Rd.ofOwnK hoy101)
           have Sy102 := Lib.hid (Rd.ofOwnK hoy102)
           clear hoy101 hoy102)
        | (go_at_call 13
           go_split_ands
           refine (eqNet x01 x02 y101 y102 n1 n2 n1 n2 n1 n2 ss fs t9 HN1.out hsm1 HN2.out hsm2 (Rx01.out _ (Below.trans B8_w6.out ((Bel.out (by assumption)).mono B8_w6.out.size))) (Sy101.out) (Rx02.out _ (Below.trans B8_w6.out ((Bel.out (by assumption)).mono B8_w6.out.size))) (Sy102.out)).mono ?_
           rintro e t10 ⟨rfl, hbt10⟩))
    all_goals
      go_split_ands
      have hbl : Bel w8 t10 := by assumption
      go_wp2_with fail
      go_meet
      exact ⟨rfl, hbl⟩
  case rest =>
  clear hbd hgx hgw ka0_0 ka0_1 kx0_0 kx0_1
  revert hcut; generalize wc = wc1; intro hcut
  obtain ⟨hs_, hbl⟩ := hcut
  subst hs_
  have Ewc1_W := Lib.hid (B8_W.out.trans ((Bel.out hbl).mono B8_W.out.size))
  have Ewc1_w6 := Lib.hid (B8_w6.out.trans ((Bel.out hbl).mono B8_w6.out.size))
  have Ewc1_V0 := Lib.hid (B8_V0.out.trans ((Bel.out hbl).mono B8_V0.out.size))
  have Ewc1_w7 := Lib.hid (B8_w7.out.trans ((Bel.out hbl).mono B8_w7.out.size))
  clear hbl
  go_wp2_with fail
  refine (toSvs Axs nxs cxs xs wc1 HNxs.out (HRxs.out _ Ewc1_W.out) (HRIxs.out _ Ewc1_W.out) hsmxs).mono ?_
  rintro e w12 ⟨y11, ysy11, rfl, hgy11, hdy11, hTy11, hb12⟩
  have B12_W := Lib.hid (Ewc1_W.out.trans (hb12.mono Ewc1_W.out.size))
  have B12_w6 := Lib.hid (Ewc1_w6.out.trans (hb12.mono Ewc1_w6.out.size))
  have B12_V0 := Lib.hid (Ewc1_V0.out.trans (hb12.mono Ewc1_V0.out.size))
  have B12_w7 := Lib.hid (Ewc1_w7.out.trans (hb12.mono Ewc1_w7.out.size))
  have HLAST12 := Lib.hid hb12
  clear hb12
  have Dy11 := Lib.hid hdy11; have STy11 := Lib.hid hTy11; clear hdy11 hTy11
  clear  hgy11
  go_wp2_with fail
  refine (eqSvs x1 y11 nxs _ _ ysx1 ysy11 w12 (Tx1.out _ B12_w7.out) (STy11.out) (Dx1.out.trans Dy11.out.symm) hsmxs).mono ?_
  rintro e w13 ⟨rfl, hb13⟩
  have B13_W := Lib.hid (B12_W.out.trans (hb13.mono B12_W.out.size))
  have B13_w6 := Lib.hid (B12_w6.out.trans (hb13.mono B12_w6.out.size))
  have B13_V0 := Lib.hid (B12_V0.out.trans (hb13.mono B12_V0.out.size))
  have B13_w7 := Lib.hid (B12_w7.out.trans (hb13.mono B12_w7.out.size))
  have HLAST13 := Lib.hid hb13
  clear hb13
  go_wp2
  go_ret
  exact ⟨rfl, HBW.out.trans (B13_W.out.mono HBW.out.size)⟩


theorem own : ownKnob Tryd.prog.godebug = none := by kernel_rfl
theorem laidOut : laidOutB Tryd.prog = true := by kernel_rfl

theorem tTab : (Tryd.prog.globals[1]?).map (·.type) = some 149 := by kernel_rfl
theorem cTab : Tryd.prog.cellsOf 149 = 64 := by kernel_rfl
theorem cU8 : Tryd.prog.cellsOf 5 = 1 := by kernel_rfl
theorem pow_of_laid {W : World} (h : laidMetH Tryd.prog Rows.fnExactSharedSavingRow.laid W) : Tab W := by
  have h3 : laidMetH Tryd.prog (Rows.fnExactSharedSavingRow.laid.filter fun x => x.1 == "math/bits.deBruijn64tab") W := h.filter _
  have e : (Rows.fnExactSharedSavingRow.laid.filter fun x => x.1 == "math/bits.deBruijn64tab") = [("math/bits.deBruijn64tab", Lib.tabData .u8 tzTab)] := by kernel_rfl
  rw [e, MakeChecks.laidMetH_plain _ _ _ (by kernel_rfl)] at h3
  exact Lib.tabIs_of_head tabAt tTab Tryd.underlying149 Tryd.underlying5 cU8 cTab h3

theorem door_met (os : Os) (args : Array Value) : laidMetH Tryd.prog Rows.fnExactSharedSavingRow.laid ((World.doorLaid Tryd.prog 19 os).forCall (fun _ _ => 0) ⟨#[], args, []⟩).memory :=
  laidMetH_of_parts3 (fuel := 8) (laidMet_of_run' 8 (by kernel_rfl) (by kernel_rfl)) (by kernel_rfl) (by kernel_rfl)

set_option maxRecDepth 100000 in
theorem lifted (os : Os) (started : os.Started) (H : Type) (enc : TypeId × Value → H) :
    ReturnsInHanded {} Tryd.checked os 4 .any (fun w args => (Rows.fnExactSharedSavingSpec.pre enc Tryd.prog Tryd.f4 [] false w args ∧ laidMetH Tryd.prog Rows.fnExactSharedSavingRow.laid w) ∧ sizedMet enc Tryd.prog Tryd.f4 (OpenSpec.ofChange Rows.fnExactSharedSavingSpec) false w args)
      (Rows.fnExactSharedSavingSpec.post enc Tryd.prog Tryd.f4 false true false false) := by
  refine returnsInHanded_of_change_and (C := Tryd.checked) (X := fun w _ => laidMetH Tryd.prog Rows.fnExactSharedSavingRow.laid w) (fun _ _ _ hh h => h.of_heap hh) own started (by kernel_rfl) Tryd.func4
    (ChangeSpec.witness_shaped (enc := enc) (C := Tryd.checked) (os := os) (X := fun w _ => laidMetH Tryd.prog Rows.fnExactSharedSavingRow.laid w) false (World.doorLaid Tryd.prog 19 os) #[.agg #[.slice none 0 0, .slice none 0 0], .slice none 0 0] 8 rfl (World.shaped_of_RefB (by kernel_rfl) (by kernel_rfl)) (by kernel_rfl) (by kernel_rfl) (by kernel_rfl) (door_met os _)) ?_
  intro W base args ds gs before hval0 hW _ hsz0 hL _
  have hval : ∀ (j : Nat) t v, Tryd.f4.params[j]? = some t → args[j]? = some v → Value.okWide Tryd.prog W .any base t v := hval0
  have hsz : (DataW.weightsEach Tryd.prog (Tryd.f4.params.toList ++ Rows.fnExactSharedSavingSpec.plain.varTypes Tryd.prog) (ds ++ gs)).all (· ≤ reachBytes) = true := hsz0
  have hpow := pow_of_laid hL
  have hW' := hW
  obtain ⟨p, q, hA0, hV, rfl, hfz, hnd⟩ := hW
  have hA : DataW.TrodAll enc Tryd.prog W 0 (fun _ => true) true Tryd.f4.params.toList args.toList ds p := hA0
  rw [Tryd.params4] at hA hval hsz
  obtain ⟨v0, vs0, d0, ds0, p0, q0, hargs, rfl, rfl, h0, r0⟩ := trodAll_cons hA
  obtain ⟨v1, vs1, d1, ds1, p1, q1, rfl, rfl, rfl, h1, r1⟩ := trodAll_cons r0
  obtain ⟨rfl, rfl, rfl⟩ := trodAll_nil r1
  obtain rfl : args = #[v0, v1] := by cases args; simp_all
  obtain ⟨rfl, rfl⟩ := trodVars_none hV
  simp only [List.append_nil] at hW'
  have hlt0 : ∀ x ∈ p0, x.block < W.heap.size := fun x hx => by simpa using hW'.lt x (by simp [hx])
  have hlt1 : ∀ x ∈ p1, x.block < W.heap.size := fun x hx => by simpa using hW'.lt x (by simp [hx])
  have fin : ∀ W' : World, Below W.heap.size W W' → Rows.fnExactSharedSavingSpec.post enc Tryd.checked.prog Tryd.f4 false true false false W #[v0, v1] (.bool true) W' := by
    intro W' hb
    refine ⟨_, _, _, [] ++ [], (p0 ++ (p1 ++ [])), [], hW', ?_, ?_, rfl, hb.frame _, fun h => by cases h⟩
    · exact trodAll_mk1 (shut_bool Tryd.underlying4 true)
    · exact trodAll_cons_mk (Below.trod laidOut (by kernel_rfl) (of_decide_eq_true (by kernel_rfl)) h0 hb hlt0) (trodAll_cons_mk (Below.trod laidOut (by kernel_rfl) (of_decide_eq_true (by kernel_rfl)) h1 hb hlt1) (trodAll_mk0))
  clear hW' hV hA0
  obtain ⟨A0, n0, c0, s0, B0, m0, k0, z0, rfl, ⟨ha0, hb0, hc0, hd0⟩, ⟨he0, hf0, hg0, hh0⟩⟩ := open_net Tryd.underlying25 (by kernel_rfl) (by kernel_rfl) Tryd.underlying22 Tryd.underlying9 (by kernel_rfl) Tryd.underlying23 Tryd.underlying99 (by kernel_rfl) (by kernel_rfl) rfl (hint_of Tryd.underlying3 (by decide +kernel)) (hval 0 25 v0 rfl rfl) h0
  obtain ⟨b1, len1, cap1, rfl⟩ := okWide_slice Tryd.underlying26 (hval 1 26 v1 rfl rfl)
  obtain ⟨fuel1, hf1⟩ := h1
  obtain ⟨A1, n1, c1, z1, e1, ha1, hb1, hc1, hd1⟩ := rd_svs hf1
  simp only [Value.cells, List.cons.injEq, Value.slice.injEq, and_true] at e1
  obtain ⟨rfl, rfl, rfl⟩ := e1
  exact (walk A0 n0 c0 s0 B0 m0 k0 z0 b1 len1 cap1 z1 W ha0 hb0 hc0 hd0 he0 hf0 hg0 hh0 ha1 hb1 hc1 hd1 hpow).mono fun e W' ⟨he, hb⟩ => ⟨_, he, fin W' hb⟩

theorem closed : joinedFacts Tryd.prog 4 Tryd.f4 Rows.fnExactSharedSavingSpec Rows.fnExactSharedSavingRow = true := by
  unfold joinedFacts
  rw [jn_mk, jn_li, jn_en]
  kernel_rfl
theorem over : Rows.fnExactSharedSavingRow.holds Tryd.pinned (OpenSpec.ofChange Rows.fnExactSharedSavingSpec) :=
  OpenClaim.holds_of_wide 4 Tryd.f4 rfl rfl rfl rfl rfl rfl rfl ⟨rfl, rfl, rfl, rfl, rfl⟩ rfl rfl rfl rfl rfl (by kernel_rfl) Tryd.func4 closed
    (of_decide_eq_true (by kernel_rfl)) (by unfold Func.isWrapper; first | (rw [if_pos (by decide +kernel)]; kernel_rfl) | (rw [if_neg (by decide +kernel)]; exact ⟨rfl, rfl⟩))
    (fun os started H enc _ => lifted os started H enc)

/-- THE STATEMENT -/
theorem proved : Rows.FnExactSharedSavingCardSaid :=
  Claim7.holds_tied_plain_at .later [] [.data, .data] true (true, "b7d65082545e8e3cac7370942148a438eb1da38865f1aa27ba379da9eb509816") false
    over (fun _ h => by cases h) (by kernel_rfl) (fun _ h => by cases h) fnExactSharedSaving_row_tie rfl ⟨rfl, rfl⟩ jn_main rfl
    (fun f fn hf hfn => by
      obtain rfl : f = 4 := Option.some.inj ((show Tryd.prog.funcNamed "loop.example/g00897/laws.FnExactSharedSaving" = some 4 by kernel_rfl).symm.trans hf) |>.symm
      obtain rfl : fn = Tryd.f4 := (Option.some.inj (Tryd.func4.symm.trans hfn)).symm
      exact ⟨by kernel_rfl, fun j t ht => by
        rw [Tryd.params4] at ht
        have hm : t ∈ [25, 26] := by simpa using Array.mem_of_getElem? ht
        have hall : ([25, 26].all fun u => !Tryd.prog.wantsStandIn u) = true := by kernel_rfl
        exact (show Tryd.prog.wantsStandIn t = false by simpa using List.all_eq_true.1 hall t hm)⟩)
    (by kernel_rfl)
end Go.Proofs.YtlgkjidginibdaaDoor.fnExactSharedSaving
