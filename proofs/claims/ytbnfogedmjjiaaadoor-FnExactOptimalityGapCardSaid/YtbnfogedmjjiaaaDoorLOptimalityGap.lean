/- Proved: at every argument impl.OptimalityGap answers as spec.OptimalityGap does and leaves its arguments alone (the law FnExactOptimalityGap returns true). The table of math/bits as Go's text lays it. -/
import Derived.Test.YtbnfogedmjjiaaaDoorRows
import Derived.Test.YtbnfogedmjjiaaaDoorCards
import Derived.Test.YtbnfogedmjjiaaaDoorTie
import Derived.Test.YtbnfogedmjjiaaaDoorJn
import Derived.JoinedOf
import Derived.Test.YtbnfogedmjjiaaaDoorGC
import Derived.Test.YtbnfogedmjjiaaaDoorBkX
import Derived.Test.YtbnfogedmjjiaaaDoorGB
import Derived.Test.YtbnfogedmjjiaaaDoorOg
import Derived.WalkKit
import Derived.ProofKit
import Derived.OpenShut
import Derived.ShutString
import Derived.SizedLaws
import Derived.Carry
import Derived.LaidMore
import Derived.LaidHandle
import Derived.MakeChecks
import Derived.Stop.Joined
import Derived.SevenTiedAt
import Derived.SliceStrings
import Derived.DataBytes
import Derived.OpenVars
import Derived.ChangeVars
namespace Go.Proofs.YtbnfogedmjjiaaaDoor.fnExactOptimalityGap
open Go.ChangeShapes Go.WideShapes Go.ChangeAt Go.RowKit
open Go.ChangeMaps (open_string shut_string)

set_option maxRecDepth 100000 in
set_option maxHeartbeats 8000000 in
theorem walk (A1 : Option Addr) (n1 c1 : Nat) (ss : List ByteArray) (A2 : Option Addr) (n2 c2 : Nat) (fs : List Q4) (Axs : Option Addr) (nxs cxs : Nat) (xs : List Rq) (Abs : Option Addr) (nbs cbs : Nat) (bs : List Q2) (w : World) (hn1 : ss.length = n1) (hm1 : n1 ≤ maxLen) (hr1 : Rd w w.heap.size A1 (ss.map Value.string)) (hws : ∀ s ∈ ss, s.size ≤ maxLen) (hn2 : fs.length = n2) (hm2 : n2 ≤ maxLen) (hr2 : Rd w w.heap.size A2 (fs.flatMap Q4.cells)) (_hwf : ∀ q ∈ fs, q.wf) (hnxs : xs.length = nxs) (hmxs : nxs ≤ maxLen) (hrxs : Rd w w.heap.size Axs (xs.flatMap Rq.cells)) (hixs : ∀ x ∈ xs, RqIn w x) (hnbs : bs.length = nbs) (hmbs : nbs ≤ maxLen) (hrbs : Rd w w.heap.size Abs (bs.flatMap Q2.cells)) (_hwfbs : ∀ q ∈ bs, q.wf) (hpow : Tab w) :
    Calls Tryd.prog 4 #[.agg #[.slice A1 n1 c1, .slice A2 n2 c2], .slice Axs nxs cxs, .slice Abs nbs cbs] w fun e w' => e = .returned (.bool true) ∧ Below w.heap.size w w' := by
  have HN1 := Lib.hid hn1; have HN2 := Lib.hid hn2; have HWS := Lib.hid hws; clear hn1 hn2 hws _hwf
  have HNxs := Lib.hid hnxs; clear hnxs
  have HNbs := Lib.hid hnbs; clear hnbs _hwfbs
  obtain ⟨r1, hr1e⟩ : ∃ r, ogV ss fs (xs.map Rq.d) bs = r := ⟨_, rfl⟩
  obtain ⟨r2, hr2e⟩ : ∃ r, caB ss fs (xs.map Rq.d) bs = r := ⟨_, rfl⟩
  have HRV : Hid (ogR ss fs (xs.map Rq.d) bs = .tuple #[.int .i64 r1, .bool r2]) := Lib.hid (by unfold ogR; rw [hr1e, hr2e])
  clear hr1e hr2e
  go_enter Tryd.func4, Tryd.ntmps4
  go_wp2_with fail
  obtain ⟨W, hW⟩ : ∃ W, (w.alloc (Obj.cells #[.slice A1 n1 c1, .slice A2 n2 c2] 25)) = W := ⟨_, rfl⟩
  have hk0_0 : W.cell? ⟨w.heap.size, 0, none⟩ = some (.slice A1 n1 c1) := by rw [← hW]; simp [go_sem]
  have hk0_1 : W.cell? ⟨w.heap.size, 1, none⟩ = some (.slice A2 n2 c2) := by rw [← hW]; simp [go_sem]
  have hz : w.heap.size < W.heap.size := by rw [← hW]; simp
  have hbw : Below w.heap.size w W := by rw [← hW]; exact ((Below.refl w.heap.size w).alloc (Nat.le_refl _) _)
  have HBW := Lib.hid hbw
  have HTAB : Hid (∀ V, Below W.heap.size W V → Tab V) := Lib.hid fun V hV => (hpow.over hbw).over hV
  clear hpow
  rw [hW]
  clear hW
  have HR1 : Hid (∀ V, Below W.heap.size W V → Rd V V.heap.size A1 (ss.map Value.string)) := Lib.hid fun V hV => (hr1.moved hbw).moved hV
  clear hr1
  have HR2 : Hid (∀ V, Below W.heap.size W V → Rd V V.heap.size A2 (fs.flatMap Q4.cells)) := Lib.hid fun V hV => (hr2.moved hbw).moved hV
  clear hr2
  have HK0_0 : Hid (∀ V, Below W.heap.size W V → V.cell? ⟨w.heap.size, 0, none⟩ = some (.slice A1 n1 c1)) := Lib.hid fun V hV => (hV.cell (p := ⟨_, _, none⟩) (by show w.heap.size < _; omega)).trans hk0_0
  have HK0_1 : Hid (∀ V, Below W.heap.size W V → V.cell? ⟨w.heap.size, 1, none⟩ = some (.slice A2 n2 c2)) := Lib.hid fun V hV => (hV.cell (p := ⟨_, _, none⟩) (by show w.heap.size < _; omega)).trans hk0_1
  have HRxs : Hid (∀ V, Below W.heap.size W V → Rd V V.heap.size Axs (xs.flatMap Rq.cells)) := Lib.hid fun V hV => (hrxs.moved hbw).moved hV
  clear hrxs
  have HRbs : Hid (∀ V, Below W.heap.size W V → Rd V V.heap.size Abs (bs.flatMap Q2.cells)) := Lib.hid fun V hV => (hrbs.moved hbw).moved hV
  clear hrbs
  have HIxs : Hid (∀ V, Below W.heap.size W V → ∀ x ∈ xs, RqIn V x) := Lib.hid fun V hV x hx => ((hixs x hx).moved hbw).moved hV
  clear hixs
  clear hk0_0 hk0_1
  have HZ := Lib.hid hz
  clear hz hbw
  have B0 := Lib.hid (Below.refl W.heap.size W)
  refine (szNet A1 A2 n1 c1 n2 c2 1048576 ss fs W HN1.out hm1 (HR1.out _ B0.out) HWS.out hm2 (by omega) (by omega)).mono ?_
  rintro e w1 ⟨v0, rfl, hb1, hv00, hv10, hv20⟩
  have B1_W := Lib.hid (B0.out.trans (hb1.mono B0.out.size))
  have HLAST1 := Lib.hid hb1
  clear hb1
  by_cases hneg0 : v0 < 0
  · go_wp2
    go_ret
    exact ⟨rfl, HBW.out.trans (B1_W.out.mono HBW.out.size)⟩
  have hp0 : 0 ≤ v0 := by omega
  have hsm1 : n1 ≤ 1048576 := by have := hv20 hp0; omega
  have hsm2 : n2 ≤ 1048576 := by have := hv20 hp0; omega
  have HSZ0 := Lib.hid (hv20 hp0)
  clear hneg0 hv20 hm1 hm2
  go_wp2_with fail
  refine (szRqs Axs nxs cxs v0 xs w1 HNxs.out hmxs (HRxs.out _ B1_W.out) (HIxs.out _ B1_W.out) (by omega) (by omega)).mono ?_
  rintro e w2 ⟨v1, rfl, hb2, hv01, hv11, hv21⟩
  have B2_W := Lib.hid (B1_W.out.trans (hb2.mono B1_W.out.size))
  have HLAST2 := Lib.hid hb2
  clear hb2
  by_cases hneg1 : v1 < 0
  · go_wp2
    go_ret
    exact ⟨rfl, HBW.out.trans (B2_W.out.mono HBW.out.size)⟩
  have hp1 : 0 ≤ v1 := by omega
  have hsmxs : nxs ≤ 1048576 := by have := hv21 hp1; omega
  have HSZ1 := Lib.hid (hv21 hp1)
  have HRIxs : Hid (∀ V, Below W.heap.size W V → ∀ x ∈ xs, RqAt V x) := Lib.hid fun V hV x hx => ⟨(HIxs.out V hV x hx).1, by have h1 := hv21 hp1; have h2 := Rqtot_le hx; omega, (HIxs.out V hV x hx).2.2⟩
  clear HIxs
  clear hneg1 hv21 hmxs
  go_wp2_with fail
  refine (szBkX Abs nbs cbs v1 w2 hmbs (by omega) (by omega)).mono ?_
  rintro e w3 ⟨v2, rfl, hb3, hv02, hv12, hv22⟩
  have B3_W := Lib.hid (B2_W.out.trans (hb3.mono B2_W.out.size))
  have HLAST3 := Lib.hid hb3
  clear hb3
  by_cases hneg2 : v2 < 0
  · go_wp2
    go_ret
    exact ⟨rfl, HBW.out.trans (B3_W.out.mono HBW.out.size)⟩
  have hp2 : 0 ≤ v2 := by omega
  have hsmbs : nbs ≤ 1048576 := by have := hv22 hp2; omega
  have HSZ2 := Lib.hid (hv22 hp2)
  clear hneg2 hv22 hmbs
  have ka0_0 := HK0_0.out _ B3_W.out
  have ka0_1 := HK0_1.out _ B3_W.out
  go_wp2_with fail
  clear ka0_0 ka0_1
  refine (toNet A1 A2 n1 c1 n2 c2 ss fs w3 HN1.out (HR1.out _ B3_W.out) hsm1 HN2.out (HR2.out _ B3_W.out) hsm2).mono ?_
  rintro e w4 ⟨s01, s02, rfl, hos01, hos02, hb4⟩
  have B4_W := Lib.hid (B3_W.out.trans (hb4.mono B3_W.out.size))
  have HLAST4 := Lib.hid hb4
  clear hb4
  have Os01 := Lib.hid hos01
  have Rs01 : Hid (∀ V, Below w4.heap.size w4 V → Rd V V.heap.size (some ⟨s01, 0, none⟩) (ss.map Value.string)) := Lib.hid fun V hV => (Rd.ofOwnK hos01).moved hV
  have Os02 := Lib.hid hos02
  have Rs02 : Hid (∀ V, Below w4.heap.size w4 V → Rd V V.heap.size (some ⟨s02, 0, none⟩) (fs.flatMap Q4.cells)) := Lib.hid fun V hV => (Rd.ofOwnK hos02).moved hV
  clear hos01 hos02
  have Zw4 := Lib.hid (Below.refl w4.heap.size w4)
  go_wp2_with fail
  refine (toRqs Axs nxs cxs xs w4 HNxs.out (HRxs.out _ B4_W.out) (HRIxs.out _ B4_W.out) hsmxs).mono ?_
  rintro e w5 ⟨s1, yss1, rfl, hgs1, hds1, hTs1, hb5⟩
  have B5_W := Lib.hid (B4_W.out.trans (hb5.mono B4_W.out.size))
  have B5_w4 := Lib.hid (Zw4.out.trans (hb5.mono Zw4.out.size))
  have HLAST5 := Lib.hid hb5
  clear hb5
  have Ds1 := Lib.hid hds1
  have Ts1 : Hid (∀ V, Below w5.heap.size w5 V → Rqs w4.heap.size s1 nxs yss1 V) := Lib.hid fun V hV => hTs1.moved hV
  clear hds1 hTs1 hgs1
  have Zw5 := Lib.hid (Below.refl w5.heap.size w5)
  go_wp2_with fail
  refine (toBkX Abs nbs cbs bs w5 HNbs.out (HRbs.out _ B5_W.out) hsmbs).mono ?_
  rintro e w6 ⟨s2, hgs2, rfl, hos2, hb6⟩
  have B6_W := Lib.hid (B5_W.out.trans (hb6.mono B5_W.out.size))
  have B6_w4 := Lib.hid (B5_w4.out.trans (hb6.mono B5_w4.out.size))
  have B6_w5 := Lib.hid (Zw5.out.trans (hb6.mono Zw5.out.size))
  have HLAST6 := Lib.hid hb6
  clear hb6
  have Os2 := Lib.hid hos2
  have Rs2 : Hid (∀ V, Below w6.heap.size w6 V → Rd V V.heap.size (some ⟨s2, 0, none⟩) (bs.flatMap Q2.cells)) := Lib.hid fun V hV => (Rd.ofOwnK hos2).moved hV
  clear hos2
  have Zw6 := Lib.hid (Below.refl w6.heap.size w6)
  go_wp2_with fail
  refine (specOG ⟨HN1.out, hsm1, Nat.le_refl _, Rs01.out _ B6_w4.out, HWS.out, HN2.out, hsm2, Rs02.out _ B6_w4.out⟩ (Ts1.out _ B6_w5.out) Ds1.out hsmxs HNbs.out (Rs2.out _ Zw6.out) hsmbs).mono ?_
  rw [HRV.out]
  rintro e w7 ⟨rfl, hb7⟩
  have B7_W := Lib.hid (B6_W.out.trans (hb7.mono B6_W.out.size))
  have B7_w4 := Lib.hid (B6_w4.out.trans (hb7.mono B6_w4.out.size))
  have B7_w5 := Lib.hid (B6_w5.out.trans (hb7.mono B6_w5.out.size))
  have B7_w6 := Lib.hid (Zw6.out.trans (hb7.mono Zw6.out.size))
  have HLAST7 := Lib.hid hb7
  clear hb7
  have ka0_0 := HK0_0.out _ B7_W.out
  have ka0_1 := HK0_1.out _ B7_W.out
  go_wp2_with fail
  clear ka0_0 ka0_1
  have ZPRE0 := Lib.hid (Nat.le_refl 0)
  refine (toNet A1 A2 n1 c1 n2 c2 ss fs w7 HN1.out (HR1.out _ B7_W.out) hsm1 HN2.out (HR2.out _ B7_W.out) hsm2).mono ?_
  rintro e w8 ⟨x01, x02, rfl, hox01, hox02, hb8⟩
  have B8_W := Lib.hid (B7_W.out.trans (hb8.mono B7_W.out.size))
  have HLAST8 := Lib.hid hb8
  clear hb8
  have Ox01 := Lib.hid hox01
  have Rx01 : Hid (∀ V, Below w8.heap.size w8 V → Rd V V.heap.size (some ⟨x01, 0, none⟩) (ss.map Value.string)) := Lib.hid fun V hV => (Rd.ofOwnK hox01).moved hV
  have Ox02 := Lib.hid hox02
  have Rx02 : Hid (∀ V, Below w8.heap.size w8 V → Rd V V.heap.size (some ⟨x02, 0, none⟩) (fs.flatMap Q4.cells)) := Lib.hid fun V hV => (Rd.ofOwnK hox02).moved hV
  clear hox01 hox02
  have Zw8 := Lib.hid (Below.refl w8.heap.size w8)
  go_wp2_with fail
  obtain ⟨V0, hV0⟩ : ∃ V, (w8.alloc (Obj.cells #[.slice (some ⟨x01, 0, none⟩) n1 n1, .slice (some ⟨x02, 0, none⟩) n2 n2] 34)) = V := ⟨_, rfl⟩
  have hx0_0 : V0.cell? ⟨w8.heap.size, 0, none⟩ = some (.slice (some ⟨x01, 0, none⟩) n1 n1) := by rw [← hV0]; simp [go_sem]
  have hx0_1 : V0.cell? ⟨w8.heap.size, 1, none⟩ = some (.slice (some ⟨x02, 0, none⟩) n2 n2) := by rw [← hV0]; simp [go_sem]
  have hzV0 : w8.heap.size < V0.heap.size := by rw [← hV0]; simp
  have hbV0 : Below w8.heap.size w8 V0 := by rw [← hV0]; exact (Below.refl _ _).alloc (Nat.le_refl _) _
  rw [hV0]
  clear hV0
  have CV0_W := Lib.hid (B8_W.out.trans (hbV0.mono B8_W.out.size))
  have CV0_w8 := Lib.hid (Zw8.out.trans (hbV0.mono Zw8.out.size))
  have HX0_0 : Hid (∀ U, Below V0.heap.size V0 U → U.cell? ⟨w8.heap.size, 0, none⟩ = some (.slice (some ⟨x01, 0, none⟩) n1 n1)) := Lib.hid fun U hU => (hU.cell (p := ⟨_, _, none⟩) hzV0).trans hx0_0
  have HX0_1 : Hid (∀ U, Below V0.heap.size V0 U → U.cell? ⟨w8.heap.size, 1, none⟩ = some (.slice (some ⟨x02, 0, none⟩) n2 n2)) := Lib.hid fun U hU => (hU.cell (p := ⟨_, _, none⟩) hzV0).trans hx0_1
  have HZV0 := Lib.hid hzV0
  clear hzV0 hbV0 hx0_0 hx0_1
  have ZV0 := Lib.hid (Below.refl V0.heap.size V0)
  have ZPRE1 := Lib.hid (Nat.le_refl 0)
  refine (toRqs Axs nxs cxs xs V0 HNxs.out (HRxs.out _ CV0_W.out) (HRIxs.out _ CV0_W.out) hsmxs).mono ?_
  rintro e w9 ⟨x1, ysx1, rfl, hgx1, hdx1, hTx1, hb9⟩
  have B9_W := Lib.hid (CV0_W.out.trans (hb9.mono CV0_W.out.size))
  have B9_w8 := Lib.hid (CV0_w8.out.trans (hb9.mono CV0_w8.out.size))
  have B9_V0 := Lib.hid (ZV0.out.trans (hb9.mono ZV0.out.size))
  have HLAST9 := Lib.hid hb9
  clear hb9
  have Dx1 := Lib.hid hdx1
  have Tx1 : Hid (∀ V, Below w9.heap.size w9 V → Rqs V0.heap.size x1 nxs ysx1 V) := Lib.hid fun V hV => hTx1.moved hV
  clear hdx1 hTx1 hgx1
  have Zw9 := Lib.hid (Below.refl w9.heap.size w9)
  go_wp2_with fail
  have ZPRE2 := Lib.hid (Nat.le_refl 0)
  refine (toBkX Abs nbs cbs bs w9 HNbs.out (HRbs.out _ B9_W.out) hsmbs).mono ?_
  rintro e w10 ⟨x2, hgx2, rfl, hox2, hb10⟩
  have B10_W := Lib.hid (B9_W.out.trans (hb10.mono B9_W.out.size))
  have B10_w8 := Lib.hid (B9_w8.out.trans (hb10.mono B9_w8.out.size))
  have B10_V0 := Lib.hid (B9_V0.out.trans (hb10.mono B9_V0.out.size))
  have B10_w9 := Lib.hid (Zw9.out.trans (hb10.mono Zw9.out.size))
  have HLAST10 := Lib.hid hb10
  clear hb10
  have Ox2 := Lib.hid hox2
  have Rx2 : Hid (∀ V, Below w10.heap.size w10 V → Rd V V.heap.size (some ⟨x2, 0, none⟩) (bs.flatMap Q2.cells)) := Lib.hid fun V hV => (Rd.ofOwnK hox2).moved hV
  clear hox2
  have Zw10 := Lib.hid (Below.refl w10.heap.size w10)
  have kz0_0 := HX0_0.out _ B10_V0.out
  have kz0_1 := HX0_1.out _ B10_V0.out
  have hgz0 : w8.heap.size < w10.heap.size := Nat.lt_of_lt_of_le HZV0.out B10_V0.out.size
  go_wp2_with fail
  clear kz0_0 kz0_1 hgz0
  refine (implOG ⟨HN1.out, hsm1, Nat.le_refl _, Rx01.out _ B10_w8.out, HWS.out, HN2.out, hsm2, Rx02.out _ B10_w8.out⟩ (Tx1.out _ B10_w9.out) Dx1.out hsmxs HNbs.out (Rx2.out _ Zw10.out) hsmbs (HTAB.out _ B10_W.out)).mono ?_
  rw [HRV.out]
  rintro e w11 ⟨rfl, hb11⟩
  have B11_W := Lib.hid (B10_W.out.trans (hb11.mono B10_W.out.size))
  have B11_w8 := Lib.hid (B10_w8.out.trans (hb11.mono B10_w8.out.size))
  have B11_V0 := Lib.hid (B10_V0.out.trans (hb11.mono B10_V0.out.size))
  have B11_w9 := Lib.hid (B10_w9.out.trans (hb11.mono B10_w9.out.size))
  have B11_w10 := Lib.hid (Zw10.out.trans (hb11.mono Zw10.out.size))
  have HLAST11 := Lib.hid hb11
  clear hb11
  have ka0_0 := HK0_0.out _ B11_W.out
  have ka0_1 := HK0_1.out _ B11_W.out
  have kx0_0 := HX0_0.out _ B11_V0.out
  have kx0_1 := HX0_1.out _ B11_V0.out
  have hgx : w8.heap.size < w11.heap.size := Nat.lt_of_lt_of_le HZV0.out B11_V0.out.size
  have hgw : w.heap.size < w11.heap.size := Nat.lt_of_lt_of_le (by have := HZ.out; omega) B11_W.out.size
  have hbd : Bel w11 w11.drew := Bel.of (Below.refl _ _).drew
  go_upto_region 18 with fail
  go_cut [65] (fun s65 wx => s65 = .bool false ∧ Bel w11 wx)
  case first =>
    go_region_held3 (fun U => U.cell? ⟨w8.heap.size, 0, none⟩ = some (.slice (some ⟨x01, 0, none⟩) n1 n1) ∧ U.cell? ⟨w8.heap.size, 1, none⟩ = some (.slice (some ⟨x02, 0, none⟩) n2 n2) ∧ U.cell? ⟨w.heap.size, 0, none⟩ = some (.slice A1 n1 c1) ∧ U.cell? ⟨w.heap.size, 1, none⟩ = some (.slice A2 n2 c2) ∧ Bel w11 U)
      (first | go_keep | (go_split_ands; (refine ⟨?_, ?_, ?_, ?_, ?_⟩ <;> first | assumption | exact Bel.step (by assumption) hbt12 | exact Bel.step (by assumption) hbt13 | exact (Bel.at_ (by assumption) hbt12 (by assumption)).trans (by assumption) | exact (Bel.at_ (by assumption) hbt13 (by assumption)).trans (by assumption))))
      (first
        | (go_at_call 20
           go_split_ands
           refine (toNet A1 A2 n1 c1 n2 c2 ss fs _ HN1.out (HR1.out _ (Below.trans B11_W.out ((Bel.out (by assumption)).mono B11_W.out.size))) hsm1 HN2.out (HR2.out _ (Below.trans B11_W.out ((Bel.out (by assumption)).mono B11_W.out.size))) hsm2).mono ?_
           rintro e t12 ⟨y131, y132, rfl, hoy131, hoy132, hbt12⟩
           have Sy131 := Lib.hid (Rd.ofOwnK hoy131)
           have Sy132 := Lib.hid (Rd.ofOwnK hoy132)
           clear hoy131 hoy132)
        | (go_at_call 24
           go_split_ands
           refine (eqNet x01 x02 y131 y132 n1 n2 n1 n2 n1 n2 ss fs t12 HN1.out hsm1 HN2.out hsm2 (Rx01.out _ (Below.trans B11_w8.out ((Bel.out (by assumption)).mono B11_w8.out.size))) (Sy131.out) (Rx02.out _ (Below.trans B11_w8.out ((Bel.out (by assumption)).mono B11_w8.out.size))) (Sy132.out)).mono ?_
           rintro e t13 ⟨rfl, hbt13⟩))
    all_goals
      go_split_ands
      have hbl : Bel w11 t13 := by assumption
      go_wp2_with fail
      go_meet
      exact ⟨rfl, hbl⟩
  case rest =>
  clear hbd hgx hgw ka0_0 ka0_1 kx0_0 kx0_1
  revert hcut; generalize wc = wc1; intro hcut
  obtain ⟨hs_, hbl⟩ := hcut
  subst hs_
  have Ewc1_W := Lib.hid (B11_W.out.trans ((Bel.out hbl).mono B11_W.out.size))
  have Ewc1_w8 := Lib.hid (B11_w8.out.trans ((Bel.out hbl).mono B11_w8.out.size))
  have Ewc1_V0 := Lib.hid (B11_V0.out.trans ((Bel.out hbl).mono B11_V0.out.size))
  have Ewc1_w9 := Lib.hid (B11_w9.out.trans ((Bel.out hbl).mono B11_w9.out.size))
  have Ewc1_w10 := Lib.hid (B11_w10.out.trans ((Bel.out hbl).mono B11_w10.out.size))
  clear hbl
  go_wp2_with fail
  refine (toRqs Axs nxs cxs xs wc1 HNxs.out (HRxs.out _ Ewc1_W.out) (HRIxs.out _ Ewc1_W.out) hsmxs).mono ?_
  rintro e w15 ⟨y14, ysy14, rfl, hgy14, hdy14, hTy14, hb15⟩
  have B15_W := Lib.hid (Ewc1_W.out.trans (hb15.mono Ewc1_W.out.size))
  have B15_w8 := Lib.hid (Ewc1_w8.out.trans (hb15.mono Ewc1_w8.out.size))
  have B15_V0 := Lib.hid (Ewc1_V0.out.trans (hb15.mono Ewc1_V0.out.size))
  have B15_w9 := Lib.hid (Ewc1_w9.out.trans (hb15.mono Ewc1_w9.out.size))
  have B15_w10 := Lib.hid (Ewc1_w10.out.trans (hb15.mono Ewc1_w10.out.size))
  have HLAST15 := Lib.hid hb15
  clear hb15
  have Dy14 := Lib.hid hdy14; have STy14 := Lib.hid hTy14; clear hdy14 hTy14
  clear  hgy14
  go_wp2_with fail
  refine (eqRqs x1 y14 nxs _ _ ysx1 ysy14 w15 (Tx1.out _ B15_w9.out) (STy14.out) (Dx1.out.trans Dy14.out.symm) hsmxs).mono ?_
  rintro e w16 ⟨rfl, hb16⟩
  have B16_W := Lib.hid (B15_W.out.trans (hb16.mono B15_W.out.size))
  have B16_w8 := Lib.hid (B15_w8.out.trans (hb16.mono B15_w8.out.size))
  have B16_V0 := Lib.hid (B15_V0.out.trans (hb16.mono B15_V0.out.size))
  have B16_w9 := Lib.hid (B15_w9.out.trans (hb16.mono B15_w9.out.size))
  have B16_w10 := Lib.hid (B15_w10.out.trans (hb16.mono B15_w10.out.size))
  have HLAST16 := Lib.hid hb16
  clear hb16
  go_wp2_with fail
  refine (toBkX Abs nbs cbs bs w16 HNbs.out (HRbs.out _ B16_W.out) hsmbs).mono ?_
  rintro e w18 ⟨y17, hgy17, rfl, hoy17, hb18⟩
  have B18_W := Lib.hid (B16_W.out.trans (hb18.mono B16_W.out.size))
  have B18_w8 := Lib.hid (B16_w8.out.trans (hb18.mono B16_w8.out.size))
  have B18_V0 := Lib.hid (B16_V0.out.trans (hb18.mono B16_V0.out.size))
  have B18_w9 := Lib.hid (B16_w9.out.trans (hb18.mono B16_w9.out.size))
  have B18_w10 := Lib.hid (B16_w10.out.trans (hb18.mono B16_w10.out.size))
  have HLAST18 := Lib.hid hb18
  clear hb18
  have Sy17 := Lib.hid (Rd.ofOwnK hoy17)
  clear hoy17 hgy17
  go_wp2_with fail
  refine (eqBkS x2 y17 nbs nbs nbs bs w18 HNbs.out (Rx2.out _ B18_w10.out) (Sy17.out) hsmbs).mono ?_
  rintro e w19 ⟨rfl, hb19⟩
  have B19_W := Lib.hid (B18_W.out.trans (hb19.mono B18_W.out.size))
  have B19_w8 := Lib.hid (B18_w8.out.trans (hb19.mono B18_w8.out.size))
  have B19_V0 := Lib.hid (B18_V0.out.trans (hb19.mono B18_V0.out.size))
  have B19_w9 := Lib.hid (B18_w9.out.trans (hb19.mono B18_w9.out.size))
  have B19_w10 := Lib.hid (B18_w10.out.trans (hb19.mono B18_w10.out.size))
  have HLAST19 := Lib.hid hb19
  clear hb19
  go_wp2
  go_ret
  exact ⟨rfl, HBW.out.trans (B19_W.out.mono HBW.out.size)⟩


theorem own : ownKnob Tryd.prog.godebug = none := by kernel_rfl
theorem laidOut : laidOutB Tryd.prog = true := by kernel_rfl

theorem tTab : (Tryd.prog.globals[1]?).map (·.type) = some 230 := by kernel_rfl
theorem cTab : Tryd.prog.cellsOf 230 = 64 := by kernel_rfl
theorem cU8 : Tryd.prog.cellsOf 5 = 1 := by kernel_rfl
theorem pow_of_laid {W : World} (h : laidMetH Tryd.prog Rows.fnExactOptimalityGapRow.laid W) : Tab W := by
  have h3 : laidMetH Tryd.prog (Rows.fnExactOptimalityGapRow.laid.filter fun x => x.1 == "math/bits.deBruijn64tab") W := h.filter _
  have e : (Rows.fnExactOptimalityGapRow.laid.filter fun x => x.1 == "math/bits.deBruijn64tab") = [("math/bits.deBruijn64tab", Lib.tabData .u8 tzTab)] := by kernel_rfl
  rw [e, MakeChecks.laidMetH_plain _ _ _ (by kernel_rfl)] at h3
  exact Lib.tabIs_of_head tabAt tTab Tryd.underlying230 Tryd.underlying5 cU8 cTab h3

theorem door_met (os : Os) (args : Array Value) : laidMetH Tryd.prog Rows.fnExactOptimalityGapRow.laid ((World.doorLaid Tryd.prog 19 os).forCall (fun _ _ => 0) ⟨#[], args, []⟩).memory :=
  laidMetH_of_parts3 (fuel := 8) (laidMet_of_run' 8 (by kernel_rfl) (by kernel_rfl)) (by kernel_rfl) (by kernel_rfl)

set_option maxRecDepth 100000 in
theorem lifted (os : Os) (started : os.Started) (H : Type) (enc : TypeId × Value → H) :
    ReturnsInHanded {} Tryd.checked os 4 .any (fun w args => (Rows.fnExactOptimalityGapSpec.pre enc Tryd.prog Tryd.f4 [] false w args ∧ laidMetH Tryd.prog Rows.fnExactOptimalityGapRow.laid w) ∧ sizedMet enc Tryd.prog Tryd.f4 (OpenSpec.ofChange Rows.fnExactOptimalityGapSpec) false w args)
      (Rows.fnExactOptimalityGapSpec.post enc Tryd.prog Tryd.f4 false true false false) := by
  refine returnsInHanded_of_change_and (C := Tryd.checked) (X := fun w _ => laidMetH Tryd.prog Rows.fnExactOptimalityGapRow.laid w) (fun _ _ _ hh h => h.of_heap hh) own started (by kernel_rfl) Tryd.func4
    (ChangeSpec.witness_shaped (enc := enc) (C := Tryd.checked) (os := os) (X := fun w _ => laidMetH Tryd.prog Rows.fnExactOptimalityGapRow.laid w) false (World.doorLaid Tryd.prog 19 os) #[.agg #[.slice none 0 0, .slice none 0 0], .slice none 0 0, .slice none 0 0] 8 rfl (World.shaped_of_RefB (by kernel_rfl) (by kernel_rfl)) (by kernel_rfl) (by kernel_rfl) (by kernel_rfl) (door_met os _)) ?_
  intro W base args ds gs before hval0 hW _ hsz0 hL _
  have hval : ∀ (j : Nat) t v, Tryd.f4.params[j]? = some t → args[j]? = some v → Value.okWide Tryd.prog W .any base t v := hval0
  have hsz : (DataW.weightsEach Tryd.prog (Tryd.f4.params.toList ++ Rows.fnExactOptimalityGapSpec.plain.varTypes Tryd.prog) (ds ++ gs)).all (· ≤ reachBytes) = true := hsz0
  have hpow := pow_of_laid hL
  have hW' := hW
  obtain ⟨p, q, hA0, hV, rfl, hfz, hnd⟩ := hW
  have hA : DataW.TrodAll enc Tryd.prog W 0 (fun _ => true) true Tryd.f4.params.toList args.toList ds p := hA0
  rw [Tryd.params4] at hA hval hsz
  obtain ⟨v0, vs0, d0, ds0, p0, q0, hargs, rfl, rfl, h0, r0⟩ := trodAll_cons hA
  obtain ⟨v1, vs1, d1, ds1, p1, q1, rfl, rfl, rfl, h1, r1⟩ := trodAll_cons r0
  obtain ⟨v2, vs2, d2, ds2, p2, q2, rfl, rfl, rfl, h2, r2⟩ := trodAll_cons r1
  obtain ⟨rfl, rfl, rfl⟩ := trodAll_nil r2
  obtain rfl : args = #[v0, v1, v2] := by cases args; simp_all
  obtain ⟨rfl, rfl⟩ := trodVars_none hV
  simp only [List.append_nil] at hW'
  have hlt0 : ∀ x ∈ p0, x.block < W.heap.size := fun x hx => by simpa using hW'.lt x (by simp [hx])
  have hlt1 : ∀ x ∈ p1, x.block < W.heap.size := fun x hx => by simpa using hW'.lt x (by simp [hx])
  have hlt2 : ∀ x ∈ p2, x.block < W.heap.size := fun x hx => by simpa using hW'.lt x (by simp [hx])
  have fin : ∀ W' : World, Below W.heap.size W W' → Rows.fnExactOptimalityGapSpec.post enc Tryd.checked.prog Tryd.f4 false true false false W #[v0, v1, v2] (.bool true) W' := by
    intro W' hb
    refine ⟨_, _, _, [] ++ [], (p0 ++ (p1 ++ (p2 ++ []))), [], hW', ?_, ?_, rfl, hb.frame _, fun h => by cases h⟩
    · exact trodAll_mk1 (shut_bool Tryd.underlying4 true)
    · exact trodAll_cons_mk (Below.trod laidOut (by kernel_rfl) (of_decide_eq_true (by kernel_rfl)) h0 hb hlt0) (trodAll_cons_mk (Below.trod laidOut (by kernel_rfl) (of_decide_eq_true (by kernel_rfl)) h1 hb hlt1) (trodAll_cons_mk (Below.trod laidOut (by kernel_rfl) (of_decide_eq_true (by kernel_rfl)) h2 hb hlt2) (trodAll_mk0)))
  clear hW' hV hA0
  obtain ⟨A0, n0, c0, s0, B0, m0, k0, z0, rfl, ⟨ha0, hb0, hc0, hd0⟩, ⟨he0, hf0, hg0, hh0⟩⟩ := open_net Tryd.underlying25 (by kernel_rfl) (by kernel_rfl) Tryd.underlying22 Tryd.underlying9 (by kernel_rfl) Tryd.underlying23 Tryd.underlying178 (by kernel_rfl) (by kernel_rfl) rfl (hint_of Tryd.underlying3 (by decide +kernel)) (hval 0 25 v0 rfl rfl) h0
  obtain ⟨b1, len1, cap1, rfl⟩ := okWide_slice Tryd.underlying26 (hval 1 26 v1 rfl rfl)
  obtain ⟨fuel1, hf1⟩ := h1
  obtain ⟨A1, n1, c1, z1, e1, ha1, hb1, hc1, hd1⟩ := rd_rqs hf1
  simp only [Value.cells, List.cons.injEq, Value.slice.injEq, and_true] at e1
  obtain ⟨rfl, rfl, rfl⟩ := e1
  obtain ⟨b2, len2, cap2, rfl⟩ := okWide_slice Tryd.underlying45 (hval 2 45 v2 rfl rfl)
  obtain ⟨fuel2, hf2⟩ := h2
  obtain ⟨A2, n2, c2, z2, e2, ha2, hb2, hc2, hd2⟩ := rd_q2s Tryd.underlying45 Tryd.underlying127 (by kernel_rfl) (by kernel_rfl) rfl (hint_of Tryd.underlying3 (by decide +kernel)) hf2
  simp only [Value.cells, List.cons.injEq, Value.slice.injEq, and_true] at e2
  obtain ⟨rfl, rfl, rfl⟩ := e2
  exact (walk A0 n0 c0 s0 B0 m0 k0 z0 b1 len1 cap1 z1 b2 len2 cap2 z2 W ha0 hb0 hc0 hd0 he0 hf0 hg0 hh0 ha1 hb1 hc1 hd1 ha2 hb2 hc2 hd2 hpow).mono fun e W' ⟨he, hb⟩ => ⟨_, he, fin W' hb⟩

theorem closed : joinedFacts Tryd.prog 4 Tryd.f4 Rows.fnExactOptimalityGapSpec Rows.fnExactOptimalityGapRow = true := by
  unfold joinedFacts
  rw [jn_mk, jn_li, jn_en]
  kernel_rfl
theorem over : Rows.fnExactOptimalityGapRow.holds Tryd.pinned (OpenSpec.ofChange Rows.fnExactOptimalityGapSpec) :=
  OpenClaim.holds_of_wide 4 Tryd.f4 rfl rfl rfl rfl rfl rfl rfl ⟨rfl, rfl, rfl, rfl, rfl⟩ rfl rfl rfl rfl rfl (by kernel_rfl) Tryd.func4 closed
    (of_decide_eq_true (by kernel_rfl)) (by unfold Func.isWrapper; first | (rw [if_pos (by decide +kernel)]; kernel_rfl) | (rw [if_neg (by decide +kernel)]; exact ⟨rfl, rfl⟩))
    (fun os started H enc _ => lifted os started H enc)

/-- THE STATEMENT -/
theorem proved : Rows.FnExactOptimalityGapCardSaid :=
  Claim7.holds_tied_plain_at .later [] [.data, .data] true (true, "61d0f1cdfe28942df9ffd20e4d988caf558a7c422a12daeac7c36534f8970d12") false
    over (fun _ h => by cases h) (by kernel_rfl) (fun _ h => by cases h) fnExactOptimalityGap_row_tie rfl ⟨rfl, rfl⟩ jn_main rfl
    (fun f fn hf hfn => by
      obtain rfl : f = 4 := Option.some.inj ((show Tryd.prog.funcNamed "loop.example/g00897/laws.FnExactOptimalityGap" = some 4 by kernel_rfl).symm.trans hf) |>.symm
      obtain rfl : fn = Tryd.f4 := (Option.some.inj (Tryd.func4.symm.trans hfn)).symm
      exact ⟨by kernel_rfl, fun j t ht => by
        rw [Tryd.params4] at ht
        have hm : t ∈ [25, 26, 45] := by simpa using Array.mem_of_getElem? ht
        have hall : ([25, 26, 45].all fun u => !Tryd.prog.wantsStandIn u) = true := by kernel_rfl
        exact (show Tryd.prog.wantsStandIn t = false by simpa using List.all_eq_true.1 hall t hm)⟩)
    (by kernel_rfl)
end Go.Proofs.YtbnfogedmjjiaaaDoor.fnExactOptimalityGap
