/- Proved: at every argument impl.PairAvailability answers as spec.PairAvailability does and leaves its arguments alone (the law FnExactPairAvailability returns true). The table of math/bits as Go's text lays it. -/
import Derived.Test.YtbnfogedmjjiaaaDoorRows
import Derived.Test.YtbnfogedmjjiaaaDoorCards
import Derived.Test.YtbnfogedmjjiaaaDoorTie
import Derived.Test.YtbnfogedmjjiaaaDoorJn
import Derived.JoinedOf
import Derived.Test.YtbnfogedmjjiaaaDoorOgS
import Derived.Test.YtbnfogedmjjiaaaDoorGC
import Derived.Test.YtbnfogedmjjiaaaDoorGB
import Derived.Test.YtbnfogedmjjiaaaDoorAvR
import Derived.WalkKit
import Derived.ProofKit
import Derived.OpenShut
import Derived.ShutString
import Derived.SizedLaws
import Derived.Carry
import Derived.LaidMore
import Derived.LaidHandle
import Derived.MakeChecks
import Derived.Stop.Joined
import Derived.SevenTiedAt
import Derived.SliceStrings
import Derived.DataBytes
import Derived.OpenVars
import Derived.ChangeVars
namespace Go.Proofs.YtbnfogedmjjiaaaDoor.fnExactPairAvailability
open Go.ChangeShapes Go.WideShapes Go.ChangeAt Go.RowKit
open Go.ChangeMaps (open_string shut_string)

set_option maxRecDepth 100000 in
set_option maxHeartbeats 8000000 in
theorem walk (A1 : Option Addr) (n1 c1 : Nat) (ss : List ByteArray) (A2 : Option Addr) (n2 c2 : Nat) (fs : List Q4) (st1 : Int) (Ads : Option Addr) (nds cds : Nat) (ds : List Int) (st2 : Int) (Axs : Option Addr) (nxs cxs : Nat) (xs : List Int) (st3 : Int) (Ays : Option Addr) (nys cys : Nat) (ys : List Int) (w : World) (hn1 : ss.length = n1) (hm1 : n1 ≤ maxLen) (hr1 : Rd w w.heap.size A1 (ss.map Value.string)) (hws : ∀ s ∈ ss, s.size ≤ maxLen) (hn2 : fs.length = n2) (hm2 : n2 ≤ maxLen) (hr2 : Rd w w.heap.size A2 (fs.flatMap Q4.cells)) (_hwf : ∀ q ∈ fs, q.wf) (_wst1 : (Lit.int .i64 st1).wf = true) (hnds : ds.length = nds) (hmds : nds ≤ maxLen) (hrds : Rd w w.heap.size Ads (ds.map (Value.int .i64))) (_hwfds : ∀ z ∈ ds, (Lit.int .i64 z).wf = true) (_wst2 : (Lit.int .i64 st2).wf = true) (hnxs : xs.length = nxs) (hmxs : nxs ≤ maxLen) (hrxs : Rd w w.heap.size Axs (xs.map (Value.int .i64))) (_hwfxs : ∀ z ∈ xs, (Lit.int .i64 z).wf = true) (_wst3 : (Lit.int .i64 st3).wf = true) (hnys : ys.length = nys) (hmys : nys ≤ maxLen) (hrys : Rd w w.heap.size Ays (ys.map (Value.int .i64))) (_hwfys : ∀ z ∈ ys, (Lit.int .i64 z).wf = true) (hpow : Tab w) :
    Calls Tryd.prog 6 #[.agg #[.slice A1 n1 c1, .slice A2 n2 c2], .agg #[.int .i64 st1, .slice Ads nds cds], .agg #[.int .i64 st2, .slice Axs nxs cxs], .agg #[.int .i64 st3, .slice Ays nys cys]] w fun e w' => e = .returned (.bool true) ∧ Below w.heap.size w w' := by
  have HN1 := Lib.hid hn1; have HN2 := Lib.hid hn2; have HWS := Lib.hid hws; clear hn1 hn2 hws _hwf
  have HNds := Lib.hid hnds; clear hnds _hwfds _wst1
  have HNxs := Lib.hid hnxs; clear hnxs _hwfxs _wst2
  have HNys := Lib.hid hnys; clear hnys _hwfys _wst3
  obtain ⟨r1, hr1e⟩ : ∃ r, paV ss fs st1 ds st2 xs st3 ys = r := ⟨_, rfl⟩
  obtain ⟨r2, hr2e⟩ : ∃ r, paB ss fs st1 ds st2 xs st3 ys = r := ⟨_, rfl⟩
  have HRV : Hid (paR ss fs st1 ds st2 xs st3 ys = .tuple #[.int .i64 r1, .bool r2]) := Lib.hid (by unfold paR; rw [hr1e, hr2e])
  clear hr1e hr2e
  go_enter Tryd.func6, Tryd.ntmps6
  go_wp2_with fail
  obtain ⟨W, hW⟩ : ∃ W, ((((w.alloc (Obj.cells #[.slice A1 n1 c1, .slice A2 n2 c2] 25)).alloc (Obj.cells #[.int .i64 st1, .slice Ads nds cds] 54)).alloc (Obj.cells #[.int .i64 st2, .slice Axs nxs cxs] 56)).alloc (Obj.cells #[.int .i64 st3, .slice Ays nys cys] 56)) = W := ⟨_, rfl⟩
  have hk0_0 : W.cell? ⟨w.heap.size, 0, none⟩ = some (.slice A1 n1 c1) := by rw [← hW]; simp [go_sem]
  have hk0_1 : W.cell? ⟨w.heap.size, 1, none⟩ = some (.slice A2 n2 c2) := by rw [← hW]; simp [go_sem]
  have hk1_0 : W.cell? ⟨w.heap.size + 1, 0, none⟩ = some (.int .i64 st1) := by rw [← hW]; simp [go_sem]
  have hk1_1 : W.cell? ⟨w.heap.size + 1, 1, none⟩ = some (.slice Ads nds cds) := by rw [← hW]; simp [go_sem]
  have hk2_0 : W.cell? ⟨w.heap.size + 1 + 1, 0, none⟩ = some (.int .i64 st2) := by rw [← hW]; simp [go_sem]
  have hk2_1 : W.cell? ⟨w.heap.size + 1 + 1, 1, none⟩ = some (.slice Axs nxs cxs) := by rw [← hW]; simp [go_sem]
  have hk3_0 : W.cell? ⟨w.heap.size + 1 + 1 + 1, 0, none⟩ = some (.int .i64 st3) := by rw [← hW]; simp [go_sem]
  have hk3_1 : W.cell? ⟨w.heap.size + 1 + 1 + 1, 1, none⟩ = some (.slice Ays nys cys) := by rw [← hW]; simp [go_sem]
  have hz : w.heap.size + 1 + 1 + 1 < W.heap.size := by rw [← hW]; simp
  have hbw : Below w.heap.size w W := by rw [← hW]; exact (((((Below.refl w.heap.size w).alloc (Nat.le_refl _) _).alloc (by simp) _).alloc (by simp; omega) _).alloc (by simp; omega) _)
  have HBW := Lib.hid hbw
  have HTAB : Hid (∀ V, Below W.heap.size W V → Tab V) := Lib.hid fun V hV => (hpow.over hbw).over hV
  clear hpow
  rw [hW]
  clear hW
  have HR1 : Hid (∀ V, Below W.heap.size W V → Rd V V.heap.size A1 (ss.map Value.string)) := Lib.hid fun V hV => (hr1.moved hbw).moved hV
  clear hr1
  have HR2 : Hid (∀ V, Below W.heap.size W V → Rd V V.heap.size A2 (fs.flatMap Q4.cells)) := Lib.hid fun V hV => (hr2.moved hbw).moved hV
  clear hr2
  have HK0_0 : Hid (∀ V, Below W.heap.size W V → V.cell? ⟨w.heap.size, 0, none⟩ = some (.slice A1 n1 c1)) := Lib.hid fun V hV => (hV.cell (p := ⟨_, _, none⟩) (by show w.heap.size < _; omega)).trans hk0_0
  have HK0_1 : Hid (∀ V, Below W.heap.size W V → V.cell? ⟨w.heap.size, 1, none⟩ = some (.slice A2 n2 c2)) := Lib.hid fun V hV => (hV.cell (p := ⟨_, _, none⟩) (by show w.heap.size < _; omega)).trans hk0_1
  have HRds : Hid (∀ V, Below W.heap.size W V → Rd V V.heap.size Ads (ds.map (Value.int .i64))) := Lib.hid fun V hV => (hrds.moved hbw).moved hV
  clear hrds
  have HK1_0 : Hid (∀ V, Below W.heap.size W V → V.cell? ⟨w.heap.size + 1, 0, none⟩ = some (.int .i64 st1)) := Lib.hid fun V hV => (hV.cell (p := ⟨_, _, none⟩) (by show w.heap.size + 1 < _; omega)).trans hk1_0
  have HK1_1 : Hid (∀ V, Below W.heap.size W V → V.cell? ⟨w.heap.size + 1, 1, none⟩ = some (.slice Ads nds cds)) := Lib.hid fun V hV => (hV.cell (p := ⟨_, _, none⟩) (by show w.heap.size + 1 < _; omega)).trans hk1_1
  have HRxs : Hid (∀ V, Below W.heap.size W V → Rd V V.heap.size Axs (xs.map (Value.int .i64))) := Lib.hid fun V hV => (hrxs.moved hbw).moved hV
  clear hrxs
  have HK2_0 : Hid (∀ V, Below W.heap.size W V → V.cell? ⟨w.heap.size + 1 + 1, 0, none⟩ = some (.int .i64 st2)) := Lib.hid fun V hV => (hV.cell (p := ⟨_, _, none⟩) (by show w.heap.size + 1 + 1 < _; omega)).trans hk2_0
  have HK2_1 : Hid (∀ V, Below W.heap.size W V → V.cell? ⟨w.heap.size + 1 + 1, 1, none⟩ = some (.slice Axs nxs cxs)) := Lib.hid fun V hV => (hV.cell (p := ⟨_, _, none⟩) (by show w.heap.size + 1 + 1 < _; omega)).trans hk2_1
  have HRys : Hid (∀ V, Below W.heap.size W V → Rd V V.heap.size Ays (ys.map (Value.int .i64))) := Lib.hid fun V hV => (hrys.moved hbw).moved hV
  clear hrys
  have HK3_0 : Hid (∀ V, Below W.heap.size W V → V.cell? ⟨w.heap.size + 1 + 1 + 1, 0, none⟩ = some (.int .i64 st3)) := Lib.hid fun V hV => (hV.cell (p := ⟨_, _, none⟩) (by show w.heap.size + 1 + 1 + 1 < _; omega)).trans hk3_0
  have HK3_1 : Hid (∀ V, Below W.heap.size W V → V.cell? ⟨w.heap.size + 1 + 1 + 1, 1, none⟩ = some (.slice Ays nys cys)) := Lib.hid fun V hV => (hV.cell (p := ⟨_, _, none⟩) (by show w.heap.size + 1 + 1 + 1 < _; omega)).trans hk3_1
  clear hk0_0 hk0_1
  clear hk1_0 hk1_1
  clear hk2_0 hk2_1
  clear hk3_0 hk3_1
  have HZ := Lib.hid hz
  clear hz hbw
  have B0 := Lib.hid (Below.refl W.heap.size W)
  refine (szNet A1 A2 n1 c1 n2 c2 1048576 ss fs W HN1.out hm1 (HR1.out _ B0.out) HWS.out hm2 (by omega) (by omega)).mono ?_
  rintro e w1 ⟨v0, rfl, hb1, hv00, hv10, hv20⟩
  have B1_W := Lib.hid (B0.out.trans (hb1.mono B0.out.size))
  have HLAST1 := Lib.hid hb1
  clear hb1
  by_cases hneg0 : v0 < 0
  · go_wp2
    go_ret
    exact ⟨rfl, HBW.out.trans (B1_W.out.mono HBW.out.size)⟩
  have hp0 : 0 ≤ v0 := by omega
  have hsm1 : n1 ≤ 1048576 := by have := hv20 hp0; omega
  have hsm2 : n2 ≤ 1048576 := by have := hv20 hp0; omega
  have HSZ0 := Lib.hid (hv20 hp0)
  clear hneg0 hv20 hm1 hm2
  have ka1_0 := HK1_0.out _ B1_W.out
  have ka1_1 := HK1_1.out _ B1_W.out
  go_wp2_with fail
  clear ka1_0 ka1_1
  refine (szOg _ Ads nds cds v0 w1 hmds (by omega) (by omega)).mono ?_
  rintro e w2 ⟨v1, rfl, hb2, hv01, hv11, hv21⟩
  have B2_W := Lib.hid (B1_W.out.trans (hb2.mono B1_W.out.size))
  have HLAST2 := Lib.hid hb2
  clear hb2
  by_cases hneg1 : v1 < 0
  · go_wp2
    go_ret
    exact ⟨rfl, HBW.out.trans (B2_W.out.mono HBW.out.size)⟩
  have hp1 : 0 ≤ v1 := by omega
  have hsmds : nds ≤ 1048576 := by have := hv21 hp1; omega
  have HSZ1 := Lib.hid (hv21 hp1)
  clear hneg1 hv21 hmds
  have ka2_0 := HK2_0.out _ B2_W.out
  have ka2_1 := HK2_1.out _ B2_W.out
  go_wp2_with fail
  clear ka2_0 ka2_1
  refine (szRt _ Axs nxs cxs v1 w2 hmxs (by omega) (by omega)).mono ?_
  rintro e w3 ⟨v2, rfl, hb3, hv02, hv12, hv22⟩
  have B3_W := Lib.hid (B2_W.out.trans (hb3.mono B2_W.out.size))
  have HLAST3 := Lib.hid hb3
  clear hb3
  by_cases hneg2 : v2 < 0
  · go_wp2
    go_ret
    exact ⟨rfl, HBW.out.trans (B3_W.out.mono HBW.out.size)⟩
  have hp2 : 0 ≤ v2 := by omega
  have hsmxs : nxs ≤ 1048576 := by have := hv22 hp2; omega
  have HSZ2 := Lib.hid (hv22 hp2)
  clear hneg2 hv22 hmxs
  have ka3_0 := HK3_0.out _ B3_W.out
  have ka3_1 := HK3_1.out _ B3_W.out
  go_wp2_with fail
  clear ka3_0 ka3_1
  refine (szRt _ Ays nys cys v2 w3 hmys (by omega) (by omega)).mono ?_
  rintro e w4 ⟨v3, rfl, hb4, hv03, hv13, hv23⟩
  have B4_W := Lib.hid (B3_W.out.trans (hb4.mono B3_W.out.size))
  have HLAST4 := Lib.hid hb4
  clear hb4
  by_cases hneg3 : v3 < 0
  · go_wp2
    go_ret
    exact ⟨rfl, HBW.out.trans (B4_W.out.mono HBW.out.size)⟩
  have hp3 : 0 ≤ v3 := by omega
  have hsmys : nys ≤ 1048576 := by have := hv23 hp3; omega
  have HSZ3 := Lib.hid (hv23 hp3)
  clear hneg3 hv23 hmys
  have ka0_0 := HK0_0.out _ B4_W.out
  have ka0_1 := HK0_1.out _ B4_W.out
  have ka1_0 := HK1_0.out _ B4_W.out
  have ka1_1 := HK1_1.out _ B4_W.out
  have ka2_0 := HK2_0.out _ B4_W.out
  have ka2_1 := HK2_1.out _ B4_W.out
  have ka3_0 := HK3_0.out _ B4_W.out
  have ka3_1 := HK3_1.out _ B4_W.out
  have hbd : Bel w4 w4.drew := Bel.of (Below.refl _ _).drew
  have hgw0 : w.heap.size < w4.heap.size := Nat.lt_of_lt_of_le (by have := HZ.out; omega) B4_W.out.size
  have hgw1 : w.heap.size + 1 < w4.heap.size := Nat.lt_of_lt_of_le (by have := HZ.out; omega) B4_W.out.size
  have hgw2 : w.heap.size + 1 + 1 < w4.heap.size := Nat.lt_of_lt_of_le (by have := HZ.out; omega) B4_W.out.size
  have hgw3 : w.heap.size + 1 + 1 + 1 < w4.heap.size := Nat.lt_of_lt_of_le (by have := HZ.out; omega) B4_W.out.size
  go_upto_region 14 with fail
  go_cut [10, 11] (fun s10 s11 wx => s10 = .int .i64 r1 ∧ s11 = .bool r2 ∧ Bel w4 wx)
  case first =>
    go_region_held3 (fun U => U.cell? ⟨w.heap.size, 0, none⟩ = some (.slice A1 n1 c1) ∧ U.cell? ⟨w.heap.size, 1, none⟩ = some (.slice A2 n2 c2) ∧ U.cell? ⟨w.heap.size + 1, 0, none⟩ = some (.int .i64 st1) ∧ U.cell? ⟨w.heap.size + 1, 1, none⟩ = some (.slice Ads nds cds) ∧ U.cell? ⟨w.heap.size + 1 + 1, 0, none⟩ = some (.int .i64 st2) ∧ U.cell? ⟨w.heap.size + 1 + 1, 1, none⟩ = some (.slice Axs nxs cxs) ∧ U.cell? ⟨w.heap.size + 1 + 1 + 1, 0, none⟩ = some (.int .i64 st3) ∧ U.cell? ⟨w.heap.size + 1 + 1 + 1, 1, none⟩ = some (.slice Ays nys cys) ∧ Bel w4 U)
      (first | go_keep | (go_split_ands; (refine ⟨?_, ?_, ?_, ?_, ?_, ?_, ?_, ?_, ?_⟩ <;> first | assumption | exact Bel.step (by assumption) hbc1a | exact (Bel.at_ (by assumption) hbc1a (by assumption)).trans (by assumption) | exact Bel.step (by assumption) hbc1b | exact (Bel.at_ (by assumption) hbc1b (by assumption)).trans (by assumption) | exact Bel.step (by assumption) hbc1c | exact (Bel.at_ (by assumption) hbc1c (by assumption)).trans (by assumption) | exact Bel.step (by assumption) hbc1d | exact (Bel.at_ (by assumption) hbc1d (by assumption)).trans (by assumption) | exact Bel.step (by assumption) hbc1z | exact (Bel.at_ (by assumption) hbc1z (by assumption)).trans (by assumption))))
      (first
        | (go_at_call 20
           go_split_ands
           refine (toNet A1 A2 n1 c1 n2 c2 ss fs _ HN1.out (HR1.out _ (Below.trans B4_W.out ((Bel.out (by assumption)).mono B4_W.out.size))) hsm1 HN2.out (HR2.out _ (Below.trans B4_W.out ((Bel.out (by assumption)).mono B4_W.out.size))) hsm2).mono ?_
           rintro e u1a ⟨c1a1, c1a2, rfl, hoc1a1, hoc1a2, hbc1a⟩
           have Rc1a1 : Hid (∀ V, Below u1a.heap.size u1a V → Rd V V.heap.size (some ⟨c1a1, 0, none⟩) (ss.map Value.string)) := Lib.hid fun V hV => (Rd.ofOwnK hoc1a1).moved hV
           have Rc1a2 : Hid (∀ V, Below u1a.heap.size u1a V → Rd V V.heap.size (some ⟨c1a2, 0, none⟩) (fs.flatMap Q4.cells)) := Lib.hid fun V hV => (Rd.ofOwnK hoc1a2).moved hV
           clear hoc1a1 hoc1a2)
        | (go_at_call 38
           go_split_ands
           refine (toOg st1 Ads nds cds ds _ HNds.out (HRds.out _ (Below.trans B4_W.out ((Bel.out (by assumption)).mono B4_W.out.size))) hsmds).mono ?_
           rintro e u1b ⟨c1b, rfl, hgc1b, hoc1b, hbc1b⟩
           have Rc1b : Hid (∀ V, Below u1b.heap.size u1b V → Rd V V.heap.size (some ⟨c1b, 0, none⟩) (ds.map (Value.int .i64))) := Lib.hid fun V hV => (Rd.ofOwnK hoc1b).moved hV
           clear hoc1b hgc1b)
        | (go_at_call 39
           go_split_ands
           with_reducible refine (toRt st2 Axs nxs cxs xs _ HNxs.out (HRxs.out _ (Below.trans B4_W.out ((Bel.out (by assumption)).mono B4_W.out.size))) hsmxs).mono ?_
           rintro e u1c ⟨c1c, rfl, hgc1c, hoc1c, hbc1c⟩
           have Rc1c : Hid (∀ V, Below u1c.heap.size u1c V → Rd V V.heap.size (some ⟨c1c, 0, none⟩) (xs.map (Value.int .i64))) := Lib.hid fun V hV => (Rd.ofOwnK hoc1c).moved hV
           clear hoc1c hgc1c)
        | (go_at_call 39
           go_split_ands
           with_reducible refine (toRt st3 Ays nys cys ys _ HNys.out (HRys.out _ (Below.trans B4_W.out ((Bel.out (by assumption)).mono B4_W.out.size))) hsmys).mono ?_
           rintro e u1d ⟨c1d, rfl, hgc1d, hoc1d, hbc1d⟩
           have Rc1d : Hid (∀ V, Below u1d.heap.size u1d V → Rd V V.heap.size (some ⟨c1d, 0, none⟩) (ys.map (Value.int .i64))) := Lib.hid fun V hV => (Rd.ofOwnK hoc1d).moved hV
           clear hoc1d hgc1d)
        | (go_at_call 43
           go_split_ands
           refine (specPA ⟨HN1.out, hsm1, Nat.le_refl _, Rc1a1.out _ (by first | exact Below.refl _ _ | assumption | (apply belT; assumption; assumption) | (apply belT; assumption; apply belT; assumption; assumption)), HWS.out, HN2.out, hsm2, Rc1a2.out _ (by first | exact Below.refl _ _ | assumption | (apply belT; assumption; assumption) | (apply belT; assumption; apply belT; assumption; assumption))⟩ st1 (c := nds) HNds.out (Rc1b.out _ (by first | exact Below.refl _ _ | assumption | (apply belT; assumption; assumption) | (apply belT; assumption; apply belT; assumption; assumption))) hsmds st2 (dm := nxs) HNxs.out (Rc1c.out _ (by first | exact Below.refl _ _ | assumption | (apply belT; assumption; assumption) | (apply belT; assumption; apply belT; assumption; assumption))) hsmxs st3 (dl := nys) HNys.out (Rc1d.out _ (by first | exact Below.refl _ _ | assumption | (apply belT; assumption; assumption) | (apply belT; assumption; apply belT; assumption; assumption))) hsmys).mono ?_
           rw [HRV.out]
           rintro e u1z ⟨rfl, hbc1z⟩))
    all_goals
      go_split_ands
      have hbl : Bel w4 u1z := by assumption
      clear ka0_0 ka0_1 ka1_0 ka1_1 ka2_0 ka2_1 ka3_0 ka3_1
      go_wp2_with fail
      go_meet
      exact ⟨rfl, rfl, hbl⟩
  case rest =>
  clear hbd hgw0 hgw1 hgw2 hgw3 ka0_0 ka0_1 ka1_0 ka1_1 ka2_0 ka2_1 ka3_0 ka3_1
  revert hcut; generalize wc = wc1; intro hcut
  obtain ⟨h0_, h1_, hbl⟩ := hcut
  subst h0_ h1_
  have Ewc1_W := Lib.hid (B4_W.out.trans ((Bel.out hbl).mono B4_W.out.size))
  clear hbl
  have ka0_0 := HK0_0.out _ Ewc1_W.out
  have ka0_1 := HK0_1.out _ Ewc1_W.out
  go_wp2_with fail
  clear ka0_0 ka0_1
  have ZPRE0 := Lib.hid (Nat.le_refl 0)
  refine (toNet A1 A2 n1 c1 n2 c2 ss fs wc1 HN1.out (HR1.out _ Ewc1_W.out) hsm1 HN2.out (HR2.out _ Ewc1_W.out) hsm2).mono ?_
  rintro e w5 ⟨x01, x02, rfl, hox01, hox02, hb5⟩
  have B5_W := Lib.hid (Ewc1_W.out.trans (hb5.mono Ewc1_W.out.size))
  have HLAST5 := Lib.hid hb5
  clear hb5
  have Ox01 := Lib.hid hox01
  have Rx01 : Hid (∀ V, Below w5.heap.size w5 V → Rd V V.heap.size (some ⟨x01, 0, none⟩) (ss.map Value.string)) := Lib.hid fun V hV => (Rd.ofOwnK hox01).moved hV
  have Ox02 := Lib.hid hox02
  have Rx02 : Hid (∀ V, Below w5.heap.size w5 V → Rd V V.heap.size (some ⟨x02, 0, none⟩) (fs.flatMap Q4.cells)) := Lib.hid fun V hV => (Rd.ofOwnK hox02).moved hV
  clear hox01 hox02
  have Zw5 := Lib.hid (Below.refl w5.heap.size w5)
  have ka1_0 := HK1_0.out _ B5_W.out
  have ka1_1 := HK1_1.out _ B5_W.out
  have hgn : w.heap.size + 1 < w5.heap.size := Nat.lt_of_lt_of_le (by have := HZ.out; omega) B5_W.out.size
  go_wp2_with fail
  clear ka1_0 ka1_1 hgn
  obtain ⟨V0, hV0⟩ : ∃ V, (w5.alloc (Obj.cells #[.slice (some ⟨x01, 0, none⟩) n1 n1, .slice (some ⟨x02, 0, none⟩) n2 n2] 34)) = V := ⟨_, rfl⟩
  have hx0_0 : V0.cell? ⟨w5.heap.size, 0, none⟩ = some (.slice (some ⟨x01, 0, none⟩) n1 n1) := by rw [← hV0]; simp [go_sem]
  have hx0_1 : V0.cell? ⟨w5.heap.size, 1, none⟩ = some (.slice (some ⟨x02, 0, none⟩) n2 n2) := by rw [← hV0]; simp [go_sem]
  have hzV0 : w5.heap.size < V0.heap.size := by rw [← hV0]; simp
  have hbV0 : Below w5.heap.size w5 V0 := by rw [← hV0]; exact (Below.refl _ _).alloc (Nat.le_refl _) _
  rw [hV0]
  clear hV0
  have CV0_W := Lib.hid (B5_W.out.trans (hbV0.mono B5_W.out.size))
  have CV0_w5 := Lib.hid (Zw5.out.trans (hbV0.mono Zw5.out.size))
  have HX0_0 : Hid (∀ U, Below V0.heap.size V0 U → U.cell? ⟨w5.heap.size, 0, none⟩ = some (.slice (some ⟨x01, 0, none⟩) n1 n1)) := Lib.hid fun U hU => (hU.cell (p := ⟨_, _, none⟩) hzV0).trans hx0_0
  have HX0_1 : Hid (∀ U, Below V0.heap.size V0 U → U.cell? ⟨w5.heap.size, 1, none⟩ = some (.slice (some ⟨x02, 0, none⟩) n2 n2)) := Lib.hid fun U hU => (hU.cell (p := ⟨_, _, none⟩) hzV0).trans hx0_1
  have HZV0 := Lib.hid hzV0
  clear hzV0 hbV0 hx0_0 hx0_1
  have ZV0 := Lib.hid (Below.refl V0.heap.size V0)
  have ZPRE1 := Lib.hid (Nat.le_refl 0)
  refine (toOg st1 Ads nds cds ds V0 HNds.out (HRds.out _ CV0_W.out) hsmds).mono ?_
  rintro e w6 ⟨x1, rfl, hgx1, hox1, hb6⟩
  have B6_W := Lib.hid (CV0_W.out.trans (hb6.mono CV0_W.out.size))
  have B6_w5 := Lib.hid (CV0_w5.out.trans (hb6.mono CV0_w5.out.size))
  have B6_V0 := Lib.hid (ZV0.out.trans (hb6.mono ZV0.out.size))
  have HLAST6 := Lib.hid hb6
  clear hb6
  have Ox1 := Lib.hid hox1
  have Rx1 : Hid (∀ V, Below w6.heap.size w6 V → Rd V V.heap.size (some ⟨x1, 0, none⟩) (ds.map (Value.int .i64))) := Lib.hid fun V hV => (Rd.ofOwnK hox1).moved hV
  clear hox1
  have Zw6 := Lib.hid (Below.refl w6.heap.size w6)
  have ka2_0 := HK2_0.out _ B6_W.out
  have ka2_1 := HK2_1.out _ B6_W.out
  have hgn : w.heap.size + 1 + 1 < w6.heap.size := Nat.lt_of_lt_of_le (by have := HZ.out; omega) B6_W.out.size
  go_wp2_with fail
  clear ka2_0 ka2_1 hgn
  obtain ⟨V1, hV1⟩ : ∃ V, (w6.alloc (Obj.cells #[.int .i64 st1, .slice (some ⟨x1, 0, none⟩) nds nds] 60)) = V := ⟨_, rfl⟩
  have hx1_0 : V1.cell? ⟨w6.heap.size, 0, none⟩ = some (.int .i64 st1) := by rw [← hV1]; simp [go_sem]
  have hx1_1 : V1.cell? ⟨w6.heap.size, 1, none⟩ = some (.slice (some ⟨x1, 0, none⟩) nds nds) := by rw [← hV1]; simp [go_sem]
  have hzV1 : w6.heap.size < V1.heap.size := by rw [← hV1]; simp
  have hbV1 : Below w6.heap.size w6 V1 := by rw [← hV1]; exact (Below.refl _ _).alloc (Nat.le_refl _) _
  rw [hV1]
  clear hV1
  have CV1_W := Lib.hid (B6_W.out.trans (hbV1.mono B6_W.out.size))
  have CV1_w5 := Lib.hid (B6_w5.out.trans (hbV1.mono B6_w5.out.size))
  have CV1_V0 := Lib.hid (B6_V0.out.trans (hbV1.mono B6_V0.out.size))
  have CV1_w6 := Lib.hid (Zw6.out.trans (hbV1.mono Zw6.out.size))
  have HX1_0 : Hid (∀ U, Below V1.heap.size V1 U → U.cell? ⟨w6.heap.size, 0, none⟩ = some (.int .i64 st1)) := Lib.hid fun U hU => (hU.cell (p := ⟨_, _, none⟩) hzV1).trans hx1_0
  have HX1_1 : Hid (∀ U, Below V1.heap.size V1 U → U.cell? ⟨w6.heap.size, 1, none⟩ = some (.slice (some ⟨x1, 0, none⟩) nds nds)) := Lib.hid fun U hU => (hU.cell (p := ⟨_, _, none⟩) hzV1).trans hx1_1
  have HZV1 := Lib.hid hzV1
  clear hzV1 hbV1 hx1_0 hx1_1
  have ZV1 := Lib.hid (Below.refl V1.heap.size V1)
  have ZPRE2 := Lib.hid (Nat.le_refl 0)
  refine (toRt st2 Axs nxs cxs xs V1 HNxs.out (HRxs.out _ CV1_W.out) hsmxs).mono ?_
  rintro e w7 ⟨x2, rfl, hgx2, hox2, hb7⟩
  have B7_W := Lib.hid (CV1_W.out.trans (hb7.mono CV1_W.out.size))
  have B7_w5 := Lib.hid (CV1_w5.out.trans (hb7.mono CV1_w5.out.size))
  have B7_V0 := Lib.hid (CV1_V0.out.trans (hb7.mono CV1_V0.out.size))
  have B7_w6 := Lib.hid (CV1_w6.out.trans (hb7.mono CV1_w6.out.size))
  have B7_V1 := Lib.hid (ZV1.out.trans (hb7.mono ZV1.out.size))
  have HLAST7 := Lib.hid hb7
  clear hb7
  have Ox2 := Lib.hid hox2
  have Rx2 : Hid (∀ V, Below w7.heap.size w7 V → Rd V V.heap.size (some ⟨x2, 0, none⟩) (xs.map (Value.int .i64))) := Lib.hid fun V hV => (Rd.ofOwnK hox2).moved hV
  clear hox2
  have Zw7 := Lib.hid (Below.refl w7.heap.size w7)
  have ka3_0 := HK3_0.out _ B7_W.out
  have ka3_1 := HK3_1.out _ B7_W.out
  have hgn : w.heap.size + 1 + 1 + 1 < w7.heap.size := Nat.lt_of_lt_of_le (by have := HZ.out; omega) B7_W.out.size
  go_wp2_with fail
  clear ka3_0 ka3_1 hgn
  obtain ⟨V2, hV2⟩ : ∃ V, (w7.alloc (Obj.cells #[.int .i64 st2, .slice (some ⟨x2, 0, none⟩) nxs nxs] 62)) = V := ⟨_, rfl⟩
  have hx2_0 : V2.cell? ⟨w7.heap.size, 0, none⟩ = some (.int .i64 st2) := by rw [← hV2]; simp [go_sem]
  have hx2_1 : V2.cell? ⟨w7.heap.size, 1, none⟩ = some (.slice (some ⟨x2, 0, none⟩) nxs nxs) := by rw [← hV2]; simp [go_sem]
  have hzV2 : w7.heap.size < V2.heap.size := by rw [← hV2]; simp
  have hbV2 : Below w7.heap.size w7 V2 := by rw [← hV2]; exact (Below.refl _ _).alloc (Nat.le_refl _) _
  rw [hV2]
  clear hV2
  have CV2_W := Lib.hid (B7_W.out.trans (hbV2.mono B7_W.out.size))
  have CV2_w5 := Lib.hid (B7_w5.out.trans (hbV2.mono B7_w5.out.size))
  have CV2_V0 := Lib.hid (B7_V0.out.trans (hbV2.mono B7_V0.out.size))
  have CV2_w6 := Lib.hid (B7_w6.out.trans (hbV2.mono B7_w6.out.size))
  have CV2_V1 := Lib.hid (B7_V1.out.trans (hbV2.mono B7_V1.out.size))
  have CV2_w7 := Lib.hid (Zw7.out.trans (hbV2.mono Zw7.out.size))
  have HX2_0 : Hid (∀ U, Below V2.heap.size V2 U → U.cell? ⟨w7.heap.size, 0, none⟩ = some (.int .i64 st2)) := Lib.hid fun U hU => (hU.cell (p := ⟨_, _, none⟩) hzV2).trans hx2_0
  have HX2_1 : Hid (∀ U, Below V2.heap.size V2 U → U.cell? ⟨w7.heap.size, 1, none⟩ = some (.slice (some ⟨x2, 0, none⟩) nxs nxs)) := Lib.hid fun U hU => (hU.cell (p := ⟨_, _, none⟩) hzV2).trans hx2_1
  have HZV2 := Lib.hid hzV2
  clear hzV2 hbV2 hx2_0 hx2_1
  have ZV2 := Lib.hid (Below.refl V2.heap.size V2)
  have ZPRE3 := Lib.hid (Nat.le_refl 0)
  refine (toRt st3 Ays nys cys ys V2 HNys.out (HRys.out _ CV2_W.out) hsmys).mono ?_
  rintro e w8 ⟨x3, rfl, hgx3, hox3, hb8⟩
  have B8_W := Lib.hid (CV2_W.out.trans (hb8.mono CV2_W.out.size))
  have B8_w5 := Lib.hid (CV2_w5.out.trans (hb8.mono CV2_w5.out.size))
  have B8_V0 := Lib.hid (CV2_V0.out.trans (hb8.mono CV2_V0.out.size))
  have B8_w6 := Lib.hid (CV2_w6.out.trans (hb8.mono CV2_w6.out.size))
  have B8_V1 := Lib.hid (CV2_V1.out.trans (hb8.mono CV2_V1.out.size))
  have B8_w7 := Lib.hid (CV2_w7.out.trans (hb8.mono CV2_w7.out.size))
  have B8_V2 := Lib.hid (ZV2.out.trans (hb8.mono ZV2.out.size))
  have HLAST8 := Lib.hid hb8
  clear hb8
  have Ox3 := Lib.hid hox3
  have Rx3 : Hid (∀ V, Below w8.heap.size w8 V → Rd V V.heap.size (some ⟨x3, 0, none⟩) (ys.map (Value.int .i64))) := Lib.hid fun V hV => (Rd.ofOwnK hox3).moved hV
  clear hox3
  have Zw8 := Lib.hid (Below.refl w8.heap.size w8)
  have kz0_0 := HX0_0.out _ B8_V0.out
  have kz0_1 := HX0_1.out _ B8_V0.out
  have hgz0 : w5.heap.size < w8.heap.size := Nat.lt_of_lt_of_le HZV0.out B8_V0.out.size
  have kz1_0 := HX1_0.out _ B8_V1.out
  have kz1_1 := HX1_1.out _ B8_V1.out
  have hgz1 : w6.heap.size < w8.heap.size := Nat.lt_of_lt_of_le HZV1.out B8_V1.out.size
  have kz2_0 := HX2_0.out _ B8_V2.out
  have kz2_1 := HX2_1.out _ B8_V2.out
  have hgz2 : w7.heap.size < w8.heap.size := Nat.lt_of_lt_of_le HZV2.out B8_V2.out.size
  go_wp2_with fail
  clear kz0_0 kz0_1 hgz0 kz1_0 kz1_1 hgz1 kz2_0 kz2_1 hgz2
  obtain ⟨V3, hV3⟩ : ∃ V, (w8.alloc (Obj.cells #[.int .i64 st3, .slice (some ⟨x3, 0, none⟩) nys nys] 62)) = V := ⟨_, rfl⟩
  have hx3_0 : V3.cell? ⟨w8.heap.size, 0, none⟩ = some (.int .i64 st3) := by rw [← hV3]; simp [go_sem]
  have hx3_1 : V3.cell? ⟨w8.heap.size, 1, none⟩ = some (.slice (some ⟨x3, 0, none⟩) nys nys) := by rw [← hV3]; simp [go_sem]
  have hzV3 : w8.heap.size < V3.heap.size := by rw [← hV3]; simp
  have hbV3 : Below w8.heap.size w8 V3 := by rw [← hV3]; exact (Below.refl _ _).alloc (Nat.le_refl _) _
  rw [hV3]
  clear hV3
  have CV3_W := Lib.hid (B8_W.out.trans (hbV3.mono B8_W.out.size))
  have CV3_w5 := Lib.hid (B8_w5.out.trans (hbV3.mono B8_w5.out.size))
  have CV3_V0 := Lib.hid (B8_V0.out.trans (hbV3.mono B8_V0.out.size))
  have CV3_w6 := Lib.hid (B8_w6.out.trans (hbV3.mono B8_w6.out.size))
  have CV3_V1 := Lib.hid (B8_V1.out.trans (hbV3.mono B8_V1.out.size))
  have CV3_w7 := Lib.hid (B8_w7.out.trans (hbV3.mono B8_w7.out.size))
  have CV3_V2 := Lib.hid (B8_V2.out.trans (hbV3.mono B8_V2.out.size))
  have CV3_w8 := Lib.hid (Zw8.out.trans (hbV3.mono Zw8.out.size))
  have HX3_0 : Hid (∀ U, Below V3.heap.size V3 U → U.cell? ⟨w8.heap.size, 0, none⟩ = some (.int .i64 st3)) := Lib.hid fun U hU => (hU.cell (p := ⟨_, _, none⟩) hzV3).trans hx3_0
  have HX3_1 : Hid (∀ U, Below V3.heap.size V3 U → U.cell? ⟨w8.heap.size, 1, none⟩ = some (.slice (some ⟨x3, 0, none⟩) nys nys)) := Lib.hid fun U hU => (hU.cell (p := ⟨_, _, none⟩) hzV3).trans hx3_1
  have HZV3 := Lib.hid hzV3
  clear hzV3 hbV3 hx3_0 hx3_1
  have ZV3 := Lib.hid (Below.refl V3.heap.size V3)
  refine (implPA ⟨HN1.out, hsm1, Nat.le_refl _, Rx01.out _ CV3_w5.out, HWS.out, HN2.out, hsm2, Rx02.out _ CV3_w5.out⟩ st1 (c := nds) HNds.out (Rx1.out _ CV3_w6.out) hsmds st2 (dm := nxs) HNxs.out (Rx2.out _ CV3_w7.out) hsmxs st3 (dl := nys) HNys.out (Rx3.out _ CV3_w8.out) hsmys (HTAB.out _ CV3_W.out)).mono ?_
  rw [HRV.out]
  rintro e w9 ⟨rfl, hb9⟩
  have B9_W := Lib.hid (CV3_W.out.trans (hb9.mono CV3_W.out.size))
  have B9_w5 := Lib.hid (CV3_w5.out.trans (hb9.mono CV3_w5.out.size))
  have B9_V0 := Lib.hid (CV3_V0.out.trans (hb9.mono CV3_V0.out.size))
  have B9_w6 := Lib.hid (CV3_w6.out.trans (hb9.mono CV3_w6.out.size))
  have B9_V1 := Lib.hid (CV3_V1.out.trans (hb9.mono CV3_V1.out.size))
  have B9_w7 := Lib.hid (CV3_w7.out.trans (hb9.mono CV3_w7.out.size))
  have B9_V2 := Lib.hid (CV3_V2.out.trans (hb9.mono CV3_V2.out.size))
  have B9_w8 := Lib.hid (CV3_w8.out.trans (hb9.mono CV3_w8.out.size))
  have B9_V3 := Lib.hid (ZV3.out.trans (hb9.mono ZV3.out.size))
  have HLAST9 := Lib.hid hb9
  clear hb9
  have ka0_0 := HK0_0.out _ B9_W.out
  have ka0_1 := HK0_1.out _ B9_W.out
  have kx0_0 := HX0_0.out _ B9_V0.out
  have kx0_1 := HX0_1.out _ B9_V0.out
  have hgx : w5.heap.size < w9.heap.size := Nat.lt_of_lt_of_le HZV0.out B9_V0.out.size
  have hgw : w.heap.size < w9.heap.size := Nat.lt_of_lt_of_le (by have := HZ.out; omega) B9_W.out.size
  have hbd : Bel w9 w9.drew := Bel.of (Below.refl _ _).drew
  go_upto_region 22 with fail
  go_cut [78] (fun s78 wx => s78 = .bool false ∧ Bel w9 wx)
  case first =>
    go_region_held3 (fun U => U.cell? ⟨w5.heap.size, 0, none⟩ = some (.slice (some ⟨x01, 0, none⟩) n1 n1) ∧ U.cell? ⟨w5.heap.size, 1, none⟩ = some (.slice (some ⟨x02, 0, none⟩) n2 n2) ∧ U.cell? ⟨w.heap.size, 0, none⟩ = some (.slice A1 n1 c1) ∧ U.cell? ⟨w.heap.size, 1, none⟩ = some (.slice A2 n2 c2) ∧ Bel w9 U)
      (first | go_keep | (go_split_ands; (refine ⟨?_, ?_, ?_, ?_, ?_⟩ <;> first | assumption | exact Bel.step (by assumption) hbt10 | exact Bel.step (by assumption) hbt11 | exact (Bel.at_ (by assumption) hbt10 (by assumption)).trans (by assumption) | exact (Bel.at_ (by assumption) hbt11 (by assumption)).trans (by assumption))))
      (first
        | (go_at_call 20
           go_split_ands
           refine (toNet A1 A2 n1 c1 n2 c2 ss fs _ HN1.out (HR1.out _ (Below.trans B9_W.out ((Bel.out (by assumption)).mono B9_W.out.size))) hsm1 HN2.out (HR2.out _ (Below.trans B9_W.out ((Bel.out (by assumption)).mono B9_W.out.size))) hsm2).mono ?_
           rintro e t10 ⟨y111, y112, rfl, hoy111, hoy112, hbt10⟩
           have Sy111 := Lib.hid (Rd.ofOwnK hoy111)
           have Sy112 := Lib.hid (Rd.ofOwnK hoy112)
           clear hoy111 hoy112)
        | (go_at_call 24
           go_split_ands
           refine (eqNet x01 x02 y111 y112 n1 n2 n1 n2 n1 n2 ss fs t10 HN1.out hsm1 HN2.out hsm2 (Rx01.out _ (Below.trans B9_w5.out ((Bel.out (by assumption)).mono B9_w5.out.size))) (Sy111.out) (Rx02.out _ (Below.trans B9_w5.out ((Bel.out (by assumption)).mono B9_w5.out.size))) (Sy112.out)).mono ?_
           rintro e t11 ⟨rfl, hbt11⟩))
    all_goals
      go_split_ands
      have hbl : Bel w9 t11 := by assumption
      go_wp2_with fail
      go_meet
      exact ⟨rfl, hbl⟩
  case rest =>
  clear hbd hgx hgw ka0_0 ka0_1 kx0_0 kx0_1
  revert hcut; generalize wc = wc2; intro hcut
  obtain ⟨hs_, hbl⟩ := hcut
  subst hs_
  have Ewc2_W := Lib.hid (B9_W.out.trans ((Bel.out hbl).mono B9_W.out.size))
  have Ewc2_w5 := Lib.hid (B9_w5.out.trans ((Bel.out hbl).mono B9_w5.out.size))
  have Ewc2_V0 := Lib.hid (B9_V0.out.trans ((Bel.out hbl).mono B9_V0.out.size))
  have Ewc2_w6 := Lib.hid (B9_w6.out.trans ((Bel.out hbl).mono B9_w6.out.size))
  have Ewc2_V1 := Lib.hid (B9_V1.out.trans ((Bel.out hbl).mono B9_V1.out.size))
  have Ewc2_w7 := Lib.hid (B9_w7.out.trans ((Bel.out hbl).mono B9_w7.out.size))
  have Ewc2_V2 := Lib.hid (B9_V2.out.trans ((Bel.out hbl).mono B9_V2.out.size))
  have Ewc2_w8 := Lib.hid (B9_w8.out.trans ((Bel.out hbl).mono B9_w8.out.size))
  have Ewc2_V3 := Lib.hid (B9_V3.out.trans ((Bel.out hbl).mono B9_V3.out.size))
  clear hbl
  have ka1_0 := HK1_0.out _ Ewc2_W.out
  have ka1_1 := HK1_1.out _ Ewc2_W.out
  have kx1_0 := HX1_0.out _ Ewc2_V1.out
  have kx1_1 := HX1_1.out _ Ewc2_V1.out
  have hgx : w6.heap.size < wc2.heap.size := Nat.lt_of_lt_of_le HZV1.out Ewc2_V1.out.size
  have hgw : w.heap.size + 1 < wc2.heap.size := Nat.lt_of_lt_of_le (by have := HZ.out; omega) Ewc2_W.out.size
  have hbd : Bel wc2 wc2.drew := Bel.of (Below.refl _ _).drew
  go_upto_region 24 with fail
  go_cut [83] (fun s83 wx => s83 = .bool false ∧ Bel wc2 wx)
  case first =>
    go_region_held3 (fun U => U.cell? ⟨w6.heap.size, 0, none⟩ = some (.int .i64 st1) ∧ U.cell? ⟨w6.heap.size, 1, none⟩ = some (.slice (some ⟨x1, 0, none⟩) nds nds) ∧ U.cell? ⟨w.heap.size + 1, 0, none⟩ = some (.int .i64 st1) ∧ U.cell? ⟨w.heap.size + 1, 1, none⟩ = some (.slice Ads nds cds) ∧ Bel wc2 U)
      (first | go_keep | (go_split_ands; (refine ⟨?_, ?_, ?_, ?_, ?_⟩ <;> first | assumption | exact Bel.step (by assumption) hbt12 | exact Bel.step (by assumption) hbt13 | exact (Bel.at_ (by assumption) hbt12 (by assumption)).trans (by assumption) | exact (Bel.at_ (by assumption) hbt13 (by assumption)).trans (by assumption))))
      (first
        | (go_at_call 38
           go_split_ands
           refine (toOg st1 Ads nds cds ds _ HNds.out (HRds.out _ (Below.trans Ewc2_W.out ((Bel.out (by assumption)).mono Ewc2_W.out.size))) hsmds).mono ?_
           rintro e t12 ⟨y13, rfl, hgy13, hoy13, hbt12⟩
           have Sy13 := Lib.hid (Rd.ofOwnK hoy13)
           clear hoy13 hgy13)
        | (go_at_call 41
           go_split_ands
           refine (eqOg st1 x1 y13 nds nds nds ds t12 HNds.out hsmds (Rx1.out _ (Below.trans Ewc2_w6.out ((Bel.out (by assumption)).mono Ewc2_w6.out.size))) (Sy13.out)).mono ?_
           rintro e t13 ⟨rfl, hbt13⟩))
    all_goals
      go_split_ands
      have hbl : Bel wc2 t13 := by assumption
      go_wp2_with fail
      go_meet
      exact ⟨rfl, hbl⟩
  case rest =>
  clear hbd hgx hgw ka1_0 ka1_1 kx1_0 kx1_1
  revert hcut; generalize wc = wc3; intro hcut
  obtain ⟨hs_, hbl⟩ := hcut
  subst hs_
  have Ewc3_W := Lib.hid (Ewc2_W.out.trans ((Bel.out hbl).mono Ewc2_W.out.size))
  have Ewc3_w5 := Lib.hid (Ewc2_w5.out.trans ((Bel.out hbl).mono Ewc2_w5.out.size))
  have Ewc3_V0 := Lib.hid (Ewc2_V0.out.trans ((Bel.out hbl).mono Ewc2_V0.out.size))
  have Ewc3_w6 := Lib.hid (Ewc2_w6.out.trans ((Bel.out hbl).mono Ewc2_w6.out.size))
  have Ewc3_V1 := Lib.hid (Ewc2_V1.out.trans ((Bel.out hbl).mono Ewc2_V1.out.size))
  have Ewc3_w7 := Lib.hid (Ewc2_w7.out.trans ((Bel.out hbl).mono Ewc2_w7.out.size))
  have Ewc3_V2 := Lib.hid (Ewc2_V2.out.trans ((Bel.out hbl).mono Ewc2_V2.out.size))
  have Ewc3_w8 := Lib.hid (Ewc2_w8.out.trans ((Bel.out hbl).mono Ewc2_w8.out.size))
  have Ewc3_V3 := Lib.hid (Ewc2_V3.out.trans ((Bel.out hbl).mono Ewc2_V3.out.size))
  clear hbl
  have ka2_0 := HK2_0.out _ Ewc3_W.out
  have ka2_1 := HK2_1.out _ Ewc3_W.out
  have kx2_0 := HX2_0.out _ Ewc3_V2.out
  have kx2_1 := HX2_1.out _ Ewc3_V2.out
  have hgx : w7.heap.size < wc3.heap.size := Nat.lt_of_lt_of_le HZV2.out Ewc3_V2.out.size
  have hgw : w.heap.size + 1 + 1 < wc3.heap.size := Nat.lt_of_lt_of_le (by have := HZ.out; omega) Ewc3_W.out.size
  have hbd : Bel wc3 wc3.drew := Bel.of (Below.refl _ _).drew
  go_upto_region 26 with fail
  go_cut [88] (fun s88 wx => s88 = .bool false ∧ Bel wc3 wx)
  case first =>
    go_region_held3 (fun U => U.cell? ⟨w7.heap.size, 0, none⟩ = some (.int .i64 st2) ∧ U.cell? ⟨w7.heap.size, 1, none⟩ = some (.slice (some ⟨x2, 0, none⟩) nxs nxs) ∧ U.cell? ⟨w.heap.size + 1 + 1, 0, none⟩ = some (.int .i64 st2) ∧ U.cell? ⟨w.heap.size + 1 + 1, 1, none⟩ = some (.slice Axs nxs cxs) ∧ Bel wc3 U)
      (first | go_keep | (go_split_ands; (refine ⟨?_, ?_, ?_, ?_, ?_⟩ <;> first | assumption | exact Bel.step (by assumption) hbt14 | exact Bel.step (by assumption) hbt15 | exact (Bel.at_ (by assumption) hbt14 (by assumption)).trans (by assumption) | exact (Bel.at_ (by assumption) hbt15 (by assumption)).trans (by assumption))))
      (first
        | (go_at_call 39
           go_split_ands
           refine (toRt st2 Axs nxs cxs xs _ HNxs.out (HRxs.out _ (Below.trans Ewc3_W.out ((Bel.out (by assumption)).mono Ewc3_W.out.size))) hsmxs).mono ?_
           rintro e t14 ⟨y15, rfl, hgy15, hoy15, hbt14⟩
           have Sy15 := Lib.hid (Rd.ofOwnK hoy15)
           clear hoy15 hgy15)
        | (go_at_call 42
           go_split_ands
           refine (eqRt st2 x2 y15 nxs nxs nxs xs t14 HNxs.out hsmxs (Rx2.out _ (Below.trans Ewc3_w7.out ((Bel.out (by assumption)).mono Ewc3_w7.out.size))) (Sy15.out)).mono ?_
           rintro e t15 ⟨rfl, hbt15⟩))
    all_goals
      go_split_ands
      have hbl : Bel wc3 t15 := by assumption
      go_wp2_with fail
      go_meet
      exact ⟨rfl, hbl⟩
  case rest =>
  clear hbd hgx hgw ka2_0 ka2_1 kx2_0 kx2_1
  revert hcut; generalize wc = wc4; intro hcut
  obtain ⟨hs_, hbl⟩ := hcut
  subst hs_
  have Ewc4_W := Lib.hid (Ewc3_W.out.trans ((Bel.out hbl).mono Ewc3_W.out.size))
  have Ewc4_w5 := Lib.hid (Ewc3_w5.out.trans ((Bel.out hbl).mono Ewc3_w5.out.size))
  have Ewc4_V0 := Lib.hid (Ewc3_V0.out.trans ((Bel.out hbl).mono Ewc3_V0.out.size))
  have Ewc4_w6 := Lib.hid (Ewc3_w6.out.trans ((Bel.out hbl).mono Ewc3_w6.out.size))
  have Ewc4_V1 := Lib.hid (Ewc3_V1.out.trans ((Bel.out hbl).mono Ewc3_V1.out.size))
  have Ewc4_w7 := Lib.hid (Ewc3_w7.out.trans ((Bel.out hbl).mono Ewc3_w7.out.size))
  have Ewc4_V2 := Lib.hid (Ewc3_V2.out.trans ((Bel.out hbl).mono Ewc3_V2.out.size))
  have Ewc4_w8 := Lib.hid (Ewc3_w8.out.trans ((Bel.out hbl).mono Ewc3_w8.out.size))
  have Ewc4_V3 := Lib.hid (Ewc3_V3.out.trans ((Bel.out hbl).mono Ewc3_V3.out.size))
  clear hbl
  have ka3_0 := HK3_0.out _ Ewc4_W.out
  have ka3_1 := HK3_1.out _ Ewc4_W.out
  have kx3_0 := HX3_0.out _ Ewc4_V3.out
  have kx3_1 := HX3_1.out _ Ewc4_V3.out
  have hgx : w8.heap.size < wc4.heap.size := Nat.lt_of_lt_of_le HZV3.out Ewc4_V3.out.size
  have hgw : w.heap.size + 1 + 1 + 1 < wc4.heap.size := Nat.lt_of_lt_of_le (by have := HZ.out; omega) Ewc4_W.out.size
  have hbd : Bel wc4 wc4.drew := Bel.of (Below.refl _ _).drew
  go_upto_region 28 with fail
  go_cut [93] (fun s93 wx => s93 = .bool false ∧ Bel wc4 wx)
  case first =>
    go_region_held3 (fun U => U.cell? ⟨w8.heap.size, 0, none⟩ = some (.int .i64 st3) ∧ U.cell? ⟨w8.heap.size, 1, none⟩ = some (.slice (some ⟨x3, 0, none⟩) nys nys) ∧ U.cell? ⟨w.heap.size + 1 + 1 + 1, 0, none⟩ = some (.int .i64 st3) ∧ U.cell? ⟨w.heap.size + 1 + 1 + 1, 1, none⟩ = some (.slice Ays nys cys) ∧ Bel wc4 U)
      (first | go_keep | (go_split_ands; (refine ⟨?_, ?_, ?_, ?_, ?_⟩ <;> first | assumption | exact Bel.step (by assumption) hbt16 | exact Bel.step (by assumption) hbt17 | exact (Bel.at_ (by assumption) hbt16 (by assumption)).trans (by assumption) | exact (Bel.at_ (by assumption) hbt17 (by assumption)).trans (by assumption))))
      (first
        | (go_at_call 39
           go_split_ands
           refine (toRt st3 Ays nys cys ys _ HNys.out (HRys.out _ (Below.trans Ewc4_W.out ((Bel.out (by assumption)).mono Ewc4_W.out.size))) hsmys).mono ?_
           rintro e t16 ⟨y17, rfl, hgy17, hoy17, hbt16⟩
           have Sy17 := Lib.hid (Rd.ofOwnK hoy17)
           clear hoy17 hgy17)
        | (go_at_call 42
           go_split_ands
           refine (eqRt st3 x3 y17 nys nys nys ys t16 HNys.out hsmys (Rx3.out _ (Below.trans Ewc4_w8.out ((Bel.out (by assumption)).mono Ewc4_w8.out.size))) (Sy17.out)).mono ?_
           rintro e t17 ⟨rfl, hbt17⟩))
    all_goals
      go_split_ands
      have hbl : Bel wc4 t17 := by assumption
      go_wp2_with fail
      go_meet
      exact ⟨rfl, hbl⟩
  case rest =>
  clear hbd hgx hgw ka3_0 ka3_1 kx3_0 kx3_1
  revert hcut; generalize wc = wc5; intro hcut
  obtain ⟨hs_, hbl⟩ := hcut
  subst hs_
  have Ewc5_W := Lib.hid (Ewc4_W.out.trans ((Bel.out hbl).mono Ewc4_W.out.size))
  have Ewc5_w5 := Lib.hid (Ewc4_w5.out.trans ((Bel.out hbl).mono Ewc4_w5.out.size))
  have Ewc5_V0 := Lib.hid (Ewc4_V0.out.trans ((Bel.out hbl).mono Ewc4_V0.out.size))
  have Ewc5_w6 := Lib.hid (Ewc4_w6.out.trans ((Bel.out hbl).mono Ewc4_w6.out.size))
  have Ewc5_V1 := Lib.hid (Ewc4_V1.out.trans ((Bel.out hbl).mono Ewc4_V1.out.size))
  have Ewc5_w7 := Lib.hid (Ewc4_w7.out.trans ((Bel.out hbl).mono Ewc4_w7.out.size))
  have Ewc5_V2 := Lib.hid (Ewc4_V2.out.trans ((Bel.out hbl).mono Ewc4_V2.out.size))
  have Ewc5_w8 := Lib.hid (Ewc4_w8.out.trans ((Bel.out hbl).mono Ewc4_w8.out.size))
  have Ewc5_V3 := Lib.hid (Ewc4_V3.out.trans ((Bel.out hbl).mono Ewc4_V3.out.size))
  clear hbl
  go_wp2
  go_ret
  exact ⟨rfl, HBW.out.trans (Ewc5_W.out.mono HBW.out.size)⟩


theorem own : ownKnob Tryd.prog.godebug = none := by kernel_rfl
theorem laidOut : laidOutB Tryd.prog = true := by kernel_rfl

theorem tTab : (Tryd.prog.globals[1]?).map (·.type) = some 230 := by kernel_rfl
theorem cTab : Tryd.prog.cellsOf 230 = 64 := by kernel_rfl
theorem cU8 : Tryd.prog.cellsOf 5 = 1 := by kernel_rfl
theorem pow_of_laid {W : World} (h : laidMetH Tryd.prog Rows.fnExactPairAvailabilityRow.laid W) : Tab W := by
  have h3 : laidMetH Tryd.prog (Rows.fnExactPairAvailabilityRow.laid.filter fun x => x.1 == "math/bits.deBruijn64tab") W := h.filter _
  have e : (Rows.fnExactPairAvailabilityRow.laid.filter fun x => x.1 == "math/bits.deBruijn64tab") = [("math/bits.deBruijn64tab", Lib.tabData .u8 tzTab)] := by kernel_rfl
  rw [e, MakeChecks.laidMetH_plain _ _ _ (by kernel_rfl)] at h3
  exact Lib.tabIs_of_head tabAt tTab Tryd.underlying230 Tryd.underlying5 cU8 cTab h3

theorem door_met (os : Os) (args : Array Value) : laidMetH Tryd.prog Rows.fnExactPairAvailabilityRow.laid ((World.doorLaid Tryd.prog 19 os).forCall (fun _ _ => 0) ⟨#[], args, []⟩).memory :=
  laidMetH_of_parts3 (fuel := 8) (laidMet_of_run' 8 (by kernel_rfl) (by kernel_rfl)) (by kernel_rfl) (by kernel_rfl)

set_option maxRecDepth 100000 in
theorem lifted (os : Os) (started : os.Started) (H : Type) (enc : TypeId × Value → H) :
    ReturnsInHanded {} Tryd.checked os 6 .any (fun w args => (Rows.fnExactPairAvailabilitySpec.pre enc Tryd.prog Tryd.f6 [] false w args ∧ laidMetH Tryd.prog Rows.fnExactPairAvailabilityRow.laid w) ∧ sizedMet enc Tryd.prog Tryd.f6 (OpenSpec.ofChange Rows.fnExactPairAvailabilitySpec) false w args)
      (Rows.fnExactPairAvailabilitySpec.post enc Tryd.prog Tryd.f6 false true false false) := by
  refine returnsInHanded_of_change_and (C := Tryd.checked) (X := fun w _ => laidMetH Tryd.prog Rows.fnExactPairAvailabilityRow.laid w) (fun _ _ _ hh h => h.of_heap hh) own started (by kernel_rfl) Tryd.func6
    (ChangeSpec.witness_shaped (enc := enc) (C := Tryd.checked) (os := os) (X := fun w _ => laidMetH Tryd.prog Rows.fnExactPairAvailabilityRow.laid w) false (World.doorLaid Tryd.prog 19 os) #[.agg #[.slice none 0 0, .slice none 0 0], .agg #[.int .i64 0, .slice none 0 0], .agg #[.int .i64 0, .slice none 0 0], .agg #[.int .i64 0, .slice none 0 0]] 8 rfl (World.shaped_of_RefB (by kernel_rfl) (by kernel_rfl)) (by kernel_rfl) (by kernel_rfl) (by kernel_rfl) (door_met os _)) ?_
  intro W base args ds gs before hval0 hW _ hsz0 hL _
  have hval : ∀ (j : Nat) t v, Tryd.f6.params[j]? = some t → args[j]? = some v → Value.okWide Tryd.prog W .any base t v := hval0
  have hsz : (DataW.weightsEach Tryd.prog (Tryd.f6.params.toList ++ Rows.fnExactPairAvailabilitySpec.plain.varTypes Tryd.prog) (ds ++ gs)).all (· ≤ reachBytes) = true := hsz0
  have hpow := pow_of_laid hL
  have hW' := hW
  obtain ⟨p, q, hA0, hV, rfl, hfz, hnd⟩ := hW
  have hA : DataW.TrodAll enc Tryd.prog W 0 (fun _ => true) true Tryd.f6.params.toList args.toList ds p := hA0
  rw [Tryd.params6] at hA hval hsz
  obtain ⟨v0, vs0, d0, ds0, p0, q0, hargs, rfl, rfl, h0, r0⟩ := trodAll_cons hA
  obtain ⟨v1, vs1, d1, ds1, p1, q1, rfl, rfl, rfl, h1, r1⟩ := trodAll_cons r0
  obtain ⟨v2, vs2, d2, ds2, p2, q2, rfl, rfl, rfl, h2, r2⟩ := trodAll_cons r1
  obtain ⟨v3, vs3, d3, ds3, p3, q3, rfl, rfl, rfl, h3, r3⟩ := trodAll_cons r2
  obtain ⟨rfl, rfl, rfl⟩ := trodAll_nil r3
  obtain rfl : args = #[v0, v1, v2, v3] := by cases args; simp_all
  obtain ⟨rfl, rfl⟩ := trodVars_none hV
  simp only [List.append_nil] at hW'
  have hlt0 : ∀ x ∈ p0, x.block < W.heap.size := fun x hx => by simpa using hW'.lt x (by simp [hx])
  have hlt1 : ∀ x ∈ p1, x.block < W.heap.size := fun x hx => by simpa using hW'.lt x (by simp [hx])
  have hlt2 : ∀ x ∈ p2, x.block < W.heap.size := fun x hx => by simpa using hW'.lt x (by simp [hx])
  have hlt3 : ∀ x ∈ p3, x.block < W.heap.size := fun x hx => by simpa using hW'.lt x (by simp [hx])
  have fin : ∀ W' : World, Below W.heap.size W W' → Rows.fnExactPairAvailabilitySpec.post enc Tryd.checked.prog Tryd.f6 false true false false W #[v0, v1, v2, v3] (.bool true) W' := by
    intro W' hb
    refine ⟨_, _, _, [] ++ [], (p0 ++ (p1 ++ (p2 ++ (p3 ++ [])))), [], hW', ?_, ?_, rfl, hb.frame _, fun h => by cases h⟩
    · exact trodAll_mk1 (shut_bool Tryd.underlying4 true)
    · exact trodAll_cons_mk (Below.trod laidOut (by kernel_rfl) (of_decide_eq_true (by kernel_rfl)) h0 hb hlt0) (trodAll_cons_mk (Below.trod laidOut (by kernel_rfl) (of_decide_eq_true (by kernel_rfl)) h1 hb hlt1) (trodAll_cons_mk (Below.trod laidOut (by kernel_rfl) (of_decide_eq_true (by kernel_rfl)) h2 hb hlt2) (trodAll_cons_mk (Below.trod laidOut (by kernel_rfl) (of_decide_eq_true (by kernel_rfl)) h3 hb hlt3) (trodAll_mk0))))
  clear hW' hV hA0
  obtain ⟨A0, n0, c0, s0, B0, m0, k0, z0, rfl, ⟨ha0, hb0, hc0, hd0⟩, ⟨he0, hf0, hg0, hh0⟩⟩ := open_net Tryd.underlying25 (by kernel_rfl) (by kernel_rfl) Tryd.underlying22 Tryd.underlying9 (by kernel_rfl) Tryd.underlying23 Tryd.underlying178 (by kernel_rfl) (by kernel_rfl) rfl (hint_of Tryd.underlying3 (by decide +kernel)) (hval 0 25 v0 rfl rfl) h0
  obtain ⟨t1, A1, n1, c1, z1, rfl, ht1, ha1, hb1, hc1, hd1⟩ := open_rt Tryd.underlying54 (by kernel_rfl) (by kernel_rfl) Tryd.underlying3 Tryd.underlying29 Tryd.underlying3 (by kernel_rfl) (hval 1 54 v1 rfl rfl) h1
  obtain ⟨t2, A2, n2, c2, z2, rfl, ht2, ha2, hb2, hc2, hd2⟩ := open_rt Tryd.underlying56 (by kernel_rfl) (by kernel_rfl) Tryd.underlying3 Tryd.underlying29 Tryd.underlying3 (by kernel_rfl) (hval 2 56 v2 rfl rfl) h2
  obtain ⟨t3, A3, n3, c3, z3, rfl, ht3, ha3, hb3, hc3, hd3⟩ := open_rt Tryd.underlying56 (by kernel_rfl) (by kernel_rfl) Tryd.underlying3 Tryd.underlying29 Tryd.underlying3 (by kernel_rfl) (hval 3 56 v3 rfl rfl) h3
  exact (walk A0 n0 c0 s0 B0 m0 k0 z0 t1 A1 n1 c1 z1 t2 A2 n2 c2 z2 t3 A3 n3 c3 z3 W ha0 hb0 hc0 hd0 he0 hf0 hg0 hh0 ht1 ha1 hb1 hc1 hd1 ht2 ha2 hb2 hc2 hd2 ht3 ha3 hb3 hc3 hd3 hpow).mono fun e W' ⟨he, hb⟩ => ⟨_, he, fin W' hb⟩

theorem closed : joinedFacts Tryd.prog 6 Tryd.f6 Rows.fnExactPairAvailabilitySpec Rows.fnExactPairAvailabilityRow = true := by
  unfold joinedFacts
  rw [jn_mk, jn_li, jn_en]
  kernel_rfl
theorem over : Rows.fnExactPairAvailabilityRow.holds Tryd.pinned (OpenSpec.ofChange Rows.fnExactPairAvailabilitySpec) :=
  OpenClaim.holds_of_wide 6 Tryd.f6 rfl rfl rfl rfl rfl rfl rfl ⟨rfl, rfl, rfl, rfl, rfl⟩ rfl rfl rfl rfl rfl (by kernel_rfl) Tryd.func6 closed
    (of_decide_eq_true (by kernel_rfl)) (by unfold Func.isWrapper; first | (rw [if_pos (by decide +kernel)]; kernel_rfl) | (rw [if_neg (by decide +kernel)]; exact ⟨rfl, rfl⟩))
    (fun os started H enc _ => lifted os started H enc)

/-- THE STATEMENT -/
theorem proved : Rows.FnExactPairAvailabilityCardSaid :=
  Claim7.holds_tied_plain_at .later [] [.data, .data] true (true, "61d0f1cdfe28942df9ffd20e4d988caf558a7c422a12daeac7c36534f8970d12") false
    over (fun _ h => by cases h) (by kernel_rfl) (fun _ h => by cases h) fnExactPairAvailability_row_tie rfl ⟨rfl, rfl⟩ jn_main rfl
    (fun f fn hf hfn => by
      obtain rfl : f = 6 := Option.some.inj ((show Tryd.prog.funcNamed "loop.example/g00897/laws.FnExactPairAvailability" = some 6 by kernel_rfl).symm.trans hf) |>.symm
      obtain rfl : fn = Tryd.f6 := (Option.some.inj (Tryd.func6.symm.trans hfn)).symm
      exact ⟨by kernel_rfl, fun j t ht => by
        rw [Tryd.params6] at ht
        have hm : t ∈ [25, 54, 56, 56] := by simpa using Array.mem_of_getElem? ht
        have hall : ([25, 54, 56, 56].all fun u => !Tryd.prog.wantsStandIn u) = true := by kernel_rfl
        exact (show Tryd.prog.wantsStandIn t = false by simpa using List.all_eq_true.1 hall t hm)⟩)
    (by kernel_rfl)
end Go.Proofs.YtbnfogedmjjiaaaDoor.fnExactPairAvailability
