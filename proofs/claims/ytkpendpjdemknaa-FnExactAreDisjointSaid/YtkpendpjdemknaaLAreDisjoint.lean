/- Proved: at every argument impl.AreDisjoint answers as spec.AreDisjoint does and leaves its arguments alone (the law FnExactAreDisjoint returns true). No condition. -/
import Derived.Test.YtkpendpjdemknaaRows
import Derived.Test.YtkpendpjdemknaaJn
import Derived.JoinedOf
import Derived.Test.YtkpendpjdemknaaGC
import Derived.Test.YtkpendpjdemknaaAdS
import Derived.Test.YtkpendpjdemknaaAdM
import Derived.Test.YtkpendpjdemknaaGA
import Derived.WalkKit
import Derived.ProofKit
import Derived.OpenShut
import Derived.ShutString
import Derived.SizedLaws
import Derived.Carry
namespace Go.Proofs.Ytkpendpjdemknaa.fnExactAreDisjoint
open Go.ChangeShapes Go.WideShapes Go.ChangeAt Go.RowKit
open Go.ChangeMaps (open_string shut_string)

set_option maxRecDepth 100000 in
set_option maxHeartbeats 8000000 in
theorem walk (A1 : Option Addr) (n1 c1 : Nat) (ss : List ByteArray) (A2 : Option Addr) (n2 c2 : Nat) (fs : List Q4) (st1 : Int) (Azs : Option Addr) (nzs czs : Nat) (zs : List Int) (st2 : Int) (Ays : Option Addr) (nys cys : Nat) (ys : List Int) (kd : Int) (w : World) (hn1 : ss.length = n1) (hm1 : n1 ≤ maxLen) (hr1 : Rd w w.heap.size A1 (ss.map Value.string)) (hws : ∀ s ∈ ss, s.size ≤ maxLen) (hn2 : fs.length = n2) (hm2 : n2 ≤ maxLen) (hr2 : Rd w w.heap.size A2 (fs.flatMap Q4.cells)) (_hwf : ∀ q ∈ fs, q.wf) (_wst1 : (Lit.int .i64 st1).wf = true) (hnzs : zs.length = nzs) (hmzs : nzs ≤ maxLen) (hrzs : Rd w w.heap.size Azs (zs.map (Value.int .i64))) (_hwfzs : ∀ z ∈ zs, (Lit.int .i64 z).wf = true) (_wst2 : (Lit.int .i64 st2).wf = true) (hnys : ys.length = nys) (hmys : nys ≤ maxLen) (hrys : Rd w w.heap.size Ays (ys.map (Value.int .i64))) (_hwfys : ∀ z ∈ ys, (Lit.int .i64 z).wf = true) (_w3 : (Lit.int .i64 kd).wf = true) :
    Calls Try.prog 8 #[.agg #[.slice A1 n1 c1, .slice A2 n2 c2], .agg #[.int .i64 st1, .slice Azs nzs czs], .agg #[.int .i64 st2, .slice Ays nys cys], .int .i64 kd] w fun e w' => e = .returned (.bool true) ∧ Below w.heap.size w w' := by
  have HN1 := Lib.hid hn1; have HN2 := Lib.hid hn2; have HWS := Lib.hid hws; clear hn1 hn2 hws _hwf
  have HNzs := Lib.hid hnzs; clear hnzs _hwfzs _wst1
  have HNys := Lib.hid hnys; clear hnys _hwfys _wst2
  clear _w3
  obtain ⟨r1, hr1e⟩ : ∃ r, adV ss fs st1 zs st2 ys kd = r := ⟨_, rfl⟩
  obtain ⟨r2, hr2e⟩ : ∃ r, pb (adP ss fs st1 zs st2 ys kd) = r := ⟨_, rfl⟩
  have HRV : Hid (adR ss fs st1 zs st2 ys kd = .tuple #[.bool r1, .bool r2]) := Lib.hid (by unfold adR; rw [hr1e, hr2e])
  clear hr1e hr2e
  go_enter Try.func8, Try.ntmps8
  go_wp2_with fail
  obtain ⟨W, hW⟩ : ∃ W, (((w.alloc (Obj.cells #[.slice A1 n1 c1, .slice A2 n2 c2] 25)).alloc (Obj.cells #[.int .i64 st1, .slice Azs nzs czs] 59)).alloc (Obj.cells #[.int .i64 st2, .slice Ays nys cys] 59)) = W := ⟨_, rfl⟩
  have hk0_0 : W.cell? ⟨w.heap.size, 0, none⟩ = some (.slice A1 n1 c1) := by rw [← hW]; simp [go_sem]
  have hk0_1 : W.cell? ⟨w.heap.size, 1, none⟩ = some (.slice A2 n2 c2) := by rw [← hW]; simp [go_sem]
  have hk1_0 : W.cell? ⟨w.heap.size + 1, 0, none⟩ = some (.int .i64 st1) := by rw [← hW]; simp [go_sem]
  have hk1_1 : W.cell? ⟨w.heap.size + 1, 1, none⟩ = some (.slice Azs nzs czs) := by rw [← hW]; simp [go_sem]
  have hk2_0 : W.cell? ⟨w.heap.size + 1 + 1, 0, none⟩ = some (.int .i64 st2) := by rw [← hW]; simp [go_sem]
  have hk2_1 : W.cell? ⟨w.heap.size + 1 + 1, 1, none⟩ = some (.slice Ays nys cys) := by rw [← hW]; simp [go_sem]
  have hz : w.heap.size + 1 + 1 < W.heap.size := by rw [← hW]; simp
  have hbw : Below w.heap.size w W := by rw [← hW]; exact ((((Below.refl w.heap.size w).alloc (Nat.le_refl _) _).alloc (by simp) _).alloc (by simp; omega) _)
  have HBW := Lib.hid hbw
  rw [hW]
  clear hW
  have HR1 : Hid (∀ V, Below W.heap.size W V → Rd V V.heap.size A1 (ss.map Value.string)) := Lib.hid fun V hV => (hr1.moved hbw).moved hV
  clear hr1
  have HR2 : Hid (∀ V, Below W.heap.size W V → Rd V V.heap.size A2 (fs.flatMap Q4.cells)) := Lib.hid fun V hV => (hr2.moved hbw).moved hV
  clear hr2
  have HK0_0 : Hid (∀ V, Below W.heap.size W V → V.cell? ⟨w.heap.size, 0, none⟩ = some (.slice A1 n1 c1)) := Lib.hid fun V hV => (hV.cell (p := ⟨_, _, none⟩) (by show w.heap.size < _; omega)).trans hk0_0
  have HK0_1 : Hid (∀ V, Below W.heap.size W V → V.cell? ⟨w.heap.size, 1, none⟩ = some (.slice A2 n2 c2)) := Lib.hid fun V hV => (hV.cell (p := ⟨_, _, none⟩) (by show w.heap.size < _; omega)).trans hk0_1
  have HRzs : Hid (∀ V, Below W.heap.size W V → Rd V V.heap.size Azs (zs.map (Value.int .i64))) := Lib.hid fun V hV => (hrzs.moved hbw).moved hV
  clear hrzs
  have HK1_0 : Hid (∀ V, Below W.heap.size W V → V.cell? ⟨w.heap.size + 1, 0, none⟩ = some (.int .i64 st1)) := Lib.hid fun V hV => (hV.cell (p := ⟨_, _, none⟩) (by show w.heap.size + 1 < _; omega)).trans hk1_0
  have HK1_1 : Hid (∀ V, Below W.heap.size W V → V.cell? ⟨w.heap.size + 1, 1, none⟩ = some (.slice Azs nzs czs)) := Lib.hid fun V hV => (hV.cell (p := ⟨_, _, none⟩) (by show w.heap.size + 1 < _; omega)).trans hk1_1
  have HRys : Hid (∀ V, Below W.heap.size W V → Rd V V.heap.size Ays (ys.map (Value.int .i64))) := Lib.hid fun V hV => (hrys.moved hbw).moved hV
  clear hrys
  have HK2_0 : Hid (∀ V, Below W.heap.size W V → V.cell? ⟨w.heap.size + 1 + 1, 0, none⟩ = some (.int .i64 st2)) := Lib.hid fun V hV => (hV.cell (p := ⟨_, _, none⟩) (by show w.heap.size + 1 + 1 < _; omega)).trans hk2_0
  have HK2_1 : Hid (∀ V, Below W.heap.size W V → V.cell? ⟨w.heap.size + 1 + 1, 1, none⟩ = some (.slice Ays nys cys)) := Lib.hid fun V hV => (hV.cell (p := ⟨_, _, none⟩) (by show w.heap.size + 1 + 1 < _; omega)).trans hk2_1
  clear hk0_0 hk0_1
  clear hk1_0 hk1_1
  clear hk2_0 hk2_1
  have HZ := Lib.hid hz
  clear hz hbw
  have B0 := Lib.hid (Below.refl W.heap.size W)
  refine (szNet A1 A2 n1 c1 n2 c2 1048576 ss fs W HN1.out hm1 (HR1.out _ B0.out) HWS.out hm2 (by omega) (by omega)).mono ?_
  rintro e w1 ⟨v0, rfl, hb1, hv00, hv10, hv20⟩
  have B1_W := Lib.hid (B0.out.trans (hb1.mono B0.out.size))
  have HLAST1 := Lib.hid hb1
  clear hb1
  by_cases hneg0 : v0 < 0
  · go_wp2
    go_ret
    exact ⟨rfl, HBW.out.trans (B1_W.out.mono HBW.out.size)⟩
  have hp0 : 0 ≤ v0 := by omega
  have hsm1 : n1 ≤ 1048576 := by have := hv20 hp0; omega
  have hsm2 : n2 ≤ 1048576 := by have := hv20 hp0; omega
  have HSZ0 := Lib.hid (hv20 hp0)
  clear hneg0 hv20 hm1 hm2
  have ka1_0 := HK1_0.out _ B1_W.out
  have ka1_1 := HK1_1.out _ B1_W.out
  go_wp2_with fail
  clear ka1_0 ka1_1
  refine (szRt _ Azs nzs czs v0 w1 hmzs (by omega) (by omega)).mono ?_
  rintro e w2 ⟨v1, rfl, hb2, hv01, hv11, hv21⟩
  have B2_W := Lib.hid (B1_W.out.trans (hb2.mono B1_W.out.size))
  have HLAST2 := Lib.hid hb2
  clear hb2
  by_cases hneg1 : v1 < 0
  · go_wp2
    go_ret
    exact ⟨rfl, HBW.out.trans (B2_W.out.mono HBW.out.size)⟩
  have hp1 : 0 ≤ v1 := by omega
  have hsmzs : nzs ≤ 1048576 := by have := hv21 hp1; omega
  have HSZ1 := Lib.hid (hv21 hp1)
  clear hneg1 hv21 hmzs
  have ka2_0 := HK2_0.out _ B2_W.out
  have ka2_1 := HK2_1.out _ B2_W.out
  go_wp2_with fail
  clear ka2_0 ka2_1
  refine (szRt _ Ays nys cys v1 w2 hmys (by omega) (by omega)).mono ?_
  rintro e w3 ⟨v2, rfl, hb3, hv02, hv12, hv22⟩
  have B3_W := Lib.hid (B2_W.out.trans (hb3.mono B2_W.out.size))
  have HLAST3 := Lib.hid hb3
  clear hb3
  by_cases hneg2 : v2 < 0
  · go_wp2
    go_ret
    exact ⟨rfl, HBW.out.trans (B3_W.out.mono HBW.out.size)⟩
  have hp2 : 0 ≤ v2 := by omega
  have hsmys : nys ≤ 1048576 := by have := hv22 hp2; omega
  have HSZ2 := Lib.hid (hv22 hp2)
  clear hneg2 hv22 hmys
  have ka0_0 := HK0_0.out _ B3_W.out
  have ka0_1 := HK0_1.out _ B3_W.out
  have ka1_0 := HK1_0.out _ B3_W.out
  have ka1_1 := HK1_1.out _ B3_W.out
  have ka2_0 := HK2_0.out _ B3_W.out
  have ka2_1 := HK2_1.out _ B3_W.out
  have hbd : Bel w3 w3.drew := Bel.of (Below.refl _ _).drew
  have hgw0 : w.heap.size < w3.heap.size := Nat.lt_of_lt_of_le (by have := HZ.out; omega) B3_W.out.size
  have hgw1 : w.heap.size + 1 < w3.heap.size := Nat.lt_of_lt_of_le (by have := HZ.out; omega) B3_W.out.size
  have hgw2 : w.heap.size + 1 + 1 < w3.heap.size := Nat.lt_of_lt_of_le (by have := HZ.out; omega) B3_W.out.size
  go_upto_region 11 with fail
  go_cut [10, 11] (fun s10 s11 wx => s10 = .bool r1 ∧ s11 = .bool r2 ∧ Bel w3 wx)
  case first =>
    go_region_held3 (fun U => U.cell? ⟨w.heap.size, 0, none⟩ = some (.slice A1 n1 c1) ∧ U.cell? ⟨w.heap.size, 1, none⟩ = some (.slice A2 n2 c2) ∧ U.cell? ⟨w.heap.size + 1, 0, none⟩ = some (.int .i64 st1) ∧ U.cell? ⟨w.heap.size + 1, 1, none⟩ = some (.slice Azs nzs czs) ∧ U.cell? ⟨w.heap.size + 1 + 1, 0, none⟩ = some (.int .i64 st2) ∧ U.cell? ⟨w.heap.size + 1 + 1, 1, none⟩ = some (.slice Ays nys cys) ∧ Bel w3 U)
      (first | go_keep | (go_split_ands; (refine ⟨?_, ?_, ?_, ?_, ?_, ?_, ?_⟩ <;> first | assumption | exact Bel.step (by assumption) hbc1a | exact (Bel.at_ (by assumption) hbc1a (by assumption)).trans (by assumption) | exact Bel.step (by assumption) hbc1b | exact (Bel.at_ (by assumption) hbc1b (by assumption)).trans (by assumption) | exact Bel.step (by assumption) hbc1c | exact (Bel.at_ (by assumption) hbc1c (by assumption)).trans (by assumption) | exact Bel.step (by assumption) hbc1z | exact (Bel.at_ (by assumption) hbc1z (by assumption)).trans (by assumption))))
      (first
        | (go_at_call 12
           go_split_ands
           refine (toNet A1 A2 n1 c1 n2 c2 ss fs _ HN1.out (HR1.out _ (Below.trans B3_W.out ((Bel.out (by assumption)).mono B3_W.out.size))) hsm1 HN2.out (HR2.out _ (Below.trans B3_W.out ((Bel.out (by assumption)).mono B3_W.out.size))) hsm2).mono ?_
           rintro e u1a ⟨c1a1, c1a2, rfl, hoc1a1, hoc1a2, hbc1a⟩
           have Rc1a1 : Hid (∀ V, Below u1a.heap.size u1a V → Rd V V.heap.size (some ⟨c1a1, 0, none⟩) (ss.map Value.string)) := Lib.hid fun V hV => (Rd.ofOwnK hoc1a1).moved hV
           have Rc1a2 : Hid (∀ V, Below u1a.heap.size u1a V → Rd V V.heap.size (some ⟨c1a2, 0, none⟩) (fs.flatMap Q4.cells)) := Lib.hid fun V hV => (Rd.ofOwnK hoc1a2).moved hV
           clear hoc1a1 hoc1a2)
        | (go_at_call 29
           go_split_ands
           with_reducible refine (toRt st1 Azs nzs czs zs _ HNzs.out (HRzs.out _ (Below.trans B3_W.out ((Bel.out (by assumption)).mono B3_W.out.size))) hsmzs).mono ?_
           rintro e u1b ⟨c1b, rfl, hgc1b, hoc1b, hbc1b⟩
           have Rc1b : Hid (∀ V, Below u1b.heap.size u1b V → Rd V V.heap.size (some ⟨c1b, 0, none⟩) (zs.map (Value.int .i64))) := Lib.hid fun V hV => (Rd.ofOwnK hoc1b).moved hV
           clear hoc1b hgc1b)
        | (go_at_call 29
           go_split_ands
           with_reducible refine (toRt st2 Ays nys cys ys _ HNys.out (HRys.out _ (Below.trans B3_W.out ((Bel.out (by assumption)).mono B3_W.out.size))) hsmys).mono ?_
           rintro e u1c ⟨c1c, rfl, hgc1c, hoc1c, hbc1c⟩
           have Rc1c : Hid (∀ V, Below u1c.heap.size u1c V → Rd V V.heap.size (some ⟨c1c, 0, none⟩) (ys.map (Value.int .i64))) := Lib.hid fun V hV => (Rd.ofOwnK hoc1c).moved hV
           clear hoc1c hgc1c)
        | (go_at_call 45
           go_split_ands
           refine (specAD ⟨HN1.out, hsm1, Nat.le_refl _, Rc1a1.out _ (by first | exact Below.refl _ _ | assumption | (apply belT; assumption; assumption)), HWS.out, HN2.out, hsm2, Rc1a2.out _ (by first | exact Below.refl _ _ | assumption | (apply belT; assumption; assumption))⟩ st1 (c := nzs) HNzs.out (Rc1b.out _ (by first | exact Below.refl _ _ | assumption | (apply belT; assumption; assumption))) hsmzs st2 (c3 := nys) HNys.out (Rc1c.out _ (by first | exact Below.refl _ _ | assumption | (apply belT; assumption; assumption))) hsmys kd).mono ?_
           rw [HRV.out]
           rintro e u1z ⟨rfl, hbc1z⟩))
    all_goals
      go_split_ands
      have hbl : Bel w3 u1z := by assumption
      clear ka0_0 ka0_1 ka1_0 ka1_1 ka2_0 ka2_1
      go_wp2_with fail
      go_meet
      exact ⟨rfl, rfl, hbl⟩
  case rest =>
  clear hbd hgw0 hgw1 hgw2 ka0_0 ka0_1 ka1_0 ka1_1 ka2_0 ka2_1
  revert hcut; generalize wc = wc1; intro hcut
  obtain ⟨h0_, h1_, hbl⟩ := hcut
  subst h0_ h1_
  have Ewc1_W := Lib.hid (B3_W.out.trans ((Bel.out hbl).mono B3_W.out.size))
  clear hbl
  have ka0_0 := HK0_0.out _ Ewc1_W.out
  have ka0_1 := HK0_1.out _ Ewc1_W.out
  go_wp2_with fail
  clear ka0_0 ka0_1
  have ZPRE0 := Lib.hid (Nat.le_refl 0)
  refine (toNet A1 A2 n1 c1 n2 c2 ss fs wc1 HN1.out (HR1.out _ Ewc1_W.out) hsm1 HN2.out (HR2.out _ Ewc1_W.out) hsm2).mono ?_
  rintro e w4 ⟨x01, x02, rfl, hox01, hox02, hb4⟩
  have B4_W := Lib.hid (Ewc1_W.out.trans (hb4.mono Ewc1_W.out.size))
  have HLAST4 := Lib.hid hb4
  clear hb4
  have Ox01 := Lib.hid hox01
  have Rx01 : Hid (∀ V, Below w4.heap.size w4 V → Rd V V.heap.size (some ⟨x01, 0, none⟩) (ss.map Value.string)) := Lib.hid fun V hV => (Rd.ofOwnK hox01).moved hV
  have Ox02 := Lib.hid hox02
  have Rx02 : Hid (∀ V, Below w4.heap.size w4 V → Rd V V.heap.size (some ⟨x02, 0, none⟩) (fs.flatMap Q4.cells)) := Lib.hid fun V hV => (Rd.ofOwnK hox02).moved hV
  clear hox01 hox02
  have Zw4 := Lib.hid (Below.refl w4.heap.size w4)
  have ka1_0 := HK1_0.out _ B4_W.out
  have ka1_1 := HK1_1.out _ B4_W.out
  have hgn : w.heap.size + 1 < w4.heap.size := Nat.lt_of_lt_of_le (by have := HZ.out; omega) B4_W.out.size
  go_wp2_with fail
  clear ka1_0 ka1_1 hgn
  obtain ⟨V0, hV0⟩ : ∃ V, (w4.alloc (Obj.cells #[.slice (some ⟨x01, 0, none⟩) n1 n1, .slice (some ⟨x02, 0, none⟩) n2 n2] 31)) = V := ⟨_, rfl⟩
  have hx0_0 : V0.cell? ⟨w4.heap.size, 0, none⟩ = some (.slice (some ⟨x01, 0, none⟩) n1 n1) := by rw [← hV0]; simp [go_sem]
  have hx0_1 : V0.cell? ⟨w4.heap.size, 1, none⟩ = some (.slice (some ⟨x02, 0, none⟩) n2 n2) := by rw [← hV0]; simp [go_sem]
  have hzV0 : w4.heap.size < V0.heap.size := by rw [← hV0]; simp
  have hbV0 : Below w4.heap.size w4 V0 := by rw [← hV0]; exact (Below.refl _ _).alloc (Nat.le_refl _) _
  rw [hV0]
  clear hV0
  have CV0_W := Lib.hid (B4_W.out.trans (hbV0.mono B4_W.out.size))
  have CV0_w4 := Lib.hid (Zw4.out.trans (hbV0.mono Zw4.out.size))
  have HX0_0 : Hid (∀ U, Below V0.heap.size V0 U → U.cell? ⟨w4.heap.size, 0, none⟩ = some (.slice (some ⟨x01, 0, none⟩) n1 n1)) := Lib.hid fun U hU => (hU.cell (p := ⟨_, _, none⟩) hzV0).trans hx0_0
  have HX0_1 : Hid (∀ U, Below V0.heap.size V0 U → U.cell? ⟨w4.heap.size, 1, none⟩ = some (.slice (some ⟨x02, 0, none⟩) n2 n2)) := Lib.hid fun U hU => (hU.cell (p := ⟨_, _, none⟩) hzV0).trans hx0_1
  have HZV0 := Lib.hid hzV0
  clear hzV0 hbV0 hx0_0 hx0_1
  have ZV0 := Lib.hid (Below.refl V0.heap.size V0)
  have ZPRE1 := Lib.hid (Nat.le_refl 0)
  refine (toRt st1 Azs nzs czs zs V0 HNzs.out (HRzs.out _ CV0_W.out) hsmzs).mono ?_
  rintro e w5 ⟨x1, rfl, hgx1, hox1, hb5⟩
  have B5_W := Lib.hid (CV0_W.out.trans (hb5.mono CV0_W.out.size))
  have B5_w4 := Lib.hid (CV0_w4.out.trans (hb5.mono CV0_w4.out.size))
  have B5_V0 := Lib.hid (ZV0.out.trans (hb5.mono ZV0.out.size))
  have HLAST5 := Lib.hid hb5
  clear hb5
  have Ox1 := Lib.hid hox1
  have Rx1 : Hid (∀ V, Below w5.heap.size w5 V → Rd V V.heap.size (some ⟨x1, 0, none⟩) (zs.map (Value.int .i64))) := Lib.hid fun V hV => (Rd.ofOwnK hox1).moved hV
  clear hox1
  have Zw5 := Lib.hid (Below.refl w5.heap.size w5)
  have ka2_0 := HK2_0.out _ B5_W.out
  have ka2_1 := HK2_1.out _ B5_W.out
  have hgn : w.heap.size + 1 + 1 < w5.heap.size := Nat.lt_of_lt_of_le (by have := HZ.out; omega) B5_W.out.size
  go_wp2_with fail
  clear ka2_0 ka2_1 hgn
  obtain ⟨V1, hV1⟩ : ∃ V, (w5.alloc (Obj.cells #[.int .i64 st1, .slice (some ⟨x1, 0, none⟩) nzs nzs] 65)) = V := ⟨_, rfl⟩
  have hx1_0 : V1.cell? ⟨w5.heap.size, 0, none⟩ = some (.int .i64 st1) := by rw [← hV1]; simp [go_sem]
  have hx1_1 : V1.cell? ⟨w5.heap.size, 1, none⟩ = some (.slice (some ⟨x1, 0, none⟩) nzs nzs) := by rw [← hV1]; simp [go_sem]
  have hzV1 : w5.heap.size < V1.heap.size := by rw [← hV1]; simp
  have hbV1 : Below w5.heap.size w5 V1 := by rw [← hV1]; exact (Below.refl _ _).alloc (Nat.le_refl _) _
  rw [hV1]
  clear hV1
  have CV1_W := Lib.hid (B5_W.out.trans (hbV1.mono B5_W.out.size))
  have CV1_w4 := Lib.hid (B5_w4.out.trans (hbV1.mono B5_w4.out.size))
  have CV1_V0 := Lib.hid (B5_V0.out.trans (hbV1.mono B5_V0.out.size))
  have CV1_w5 := Lib.hid (Zw5.out.trans (hbV1.mono Zw5.out.size))
  have HX1_0 : Hid (∀ U, Below V1.heap.size V1 U → U.cell? ⟨w5.heap.size, 0, none⟩ = some (.int .i64 st1)) := Lib.hid fun U hU => (hU.cell (p := ⟨_, _, none⟩) hzV1).trans hx1_0
  have HX1_1 : Hid (∀ U, Below V1.heap.size V1 U → U.cell? ⟨w5.heap.size, 1, none⟩ = some (.slice (some ⟨x1, 0, none⟩) nzs nzs)) := Lib.hid fun U hU => (hU.cell (p := ⟨_, _, none⟩) hzV1).trans hx1_1
  have HZV1 := Lib.hid hzV1
  clear hzV1 hbV1 hx1_0 hx1_1
  have ZV1 := Lib.hid (Below.refl V1.heap.size V1)
  have ZPRE2 := Lib.hid (Nat.le_refl 0)
  refine (toRt st2 Ays nys cys ys V1 HNys.out (HRys.out _ CV1_W.out) hsmys).mono ?_
  rintro e w6 ⟨x2, rfl, hgx2, hox2, hb6⟩
  have B6_W := Lib.hid (CV1_W.out.trans (hb6.mono CV1_W.out.size))
  have B6_w4 := Lib.hid (CV1_w4.out.trans (hb6.mono CV1_w4.out.size))
  have B6_V0 := Lib.hid (CV1_V0.out.trans (hb6.mono CV1_V0.out.size))
  have B6_w5 := Lib.hid (CV1_w5.out.trans (hb6.mono CV1_w5.out.size))
  have B6_V1 := Lib.hid (ZV1.out.trans (hb6.mono ZV1.out.size))
  have HLAST6 := Lib.hid hb6
  clear hb6
  have Ox2 := Lib.hid hox2
  have Rx2 : Hid (∀ V, Below w6.heap.size w6 V → Rd V V.heap.size (some ⟨x2, 0, none⟩) (ys.map (Value.int .i64))) := Lib.hid fun V hV => (Rd.ofOwnK hox2).moved hV
  clear hox2
  have Zw6 := Lib.hid (Below.refl w6.heap.size w6)
  have kz0_0 := HX0_0.out _ B6_V0.out
  have kz0_1 := HX0_1.out _ B6_V0.out
  have hgz0 : w4.heap.size < w6.heap.size := Nat.lt_of_lt_of_le HZV0.out B6_V0.out.size
  have kz1_0 := HX1_0.out _ B6_V1.out
  have kz1_1 := HX1_1.out _ B6_V1.out
  have hgz1 : w5.heap.size < w6.heap.size := Nat.lt_of_lt_of_le HZV1.out B6_V1.out.size
  go_wp2_with fail
  clear kz0_0 kz0_1 hgz0 kz1_0 kz1_1 hgz1
  obtain ⟨V2, hV2⟩ : ∃ V, (w6.alloc (Obj.cells #[.int .i64 st2, .slice (some ⟨x2, 0, none⟩) nys nys] 65)) = V := ⟨_, rfl⟩
  have hx2_0 : V2.cell? ⟨w6.heap.size, 0, none⟩ = some (.int .i64 st2) := by rw [← hV2]; simp [go_sem]
  have hx2_1 : V2.cell? ⟨w6.heap.size, 1, none⟩ = some (.slice (some ⟨x2, 0, none⟩) nys nys) := by rw [← hV2]; simp [go_sem]
  have hzV2 : w6.heap.size < V2.heap.size := by rw [← hV2]; simp
  have hbV2 : Below w6.heap.size w6 V2 := by rw [← hV2]; exact (Below.refl _ _).alloc (Nat.le_refl _) _
  rw [hV2]
  clear hV2
  have CV2_W := Lib.hid (B6_W.out.trans (hbV2.mono B6_W.out.size))
  have CV2_w4 := Lib.hid (B6_w4.out.trans (hbV2.mono B6_w4.out.size))
  have CV2_V0 := Lib.hid (B6_V0.out.trans (hbV2.mono B6_V0.out.size))
  have CV2_w5 := Lib.hid (B6_w5.out.trans (hbV2.mono B6_w5.out.size))
  have CV2_V1 := Lib.hid (B6_V1.out.trans (hbV2.mono B6_V1.out.size))
  have CV2_w6 := Lib.hid (Zw6.out.trans (hbV2.mono Zw6.out.size))
  have HX2_0 : Hid (∀ U, Below V2.heap.size V2 U → U.cell? ⟨w6.heap.size, 0, none⟩ = some (.int .i64 st2)) := Lib.hid fun U hU => (hU.cell (p := ⟨_, _, none⟩) hzV2).trans hx2_0
  have HX2_1 : Hid (∀ U, Below V2.heap.size V2 U → U.cell? ⟨w6.heap.size, 1, none⟩ = some (.slice (some ⟨x2, 0, none⟩) nys nys)) := Lib.hid fun U hU => (hU.cell (p := ⟨_, _, none⟩) hzV2).trans hx2_1
  have HZV2 := Lib.hid hzV2
  clear hzV2 hbV2 hx2_0 hx2_1
  have ZV2 := Lib.hid (Below.refl V2.heap.size V2)
  refine (implAD ⟨HN1.out, hsm1, Nat.le_refl _, Rx01.out _ CV2_w4.out, HWS.out, HN2.out, hsm2, Rx02.out _ CV2_w4.out⟩ st1 (c := nzs) HNzs.out (Rx1.out _ CV2_w5.out) hsmzs st2 (c3 := nys) HNys.out (Rx2.out _ CV2_w6.out) hsmys kd).mono ?_
  rw [HRV.out]
  rintro e w7 ⟨rfl, hb7⟩
  have B7_W := Lib.hid (CV2_W.out.trans (hb7.mono CV2_W.out.size))
  have B7_w4 := Lib.hid (CV2_w4.out.trans (hb7.mono CV2_w4.out.size))
  have B7_V0 := Lib.hid (CV2_V0.out.trans (hb7.mono CV2_V0.out.size))
  have B7_w5 := Lib.hid (CV2_w5.out.trans (hb7.mono CV2_w5.out.size))
  have B7_V1 := Lib.hid (CV2_V1.out.trans (hb7.mono CV2_V1.out.size))
  have B7_w6 := Lib.hid (CV2_w6.out.trans (hb7.mono CV2_w6.out.size))
  have B7_V2 := Lib.hid (ZV2.out.trans (hb7.mono ZV2.out.size))
  have HLAST7 := Lib.hid hb7
  clear hb7
  have ka0_0 := HK0_0.out _ B7_W.out
  have ka0_1 := HK0_1.out _ B7_W.out
  have kx0_0 := HX0_0.out _ B7_V0.out
  have kx0_1 := HX0_1.out _ B7_V0.out
  have hgx : w4.heap.size < w7.heap.size := Nat.lt_of_lt_of_le HZV0.out B7_V0.out.size
  have hgw : w.heap.size < w7.heap.size := Nat.lt_of_lt_of_le (by have := HZ.out; omega) B7_W.out.size
  have hbd : Bel w7 w7.drew := Bel.of (Below.refl _ _).drew
  go_upto_region 18 with fail
  go_cut [69] (fun s69 wx => s69 = .bool false ∧ Bel w7 wx)
  case first =>
    go_region_held3 (fun U => U.cell? ⟨w4.heap.size, 0, none⟩ = some (.slice (some ⟨x01, 0, none⟩) n1 n1) ∧ U.cell? ⟨w4.heap.size, 1, none⟩ = some (.slice (some ⟨x02, 0, none⟩) n2 n2) ∧ U.cell? ⟨w.heap.size, 0, none⟩ = some (.slice A1 n1 c1) ∧ U.cell? ⟨w.heap.size, 1, none⟩ = some (.slice A2 n2 c2) ∧ Bel w7 U)
      (first | go_keep | (go_split_ands; (refine ⟨?_, ?_, ?_, ?_, ?_⟩ <;> first | assumption | exact Bel.step (by assumption) hbt8 | exact Bel.step (by assumption) hbt9 | exact (Bel.at_ (by assumption) hbt8 (by assumption)).trans (by assumption) | exact (Bel.at_ (by assumption) hbt9 (by assumption)).trans (by assumption))))
      (first
        | (go_at_call 12
           go_split_ands
           refine (toNet A1 A2 n1 c1 n2 c2 ss fs _ HN1.out (HR1.out _ (Below.trans B7_W.out ((Bel.out (by assumption)).mono B7_W.out.size))) hsm1 HN2.out (HR2.out _ (Below.trans B7_W.out ((Bel.out (by assumption)).mono B7_W.out.size))) hsm2).mono ?_
           rintro e t8 ⟨y91, y92, rfl, hoy91, hoy92, hbt8⟩
           have Sy91 := Lib.hid (Rd.ofOwnK hoy91)
           have Sy92 := Lib.hid (Rd.ofOwnK hoy92)
           clear hoy91 hoy92)
        | (go_at_call 15
           go_split_ands
           refine (eqNet x01 x02 y91 y92 n1 n2 n1 n2 n1 n2 ss fs t8 HN1.out hsm1 HN2.out hsm2 (Rx01.out _ (Below.trans B7_w4.out ((Bel.out (by assumption)).mono B7_w4.out.size))) (Sy91.out) (Rx02.out _ (Below.trans B7_w4.out ((Bel.out (by assumption)).mono B7_w4.out.size))) (Sy92.out)).mono ?_
           rintro e t9 ⟨rfl, hbt9⟩))
    all_goals
      go_split_ands
      have hbl : Bel w7 t9 := by assumption
      go_wp2_with fail
      go_meet
      exact ⟨rfl, hbl⟩
  case rest =>
  clear hbd hgx hgw ka0_0 ka0_1 kx0_0 kx0_1
  revert hcut; generalize wc = wc2; intro hcut
  obtain ⟨hs_, hbl⟩ := hcut
  subst hs_
  have Ewc2_W := Lib.hid (B7_W.out.trans ((Bel.out hbl).mono B7_W.out.size))
  have Ewc2_w4 := Lib.hid (B7_w4.out.trans ((Bel.out hbl).mono B7_w4.out.size))
  have Ewc2_V0 := Lib.hid (B7_V0.out.trans ((Bel.out hbl).mono B7_V0.out.size))
  have Ewc2_w5 := Lib.hid (B7_w5.out.trans ((Bel.out hbl).mono B7_w5.out.size))
  have Ewc2_V1 := Lib.hid (B7_V1.out.trans ((Bel.out hbl).mono B7_V1.out.size))
  have Ewc2_w6 := Lib.hid (B7_w6.out.trans ((Bel.out hbl).mono B7_w6.out.size))
  have Ewc2_V2 := Lib.hid (B7_V2.out.trans ((Bel.out hbl).mono B7_V2.out.size))
  clear hbl
  have ka1_0 := HK1_0.out _ Ewc2_W.out
  have ka1_1 := HK1_1.out _ Ewc2_W.out
  have kx1_0 := HX1_0.out _ Ewc2_V1.out
  have kx1_1 := HX1_1.out _ Ewc2_V1.out
  have hgx : w5.heap.size < wc2.heap.size := Nat.lt_of_lt_of_le HZV1.out Ewc2_V1.out.size
  have hgw : w.heap.size + 1 < wc2.heap.size := Nat.lt_of_lt_of_le (by have := HZ.out; omega) Ewc2_W.out.size
  have hbd : Bel wc2 wc2.drew := Bel.of (Below.refl _ _).drew
  go_upto_region 20 with fail
  go_cut [74] (fun s74 wx => s74 = .bool false ∧ Bel wc2 wx)
  case first =>
    go_region_held3 (fun U => U.cell? ⟨w5.heap.size, 0, none⟩ = some (.int .i64 st1) ∧ U.cell? ⟨w5.heap.size, 1, none⟩ = some (.slice (some ⟨x1, 0, none⟩) nzs nzs) ∧ U.cell? ⟨w.heap.size + 1, 0, none⟩ = some (.int .i64 st1) ∧ U.cell? ⟨w.heap.size + 1, 1, none⟩ = some (.slice Azs nzs czs) ∧ Bel wc2 U)
      (first | go_keep | (go_split_ands; (refine ⟨?_, ?_, ?_, ?_, ?_⟩ <;> first | assumption | exact Bel.step (by assumption) hbt10 | exact Bel.step (by assumption) hbt11 | exact (Bel.at_ (by assumption) hbt10 (by assumption)).trans (by assumption) | exact (Bel.at_ (by assumption) hbt11 (by assumption)).trans (by assumption))))
      (first
        | (go_at_call 29
           go_split_ands
           refine (toRt st1 Azs nzs czs zs _ HNzs.out (HRzs.out _ (Below.trans Ewc2_W.out ((Bel.out (by assumption)).mono Ewc2_W.out.size))) hsmzs).mono ?_
           rintro e t10 ⟨y11, rfl, hgy11, hoy11, hbt10⟩
           have Sy11 := Lib.hid (Rd.ofOwnK hoy11)
           clear hoy11 hgy11)
        | (go_at_call 32
           go_split_ands
           refine (eqRt st1 x1 y11 nzs nzs nzs zs t10 HNzs.out hsmzs (Rx1.out _ (Below.trans Ewc2_w5.out ((Bel.out (by assumption)).mono Ewc2_w5.out.size))) (Sy11.out)).mono ?_
           rintro e t11 ⟨rfl, hbt11⟩))
    all_goals
      go_split_ands
      have hbl : Bel wc2 t11 := by assumption
      go_wp2_with fail
      go_meet
      exact ⟨rfl, hbl⟩
  case rest =>
  clear hbd hgx hgw ka1_0 ka1_1 kx1_0 kx1_1
  revert hcut; generalize wc = wc3; intro hcut
  obtain ⟨hs_, hbl⟩ := hcut
  subst hs_
  have Ewc3_W := Lib.hid (Ewc2_W.out.trans ((Bel.out hbl).mono Ewc2_W.out.size))
  have Ewc3_w4 := Lib.hid (Ewc2_w4.out.trans ((Bel.out hbl).mono Ewc2_w4.out.size))
  have Ewc3_V0 := Lib.hid (Ewc2_V0.out.trans ((Bel.out hbl).mono Ewc2_V0.out.size))
  have Ewc3_w5 := Lib.hid (Ewc2_w5.out.trans ((Bel.out hbl).mono Ewc2_w5.out.size))
  have Ewc3_V1 := Lib.hid (Ewc2_V1.out.trans ((Bel.out hbl).mono Ewc2_V1.out.size))
  have Ewc3_w6 := Lib.hid (Ewc2_w6.out.trans ((Bel.out hbl).mono Ewc2_w6.out.size))
  have Ewc3_V2 := Lib.hid (Ewc2_V2.out.trans ((Bel.out hbl).mono Ewc2_V2.out.size))
  clear hbl
  have ka2_0 := HK2_0.out _ Ewc3_W.out
  have ka2_1 := HK2_1.out _ Ewc3_W.out
  have kx2_0 := HX2_0.out _ Ewc3_V2.out
  have kx2_1 := HX2_1.out _ Ewc3_V2.out
  have hgx : w6.heap.size < wc3.heap.size := Nat.lt_of_lt_of_le HZV2.out Ewc3_V2.out.size
  have hgw : w.heap.size + 1 + 1 < wc3.heap.size := Nat.lt_of_lt_of_le (by have := HZ.out; omega) Ewc3_W.out.size
  have hbd : Bel wc3 wc3.drew := Bel.of (Below.refl _ _).drew
  go_upto_region 22 with fail
  go_cut [79] (fun s79 wx => s79 = .bool false ∧ Bel wc3 wx)
  case first =>
    go_region_held3 (fun U => U.cell? ⟨w6.heap.size, 0, none⟩ = some (.int .i64 st2) ∧ U.cell? ⟨w6.heap.size, 1, none⟩ = some (.slice (some ⟨x2, 0, none⟩) nys nys) ∧ U.cell? ⟨w.heap.size + 1 + 1, 0, none⟩ = some (.int .i64 st2) ∧ U.cell? ⟨w.heap.size + 1 + 1, 1, none⟩ = some (.slice Ays nys cys) ∧ Bel wc3 U)
      (first | go_keep | (go_split_ands; (refine ⟨?_, ?_, ?_, ?_, ?_⟩ <;> first | assumption | exact Bel.step (by assumption) hbt12 | exact Bel.step (by assumption) hbt13 | exact (Bel.at_ (by assumption) hbt12 (by assumption)).trans (by assumption) | exact (Bel.at_ (by assumption) hbt13 (by assumption)).trans (by assumption))))
      (first
        | (go_at_call 29
           go_split_ands
           refine (toRt st2 Ays nys cys ys _ HNys.out (HRys.out _ (Below.trans Ewc3_W.out ((Bel.out (by assumption)).mono Ewc3_W.out.size))) hsmys).mono ?_
           rintro e t12 ⟨y13, rfl, hgy13, hoy13, hbt12⟩
           have Sy13 := Lib.hid (Rd.ofOwnK hoy13)
           clear hoy13 hgy13)
        | (go_at_call 32
           go_split_ands
           refine (eqRt st2 x2 y13 nys nys nys ys t12 HNys.out hsmys (Rx2.out _ (Below.trans Ewc3_w6.out ((Bel.out (by assumption)).mono Ewc3_w6.out.size))) (Sy13.out)).mono ?_
           rintro e t13 ⟨rfl, hbt13⟩))
    all_goals
      go_split_ands
      have hbl : Bel wc3 t13 := by assumption
      go_wp2_with fail
      go_meet
      exact ⟨rfl, hbl⟩
  case rest =>
  clear hbd hgx hgw ka2_0 ka2_1 kx2_0 kx2_1
  revert hcut; generalize wc = wc4; intro hcut
  obtain ⟨hs_, hbl⟩ := hcut
  subst hs_
  have Ewc4_W := Lib.hid (Ewc3_W.out.trans ((Bel.out hbl).mono Ewc3_W.out.size))
  have Ewc4_w4 := Lib.hid (Ewc3_w4.out.trans ((Bel.out hbl).mono Ewc3_w4.out.size))
  have Ewc4_V0 := Lib.hid (Ewc3_V0.out.trans ((Bel.out hbl).mono Ewc3_V0.out.size))
  have Ewc4_w5 := Lib.hid (Ewc3_w5.out.trans ((Bel.out hbl).mono Ewc3_w5.out.size))
  have Ewc4_V1 := Lib.hid (Ewc3_V1.out.trans ((Bel.out hbl).mono Ewc3_V1.out.size))
  have Ewc4_w6 := Lib.hid (Ewc3_w6.out.trans ((Bel.out hbl).mono Ewc3_w6.out.size))
  have Ewc4_V2 := Lib.hid (Ewc3_V2.out.trans ((Bel.out hbl).mono Ewc3_V2.out.size))
  clear hbl
  go_wp2
  go_ret
  exact ⟨rfl, HBW.out.trans (Ewc4_W.out.mono HBW.out.size)⟩


theorem own : ownKnob Try.prog.godebug = none := by kernel_rfl
theorem laidOut : laidOutB Try.prog = true := by kernel_rfl
set_option maxRecDepth 100000 in
theorem lifted (os : Os) (started : os.Started) (H : Type) (enc : TypeId × Value → H) :
    ReturnsInHanded {} Try.checked os 8 .any (Rows.fnExactAreDisjointSpec.pre6 enc Try.prog Try.f8 Rows.fnExactAreDisjointRow.domain false) (Rows.fnExactAreDisjointSpec.post enc Try.prog Try.f8 false true false false) := by
  refine returnsInHanded_of_change_sized (C := Try.checked) own started (by kernel_rfl) Try.func8
    (ChangeSpec.witness6 (enc := enc) (C := Try.checked) false ⟨#[], #[.agg #[.slice none 0 0, .slice none 0 0], .agg #[.int .i64 0, .slice none 0 0], .agg #[.int .i64 0, .slice none 0 0], .int .i64 0], []⟩ 8 (by kernel_rfl) (by kernel_rfl) (by kernel_rfl) (by kernel_rfl)) ?_
  intro W base args ds gs before hval0 hW _ hsz0 _
  clear hsz0
  have hval : ∀ (j : Nat) t v, Try.f8.params[j]? = some t → args[j]? = some v → Value.okWide Try.prog W .any base t v := hval0
  have hW' := hW
  obtain ⟨p, q, hA0, hV, rfl, _, _⟩ := hW
  have hA : DataW.TrodAll enc Try.prog W 0 (fun _ => true) true Try.f8.params.toList args.toList ds p := hA0
  rw [Try.params8] at hA hval
  obtain ⟨v0, vs0, d0, ds0, p0, q0, hargs, rfl, rfl, h0, r0⟩ := trodAll_cons hA
  obtain ⟨v1, vs1, d1, ds1, p1, q1, rfl, rfl, rfl, h1, r1⟩ := trodAll_cons r0
  obtain ⟨v2, vs2, d2, ds2, p2, q2, rfl, rfl, rfl, h2, r2⟩ := trodAll_cons r1
  obtain ⟨v3, vs3, d3, ds3, p3, q3, rfl, rfl, rfl, h3, r3⟩ := trodAll_cons r2
  obtain ⟨rfl, rfl, rfl⟩ := trodAll_nil r3
  obtain rfl : args = #[v0, v1, v2, v3] := by cases args; simp_all
  obtain ⟨rfl, rfl⟩ := trodVars_none hV
  simp only [List.append_nil] at hW'
  have hlt0 : ∀ x ∈ p0, x.block < W.heap.size := fun x hx => by simpa using hW'.lt x (by simp [hx])
  have hlt1 : ∀ x ∈ p1, x.block < W.heap.size := fun x hx => by simpa using hW'.lt x (by simp [hx])
  have hlt2 : ∀ x ∈ p2, x.block < W.heap.size := fun x hx => by simpa using hW'.lt x (by simp [hx])
  have hlt3 : ∀ x ∈ p3, x.block < W.heap.size := fun x hx => by simpa using hW'.lt x (by simp [hx])
  have fin : ∀ W' : World, Below W.heap.size W W' → Rows.fnExactAreDisjointSpec.post enc Try.checked.prog Try.f8 false true false false W #[v0, v1, v2, v3] (.bool true) W' := by
    intro W' hb
    refine ⟨_, _, _, [] ++ [], (p0 ++ (p1 ++ (p2 ++ (p3 ++ [])))), [], hW', ?_, ?_, rfl, hb.frame _, fun h => by cases h⟩
    · exact trodAll_mk1 (shut_bool Try.underlying4 true)
    · exact trodAll_cons_mk (Below.trod laidOut (by kernel_rfl) (of_decide_eq_true (by kernel_rfl)) h0 hb hlt0) (trodAll_cons_mk (Below.trod laidOut (by kernel_rfl) (of_decide_eq_true (by kernel_rfl)) h1 hb hlt1) (trodAll_cons_mk (Below.trod laidOut (by kernel_rfl) (of_decide_eq_true (by kernel_rfl)) h2 hb hlt2) (trodAll_cons_mk (Below.trod laidOut (by kernel_rfl) (of_decide_eq_true (by kernel_rfl)) h3 hb hlt3) (trodAll_mk0))))
  clear hW' hV hA0
  obtain ⟨A0, n0, c0, s0, B0, m0, k0, z0, rfl, ⟨ha0, hb0, hc0, hd0⟩, ⟨he0, hf0, hg0, hh0⟩⟩ := open_net Try.underlying25 (by kernel_rfl) (by kernel_rfl) Try.underlying22 Try.underlying9 (by kernel_rfl) Try.underlying23 Try.underlying27 (by kernel_rfl) (by kernel_rfl) rfl (hint_of Try.underlying3 (by decide +kernel)) (hval 0 25 v0 rfl rfl) h0
  obtain ⟨t1, A1, n1, c1, z1, rfl, ht1, ha1, hb1, hc1, hd1⟩ := open_rt Try.underlying59 (by kernel_rfl) (by kernel_rfl) Try.underlying3 Try.underlying47 Try.underlying3 (by kernel_rfl) (hval 1 59 v1 rfl rfl) h1
  obtain ⟨t2, A2, n2, c2, z2, rfl, ht2, ha2, hb2, hc2, hd2⟩ := open_rt Try.underlying59 (by kernel_rfl) (by kernel_rfl) Try.underlying3 Try.underlying47 Try.underlying3 (by kernel_rfl) (hval 2 59 v2 rfl rfl) h2
  obtain ⟨a3, rfl, _, _, w3⟩ := open_int Try.underlying3 (hval 3 3 v3 rfl rfl) h3
  exact (walk A0 n0 c0 s0 B0 m0 k0 z0 t1 A1 n1 c1 z1 t2 A2 n2 c2 z2 a3 W ha0 hb0 hc0 hd0 he0 hf0 hg0 hh0 ht1 ha1 hb1 hc1 hd1 ht2 ha2 hb2 hc2 hd2 w3).mono fun e W' ⟨he, hb⟩ => ⟨_, he, fin W' hb⟩

theorem closed : joinedFacts Try.prog 8 Try.f8 Rows.fnExactAreDisjointSpec Rows.fnExactAreDisjointRow = true := by
  unfold joinedFacts
  rw [jn_mk, jn_li, jn_en]
  kernel_rfl
theorem over : Rows.fnExactAreDisjointRow.holds Try.pinned (OpenSpec.ofChange Rows.fnExactAreDisjointSpec) :=
  OpenClaim.holds_of_wide 8 Try.f8 rfl rfl rfl rfl rfl rfl rfl ⟨rfl, rfl, rfl, rfl, rfl⟩ rfl rfl rfl rfl rfl (by kernel_rfl) Try.func8 closed
    (of_decide_eq_true (by kernel_rfl)) (by unfold Func.isWrapper; first | (rw [if_pos (by decide +kernel)]; kernel_rfl) | (rw [if_neg (by decide +kernel)]; exact ⟨rfl, rfl⟩))
    (fun os started H enc _ => lifted os started H enc)

/-- THE STATEMENT -/
theorem proved : Rows.FnExactAreDisjointSaid :=
  over
end Go.Proofs.Ytkpendpjdemknaa.fnExactAreDisjoint
