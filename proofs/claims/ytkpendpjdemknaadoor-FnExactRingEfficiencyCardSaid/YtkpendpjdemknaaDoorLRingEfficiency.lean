/- Proved: at every argument impl.RingEfficiency answers as spec.RingEfficiency does and leaves its arguments alone (the law FnExactRingEfficiency returns true). The table of math/bits as Go's text lays it. -/
import Derived.Test.YtkpendpjdemknaaDoorRows
import Derived.Test.YtkpendpjdemknaaDoorCards
import Derived.Test.YtkpendpjdemknaaDoorTie
import Derived.Test.YtkpendpjdemknaaDoorJn
import Derived.JoinedOf
import Derived.Test.YtkpendpjdemknaaDoorGC
import Derived.Test.YtkpendpjdemknaaDoorGB
import Derived.Test.YtkpendpjdemknaaDoorPfQ
import Derived.WalkKit
import Derived.ProofKit
import Derived.OpenShut
import Derived.ShutString
import Derived.SizedLaws
import Derived.Carry
import Derived.LaidMore
import Derived.LaidHandle
import Derived.MakeChecks
import Derived.Stop.Joined
import Derived.SevenTiedAt
import Derived.SliceStrings
import Derived.DataBytes
import Derived.OpenVars
import Derived.ChangeVars
namespace Go.Proofs.YtkpendpjdemknaaDoor.fnExactRingEfficiency
open Go.ChangeShapes Go.WideShapes Go.ChangeAt Go.RowKit
open Go.ChangeMaps (open_string shut_string)

set_option maxRecDepth 100000 in
set_option maxHeartbeats 8000000 in
theorem walk (A1 : Option Addr) (n1 c1 : Nat) (ss : List ByteArray) (A2 : Option Addr) (n2 c2 : Nat) (fs : List Q4) (Azs : Option Addr) (nzs czs : Nat) (zs : List Int) (w : World) (hn1 : ss.length = n1) (hm1 : n1 ≤ maxLen) (hr1 : Rd w w.heap.size A1 (ss.map Value.string)) (hws : ∀ s ∈ ss, s.size ≤ maxLen) (hn2 : fs.length = n2) (hm2 : n2 ≤ maxLen) (hr2 : Rd w w.heap.size A2 (fs.flatMap Q4.cells)) (_hwf : ∀ q ∈ fs, q.wf) (hnzs : zs.length = nzs) (_hmzs : nzs ≤ maxLen) (hrzs : Rd w w.heap.size Azs (zs.map (Value.int .i64))) (_hwfzs : ∀ z ∈ zs, (Lit.int .i64 z).wf = true) (hpow : Tab w) :
    Calls Tryd.prog 4 #[.agg #[.slice A1 n1 c1, .slice A2 n2 c2], .slice Azs nzs czs] w fun e w' => e = .returned (.bool true) ∧ Below w.heap.size w w' := by
  have HN1 := Lib.hid hn1; have HN2 := Lib.hid hn2; have HWS := Lib.hid hws; clear hn1 hn2 hws _hwf
  have HNzs := Lib.hid hnzs; clear hnzs _hwfzs _hmzs
  obtain ⟨r1, hr1e⟩ : ∃ r, efV ss fs zs = r := ⟨_, rfl⟩
  obtain ⟨r2, hr2e⟩ : ∃ r, irB ss fs zs = r := ⟨_, rfl⟩
  have HRV : Hid (efR ss fs zs = .tuple #[.int .i64 r1, .bool r2]) := Lib.hid (by unfold efR; rw [hr1e, hr2e])
  clear hr1e hr2e
  by_cases hsmzs : nzs ≤ 1048576
  case neg =>
    have qzs : 1048576 < (nzs : Int) := by omega
    clear hsmzs
    go_enter Tryd.func4, Tryd.ntmps4
    go_wp2
    go_ret
    exact ⟨rfl, ((Below.refl w.heap.size w).alloc (Nat.le_refl _) _)⟩
  case pos =>
  go_enter Tryd.func4, Tryd.ntmps4
  go_wp2_with fail
  obtain ⟨W, hW⟩ : ∃ W, (w.alloc (Obj.cells #[.slice A1 n1 c1, .slice A2 n2 c2] 25)) = W := ⟨_, rfl⟩
  have hk0_0 : W.cell? ⟨w.heap.size, 0, none⟩ = some (.slice A1 n1 c1) := by rw [← hW]; simp [go_sem]
  have hk0_1 : W.cell? ⟨w.heap.size, 1, none⟩ = some (.slice A2 n2 c2) := by rw [← hW]; simp [go_sem]
  have hz : w.heap.size < W.heap.size := by rw [← hW]; simp
  have hbw : Below w.heap.size w W := by rw [← hW]; exact ((Below.refl w.heap.size w).alloc (Nat.le_refl _) _)
  have HBW := Lib.hid hbw
  have HTAB : Hid (∀ V, Below W.heap.size W V → Tab V) := Lib.hid fun V hV => (hpow.over hbw).over hV
  clear hpow
  rw [hW]
  clear hW
  have HR1 : Hid (∀ V, Below W.heap.size W V → Rd V V.heap.size A1 (ss.map Value.string)) := Lib.hid fun V hV => (hr1.moved hbw).moved hV
  clear hr1
  have HR2 : Hid (∀ V, Below W.heap.size W V → Rd V V.heap.size A2 (fs.flatMap Q4.cells)) := Lib.hid fun V hV => (hr2.moved hbw).moved hV
  clear hr2
  have HK0_0 : Hid (∀ V, Below W.heap.size W V → V.cell? ⟨w.heap.size, 0, none⟩ = some (.slice A1 n1 c1)) := Lib.hid fun V hV => (hV.cell (p := ⟨_, _, none⟩) (by show w.heap.size < _; omega)).trans hk0_0
  have HK0_1 : Hid (∀ V, Below W.heap.size W V → V.cell? ⟨w.heap.size, 1, none⟩ = some (.slice A2 n2 c2)) := Lib.hid fun V hV => (hV.cell (p := ⟨_, _, none⟩) (by show w.heap.size < _; omega)).trans hk0_1
  have HRzs : Hid (∀ V, Below W.heap.size W V → Rd V V.heap.size Azs (zs.map (Value.int .i64))) := Lib.hid fun V hV => (hrzs.moved hbw).moved hV
  clear hrzs
  clear hk0_0 hk0_1
  have HZ := Lib.hid hz
  clear hz hbw
  have B0 := Lib.hid (Below.refl W.heap.size W)
  refine (szNet A1 A2 n1 c1 n2 c2 1048576 ss fs W HN1.out hm1 (HR1.out _ B0.out) HWS.out hm2 (by omega) (by omega)).mono ?_
  rintro e w1 ⟨v0, rfl, hb1, hv00, hv10, hv20⟩
  have B1_W := Lib.hid (B0.out.trans (hb1.mono B0.out.size))
  have HLAST1 := Lib.hid hb1
  clear hb1
  by_cases hneg0 : v0 < 0
  · go_wp2
    go_ret
    exact ⟨rfl, HBW.out.trans (B1_W.out.mono HBW.out.size)⟩
  have hp0 : 0 ≤ v0 := by omega
  have hsm1 : n1 ≤ 1048576 := by have := hv20 hp0; omega
  have hsm2 : n2 ≤ 1048576 := by have := hv20 hp0; omega
  have HSZ0 := Lib.hid (hv20 hp0)
  clear hneg0 hv20 hm1 hm2
  have ka0_0 := HK0_0.out _ B1_W.out
  have ka0_1 := HK0_1.out _ B1_W.out
  go_wp2_with fail
  clear ka0_0 ka0_1
  refine (toNet A1 A2 n1 c1 n2 c2 ss fs w1 HN1.out (HR1.out _ B1_W.out) hsm1 HN2.out (HR2.out _ B1_W.out) hsm2).mono ?_
  rintro e w2 ⟨s01, s02, rfl, hos01, hos02, hb2⟩
  have B2_W := Lib.hid (B1_W.out.trans (hb2.mono B1_W.out.size))
  have HLAST2 := Lib.hid hb2
  clear hb2
  have Os01 := Lib.hid hos01
  have Rs01 : Hid (∀ V, Below w2.heap.size w2 V → Rd V V.heap.size (some ⟨s01, 0, none⟩) (ss.map Value.string)) := Lib.hid fun V hV => (Rd.ofOwnK hos01).moved hV
  have Os02 := Lib.hid hos02
  have Rs02 : Hid (∀ V, Below w2.heap.size w2 V → Rd V V.heap.size (some ⟨s02, 0, none⟩) (fs.flatMap Q4.cells)) := Lib.hid fun V hV => (Rd.ofOwnK hos02).moved hV
  clear hos01 hos02
  have Zw2 := Lib.hid (Below.refl w2.heap.size w2)
  go_wp2_with fail
  refine (toIntS Azs nzs czs zs w2 HNzs.out (HRzs.out _ B2_W.out) hsmzs).mono ?_
  rintro e w3 ⟨s1, hgs1, rfl, hos1, hb3⟩
  have B3_W := Lib.hid (B2_W.out.trans (hb3.mono B2_W.out.size))
  have B3_w2 := Lib.hid (Zw2.out.trans (hb3.mono Zw2.out.size))
  have HLAST3 := Lib.hid hb3
  clear hb3
  have Os1 := Lib.hid hos1
  have Rs1 : Hid (∀ V, Below w3.heap.size w3 V → Rd V V.heap.size (some ⟨s1, 0, none⟩) (zs.map (Value.int .i64))) := Lib.hid fun V hV => (Rd.ofOwnK hos1).moved hV
  clear hos1
  have Zw3 := Lib.hid (Below.refl w3.heap.size w3)
  go_wp2_with fail
  refine (specRE (c := nzs) ⟨HN1.out, hsm1, Nat.le_refl _, Rs01.out _ B3_w2.out, HWS.out, HN2.out, hsm2, Rs02.out _ B3_w2.out⟩ HNzs.out (Rs1.out _ Zw3.out) hsmzs (Nat.le_refl _)).mono ?_
  rw [HRV.out]
  rintro e w4 ⟨rfl, hb4⟩
  have B4_W := Lib.hid (B3_W.out.trans (hb4.mono B3_W.out.size))
  have B4_w2 := Lib.hid (B3_w2.out.trans (hb4.mono B3_w2.out.size))
  have B4_w3 := Lib.hid (Zw3.out.trans (hb4.mono Zw3.out.size))
  have HLAST4 := Lib.hid hb4
  clear hb4
  have ka0_0 := HK0_0.out _ B4_W.out
  have ka0_1 := HK0_1.out _ B4_W.out
  go_wp2_with fail
  clear ka0_0 ka0_1
  have ZPRE0 := Lib.hid (Nat.le_refl 0)
  refine (toNet A1 A2 n1 c1 n2 c2 ss fs w4 HN1.out (HR1.out _ B4_W.out) hsm1 HN2.out (HR2.out _ B4_W.out) hsm2).mono ?_
  rintro e w5 ⟨x01, x02, rfl, hox01, hox02, hb5⟩
  have B5_W := Lib.hid (B4_W.out.trans (hb5.mono B4_W.out.size))
  have HLAST5 := Lib.hid hb5
  clear hb5
  have Ox01 := Lib.hid hox01
  have Rx01 : Hid (∀ V, Below w5.heap.size w5 V → Rd V V.heap.size (some ⟨x01, 0, none⟩) (ss.map Value.string)) := Lib.hid fun V hV => (Rd.ofOwnK hox01).moved hV
  have Ox02 := Lib.hid hox02
  have Rx02 : Hid (∀ V, Below w5.heap.size w5 V → Rd V V.heap.size (some ⟨x02, 0, none⟩) (fs.flatMap Q4.cells)) := Lib.hid fun V hV => (Rd.ofOwnK hox02).moved hV
  clear hox01 hox02
  have Zw5 := Lib.hid (Below.refl w5.heap.size w5)
  go_wp2_with fail
  obtain ⟨V0, hV0⟩ : ∃ V, (w5.alloc (Obj.cells #[.slice (some ⟨x01, 0, none⟩) n1 n1, .slice (some ⟨x02, 0, none⟩) n2 n2] 32)) = V := ⟨_, rfl⟩
  have hx0_0 : V0.cell? ⟨w5.heap.size, 0, none⟩ = some (.slice (some ⟨x01, 0, none⟩) n1 n1) := by rw [← hV0]; simp [go_sem]
  have hx0_1 : V0.cell? ⟨w5.heap.size, 1, none⟩ = some (.slice (some ⟨x02, 0, none⟩) n2 n2) := by rw [← hV0]; simp [go_sem]
  have hzV0 : w5.heap.size < V0.heap.size := by rw [← hV0]; simp
  have hbV0 : Below w5.heap.size w5 V0 := by rw [← hV0]; exact (Below.refl _ _).alloc (Nat.le_refl _) _
  rw [hV0]
  clear hV0
  have CV0_W := Lib.hid (B5_W.out.trans (hbV0.mono B5_W.out.size))
  have CV0_w5 := Lib.hid (Zw5.out.trans (hbV0.mono Zw5.out.size))
  have HX0_0 : Hid (∀ U, Below V0.heap.size V0 U → U.cell? ⟨w5.heap.size, 0, none⟩ = some (.slice (some ⟨x01, 0, none⟩) n1 n1)) := Lib.hid fun U hU => (hU.cell (p := ⟨_, _, none⟩) hzV0).trans hx0_0
  have HX0_1 : Hid (∀ U, Below V0.heap.size V0 U → U.cell? ⟨w5.heap.size, 1, none⟩ = some (.slice (some ⟨x02, 0, none⟩) n2 n2)) := Lib.hid fun U hU => (hU.cell (p := ⟨_, _, none⟩) hzV0).trans hx0_1
  have HZV0 := Lib.hid hzV0
  clear hzV0 hbV0 hx0_0 hx0_1
  have ZV0 := Lib.hid (Below.refl V0.heap.size V0)
  have ZPRE1 := Lib.hid (Nat.le_refl 0)
  refine (toIntS Azs nzs czs zs V0 HNzs.out (HRzs.out _ CV0_W.out) hsmzs).mono ?_
  rintro e w6 ⟨x1, hgx1, rfl, hox1, hb6⟩
  have B6_W := Lib.hid (CV0_W.out.trans (hb6.mono CV0_W.out.size))
  have B6_w5 := Lib.hid (CV0_w5.out.trans (hb6.mono CV0_w5.out.size))
  have B6_V0 := Lib.hid (ZV0.out.trans (hb6.mono ZV0.out.size))
  have HLAST6 := Lib.hid hb6
  clear hb6
  have Ox1 := Lib.hid hox1
  have Rx1 : Hid (∀ V, Below w6.heap.size w6 V → Rd V V.heap.size (some ⟨x1, 0, none⟩) (zs.map (Value.int .i64))) := Lib.hid fun V hV => (Rd.ofOwnK hox1).moved hV
  clear hox1
  have Zw6 := Lib.hid (Below.refl w6.heap.size w6)
  have kz0_0 := HX0_0.out _ B6_V0.out
  have kz0_1 := HX0_1.out _ B6_V0.out
  have hgz0 : w5.heap.size < w6.heap.size := Nat.lt_of_lt_of_le HZV0.out B6_V0.out.size
  go_wp2_with fail
  clear kz0_0 kz0_1 hgz0
  refine (implRE (c := nzs) ⟨HN1.out, hsm1, Nat.le_refl _, Rx01.out _ B6_w5.out, HWS.out, HN2.out, hsm2, Rx02.out _ B6_w5.out⟩ HNzs.out (Rx1.out _ Zw6.out) hsmzs (Nat.le_refl _) (HTAB.out _ B6_W.out)).mono ?_
  rw [HRV.out]
  rintro e w7 ⟨rfl, hb7⟩
  have B7_W := Lib.hid (B6_W.out.trans (hb7.mono B6_W.out.size))
  have B7_w5 := Lib.hid (B6_w5.out.trans (hb7.mono B6_w5.out.size))
  have B7_V0 := Lib.hid (B6_V0.out.trans (hb7.mono B6_V0.out.size))
  have B7_w6 := Lib.hid (Zw6.out.trans (hb7.mono Zw6.out.size))
  have HLAST7 := Lib.hid hb7
  clear hb7
  have ka0_0 := HK0_0.out _ B7_W.out
  have ka0_1 := HK0_1.out _ B7_W.out
  have kx0_0 := HX0_0.out _ B7_V0.out
  have kx0_1 := HX0_1.out _ B7_V0.out
  have hgx : w5.heap.size < w7.heap.size := Nat.lt_of_lt_of_le HZV0.out B7_V0.out.size
  have hgw : w.heap.size < w7.heap.size := Nat.lt_of_lt_of_le (by have := HZ.out; omega) B7_W.out.size
  have hbd : Bel w7 w7.drew := Bel.of (Below.refl _ _).drew
  go_upto_region 13 with fail
  go_cut [50] (fun s50 wx => s50 = .bool false ∧ Bel w7 wx)
  case first =>
    go_region_held3 (fun U => U.cell? ⟨w5.heap.size, 0, none⟩ = some (.slice (some ⟨x01, 0, none⟩) n1 n1) ∧ U.cell? ⟨w5.heap.size, 1, none⟩ = some (.slice (some ⟨x02, 0, none⟩) n2 n2) ∧ U.cell? ⟨w.heap.size, 0, none⟩ = some (.slice A1 n1 c1) ∧ U.cell? ⟨w.heap.size, 1, none⟩ = some (.slice A2 n2 c2) ∧ Bel w7 U)
      (first | go_keep | (go_split_ands; (refine ⟨?_, ?_, ?_, ?_, ?_⟩ <;> first | assumption | exact Bel.step (by assumption) hbt8 | exact Bel.step (by assumption) hbt9 | exact (Bel.at_ (by assumption) hbt8 (by assumption)).trans (by assumption) | exact (Bel.at_ (by assumption) hbt9 (by assumption)).trans (by assumption))))
      (first
        | (go_at_call 9
           go_split_ands
           refine (toNet A1 A2 n1 c1 n2 c2 ss fs _ HN1.out (HR1.out _ (Below.trans B7_W.out ((Bel.out (by assumption)).mono B7_W.out.size))) hsm1 HN2.out (HR2.out _ (Below.trans B7_W.out ((Bel.out (by assumption)).mono B7_W.out.size))) hsm2).mono ?_
           rintro e t8 ⟨y91, y92, rfl, hoy91, hoy92, hbt8⟩
           have Sy91 := Lib.hid (Rd.ofOwnK hoy91)
           have Sy92 := Lib.hid (Rd.ofOwnK hoy92)
           clear hoy91 hoy92)
        | (go_at_call 13
           go_split_ands
           refine (eqNet x01 x02 y91 y92 n1 n2 n1 n2 n1 n2 ss fs t8 HN1.out hsm1 HN2.out hsm2 (Rx01.out _ (Below.trans B7_w5.out ((Bel.out (by assumption)).mono B7_w5.out.size))) (Sy91.out) (Rx02.out _ (Below.trans B7_w5.out ((Bel.out (by assumption)).mono B7_w5.out.size))) (Sy92.out)).mono ?_
           rintro e t9 ⟨rfl, hbt9⟩))
    all_goals
      go_split_ands
      have hbl : Bel w7 t9 := by assumption
      go_wp2_with fail
      go_meet
      exact ⟨rfl, hbl⟩
  case rest =>
  clear hbd hgx hgw ka0_0 ka0_1 kx0_0 kx0_1
  revert hcut; generalize wc = wc1; intro hcut
  obtain ⟨hs_, hbl⟩ := hcut
  subst hs_
  have Ewc1_W := Lib.hid (B7_W.out.trans ((Bel.out hbl).mono B7_W.out.size))
  have Ewc1_w5 := Lib.hid (B7_w5.out.trans ((Bel.out hbl).mono B7_w5.out.size))
  have Ewc1_V0 := Lib.hid (B7_V0.out.trans ((Bel.out hbl).mono B7_V0.out.size))
  have Ewc1_w6 := Lib.hid (B7_w6.out.trans ((Bel.out hbl).mono B7_w6.out.size))
  clear hbl
  go_wp2_with fail
  refine (toIntS Azs nzs czs zs wc1 HNzs.out (HRzs.out _ Ewc1_W.out) hsmzs).mono ?_
  rintro e w11 ⟨y10, hgy10, rfl, hoy10, hb11⟩
  have B11_W := Lib.hid (Ewc1_W.out.trans (hb11.mono Ewc1_W.out.size))
  have B11_w5 := Lib.hid (Ewc1_w5.out.trans (hb11.mono Ewc1_w5.out.size))
  have B11_V0 := Lib.hid (Ewc1_V0.out.trans (hb11.mono Ewc1_V0.out.size))
  have B11_w6 := Lib.hid (Ewc1_w6.out.trans (hb11.mono Ewc1_w6.out.size))
  have HLAST11 := Lib.hid hb11
  clear hb11
  have Sy10 := Lib.hid (Rd.ofOwnK hoy10)
  clear hoy10 hgy10
  go_wp2_with fail
  refine (eqIntS x1 y10 nzs nzs nzs zs w11 HNzs.out (Rx1.out _ B11_w6.out) (Sy10.out) hsmzs).mono ?_
  rintro e w12 ⟨rfl, hb12⟩
  have B12_W := Lib.hid (B11_W.out.trans (hb12.mono B11_W.out.size))
  have B12_w5 := Lib.hid (B11_w5.out.trans (hb12.mono B11_w5.out.size))
  have B12_V0 := Lib.hid (B11_V0.out.trans (hb12.mono B11_V0.out.size))
  have B12_w6 := Lib.hid (B11_w6.out.trans (hb12.mono B11_w6.out.size))
  have HLAST12 := Lib.hid hb12
  clear hb12
  go_wp2
  go_ret
  exact ⟨rfl, HBW.out.trans (B12_W.out.mono HBW.out.size)⟩


theorem own : ownKnob Tryd.prog.godebug = none := by kernel_rfl
theorem laidOut : laidOutB Tryd.prog = true := by kernel_rfl

theorem tTab : (Tryd.prog.globals[1]?).map (·.type) = some 142 := by kernel_rfl
theorem cTab : Tryd.prog.cellsOf 142 = 64 := by kernel_rfl
theorem cU8 : Tryd.prog.cellsOf 5 = 1 := by kernel_rfl
theorem pow_of_laid {W : World} (h : laidMetH Tryd.prog Rows.fnExactRingEfficiencyRow.laid W) : Tab W := by
  have h3 : laidMetH Tryd.prog (Rows.fnExactRingEfficiencyRow.laid.filter fun x => x.1 == "math/bits.deBruijn64tab") W := h.filter _
  have e : (Rows.fnExactRingEfficiencyRow.laid.filter fun x => x.1 == "math/bits.deBruijn64tab") = [("math/bits.deBruijn64tab", Lib.tabData .u8 tzTab)] := by kernel_rfl
  rw [e, MakeChecks.laidMetH_plain _ _ _ (by kernel_rfl)] at h3
  exact Lib.tabIs_of_head tabAt tTab Tryd.underlying142 Tryd.underlying5 cU8 cTab h3

theorem door_met (os : Os) (args : Array Value) : laidMetH Tryd.prog Rows.fnExactRingEfficiencyRow.laid ((World.doorLaid Tryd.prog 19 os).forCall (fun _ _ => 0) ⟨#[], args, []⟩).memory :=
  laidMetH_of_parts3 (fuel := 8) (laidMet_of_run' 8 (by kernel_rfl) (by kernel_rfl)) (by kernel_rfl) (by kernel_rfl)

set_option maxRecDepth 100000 in
theorem lifted (os : Os) (started : os.Started) (H : Type) (enc : TypeId × Value → H) :
    ReturnsInHanded {} Tryd.checked os 4 .any (fun w args => (Rows.fnExactRingEfficiencySpec.pre enc Tryd.prog Tryd.f4 [] false w args ∧ laidMetH Tryd.prog Rows.fnExactRingEfficiencyRow.laid w) ∧ sizedMet enc Tryd.prog Tryd.f4 (OpenSpec.ofChange Rows.fnExactRingEfficiencySpec) false w args)
      (Rows.fnExactRingEfficiencySpec.post enc Tryd.prog Tryd.f4 false true false false) := by
  refine returnsInHanded_of_change_and (C := Tryd.checked) (X := fun w _ => laidMetH Tryd.prog Rows.fnExactRingEfficiencyRow.laid w) (fun _ _ _ hh h => h.of_heap hh) own started (by kernel_rfl) Tryd.func4
    (ChangeSpec.witness_shaped (enc := enc) (C := Tryd.checked) (os := os) (X := fun w _ => laidMetH Tryd.prog Rows.fnExactRingEfficiencyRow.laid w) false (World.doorLaid Tryd.prog 19 os) #[.agg #[.slice none 0 0, .slice none 0 0], .slice none 0 0] 8 rfl (World.shaped_of_RefB (by kernel_rfl) (by kernel_rfl)) (by kernel_rfl) (by kernel_rfl) (by kernel_rfl) (door_met os _)) ?_
  intro W base args ds gs before hval0 hW _ hsz0 hL _
  have hval : ∀ (j : Nat) t v, Tryd.f4.params[j]? = some t → args[j]? = some v → Value.okWide Tryd.prog W .any base t v := hval0
  have hsz : (DataW.weightsEach Tryd.prog (Tryd.f4.params.toList ++ Rows.fnExactRingEfficiencySpec.plain.varTypes Tryd.prog) (ds ++ gs)).all (· ≤ reachBytes) = true := hsz0
  have hpow := pow_of_laid hL
  have hW' := hW
  obtain ⟨p, q, hA0, hV, rfl, hfz, hnd⟩ := hW
  have hA : DataW.TrodAll enc Tryd.prog W 0 (fun _ => true) true Tryd.f4.params.toList args.toList ds p := hA0
  rw [Tryd.params4] at hA hval hsz
  obtain ⟨v0, vs0, d0, ds0, p0, q0, hargs, rfl, rfl, h0, r0⟩ := trodAll_cons hA
  obtain ⟨v1, vs1, d1, ds1, p1, q1, rfl, rfl, rfl, h1, r1⟩ := trodAll_cons r0
  obtain ⟨rfl, rfl, rfl⟩ := trodAll_nil r1
  obtain rfl : args = #[v0, v1] := by cases args; simp_all
  obtain ⟨rfl, rfl⟩ := trodVars_none hV
  simp only [List.append_nil] at hW'
  have hlt0 : ∀ x ∈ p0, x.block < W.heap.size := fun x hx => by simpa using hW'.lt x (by simp [hx])
  have hlt1 : ∀ x ∈ p1, x.block < W.heap.size := fun x hx => by simpa using hW'.lt x (by simp [hx])
  have fin : ∀ W' : World, Below W.heap.size W W' → Rows.fnExactRingEfficiencySpec.post enc Tryd.checked.prog Tryd.f4 false true false false W #[v0, v1] (.bool true) W' := by
    intro W' hb
    refine ⟨_, _, _, [] ++ [], (p0 ++ (p1 ++ [])), [], hW', ?_, ?_, rfl, hb.frame _, fun h => by cases h⟩
    · exact trodAll_mk1 (shut_bool Tryd.underlying4 true)
    · exact trodAll_cons_mk (Below.trod laidOut (by kernel_rfl) (of_decide_eq_true (by kernel_rfl)) h0 hb hlt0) (trodAll_cons_mk (Below.trod laidOut (by kernel_rfl) (of_decide_eq_true (by kernel_rfl)) h1 hb hlt1) (trodAll_mk0))
  clear hW' hV hA0
  obtain ⟨A0, n0, c0, s0, B0, m0, k0, z0, rfl, ⟨ha0, hb0, hc0, hd0⟩, ⟨he0, hf0, hg0, hh0⟩⟩ := open_net Tryd.underlying25 (by kernel_rfl) (by kernel_rfl) Tryd.underlying22 Tryd.underlying9 (by kernel_rfl) Tryd.underlying23 Tryd.underlying93 (by kernel_rfl) (by kernel_rfl) rfl (hint_of Tryd.underlying3 (by decide +kernel)) (hval 0 25 v0 rfl rfl) h0
  obtain ⟨b1, len1, cap1, rfl⟩ := okWide_slice Tryd.underlying26 (hval 1 26 v1 rfl rfl)
  obtain ⟨fuel1, hf1⟩ := h1
  obtain ⟨A1, n1, c1, z1, e1, ha1, hb1, hc1, hd1⟩ := rd_ints Tryd.underlying26 Tryd.underlying3 (by kernel_rfl) hf1
  simp only [Value.cells, List.cons.injEq, Value.slice.injEq, and_true] at e1
  obtain ⟨rfl, rfl, rfl⟩ := e1
  exact (walk A0 n0 c0 s0 B0 m0 k0 z0 b1 len1 cap1 z1 W ha0 hb0 hc0 hd0 he0 hf0 hg0 hh0 ha1 hb1 hc1 hd1 hpow).mono fun e W' ⟨he, hb⟩ => ⟨_, he, fin W' hb⟩

theorem closed : joinedFacts Tryd.prog 4 Tryd.f4 Rows.fnExactRingEfficiencySpec Rows.fnExactRingEfficiencyRow = true := by
  unfold joinedFacts
  rw [jn_mk, jn_li, jn_en]
  kernel_rfl
theorem over : Rows.fnExactRingEfficiencyRow.holds Tryd.pinned (OpenSpec.ofChange Rows.fnExactRingEfficiencySpec) :=
  OpenClaim.holds_of_wide 4 Tryd.f4 rfl rfl rfl rfl rfl rfl rfl ⟨rfl, rfl, rfl, rfl, rfl⟩ rfl rfl rfl rfl rfl (by kernel_rfl) Tryd.func4 closed
    (of_decide_eq_true (by kernel_rfl)) (by unfold Func.isWrapper; first | (rw [if_pos (by decide +kernel)]; kernel_rfl) | (rw [if_neg (by decide +kernel)]; exact ⟨rfl, rfl⟩))
    (fun os started H enc _ => lifted os started H enc)

/-- THE STATEMENT -/
theorem proved : Rows.FnExactRingEfficiencyCardSaid :=
  Claim7.holds_tied_plain_at .later [] [.data, .data] true (true, "fafddb0768df4f9ae8af660c0e0f9e50e48e912d7ac9a45c0315271b2e0844f4") false
    over (fun _ h => by cases h) (by kernel_rfl) (fun _ h => by cases h) fnExactRingEfficiency_row_tie rfl ⟨rfl, rfl⟩ jn_main rfl
    (fun f fn hf hfn => by
      obtain rfl : f = 4 := Option.some.inj ((show Tryd.prog.funcNamed "loop.example/g00897/laws.FnExactRingEfficiency" = some 4 by kernel_rfl).symm.trans hf) |>.symm
      obtain rfl : fn = Tryd.f4 := (Option.some.inj (Tryd.func4.symm.trans hfn)).symm
      exact ⟨by kernel_rfl, fun j t ht => by
        rw [Tryd.params4] at ht
        have hm : t ∈ [25, 26] := by simpa using Array.mem_of_getElem? ht
        have hall : ([25, 26].all fun u => !Tryd.prog.wantsStandIn u) = true := by kernel_rfl
        exact (show Tryd.prog.wantsStandIn t = false by simpa using List.all_eq_true.1 hall t hm)⟩)
    (by kernel_rfl)
end Go.Proofs.YtkpendpjdemknaaDoor.fnExactRingEfficiency
