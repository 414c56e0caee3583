/- Proved: at every argument impl.RingCapacity answers as spec.RingCapacity does and leaves its arguments alone (the law FnExactRingCapacity returns true). The table of math/bits as Go's text lays it. -/
import Derived.Test.YtkpendpjdemknaaDoorRows
import Derived.Test.YtkpendpjdemknaaDoorCards
import Derived.Test.YtkpendpjdemknaaDoorTie
import Derived.Test.YtkpendpjdemknaaDoorJn
import Derived.JoinedOf
import Derived.Test.YtkpendpjdemknaaDoorGC
import Derived.Test.YtkpendpjdemknaaDoorGB
import Derived.Test.YtkpendpjdemknaaDoorPfC
import Derived.WalkKit
import Derived.ProofKit
import Derived.OpenShut
import Derived.ShutString
import Derived.SizedLaws
import Derived.Carry
import Derived.LaidMore
import Derived.LaidHandle
import Derived.MakeChecks
import Derived.Stop.Joined
import Derived.SevenTiedAt
import Derived.SliceStrings
import Derived.DataBytes
import Derived.OpenVars
import Derived.ChangeVars
namespace Go.Proofs.YtkpendpjdemknaaDoor.fnExactRingCapacity
open Go.ChangeShapes Go.WideShapes Go.ChangeAt Go.RowKit
open Go.ChangeMaps (open_string shut_string)

set_option maxRecDepth 100000 in
set_option maxHeartbeats 8000000 in
theorem walk (A1 : Option Addr) (n1 c1 : Nat) (ss : List ByteArray) (A2 : Option Addr) (n2 c2 : Nat) (fs : List Q4) (Azs : Option Addr) (nzs czs : Nat) (zs : List Int) (Aus : Option Addr) (nus cus : Nat) (us : List Int) (w : World) (hn1 : ss.length = n1) (hm1 : n1 ≤ maxLen) (hr1 : Rd w w.heap.size A1 (ss.map Value.string)) (hws : ∀ s ∈ ss, s.size ≤ maxLen) (hn2 : fs.length = n2) (hm2 : n2 ≤ maxLen) (hr2 : Rd w w.heap.size A2 (fs.flatMap Q4.cells)) (_hwf : ∀ q ∈ fs, q.wf) (hnzs : zs.length = nzs) (_hmzs : nzs ≤ maxLen) (hrzs : Rd w w.heap.size Azs (zs.map (Value.int .i64))) (_hwfzs : ∀ z ∈ zs, (Lit.int .i64 z).wf = true) (hnus : us.length = nus) (_hmus : nus ≤ maxLen) (hrus : Rd w w.heap.size Aus (us.map (Value.int .i64))) (_hwfus : ∀ z ∈ us, (Lit.int .i64 z).wf = true) (hpow : Tab w) :
    Calls Tryd.prog 5 #[.agg #[.slice A1 n1 c1, .slice A2 n2 c2], .slice Azs nzs czs, .slice Aus nus cus] w fun e w' => e = .returned (.bool true) ∧ Below w.heap.size w w' := by
  have HN1 := Lib.hid hn1; have HN2 := Lib.hid hn2; have HWS := Lib.hid hws; clear hn1 hn2 hws _hwf
  have HNzs := Lib.hid hnzs; clear hnzs _hwfzs _hmzs
  have HNus := Lib.hid hnus; clear hnus _hwfus _hmus
  obtain ⟨r1, hr1e⟩ : ∃ r, capV ss fs zs us = r := ⟨_, rfl⟩
  obtain ⟨r2, hr2e⟩ : ∃ r, capB ss fs zs us = r := ⟨_, rfl⟩
  have HRV : Hid (capR ss fs zs us = .tuple #[.int .i64 r1, .bool r2]) := Lib.hid (by unfold capR; rw [hr1e, hr2e])
  clear hr1e hr2e
  by_cases hsmzs : nzs ≤ 1048576
  case neg =>
    have qzs : 1048576 < (nzs : Int) := by omega
    clear hsmzs
    go_enter Tryd.func5, Tryd.ntmps5
    go_wp2
    go_ret
    exact ⟨rfl, ((Below.refl w.heap.size w).alloc (Nat.le_refl _) _)⟩
  case pos =>
  by_cases hsmus : nus ≤ 1048576
  case neg =>
    have qus : 1048576 < (nus : Int) := by omega
    clear hsmus
    go_enter Tryd.func5, Tryd.ntmps5
    go_wp2
    go_ret
    exact ⟨rfl, ((Below.refl w.heap.size w).alloc (Nat.le_refl _) _)⟩
  case pos =>
  go_enter Tryd.func5, Tryd.ntmps5
  go_wp2_with fail
  obtain ⟨W, hW⟩ : ∃ W, (w.alloc (Obj.cells #[.slice A1 n1 c1, .slice A2 n2 c2] 25)) = W := ⟨_, rfl⟩
  have hk0_0 : W.cell? ⟨w.heap.size, 0, none⟩ = some (.slice A1 n1 c1) := by rw [← hW]; simp [go_sem]
  have hk0_1 : W.cell? ⟨w.heap.size, 1, none⟩ = some (.slice A2 n2 c2) := by rw [← hW]; simp [go_sem]
  have hz : w.heap.size < W.heap.size := by rw [← hW]; simp
  have hbw : Below w.heap.size w W := by rw [← hW]; exact ((Below.refl w.heap.size w).alloc (Nat.le_refl _) _)
  have HBW := Lib.hid hbw
  have HTAB : Hid (∀ V, Below W.heap.size W V → Tab V) := Lib.hid fun V hV => (hpow.over hbw).over hV
  clear hpow
  rw [hW]
  clear hW
  have HR1 : Hid (∀ V, Below W.heap.size W V → Rd V V.heap.size A1 (ss.map Value.string)) := Lib.hid fun V hV => (hr1.moved hbw).moved hV
  clear hr1
  have HR2 : Hid (∀ V, Below W.heap.size W V → Rd V V.heap.size A2 (fs.flatMap Q4.cells)) := Lib.hid fun V hV => (hr2.moved hbw).moved hV
  clear hr2
  have HK0_0 : Hid (∀ V, Below W.heap.size W V → V.cell? ⟨w.heap.size, 0, none⟩ = some (.slice A1 n1 c1)) := Lib.hid fun V hV => (hV.cell (p := ⟨_, _, none⟩) (by show w.heap.size < _; omega)).trans hk0_0
  have HK0_1 : Hid (∀ V, Below W.heap.size W V → V.cell? ⟨w.heap.size, 1, none⟩ = some (.slice A2 n2 c2)) := Lib.hid fun V hV => (hV.cell (p := ⟨_, _, none⟩) (by show w.heap.size < _; omega)).trans hk0_1
  have HRzs : Hid (∀ V, Below W.heap.size W V → Rd V V.heap.size Azs (zs.map (Value.int .i64))) := Lib.hid fun V hV => (hrzs.moved hbw).moved hV
  clear hrzs
  have HRus : Hid (∀ V, Below W.heap.size W V → Rd V V.heap.size Aus (us.map (Value.int .i64))) := Lib.hid fun V hV => (hrus.moved hbw).moved hV
  clear hrus
  clear hk0_0 hk0_1
  have HZ := Lib.hid hz
  clear hz hbw
  have B0 := Lib.hid (Below.refl W.heap.size W)
  refine (szNet A1 A2 n1 c1 n2 c2 1048576 ss fs W HN1.out hm1 (HR1.out _ B0.out) HWS.out hm2 (by omega) (by omega)).mono ?_
  rintro e w1 ⟨v0, rfl, hb1, hv00, hv10, hv20⟩
  have B1_W := Lib.hid (B0.out.trans (hb1.mono B0.out.size))
  have HLAST1 := Lib.hid hb1
  clear hb1
  by_cases hneg0 : v0 < 0
  · go_wp2
    go_ret
    exact ⟨rfl, HBW.out.trans (B1_W.out.mono HBW.out.size)⟩
  have hp0 : 0 ≤ v0 := by omega
  have hsm1 : n1 ≤ 1048576 := by have := hv20 hp0; omega
  have hsm2 : n2 ≤ 1048576 := by have := hv20 hp0; omega
  have HSZ0 := Lib.hid (hv20 hp0)
  clear hneg0 hv20 hm1 hm2
  have ka0_0 := HK0_0.out _ B1_W.out
  have ka0_1 := HK0_1.out _ B1_W.out
  go_wp2_with fail
  clear ka0_0 ka0_1
  refine (toNet A1 A2 n1 c1 n2 c2 ss fs w1 HN1.out (HR1.out _ B1_W.out) hsm1 HN2.out (HR2.out _ B1_W.out) hsm2).mono ?_
  rintro e w2 ⟨s01, s02, rfl, hos01, hos02, hb2⟩
  have B2_W := Lib.hid (B1_W.out.trans (hb2.mono B1_W.out.size))
  have HLAST2 := Lib.hid hb2
  clear hb2
  have Os01 := Lib.hid hos01
  have Rs01 : Hid (∀ V, Below w2.heap.size w2 V → Rd V V.heap.size (some ⟨s01, 0, none⟩) (ss.map Value.string)) := Lib.hid fun V hV => (Rd.ofOwnK hos01).moved hV
  have Os02 := Lib.hid hos02
  have Rs02 : Hid (∀ V, Below w2.heap.size w2 V → Rd V V.heap.size (some ⟨s02, 0, none⟩) (fs.flatMap Q4.cells)) := Lib.hid fun V hV => (Rd.ofOwnK hos02).moved hV
  clear hos01 hos02
  have Zw2 := Lib.hid (Below.refl w2.heap.size w2)
  go_wp2_with fail
  refine (toIntS Azs nzs czs zs w2 HNzs.out (HRzs.out _ B2_W.out) hsmzs).mono ?_
  rintro e w3 ⟨s1, hgs1, rfl, hos1, hb3⟩
  have B3_W := Lib.hid (B2_W.out.trans (hb3.mono B2_W.out.size))
  have B3_w2 := Lib.hid (Zw2.out.trans (hb3.mono Zw2.out.size))
  have HLAST3 := Lib.hid hb3
  clear hb3
  have Os1 := Lib.hid hos1
  have Rs1 : Hid (∀ V, Below w3.heap.size w3 V → Rd V V.heap.size (some ⟨s1, 0, none⟩) (zs.map (Value.int .i64))) := Lib.hid fun V hV => (Rd.ofOwnK hos1).moved hV
  clear hos1
  have Zw3 := Lib.hid (Below.refl w3.heap.size w3)
  go_wp2_with fail
  refine (toIntS Aus nus cus us w3 HNus.out (HRus.out _ B3_W.out) hsmus).mono ?_
  rintro e w4 ⟨s2, hgs2, rfl, hos2, hb4⟩
  have B4_W := Lib.hid (B3_W.out.trans (hb4.mono B3_W.out.size))
  have B4_w2 := Lib.hid (B3_w2.out.trans (hb4.mono B3_w2.out.size))
  have B4_w3 := Lib.hid (Zw3.out.trans (hb4.mono Zw3.out.size))
  have HLAST4 := Lib.hid hb4
  clear hb4
  have Os2 := Lib.hid hos2
  have Rs2 : Hid (∀ V, Below w4.heap.size w4 V → Rd V V.heap.size (some ⟨s2, 0, none⟩) (us.map (Value.int .i64))) := Lib.hid fun V hV => (Rd.ofOwnK hos2).moved hV
  clear hos2
  have Zw4 := Lib.hid (Below.refl w4.heap.size w4)
  go_wp2_with fail
  refine (specRC (c := nzs) ⟨HN1.out, hsm1, Nat.le_refl _, Rs01.out _ B4_w2.out, HWS.out, HN2.out, hsm2, Rs02.out _ B4_w2.out⟩ HNzs.out (Rs1.out _ B4_w3.out) hsmzs (Nat.le_refl _) (c3 := nus) HNus.out (Rs2.out _ Zw4.out) hsmus).mono ?_
  rw [HRV.out]
  rintro e w5 ⟨rfl, hb5⟩
  have B5_W := Lib.hid (B4_W.out.trans (hb5.mono B4_W.out.size))
  have B5_w2 := Lib.hid (B4_w2.out.trans (hb5.mono B4_w2.out.size))
  have B5_w3 := Lib.hid (B4_w3.out.trans (hb5.mono B4_w3.out.size))
  have B5_w4 := Lib.hid (Zw4.out.trans (hb5.mono Zw4.out.size))
  have HLAST5 := Lib.hid hb5
  clear hb5
  have ka0_0 := HK0_0.out _ B5_W.out
  have ka0_1 := HK0_1.out _ B5_W.out
  go_wp2_with fail
  clear ka0_0 ka0_1
  have ZPRE0 := Lib.hid (Nat.le_refl 0)
  refine (toNet A1 A2 n1 c1 n2 c2 ss fs w5 HN1.out (HR1.out _ B5_W.out) hsm1 HN2.out (HR2.out _ B5_W.out) hsm2).mono ?_
  rintro e w6 ⟨x01, x02, rfl, hox01, hox02, hb6⟩
  have B6_W := Lib.hid (B5_W.out.trans (hb6.mono B5_W.out.size))
  have HLAST6 := Lib.hid hb6
  clear hb6
  have Ox01 := Lib.hid hox01
  have Rx01 : Hid (∀ V, Below w6.heap.size w6 V → Rd V V.heap.size (some ⟨x01, 0, none⟩) (ss.map Value.string)) := Lib.hid fun V hV => (Rd.ofOwnK hox01).moved hV
  have Ox02 := Lib.hid hox02
  have Rx02 : Hid (∀ V, Below w6.heap.size w6 V → Rd V V.heap.size (some ⟨x02, 0, none⟩) (fs.flatMap Q4.cells)) := Lib.hid fun V hV => (Rd.ofOwnK hox02).moved hV
  clear hox01 hox02
  have Zw6 := Lib.hid (Below.refl w6.heap.size w6)
  go_wp2_with fail
  obtain ⟨V0, hV0⟩ : ∃ V, (w6.alloc (Obj.cells #[.slice (some ⟨x01, 0, none⟩) n1 n1, .slice (some ⟨x02, 0, none⟩) n2 n2] 32)) = V := ⟨_, rfl⟩
  have hx0_0 : V0.cell? ⟨w6.heap.size, 0, none⟩ = some (.slice (some ⟨x01, 0, none⟩) n1 n1) := by rw [← hV0]; simp [go_sem]
  have hx0_1 : V0.cell? ⟨w6.heap.size, 1, none⟩ = some (.slice (some ⟨x02, 0, none⟩) n2 n2) := by rw [← hV0]; simp [go_sem]
  have hzV0 : w6.heap.size < V0.heap.size := by rw [← hV0]; simp
  have hbV0 : Below w6.heap.size w6 V0 := by rw [← hV0]; exact (Below.refl _ _).alloc (Nat.le_refl _) _
  rw [hV0]
  clear hV0
  have CV0_W := Lib.hid (B6_W.out.trans (hbV0.mono B6_W.out.size))
  have CV0_w6 := Lib.hid (Zw6.out.trans (hbV0.mono Zw6.out.size))
  have HX0_0 : Hid (∀ U, Below V0.heap.size V0 U → U.cell? ⟨w6.heap.size, 0, none⟩ = some (.slice (some ⟨x01, 0, none⟩) n1 n1)) := Lib.hid fun U hU => (hU.cell (p := ⟨_, _, none⟩) hzV0).trans hx0_0
  have HX0_1 : Hid (∀ U, Below V0.heap.size V0 U → U.cell? ⟨w6.heap.size, 1, none⟩ = some (.slice (some ⟨x02, 0, none⟩) n2 n2)) := Lib.hid fun U hU => (hU.cell (p := ⟨_, _, none⟩) hzV0).trans hx0_1
  have HZV0 := Lib.hid hzV0
  clear hzV0 hbV0 hx0_0 hx0_1
  have ZV0 := Lib.hid (Below.refl V0.heap.size V0)
  have ZPRE1 := Lib.hid (Nat.le_refl 0)
  refine (toIntS Azs nzs czs zs V0 HNzs.out (HRzs.out _ CV0_W.out) hsmzs).mono ?_
  rintro e w7 ⟨x1, hgx1, rfl, hox1, hb7⟩
  have B7_W := Lib.hid (CV0_W.out.trans (hb7.mono CV0_W.out.size))
  have B7_w6 := Lib.hid (CV0_w6.out.trans (hb7.mono CV0_w6.out.size))
  have B7_V0 := Lib.hid (ZV0.out.trans (hb7.mono ZV0.out.size))
  have HLAST7 := Lib.hid hb7
  clear hb7
  have Ox1 := Lib.hid hox1
  have Rx1 : Hid (∀ V, Below w7.heap.size w7 V → Rd V V.heap.size (some ⟨x1, 0, none⟩) (zs.map (Value.int .i64))) := Lib.hid fun V hV => (Rd.ofOwnK hox1).moved hV
  clear hox1
  have Zw7 := Lib.hid (Below.refl w7.heap.size w7)
  go_wp2_with fail
  have ZPRE2 := Lib.hid (Nat.le_refl 0)
  refine (toIntS Aus nus cus us w7 HNus.out (HRus.out _ B7_W.out) hsmus).mono ?_
  rintro e w8 ⟨x2, hgx2, rfl, hox2, hb8⟩
  have B8_W := Lib.hid (B7_W.out.trans (hb8.mono B7_W.out.size))
  have B8_w6 := Lib.hid (B7_w6.out.trans (hb8.mono B7_w6.out.size))
  have B8_V0 := Lib.hid (B7_V0.out.trans (hb8.mono B7_V0.out.size))
  have B8_w7 := Lib.hid (Zw7.out.trans (hb8.mono Zw7.out.size))
  have HLAST8 := Lib.hid hb8
  clear hb8
  have Ox2 := Lib.hid hox2
  have Rx2 : Hid (∀ V, Below w8.heap.size w8 V → Rd V V.heap.size (some ⟨x2, 0, none⟩) (us.map (Value.int .i64))) := Lib.hid fun V hV => (Rd.ofOwnK hox2).moved hV
  clear hox2
  have Zw8 := Lib.hid (Below.refl w8.heap.size w8)
  have kz0_0 := HX0_0.out _ B8_V0.out
  have kz0_1 := HX0_1.out _ B8_V0.out
  have hgz0 : w6.heap.size < w8.heap.size := Nat.lt_of_lt_of_le HZV0.out B8_V0.out.size
  go_wp2_with fail
  clear kz0_0 kz0_1 hgz0
  refine (implRC (c := nzs) ⟨HN1.out, hsm1, Nat.le_refl _, Rx01.out _ B8_w6.out, HWS.out, HN2.out, hsm2, Rx02.out _ B8_w6.out⟩ HNzs.out (Rx1.out _ B8_w7.out) hsmzs (Nat.le_refl _) (c3 := nus) HNus.out (Rx2.out _ Zw8.out) hsmus (HTAB.out _ B8_W.out)).mono ?_
  rw [HRV.out]
  rintro e w9 ⟨rfl, hb9⟩
  have B9_W := Lib.hid (B8_W.out.trans (hb9.mono B8_W.out.size))
  have B9_w6 := Lib.hid (B8_w6.out.trans (hb9.mono B8_w6.out.size))
  have B9_V0 := Lib.hid (B8_V0.out.trans (hb9.mono B8_V0.out.size))
  have B9_w7 := Lib.hid (B8_w7.out.trans (hb9.mono B8_w7.out.size))
  have B9_w8 := Lib.hid (Zw8.out.trans (hb9.mono Zw8.out.size))
  have HLAST9 := Lib.hid hb9
  clear hb9
  have ka0_0 := HK0_0.out _ B9_W.out
  have ka0_1 := HK0_1.out _ B9_W.out
  have kx0_0 := HX0_0.out _ B9_V0.out
  have kx0_1 := HX0_1.out _ B9_V0.out
  have hgx : w6.heap.size < w9.heap.size := Nat.lt_of_lt_of_le HZV0.out B9_V0.out.size
  have hgw : w.heap.size < w9.heap.size := Nat.lt_of_lt_of_le (by have := HZ.out; omega) B9_W.out.size
  have hbd : Bel w9 w9.drew := Bel.of (Below.refl _ _).drew
  go_upto_region 16 with fail
  go_cut [61] (fun s61 wx => s61 = .bool false ∧ Bel w9 wx)
  case first =>
    go_region_held3 (fun U => U.cell? ⟨w6.heap.size, 0, none⟩ = some (.slice (some ⟨x01, 0, none⟩) n1 n1) ∧ U.cell? ⟨w6.heap.size, 1, none⟩ = some (.slice (some ⟨x02, 0, none⟩) n2 n2) ∧ U.cell? ⟨w.heap.size, 0, none⟩ = some (.slice A1 n1 c1) ∧ U.cell? ⟨w.heap.size, 1, none⟩ = some (.slice A2 n2 c2) ∧ Bel w9 U)
      (first | go_keep | (go_split_ands; (refine ⟨?_, ?_, ?_, ?_, ?_⟩ <;> first | assumption | exact Bel.step (by assumption) hbt10 | exact Bel.step (by assumption) hbt11 | exact (Bel.at_ (by assumption) hbt10 (by assumption)).trans (by assumption) | exact (Bel.at_ (by assumption) hbt11 (by assumption)).trans (by assumption))))
      (first
        | (go_at_call 9
           go_split_ands
           refine (toNet A1 A2 n1 c1 n2 c2 ss fs _ HN1.out (HR1.out _ (Below.trans B9_W.out ((Bel.out (by assumption)).mono B9_W.out.size))) hsm1 HN2.out (HR2.out _ (Below.trans B9_W.out ((Bel.out (by assumption)).mono B9_W.out.size))) hsm2).mono ?_
           rintro e t10 ⟨y111, y112, rfl, hoy111, hoy112, hbt10⟩
           have Sy111 := Lib.hid (Rd.ofOwnK hoy111)
           have Sy112 := Lib.hid (Rd.ofOwnK hoy112)
           clear hoy111 hoy112)
        | (go_at_call 13
           go_split_ands
           refine (eqNet x01 x02 y111 y112 n1 n2 n1 n2 n1 n2 ss fs t10 HN1.out hsm1 HN2.out hsm2 (Rx01.out _ (Below.trans B9_w6.out ((Bel.out (by assumption)).mono B9_w6.out.size))) (Sy111.out) (Rx02.out _ (Below.trans B9_w6.out ((Bel.out (by assumption)).mono B9_w6.out.size))) (Sy112.out)).mono ?_
           rintro e t11 ⟨rfl, hbt11⟩))
    all_goals
      go_split_ands
      have hbl : Bel w9 t11 := by assumption
      go_wp2_with fail
      go_meet
      exact ⟨rfl, hbl⟩
  case rest =>
  clear hbd hgx hgw ka0_0 ka0_1 kx0_0 kx0_1
  revert hcut; generalize wc = wc1; intro hcut
  obtain ⟨hs_, hbl⟩ := hcut
  subst hs_
  have Ewc1_W := Lib.hid (B9_W.out.trans ((Bel.out hbl).mono B9_W.out.size))
  have Ewc1_w6 := Lib.hid (B9_w6.out.trans ((Bel.out hbl).mono B9_w6.out.size))
  have Ewc1_V0 := Lib.hid (B9_V0.out.trans ((Bel.out hbl).mono B9_V0.out.size))
  have Ewc1_w7 := Lib.hid (B9_w7.out.trans ((Bel.out hbl).mono B9_w7.out.size))
  have Ewc1_w8 := Lib.hid (B9_w8.out.trans ((Bel.out hbl).mono B9_w8.out.size))
  clear hbl
  go_wp2_with fail
  refine (toIntS Azs nzs czs zs wc1 HNzs.out (HRzs.out _ Ewc1_W.out) hsmzs).mono ?_
  rintro e w13 ⟨y12, hgy12, rfl, hoy12, hb13⟩
  have B13_W := Lib.hid (Ewc1_W.out.trans (hb13.mono Ewc1_W.out.size))
  have B13_w6 := Lib.hid (Ewc1_w6.out.trans (hb13.mono Ewc1_w6.out.size))
  have B13_V0 := Lib.hid (Ewc1_V0.out.trans (hb13.mono Ewc1_V0.out.size))
  have B13_w7 := Lib.hid (Ewc1_w7.out.trans (hb13.mono Ewc1_w7.out.size))
  have B13_w8 := Lib.hid (Ewc1_w8.out.trans (hb13.mono Ewc1_w8.out.size))
  have HLAST13 := Lib.hid hb13
  clear hb13
  have Sy12 := Lib.hid (Rd.ofOwnK hoy12)
  clear hoy12 hgy12
  go_wp2_with fail
  refine (eqIntS x1 y12 nzs nzs nzs zs w13 HNzs.out (Rx1.out _ B13_w7.out) (Sy12.out) hsmzs).mono ?_
  rintro e w14 ⟨rfl, hb14⟩
  have B14_W := Lib.hid (B13_W.out.trans (hb14.mono B13_W.out.size))
  have B14_w6 := Lib.hid (B13_w6.out.trans (hb14.mono B13_w6.out.size))
  have B14_V0 := Lib.hid (B13_V0.out.trans (hb14.mono B13_V0.out.size))
  have B14_w7 := Lib.hid (B13_w7.out.trans (hb14.mono B13_w7.out.size))
  have B14_w8 := Lib.hid (B13_w8.out.trans (hb14.mono B13_w8.out.size))
  have HLAST14 := Lib.hid hb14
  clear hb14
  go_wp2_with fail
  refine (toIntS Aus nus cus us w14 HNus.out (HRus.out _ B14_W.out) hsmus).mono ?_
  rintro e w16 ⟨y15, hgy15, rfl, hoy15, hb16⟩
  have B16_W := Lib.hid (B14_W.out.trans (hb16.mono B14_W.out.size))
  have B16_w6 := Lib.hid (B14_w6.out.trans (hb16.mono B14_w6.out.size))
  have B16_V0 := Lib.hid (B14_V0.out.trans (hb16.mono B14_V0.out.size))
  have B16_w7 := Lib.hid (B14_w7.out.trans (hb16.mono B14_w7.out.size))
  have B16_w8 := Lib.hid (B14_w8.out.trans (hb16.mono B14_w8.out.size))
  have HLAST16 := Lib.hid hb16
  clear hb16
  have Sy15 := Lib.hid (Rd.ofOwnK hoy15)
  clear hoy15 hgy15
  go_wp2_with fail
  refine (eqIntS x2 y15 nus nus nus us w16 HNus.out (Rx2.out _ B16_w8.out) (Sy15.out) hsmus).mono ?_
  rintro e w17 ⟨rfl, hb17⟩
  have B17_W := Lib.hid (B16_W.out.trans (hb17.mono B16_W.out.size))
  have B17_w6 := Lib.hid (B16_w6.out.trans (hb17.mono B16_w6.out.size))
  have B17_V0 := Lib.hid (B16_V0.out.trans (hb17.mono B16_V0.out.size))
  have B17_w7 := Lib.hid (B16_w7.out.trans (hb17.mono B16_w7.out.size))
  have B17_w8 := Lib.hid (B16_w8.out.trans (hb17.mono B16_w8.out.size))
  have HLAST17 := Lib.hid hb17
  clear hb17
  go_wp2
  go_ret
  exact ⟨rfl, HBW.out.trans (B17_W.out.mono HBW.out.size)⟩


theorem own : ownKnob Tryd.prog.godebug = none := by kernel_rfl
theorem laidOut : laidOutB Tryd.prog = true := by kernel_rfl

theorem tTab : (Tryd.prog.globals[1]?).map (·.type) = some 142 := by kernel_rfl
theorem cTab : Tryd.prog.cellsOf 142 = 64 := by kernel_rfl
theorem cU8 : Tryd.prog.cellsOf 5 = 1 := by kernel_rfl
theorem pow_of_laid {W : World} (h : laidMetH Tryd.prog Rows.fnExactRingCapacityRow.laid W) : Tab W := by
  have h3 : laidMetH Tryd.prog (Rows.fnExactRingCapacityRow.laid.filter fun x => x.1 == "math/bits.deBruijn64tab") W := h.filter _
  have e : (Rows.fnExactRingCapacityRow.laid.filter fun x => x.1 == "math/bits.deBruijn64tab") = [("math/bits.deBruijn64tab", Lib.tabData .u8 tzTab)] := by kernel_rfl
  rw [e, MakeChecks.laidMetH_plain _ _ _ (by kernel_rfl)] at h3
  exact Lib.tabIs_of_head tabAt tTab Tryd.underlying142 Tryd.underlying5 cU8 cTab h3

theorem door_met (os : Os) (args : Array Value) : laidMetH Tryd.prog Rows.fnExactRingCapacityRow.laid ((World.doorLaid Tryd.prog 19 os).forCall (fun _ _ => 0) ⟨#[], args, []⟩).memory :=
  laidMetH_of_parts3 (fuel := 8) (laidMet_of_run' 8 (by kernel_rfl) (by kernel_rfl)) (by kernel_rfl) (by kernel_rfl)

set_option maxRecDepth 100000 in
theorem lifted (os : Os) (started : os.Started) (H : Type) (enc : TypeId × Value → H) :
    ReturnsInHanded {} Tryd.checked os 5 .any (fun w args => (Rows.fnExactRingCapacitySpec.pre enc Tryd.prog Tryd.f5 [] false w args ∧ laidMetH Tryd.prog Rows.fnExactRingCapacityRow.laid w) ∧ sizedMet enc Tryd.prog Tryd.f5 (OpenSpec.ofChange Rows.fnExactRingCapacitySpec) false w args)
      (Rows.fnExactRingCapacitySpec.post enc Tryd.prog Tryd.f5 false true false false) := by
  refine returnsInHanded_of_change_and (C := Tryd.checked) (X := fun w _ => laidMetH Tryd.prog Rows.fnExactRingCapacityRow.laid w) (fun _ _ _ hh h => h.of_heap hh) own started (by kernel_rfl) Tryd.func5
    (ChangeSpec.witness_shaped (enc := enc) (C := Tryd.checked) (os := os) (X := fun w _ => laidMetH Tryd.prog Rows.fnExactRingCapacityRow.laid w) false (World.doorLaid Tryd.prog 19 os) #[.agg #[.slice none 0 0, .slice none 0 0], .slice none 0 0, .slice none 0 0] 8 rfl (World.shaped_of_RefB (by kernel_rfl) (by kernel_rfl)) (by kernel_rfl) (by kernel_rfl) (by kernel_rfl) (door_met os _)) ?_
  intro W base args ds gs before hval0 hW _ hsz0 hL _
  have hval : ∀ (j : Nat) t v, Tryd.f5.params[j]? = some t → args[j]? = some v → Value.okWide Tryd.prog W .any base t v := hval0
  have hsz : (DataW.weightsEach Tryd.prog (Tryd.f5.params.toList ++ Rows.fnExactRingCapacitySpec.plain.varTypes Tryd.prog) (ds ++ gs)).all (· ≤ reachBytes) = true := hsz0
  have hpow := pow_of_laid hL
  have hW' := hW
  obtain ⟨p, q, hA0, hV, rfl, hfz, hnd⟩ := hW
  have hA : DataW.TrodAll enc Tryd.prog W 0 (fun _ => true) true Tryd.f5.params.toList args.toList ds p := hA0
  rw [Tryd.params5] at hA hval hsz
  obtain ⟨v0, vs0, d0, ds0, p0, q0, hargs, rfl, rfl, h0, r0⟩ := trodAll_cons hA
  obtain ⟨v1, vs1, d1, ds1, p1, q1, rfl, rfl, rfl, h1, r1⟩ := trodAll_cons r0
  obtain ⟨v2, vs2, d2, ds2, p2, q2, rfl, rfl, rfl, h2, r2⟩ := trodAll_cons r1
  obtain ⟨rfl, rfl, rfl⟩ := trodAll_nil r2
  obtain rfl : args = #[v0, v1, v2] := by cases args; simp_all
  obtain ⟨rfl, rfl⟩ := trodVars_none hV
  simp only [List.append_nil] at hW'
  have hlt0 : ∀ x ∈ p0, x.block < W.heap.size := fun x hx => by simpa using hW'.lt x (by simp [hx])
  have hlt1 : ∀ x ∈ p1, x.block < W.heap.size := fun x hx => by simpa using hW'.lt x (by simp [hx])
  have hlt2 : ∀ x ∈ p2, x.block < W.heap.size := fun x hx => by simpa using hW'.lt x (by simp [hx])
  have fin : ∀ W' : World, Below W.heap.size W W' → Rows.fnExactRingCapacitySpec.post enc Tryd.checked.prog Tryd.f5 false true false false W #[v0, v1, v2] (.bool true) W' := by
    intro W' hb
    refine ⟨_, _, _, [] ++ [], (p0 ++ (p1 ++ (p2 ++ []))), [], hW', ?_, ?_, rfl, hb.frame _, fun h => by cases h⟩
    · exact trodAll_mk1 (shut_bool Tryd.underlying4 true)
    · exact trodAll_cons_mk (Below.trod laidOut (by kernel_rfl) (of_decide_eq_true (by kernel_rfl)) h0 hb hlt0) (trodAll_cons_mk (Below.trod laidOut (by kernel_rfl) (of_decide_eq_true (by kernel_rfl)) h1 hb hlt1) (trodAll_cons_mk (Below.trod laidOut (by kernel_rfl) (of_decide_eq_true (by kernel_rfl)) h2 hb hlt2) (trodAll_mk0)))
  clear hW' hV hA0
  obtain ⟨A0, n0, c0, s0, B0, m0, k0, z0, rfl, ⟨ha0, hb0, hc0, hd0⟩, ⟨he0, hf0, hg0, hh0⟩⟩ := open_net Tryd.underlying25 (by kernel_rfl) (by kernel_rfl) Tryd.underlying22 Tryd.underlying9 (by kernel_rfl) Tryd.underlying23 Tryd.underlying93 (by kernel_rfl) (by kernel_rfl) rfl (hint_of Tryd.underlying3 (by decide +kernel)) (hval 0 25 v0 rfl rfl) h0
  obtain ⟨b1, len1, cap1, rfl⟩ := okWide_slice Tryd.underlying26 (hval 1 26 v1 rfl rfl)
  obtain ⟨fuel1, hf1⟩ := h1
  obtain ⟨A1, n1, c1, z1, e1, ha1, hb1, hc1, hd1⟩ := rd_ints Tryd.underlying26 Tryd.underlying3 (by kernel_rfl) hf1
  simp only [Value.cells, List.cons.injEq, Value.slice.injEq, and_true] at e1
  obtain ⟨rfl, rfl, rfl⟩ := e1
  obtain ⟨b2, len2, cap2, rfl⟩ := okWide_slice Tryd.underlying26 (hval 2 26 v2 rfl rfl)
  obtain ⟨fuel2, hf2⟩ := h2
  obtain ⟨A2, n2, c2, z2, e2, ha2, hb2, hc2, hd2⟩ := rd_ints Tryd.underlying26 Tryd.underlying3 (by kernel_rfl) hf2
  simp only [Value.cells, List.cons.injEq, Value.slice.injEq, and_true] at e2
  obtain ⟨rfl, rfl, rfl⟩ := e2
  exact (walk A0 n0 c0 s0 B0 m0 k0 z0 b1 len1 cap1 z1 b2 len2 cap2 z2 W ha0 hb0 hc0 hd0 he0 hf0 hg0 hh0 ha1 hb1 hc1 hd1 ha2 hb2 hc2 hd2 hpow).mono fun e W' ⟨he, hb⟩ => ⟨_, he, fin W' hb⟩

theorem closed : joinedFacts Tryd.prog 5 Tryd.f5 Rows.fnExactRingCapacitySpec Rows.fnExactRingCapacityRow = true := by
  unfold joinedFacts
  rw [jn_mk, jn_li, jn_en]
  kernel_rfl
theorem over : Rows.fnExactRingCapacityRow.holds Tryd.pinned (OpenSpec.ofChange Rows.fnExactRingCapacitySpec) :=
  OpenClaim.holds_of_wide 5 Tryd.f5 rfl rfl rfl rfl rfl rfl rfl ⟨rfl, rfl, rfl, rfl, rfl⟩ rfl rfl rfl rfl rfl (by kernel_rfl) Tryd.func5 closed
    (of_decide_eq_true (by kernel_rfl)) (by unfold Func.isWrapper; first | (rw [if_pos (by decide +kernel)]; kernel_rfl) | (rw [if_neg (by decide +kernel)]; exact ⟨rfl, rfl⟩))
    (fun os started H enc _ => lifted os started H enc)

/-- THE STATEMENT -/
theorem proved : Rows.FnExactRingCapacityCardSaid :=
  Claim7.holds_tied_plain_at .later [] [.data, .data] true (true, "fafddb0768df4f9ae8af660c0e0f9e50e48e912d7ac9a45c0315271b2e0844f4") false
    over (fun _ h => by cases h) (by kernel_rfl) (fun _ h => by cases h) fnExactRingCapacity_row_tie rfl ⟨rfl, rfl⟩ jn_main rfl
    (fun f fn hf hfn => by
      obtain rfl : f = 5 := Option.some.inj ((show Tryd.prog.funcNamed "loop.example/g00897/laws.FnExactRingCapacity" = some 5 by kernel_rfl).symm.trans hf) |>.symm
      obtain rfl : fn = Tryd.f5 := (Option.some.inj (Tryd.func5.symm.trans hfn)).symm
      exact ⟨by kernel_rfl, fun j t ht => by
        rw [Tryd.params5] at ht
        have hm : t ∈ [25, 26, 26] := by simpa using Array.mem_of_getElem? ht
        have hall : ([25, 26, 26].all fun u => !Tryd.prog.wantsStandIn u) = true := by kernel_rfl
        exact (show Tryd.prog.wantsStandIn t = false by simpa using List.all_eq_true.1 hall t hm)⟩)
    (by kernel_rfl)
end Go.Proofs.YtkpendpjdemknaaDoor.fnExactRingCapacity
