/- Proved: at every argument impl.RingNodes answers as spec.RingNodes does, in memory of its own, and leaves its arguments alone (the law FnExactRingNodes returns true). No condition. -/
import Derived.Test.YtflniajjecfgeaaRows
import Derived.Test.YtflniajjecfgeaaJn
import Derived.JoinedOf
import Derived.Test.YtflniajjecfgeaaGC
import Derived.Test.YtflniajjecfgeaaGB
import Derived.Test.YtflniajjecfgeaaRgR
import Derived.Test.YtflniajjecfgeaaGA
import Derived.WalkKit
import Derived.ProofKit
import Derived.OpenShut
import Derived.ShutString
import Derived.SizedLaws
import Derived.Carry
namespace Go.Proofs.Ytflniajjecfgeaa.fnExactRingNodes
open Go.ChangeShapes Go.WideShapes Go.ChangeAt Go.RowKit
open Go.ChangeMaps (open_string shut_string)

set_option maxRecDepth 100000 in
set_option maxHeartbeats 8000000 in
theorem walk (A1 : Option Addr) (n1 c1 : Nat) (ss : List ByteArray) (A2 : Option Addr) (n2 c2 : Nat) (fs : List Q4) (Azs : Option Addr) (nzs czs : Nat) (zs : List Int) (w : World) (hn1 : ss.length = n1) (hm1 : n1 ≤ maxLen) (hr1 : Rd w w.heap.size A1 (ss.map Value.string)) (hws : ∀ s ∈ ss, s.size ≤ maxLen) (hn2 : fs.length = n2) (hm2 : n2 ≤ maxLen) (hr2 : Rd w w.heap.size A2 (fs.flatMap Q4.cells)) (_hwf : ∀ q ∈ fs, q.wf) (hnzs : zs.length = nzs) (_hmzs : nzs ≤ maxLen) (hrzs : Rd w w.heap.size Azs (zs.map (Value.int .i64))) (_hwfzs : ∀ z ∈ zs, (Lit.int .i64 z).wf = true) :
    Calls Try.prog 5 #[.agg #[.slice A1 n1 c1, .slice A2 n2 c2], .slice Azs nzs czs] w fun e w' => e = .returned (.bool true) ∧ Below w.heap.size w w' := by
  have HN1 := Lib.hid hn1; have HN2 := Lib.hid hn2; have HWS := Lib.hid hws; clear hn1 hn2 hws _hwf
  have HNzs := Lib.hid hnzs; clear hnzs _hwfzs _hmzs
  by_cases hsmzs : nzs ≤ 1048576
  case neg =>
    have qzs : 1048576 < (nzs : Int) := by omega
    clear hsmzs
    go_enter Try.func5, Try.ntmps5
    go_wp2
    go_ret
    exact ⟨rfl, ((Below.refl w.heap.size w).alloc (Nat.le_refl _) _)⟩
  case pos =>
  go_enter Try.func5, Try.ntmps5
  go_wp2_with fail
  obtain ⟨W, hW⟩ : ∃ W, (w.alloc (Obj.cells #[.slice A1 n1 c1, .slice A2 n2 c2] 25)) = W := ⟨_, rfl⟩
  have hk0_0 : W.cell? ⟨w.heap.size, 0, none⟩ = some (.slice A1 n1 c1) := by rw [← hW]; simp [go_sem]
  have hk0_1 : W.cell? ⟨w.heap.size, 1, none⟩ = some (.slice A2 n2 c2) := by rw [← hW]; simp [go_sem]
  have hz : w.heap.size < W.heap.size := by rw [← hW]; simp
  have hbw : Below w.heap.size w W := by rw [← hW]; exact ((Below.refl w.heap.size w).alloc (Nat.le_refl _) _)
  have HBW := Lib.hid hbw
  rw [hW]
  clear hW
  have HR1 : Hid (∀ V, Below W.heap.size W V → Rd V V.heap.size A1 (ss.map Value.string)) := Lib.hid fun V hV => (hr1.moved hbw).moved hV
  clear hr1
  have HR2 : Hid (∀ V, Below W.heap.size W V → Rd V V.heap.size A2 (fs.flatMap Q4.cells)) := Lib.hid fun V hV => (hr2.moved hbw).moved hV
  clear hr2
  have HK0_0 : Hid (∀ V, Below W.heap.size W V → V.cell? ⟨w.heap.size, 0, none⟩ = some (.slice A1 n1 c1)) := Lib.hid fun V hV => (hV.cell (p := ⟨_, _, none⟩) (by show w.heap.size < _; omega)).trans hk0_0
  have HK0_1 : Hid (∀ V, Below W.heap.size W V → V.cell? ⟨w.heap.size, 1, none⟩ = some (.slice A2 n2 c2)) := Lib.hid fun V hV => (hV.cell (p := ⟨_, _, none⟩) (by show w.heap.size < _; omega)).trans hk0_1
  have HRzs : Hid (∀ V, Below W.heap.size W V → Rd V V.heap.size Azs (zs.map (Value.int .i64))) := Lib.hid fun V hV => (hrzs.moved hbw).moved hV
  clear hrzs
  clear hk0_0 hk0_1
  have HZ := Lib.hid hz
  clear hz hbw
  have B0 := Lib.hid (Below.refl W.heap.size W)
  refine (szNet A1 A2 n1 c1 n2 c2 1048576 ss fs W HN1.out hm1 (HR1.out _ B0.out) HWS.out hm2 (by omega) (by omega)).mono ?_
  rintro e w1 ⟨v0, rfl, hb1, hv00, hv10, hv20⟩
  have B1_W := Lib.hid (B0.out.trans (hb1.mono B0.out.size))
  have HLAST1 := Lib.hid hb1
  clear hb1
  by_cases hneg0 : v0 < 0
  · go_wp2
    go_ret
    exact ⟨rfl, HBW.out.trans (B1_W.out.mono HBW.out.size)⟩
  have hp0 : 0 ≤ v0 := by omega
  have hsm1 : n1 ≤ 1048576 := by have := hv20 hp0; omega
  have hsm2 : n2 ≤ 1048576 := by have := hv20 hp0; omega
  have HSZ0 := Lib.hid (hv20 hp0)
  clear hneg0 hv20 hm1 hm2
  have hLn : (rgnL ss fs zs).length ≤ 1048576 := Nat.le_trans (rgn_len _ _ _) (by have := HNzs.out; omega)
  obtain ⟨L, hL⟩ : ∃ L, rgnL ss fs zs = L := ⟨_, rfl⟩
  obtain ⟨b, hb⟩ : ∃ b, irB ss fs zs = b := ⟨_, rfl⟩
  rw [hL] at hLn
  have HL := Lib.hid hL; have HB := Lib.hid hb; have HLN := Lib.hid hLn
  clear hL hb hLn
  have ka0_0 := HK0_0.out _ B1_W.out
  have ka0_1 := HK0_1.out _ B1_W.out
  go_wp2_with fail
  clear ka0_0 ka0_1
  refine (toNet A1 A2 n1 c1 n2 c2 ss fs w1 HN1.out (HR1.out _ B1_W.out) hsm1 HN2.out (HR2.out _ B1_W.out) hsm2).mono ?_
  rintro e w2 ⟨s01, s02, rfl, hos01, hos02, hb2⟩
  have B2_W := Lib.hid (B1_W.out.trans (hb2.mono B1_W.out.size))
  have HLAST2 := Lib.hid hb2
  clear hb2
  have Os01 := Lib.hid hos01
  have Rs01 : Hid (∀ V, Below w2.heap.size w2 V → Rd V V.heap.size (some ⟨s01, 0, none⟩) (ss.map Value.string)) := Lib.hid fun V hV => (Rd.ofOwnK hos01).moved hV
  have Os02 := Lib.hid hos02
  have Rs02 : Hid (∀ V, Below w2.heap.size w2 V → Rd V V.heap.size (some ⟨s02, 0, none⟩) (fs.flatMap Q4.cells)) := Lib.hid fun V hV => (Rd.ofOwnK hos02).moved hV
  clear hos01 hos02
  have Zw2 := Lib.hid (Below.refl w2.heap.size w2)
  go_wp2_with fail
  refine (toIntS Azs nzs czs zs w2 HNzs.out (HRzs.out _ B2_W.out) hsmzs).mono ?_
  rintro e w3 ⟨s1, hgs1, rfl, hos1, hb3⟩
  have B3_W := Lib.hid (B2_W.out.trans (hb3.mono B2_W.out.size))
  have B3_w2 := Lib.hid (Zw2.out.trans (hb3.mono Zw2.out.size))
  have HLAST3 := Lib.hid hb3
  clear hb3
  have Os1 := Lib.hid hos1
  have Rs1 : Hid (∀ V, Below w3.heap.size w3 V → Rd V V.heap.size (some ⟨s1, 0, none⟩) (zs.map (Value.int .i64))) := Lib.hid fun V hV => (Rd.ofOwnK hos1).moved hV
  clear hos1
  have Zw3 := Lib.hid (Below.refl w3.heap.size w3)
  go_wp2_with fail
  refine (specRgN (c := nzs) ⟨HN1.out, hsm1, Nat.le_refl _, Rs01.out _ B3_w2.out, HWS.out, HN2.out, hsm2, Rs02.out _ B3_w2.out⟩ HNzs.out (Rs1.out _ Zw3.out) hsmzs (Nat.le_refl _)).mono ?_
  rw [HL.out, HB.out]
  rintro e w4 ⟨As, Ns, cs, rfl, HNNs, hos, hb4⟩
  have B4_W := Lib.hid (B3_W.out.trans (hb4.mono B3_W.out.size))
  have B4_w2 := Lib.hid (B3_w2.out.trans (hb4.mono B3_w2.out.size))
  have B4_w3 := Lib.hid (Zw3.out.trans (hb4.mono Zw3.out.size))
  have HLAST4 := Lib.hid hb4
  clear hb4
  have HOs := Lib.hid hos; clear hos
  have hNs : Ns ≤ 1048576 := by have := HNNs.out; have := HLN.out; omega
  have HRRs : Hid (∀ V, Below w4.heap.size w4 V → Rd V V.heap.size As (L.map (Value.int .i64))) := Lib.hid fun V hV => (Rd.ofOwn HOs.out).moved hV
  have Zw4 := Lib.hid (Below.refl w4.heap.size w4)
  have WPW := Lib.hid B4_W.out.size
  have ka0_0 := HK0_0.out _ B4_W.out
  have ka0_1 := HK0_1.out _ B4_W.out
  go_wp2_with fail
  clear ka0_0 ka0_1
  have ZPRE0 := Lib.hid (Zw4.out.size)
  refine (toNet A1 A2 n1 c1 n2 c2 ss fs w4 HN1.out (HR1.out _ B4_W.out) hsm1 HN2.out (HR2.out _ B4_W.out) hsm2).mono ?_
  rintro e w5 ⟨x01, x02, rfl, hox01, hox02, hb5⟩
  have B5_W := Lib.hid (B4_W.out.trans (hb5.mono B4_W.out.size))
  have B5_w4 := Lib.hid (Zw4.out.trans (hb5.mono Zw4.out.size))
  have HLAST5 := Lib.hid hb5
  clear hb5
  have Ox01 := Lib.hid hox01
  have Rx01 : Hid (∀ V, Below w5.heap.size w5 V → Rd V V.heap.size (some ⟨x01, 0, none⟩) (ss.map Value.string)) := Lib.hid fun V hV => (Rd.ofOwnK hox01).moved hV
  have Ox02 := Lib.hid hox02
  have Rx02 : Hid (∀ V, Below w5.heap.size w5 V → Rd V V.heap.size (some ⟨x02, 0, none⟩) (fs.flatMap Q4.cells)) := Lib.hid fun V hV => (Rd.ofOwnK hox02).moved hV
  clear hox01 hox02
  have Zw5 := Lib.hid (Below.refl w5.heap.size w5)
  go_wp2_with fail
  obtain ⟨V0, hV0⟩ : ∃ V, (w5.alloc (Obj.cells #[.slice (some ⟨x01, 0, none⟩) n1 n1, .slice (some ⟨x02, 0, none⟩) n2 n2] 36)) = V := ⟨_, rfl⟩
  have hx0_0 : V0.cell? ⟨w5.heap.size, 0, none⟩ = some (.slice (some ⟨x01, 0, none⟩) n1 n1) := by rw [← hV0]; simp [go_sem]
  have hx0_1 : V0.cell? ⟨w5.heap.size, 1, none⟩ = some (.slice (some ⟨x02, 0, none⟩) n2 n2) := by rw [← hV0]; simp [go_sem]
  have hzV0 : w5.heap.size < V0.heap.size := by rw [← hV0]; simp
  have hbV0 : Below w5.heap.size w5 V0 := by rw [← hV0]; exact (Below.refl _ _).alloc (Nat.le_refl _) _
  rw [hV0]
  clear hV0
  have CV0_W := Lib.hid (B5_W.out.trans (hbV0.mono B5_W.out.size))
  have CV0_w4 := Lib.hid (B5_w4.out.trans (hbV0.mono B5_w4.out.size))
  have CV0_w5 := Lib.hid (Zw5.out.trans (hbV0.mono Zw5.out.size))
  have HX0_0 : Hid (∀ U, Below V0.heap.size V0 U → U.cell? ⟨w5.heap.size, 0, none⟩ = some (.slice (some ⟨x01, 0, none⟩) n1 n1)) := Lib.hid fun U hU => (hU.cell (p := ⟨_, _, none⟩) hzV0).trans hx0_0
  have HX0_1 : Hid (∀ U, Below V0.heap.size V0 U → U.cell? ⟨w5.heap.size, 1, none⟩ = some (.slice (some ⟨x02, 0, none⟩) n2 n2)) := Lib.hid fun U hU => (hU.cell (p := ⟨_, _, none⟩) hzV0).trans hx0_1
  have HZV0 := Lib.hid hzV0
  clear hzV0 hbV0 hx0_0 hx0_1
  have ZV0 := Lib.hid (Below.refl V0.heap.size V0)
  have ZPRE1 := Lib.hid (CV0_w4.out.size)
  refine (toIntS Azs nzs czs zs V0 HNzs.out (HRzs.out _ CV0_W.out) hsmzs).mono ?_
  rintro e w6 ⟨x1, hgx1, rfl, hox1, hb6⟩
  have B6_W := Lib.hid (CV0_W.out.trans (hb6.mono CV0_W.out.size))
  have B6_w4 := Lib.hid (CV0_w4.out.trans (hb6.mono CV0_w4.out.size))
  have B6_w5 := Lib.hid (CV0_w5.out.trans (hb6.mono CV0_w5.out.size))
  have B6_V0 := Lib.hid (ZV0.out.trans (hb6.mono ZV0.out.size))
  have HLAST6 := Lib.hid hb6
  clear hb6
  have Ox1 := Lib.hid hox1
  have Rx1 : Hid (∀ V, Below w6.heap.size w6 V → Rd V V.heap.size (some ⟨x1, 0, none⟩) (zs.map (Value.int .i64))) := Lib.hid fun V hV => (Rd.ofOwnK hox1).moved hV
  clear hox1
  have SEPx01_x1 := Lib.hid (Nat.lt_of_lt_of_le (Ox01.out.lt x01 rfl).2 (Nat.le_trans CV0_w5.out.size (Ox1.out.lt x1 rfl).1))
  have SEPBx01_1 := Lib.hid (Nat.lt_of_lt_of_le (Ox01.out.lt x01 rfl).2 B6_w5.out.size)
  have SEPx02_x1 := Lib.hid (Nat.lt_of_lt_of_le (Ox02.out.lt x02 rfl).2 (Nat.le_trans CV0_w5.out.size (Ox1.out.lt x1 rfl).1))
  have SEPBx02_1 := Lib.hid (Nat.lt_of_lt_of_le (Ox02.out.lt x02 rfl).2 B6_w5.out.size)
  have Zw6 := Lib.hid (Below.refl w6.heap.size w6)
  have kz0_0 := HX0_0.out _ B6_V0.out
  have kz0_1 := HX0_1.out _ B6_V0.out
  have hgz0 : w5.heap.size < w6.heap.size := Nat.lt_of_lt_of_le HZV0.out B6_V0.out.size
  go_wp2_with fail
  clear kz0_0 kz0_1 hgz0
  have PWV := Lib.hid B6_w4.out.size
  have HQx01 : Hid (w4.heap.size ≤ x01 ∧ x01 < w6.heap.size) := Lib.hid ⟨Nat.le_trans ZPRE0.out (Ox01.out.lt x01 rfl).1, Nat.lt_of_lt_of_le (Ox01.out.lt x01 rfl).2 B6_w5.out.size⟩
  have HQx02 : Hid (w4.heap.size ≤ x02 ∧ x02 < w6.heap.size) := Lib.hid ⟨Nat.le_trans ZPRE0.out (Ox02.out.lt x02 rfl).1, Nat.lt_of_lt_of_le (Ox02.out.lt x02 rfl).2 B6_w5.out.size⟩
  have HQx1 : Hid (w4.heap.size ≤ x1 ∧ x1 < w6.heap.size) := Lib.hid ⟨Nat.le_trans ZPRE1.out (Ox1.out.lt x1 rfl).1, Nat.lt_of_lt_of_le (Ox1.out.lt x1 rfl).2 Zw6.out.size⟩
  refine (implRgN (c := nzs) ⟨HN1.out, hsm1, Nat.le_refl _, Rx01.out _ B6_w5.out, HWS.out, HN2.out, hsm2, Rx02.out _ B6_w5.out⟩ HNzs.out (Rx1.out _ Zw6.out) hsmzs (Nat.le_refl _)).mono ?_
  rw [HL.out, HB.out]
  rintro e w7 ⟨Ax, Nx, cx, rfl, HNNx, hox, hb7⟩
  have B7_W := Lib.hid (B6_W.out.trans (hb7.mono B6_W.out.size))
  have B7_w4 := Lib.hid (B6_w4.out.trans (hb7.mono B6_w4.out.size))
  have B7_w5 := Lib.hid (B6_w5.out.trans (hb7.mono B6_w5.out.size))
  have B7_V0 := Lib.hid (B6_V0.out.trans (hb7.mono B6_V0.out.size))
  have B7_w6 := Lib.hid (Zw6.out.trans (hb7.mono Zw6.out.size))
  have HLAST7 := Lib.hid hb7
  clear hb7
  have HOx := Lib.hid hox; clear hox
  have hNx : Nx ≤ 1048576 := by have := HNNx.out; have := HLN.out; omega
  obtain rfl : Nx = Ns := HNNx.out.trans HNNs.out.symm
  have Zw7 := Lib.hid (Below.refl w7.heap.size w7)
  go_wp2_with fail
  refine (eqInts _ _ Nx _ _ L w7 HNNx.out.symm (Rd.ofOwn (ownB HOx.out Zw7.out)) (HRRs.out _ B7_w4.out) hNx).mono ?_
  rintro e w8 ⟨rfl, hb8⟩
  have B8_W := Lib.hid (B7_W.out.trans (hb8.mono B7_W.out.size))
  have B8_w4 := Lib.hid (B7_w4.out.trans (hb8.mono B7_w4.out.size))
  have B8_w5 := Lib.hid (B7_w5.out.trans (hb8.mono B7_w5.out.size))
  have B8_V0 := Lib.hid (B7_V0.out.trans (hb8.mono B7_V0.out.size))
  have B8_w6 := Lib.hid (B7_w6.out.trans (hb8.mono B7_w6.out.size))
  have B8_w7 := Lib.hid (Zw7.out.trans (hb8.mono Zw7.out.size))
  have HLAST8 := Lib.hid hb8
  clear hb8
  have ka0_0 := HK0_0.out _ B8_W.out
  have ka0_1 := HK0_1.out _ B8_W.out
  have kx0_0 := HX0_0.out _ B8_V0.out
  have kx0_1 := HX0_1.out _ B8_V0.out
  have hgx : w5.heap.size < w8.heap.size := Nat.lt_of_lt_of_le HZV0.out B8_V0.out.size
  have hgw : w.heap.size < w8.heap.size := Nat.lt_of_lt_of_le (by have := HZ.out; omega) B8_W.out.size
  have hbd : Bel w8 w8.drew := Bel.of (Below.refl _ _).drew
  go_upto_region 13 with fail
  go_cut [56] (fun s56 wx => s56 = .bool false ∧ Bel w8 wx)
  case first =>
    go_region_held3 (fun U => U.cell? ⟨w5.heap.size, 0, none⟩ = some (.slice (some ⟨x01, 0, none⟩) n1 n1) ∧ U.cell? ⟨w5.heap.size, 1, none⟩ = some (.slice (some ⟨x02, 0, none⟩) n2 n2) ∧ U.cell? ⟨w.heap.size, 0, none⟩ = some (.slice A1 n1 c1) ∧ U.cell? ⟨w.heap.size, 1, none⟩ = some (.slice A2 n2 c2) ∧ Bel w8 U)
      (first | go_keep | (go_split_ands; (refine ⟨?_, ?_, ?_, ?_, ?_⟩ <;> first | assumption | exact Bel.step (by assumption) hbt9 | exact Bel.step (by assumption) hbt10 | exact (Bel.at_ (by assumption) hbt9 (by assumption)).trans (by assumption) | exact (Bel.at_ (by assumption) hbt10 (by assumption)).trans (by assumption))))
      (first
        | (go_at_call 17
           go_split_ands
           refine (toNet A1 A2 n1 c1 n2 c2 ss fs _ HN1.out (HR1.out _ (Below.trans B8_W.out ((Bel.out (by assumption)).mono B8_W.out.size))) hsm1 HN2.out (HR2.out _ (Below.trans B8_W.out ((Bel.out (by assumption)).mono B8_W.out.size))) hsm2).mono ?_
           rintro e t9 ⟨y101, y102, rfl, hoy101, hoy102, hbt9⟩
           have Sy101 := Lib.hid (Rd.ofOwnK hoy101)
           have Sy102 := Lib.hid (Rd.ofOwnK hoy102)
           clear hoy101 hoy102)
        | (go_at_call 21
           go_split_ands
           refine (eqNet x01 x02 y101 y102 n1 n2 n1 n2 n1 n2 ss fs t9 HN1.out hsm1 HN2.out hsm2 (Rx01.out _ (Below.trans B8_w5.out ((Bel.out (by assumption)).mono B8_w5.out.size))) (Sy101.out) (Rx02.out _ (Below.trans B8_w5.out ((Bel.out (by assumption)).mono B8_w5.out.size))) (Sy102.out)).mono ?_
           rintro e t10 ⟨rfl, hbt10⟩))
    all_goals
      go_split_ands
      have hbl : Bel w8 t10 := by assumption
      go_wp2_with fail
      go_meet
      exact ⟨rfl, hbl⟩
  case rest =>
  clear hbd hgx hgw ka0_0 ka0_1 kx0_0 kx0_1
  revert hcut; generalize wc = wc1; intro hcut
  obtain ⟨hs_, hbl⟩ := hcut
  subst hs_
  have Ewc1_W := Lib.hid (B8_W.out.trans ((Bel.out hbl).mono B8_W.out.size))
  have Ewc1_w4 := Lib.hid (B8_w4.out.trans ((Bel.out hbl).mono B8_w4.out.size))
  have Ewc1_w5 := Lib.hid (B8_w5.out.trans ((Bel.out hbl).mono B8_w5.out.size))
  have Ewc1_V0 := Lib.hid (B8_V0.out.trans ((Bel.out hbl).mono B8_V0.out.size))
  have Ewc1_w6 := Lib.hid (B8_w6.out.trans ((Bel.out hbl).mono B8_w6.out.size))
  have Ewc1_w7 := Lib.hid (B8_w7.out.trans ((Bel.out hbl).mono B8_w7.out.size))
  clear hbl
  go_wp2_with fail
  refine (toIntS Azs nzs czs zs wc1 HNzs.out (HRzs.out _ Ewc1_W.out) hsmzs).mono ?_
  rintro e w12 ⟨y11, hgy11, rfl, hoy11, hb12⟩
  have B12_W := Lib.hid (Ewc1_W.out.trans (hb12.mono Ewc1_W.out.size))
  have B12_w4 := Lib.hid (Ewc1_w4.out.trans (hb12.mono Ewc1_w4.out.size))
  have B12_w5 := Lib.hid (Ewc1_w5.out.trans (hb12.mono Ewc1_w5.out.size))
  have B12_V0 := Lib.hid (Ewc1_V0.out.trans (hb12.mono Ewc1_V0.out.size))
  have B12_w6 := Lib.hid (Ewc1_w6.out.trans (hb12.mono Ewc1_w6.out.size))
  have B12_w7 := Lib.hid (Ewc1_w7.out.trans (hb12.mono Ewc1_w7.out.size))
  have HLAST12 := Lib.hid hb12
  clear hb12
  have Sy11 := Lib.hid (Rd.ofOwnK hoy11)
  clear hoy11 hgy11
  go_wp2_with fail
  refine (eqIntS x1 y11 nzs nzs nzs zs w12 HNzs.out (Rx1.out _ B12_w6.out) (Sy11.out) hsmzs).mono ?_
  rintro e w13 ⟨rfl, hb13⟩
  have B13_W := Lib.hid (B12_W.out.trans (hb13.mono B12_W.out.size))
  have B13_w4 := Lib.hid (B12_w4.out.trans (hb13.mono B12_w4.out.size))
  have B13_w5 := Lib.hid (B12_w5.out.trans (hb13.mono B12_w5.out.size))
  have B13_V0 := Lib.hid (B12_V0.out.trans (hb13.mono B12_V0.out.size))
  have B13_w6 := Lib.hid (B12_w6.out.trans (hb13.mono B12_w6.out.size))
  have B13_w7 := Lib.hid (B12_w7.out.trans (hb13.mono B12_w7.out.size))
  have HLAST13 := Lib.hid hb13
  clear hb13
  have HG0 := Lib.hid (ownB HOx.out B13_w7.out)
  have kx0_0 := HX0_0.out _ B13_V0.out
  have kx0_1 := HX0_1.out _ B13_V0.out
  go_wp2_with fail
  clear kx0_0 kx0_1
  refine (markNetB x01 x02 n1 n2 n1 n2 _ _ w13 (own_base (ownB Ox01.out B13_w5.out) (Nat.zero_le _)) hsm1 (own_base (ownB Ox02.out B13_w5.out) (Nat.zero_le _)) hsm2 (rows_apart Ox01.out Ox02.out (by decide))).mono ?_
  rintro e w14 ⟨k0, rfl, hk0a, hk0b, hoff⟩
  have Fw14_W := Lib.hid (B13_W.out.trans (hoff.below (B := W.heap.size) B13_W.out.size (fun b h => by have hpw := WPW.out; have := HQx01.out; have := HQx02.out; rcases h with h | h <;> omega)))
  have Fw14_w4 := Lib.hid (B13_w4.out.trans (hoff.below (B := w4.heap.size) B13_w4.out.size (fun b h => by have hpw := Nat.le_refl w4.heap.size; have := HQx01.out; have := HQx02.out; rcases h with h | h <;> omega)))
  have HG1 := Lib.hid (own_off HG0.out hoff (fun b h => by have := HQx01.out; have := HQx02.out; rcases h with h | h <;> omega))
  have Ox1_ := Lib.hid (Off.own hoff (ownB Ox1.out B13_w6.out) (fun h => by have := SEPx01_x1.out; have := SEPx02_x1.out; rcases h with h | h <;> omega))
  clear Ox1; have Ox1 := Ox1_; clear Ox1_
  have Zw14 := Lib.hid (Below.refl w14.heap.size w14)
  clear hoff
  go_wp2_with fail
  refine (markIntsK x1 nzs nzs k0 _ w14 (ownB Ox1.out Zw14.out) hsmzs (by omega) (by omega)).mono ?_
  rintro e w15 ⟨rfl, hoff⟩
  obtain ⟨k1, hk1⟩ : ∃ k, k0 + (nzs : Int) = k := ⟨_, rfl⟩
  have hk1a : 0 ≤ k1 := by omega
  have hk1b : k1 ≤ 92000000 := by omega
  rw [hk1]
  clear hk1
  have Fw15_W := Lib.hid (Fw14_W.out.trans (hoff.below (B := W.heap.size) Fw14_W.out.size (fun b h => by have hpw := WPW.out; have := HQx1.out; have h2 : b = x1 := h; omega)))
  have Fw15_w4 := Lib.hid (Fw14_w4.out.trans (hoff.below (B := w4.heap.size) Fw14_w4.out.size (fun b h => by have hpw := Nat.le_refl w4.heap.size; have := HQx1.out; have h2 : b = x1 := h; omega)))
  have HG2 := Lib.hid (own_off HG1.out hoff (fun b h => by have := HQx1.out; have h2 : b = x1 := h; omega))
  have Zw15 := Lib.hid (Below.refl w15.heap.size w15)
  clear hoff
  have hkn : decide (k1 < 0) = false := decide_eq_false (by omega)
  go_wp2_with fail
  refine (eqInts _ _ Nx _ _ L w15 HNNx.out.symm (Rd.ofOwn HG2.out) (HRRs.out _ Fw15_w4.out) hNx).mono ?_
  rintro e w16 ⟨rfl, hb16⟩
  have B16_W := Lib.hid (Fw15_W.out.trans (hb16.mono Fw15_W.out.size))
  have B16_w4 := Lib.hid (Fw15_w4.out.trans (hb16.mono Fw15_w4.out.size))
  have B16_w15 := Lib.hid (Zw15.out.trans (hb16.mono Zw15.out.size))
  have HLAST16 := Lib.hid hb16
  clear hb16
  have HGA := Lib.hid (ownB HG2.out B16_w15.out)
  go_wp2_with fail
  refine (markIntsA Ax Nx cx L w16 HGA.out hNx).mono ?_
  rintro e w17 ⟨rfl, hoff9, ho9⟩
  have Gw17_W := Lib.hid (B16_W.out.trans (hoff9.below (B := W.heap.size) B16_W.out.size (fun b h => by have := WPW.out; have := PWV.out; have h2 : w6.heap.size ≤ b := h; omega)))
  have Gw17_w4 := Lib.hid (B16_w4.out.trans (hoff9.below (B := w4.heap.size) B16_w4.out.size (fun b h => by have := WPW.out; have := PWV.out; have h2 : w6.heap.size ≤ b := h; omega)))
  have HM := Lib.hid ho9
  clear hoff9 ho9
  have Zw17 := Lib.hid (Below.refl w17.heap.size w17)
  go_wp2_with fail
  refine (heldInts Ax Nx cx w17 (Rd.ofOwn HM.out) hNx).mono ?_
  rintro e w' ⟨rfl, rfl⟩
  have hN4 : 0 ≤ (Nx : Int) := Int.natCast_nonneg _
  have ka0_0 := HK0_0.out _ Gw17_W.out
  have ka0_1 := HK0_1.out _ Gw17_W.out
  go_wp2_with fail
  clear ka0_0 ka0_1
  refine (toNet A1 A2 n1 c1 n2 c2 ss fs w17 HN1.out (HR1.out _ Gw17_W.out) hsm1 HN2.out (HR2.out _ Gw17_W.out) hsm2).mono ?_
  rintro e w18 ⟨h01, h02, rfl, hoh01, hoh02, hb18⟩
  have B18_W := Lib.hid (Gw17_W.out.trans (hb18.mono Gw17_W.out.size))
  have B18_w4 := Lib.hid (Gw17_w4.out.trans (hb18.mono Gw17_w4.out.size))
  have B18_w17 := Lib.hid (Zw17.out.trans (hb18.mono Zw17.out.size))
  have HLAST18 := Lib.hid hb18
  clear hb18
  have Oh01 := Lib.hid hoh01
  have Rh01 : Hid (∀ V, Below w18.heap.size w18 V → Rd V V.heap.size (some ⟨h01, 0, none⟩) (ss.map Value.string)) := Lib.hid fun V hV => (Rd.ofOwnK hoh01).moved hV
  have Oh02 := Lib.hid hoh02
  have Rh02 : Hid (∀ V, Below w18.heap.size w18 V → Rd V V.heap.size (some ⟨h02, 0, none⟩) (fs.flatMap Q4.cells)) := Lib.hid fun V hV => (Rd.ofOwnK hoh02).moved hV
  clear hoh01 hoh02
  have Zw18 := Lib.hid (Below.refl w18.heap.size w18)
  go_wp2_with fail
  refine (toIntS Azs nzs czs zs w18 HNzs.out (HRzs.out _ B18_W.out) hsmzs).mono ?_
  rintro e w19 ⟨h1, hgh1, rfl, hoh1, hb19⟩
  have B19_W := Lib.hid (B18_W.out.trans (hb19.mono B18_W.out.size))
  have B19_w4 := Lib.hid (B18_w4.out.trans (hb19.mono B18_w4.out.size))
  have B19_w17 := Lib.hid (B18_w17.out.trans (hb19.mono B18_w17.out.size))
  have B19_w18 := Lib.hid (Zw18.out.trans (hb19.mono Zw18.out.size))
  have HLAST19 := Lib.hid hb19
  clear hb19
  have Oh1 := Lib.hid hoh1
  have Rh1 : Hid (∀ V, Below w19.heap.size w19 V → Rd V V.heap.size (some ⟨h1, 0, none⟩) (zs.map (Value.int .i64))) := Lib.hid fun V hV => (Rd.ofOwnK hoh1).moved hV
  clear hoh1
  have Zw19 := Lib.hid (Below.refl w19.heap.size w19)
  go_wp2_with fail
  refine (implRgN (c := nzs) ⟨HN1.out, hsm1, Nat.le_refl _, Rh01.out _ B19_w18.out, HWS.out, HN2.out, hsm2, Rh02.out _ B19_w18.out⟩ HNzs.out (Rh1.out _ Zw19.out) hsmzs (Nat.le_refl _)).mono ?_
  rw [HL.out, HB.out]
  rintro e w20 ⟨Ah, Nh, ch, rfl, HNNh, hoh, hb20⟩
  have B20_W := Lib.hid (B19_W.out.trans (hb20.mono B19_W.out.size))
  have B20_w4 := Lib.hid (B19_w4.out.trans (hb20.mono B19_w4.out.size))
  have B20_w17 := Lib.hid (B19_w17.out.trans (hb20.mono B19_w17.out.size))
  have B20_w18 := Lib.hid (B19_w18.out.trans (hb20.mono B19_w18.out.size))
  have B20_w19 := Lib.hid (Zw19.out.trans (hb20.mono Zw19.out.size))
  have HLAST20 := Lib.hid hb20
  clear hb20
  have HOh := Lib.hid hoh; clear hoh
  have hNh : Nh ≤ 1048576 := by have := HNNh.out; have := HLN.out; omega
  have HRRh : Hid (∀ V, Below w20.heap.size w20 V → Rd V V.heap.size Ah (L.map (Value.int .i64))) := Lib.hid fun V hV => (Rd.ofOwn HOh.out).moved hV
  have Zw20 := Lib.hid (Below.refl w20.heap.size w20)
  obtain rfl : Nh = Nx := HNNh.out.trans HNNx.out.symm
  go_wp2_with fail
  refine (eqInts _ _ Nh _ _ L w20 HNNh.out.symm (HRRh.out _ Zw20.out) (HRRs.out _ B20_w4.out) hNh).mono ?_
  rintro e w21 ⟨rfl, hb21⟩
  have B21_W := Lib.hid (B20_W.out.trans (hb21.mono B20_W.out.size))
  have B21_w4 := Lib.hid (B20_w4.out.trans (hb21.mono B20_w4.out.size))
  have B21_w17 := Lib.hid (B20_w17.out.trans (hb21.mono B20_w17.out.size))
  have B21_w18 := Lib.hid (B20_w18.out.trans (hb21.mono B20_w18.out.size))
  have B21_w19 := Lib.hid (B20_w19.out.trans (hb21.mono B20_w19.out.size))
  have B21_w20 := Lib.hid (Zw20.out.trans (hb21.mono Zw20.out.size))
  have HLAST21 := Lib.hid hb21
  clear hb21
  have HMM := Lib.hid (ownB HM.out B21_w17.out)
  go_wp2_with fail
  refine (heldInts Ax Nh cx w21 (Rd.ofOwn HMM.out) hNh).mono ?_
  rintro e w' ⟨rfl, rfl⟩
  go_wp2
  go_ret
  exact ⟨rfl, HBW.out.trans (B21_W.out.mono HBW.out.size)⟩


theorem own : ownKnob Try.prog.godebug = none := by kernel_rfl
theorem laidOut : laidOutB Try.prog = true := by kernel_rfl
set_option maxRecDepth 100000 in
theorem lifted (os : Os) (started : os.Started) (H : Type) (enc : TypeId × Value → H) :
    ReturnsInHanded {} Try.checked os 5 .any (Rows.fnExactRingNodesSpec.pre6 enc Try.prog Try.f5 Rows.fnExactRingNodesRow.domain false) (Rows.fnExactRingNodesSpec.post enc Try.prog Try.f5 false true false false) := by
  refine returnsInHanded_of_change_sized (C := Try.checked) own started (by kernel_rfl) Try.func5
    (ChangeSpec.witness6 (enc := enc) (C := Try.checked) false ⟨#[], #[.agg #[.slice none 0 0, .slice none 0 0], .slice none 0 0], []⟩ 8 (by kernel_rfl) (by kernel_rfl) (by kernel_rfl) (by kernel_rfl)) ?_
  intro W base args ds gs before hval0 hW _ hsz0 _
  clear hsz0
  have hval : ∀ (j : Nat) t v, Try.f5.params[j]? = some t → args[j]? = some v → Value.okWide Try.prog W .any base t v := hval0
  have hW' := hW
  obtain ⟨p, q, hA0, hV, rfl, _, _⟩ := hW
  have hA : DataW.TrodAll enc Try.prog W 0 (fun _ => true) true Try.f5.params.toList args.toList ds p := hA0
  rw [Try.params5] at hA hval
  obtain ⟨v0, vs0, d0, ds0, p0, q0, hargs, rfl, rfl, h0, r0⟩ := trodAll_cons hA
  obtain ⟨v1, vs1, d1, ds1, p1, q1, rfl, rfl, rfl, h1, r1⟩ := trodAll_cons r0
  obtain ⟨rfl, rfl, rfl⟩ := trodAll_nil r1
  obtain rfl : args = #[v0, v1] := by cases args; simp_all
  obtain ⟨rfl, rfl⟩ := trodVars_none hV
  simp only [List.append_nil] at hW'
  have hlt0 : ∀ x ∈ p0, x.block < W.heap.size := fun x hx => by simpa using hW'.lt x (by simp [hx])
  have hlt1 : ∀ x ∈ p1, x.block < W.heap.size := fun x hx => by simpa using hW'.lt x (by simp [hx])
  have fin : ∀ W' : World, Below W.heap.size W W' → Rows.fnExactRingNodesSpec.post enc Try.checked.prog Try.f5 false true false false W #[v0, v1] (.bool true) W' := by
    intro W' hb
    refine ⟨_, _, _, [] ++ [], (p0 ++ (p1 ++ [])), [], hW', ?_, ?_, rfl, hb.frame _, fun h => by cases h⟩
    · exact trodAll_mk1 (shut_bool Try.underlying4 true)
    · exact trodAll_cons_mk (Below.trod laidOut (by kernel_rfl) (of_decide_eq_true (by kernel_rfl)) h0 hb hlt0) (trodAll_cons_mk (Below.trod laidOut (by kernel_rfl) (of_decide_eq_true (by kernel_rfl)) h1 hb hlt1) (trodAll_mk0))
  clear hW' hV hA0
  obtain ⟨A0, n0, c0, s0, B0, m0, k0, z0, rfl, ⟨ha0, hb0, hc0, hd0⟩, ⟨he0, hf0, hg0, hh0⟩⟩ := open_net Try.underlying25 (by kernel_rfl) (by kernel_rfl) Try.underlying22 Try.underlying9 (by kernel_rfl) Try.underlying23 Try.underlying55 (by kernel_rfl) (by kernel_rfl) rfl (hint_of Try.underlying3 (by decide +kernel)) (hval 0 25 v0 rfl rfl) h0
  obtain ⟨b1, len1, cap1, rfl⟩ := okWide_slice Try.underlying26 (hval 1 26 v1 rfl rfl)
  obtain ⟨fuel1, hf1⟩ := h1
  obtain ⟨A1, n1, c1, z1, e1, ha1, hb1, hc1, hd1⟩ := rd_ints Try.underlying26 Try.underlying3 (by kernel_rfl) hf1
  simp only [Value.cells, List.cons.injEq, Value.slice.injEq, and_true] at e1
  obtain ⟨rfl, rfl, rfl⟩ := e1
  exact (walk A0 n0 c0 s0 B0 m0 k0 z0 b1 len1 cap1 z1 W ha0 hb0 hc0 hd0 he0 hf0 hg0 hh0 ha1 hb1 hc1 hd1).mono fun e W' ⟨he, hb⟩ => ⟨_, he, fin W' hb⟩

theorem closed : joinedFacts Try.prog 5 Try.f5 Rows.fnExactRingNodesSpec Rows.fnExactRingNodesRow = true := by
  unfold joinedFacts
  rw [jn_mk, jn_li, jn_en]
  kernel_rfl
theorem over : Rows.fnExactRingNodesRow.holds Try.pinned (OpenSpec.ofChange Rows.fnExactRingNodesSpec) :=
  OpenClaim.holds_of_wide 5 Try.f5 rfl rfl rfl rfl rfl rfl rfl ⟨rfl, rfl, rfl, rfl, rfl⟩ rfl rfl rfl rfl rfl (by kernel_rfl) Try.func5 closed
    (of_decide_eq_true (by kernel_rfl)) (by unfold Func.isWrapper; first | (rw [if_pos (by decide +kernel)]; kernel_rfl) | (rw [if_neg (by decide +kernel)]; exact ⟨rfl, rfl⟩))
    (fun os started H enc _ => lifted os started H enc)

/-- THE STATEMENT -/
theorem proved : Rows.FnExactRingNodesSaid :=
  over
end Go.Proofs.Ytflniajjecfgeaa.fnExactRingNodes
