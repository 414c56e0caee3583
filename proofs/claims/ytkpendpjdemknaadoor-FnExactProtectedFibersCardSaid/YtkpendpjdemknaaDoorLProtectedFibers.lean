/- Proved: at every argument impl.ProtectedFibers answers as spec.ProtectedFibers does, in memory of its own, and leaves its arguments alone (the law FnExactProtectedFibers returns true). The table of math/bits as Go's text lays it. -/
import Derived.Test.YtkpendpjdemknaaDoorRows
import Derived.Test.YtkpendpjdemknaaDoorCards
import Derived.Test.YtkpendpjdemknaaDoorTie
import Derived.Test.YtkpendpjdemknaaDoorJn
import Derived.JoinedOf
import Derived.Test.YtkpendpjdemknaaDoorGC
import Derived.Test.YtkpendpjdemknaaDoorGB
import Derived.Test.YtkpendpjdemknaaDoorTwL
import Derived.Test.YtkpendpjdemknaaDoorPfQ
import Derived.WalkKit
import Derived.ProofKit
import Derived.OpenShut
import Derived.ShutString
import Derived.SizedLaws
import Derived.Carry
import Derived.LaidMore
import Derived.LaidHandle
import Derived.MakeChecks
import Derived.Stop.Joined
import Derived.SevenTiedAt
import Derived.SliceStrings
import Derived.DataBytes
import Derived.OpenVars
import Derived.ChangeVars
namespace Go.Proofs.YtkpendpjdemknaaDoor.fnExactProtectedFibers
open Go.ChangeShapes Go.WideShapes Go.ChangeAt Go.RowKit
open Go.ChangeMaps (open_string shut_string)

set_option maxRecDepth 100000 in
set_option maxHeartbeats 8000000 in
theorem walk (A1 : Option Addr) (n1 c1 : Nat) (ss : List ByteArray) (A2 : Option Addr) (n2 c2 : Nat) (fs : List Q4) (Azs : Option Addr) (nzs czs : Nat) (zs : List Int) (w : World) (hn1 : ss.length = n1) (hm1 : n1 ≤ maxLen) (hr1 : Rd w w.heap.size A1 (ss.map Value.string)) (hws : ∀ s ∈ ss, s.size ≤ maxLen) (hn2 : fs.length = n2) (hm2 : n2 ≤ maxLen) (hr2 : Rd w w.heap.size A2 (fs.flatMap Q4.cells)) (_hwf : ∀ q ∈ fs, q.wf) (hnzs : zs.length = nzs) (_hmzs : nzs ≤ maxLen) (hrzs : Rd w w.heap.size Azs (zs.map (Value.int .i64))) (_hwfzs : ∀ z ∈ zs, (Lit.int .i64 z).wf = true) (hpow : Tab w) :
    Calls Tryd.prog 3 #[.agg #[.slice A1 n1 c1, .slice A2 n2 c2], .slice Azs nzs czs] w fun e w' => e = .returned (.bool true) ∧ Below w.heap.size w w' := by
  have HN1 := Lib.hid hn1; have HN2 := Lib.hid hn2; have HWS := Lib.hid hws; clear hn1 hn2 hws _hwf
  have HNzs := Lib.hid hnzs; clear hnzs _hwfzs _hmzs
  by_cases hsmzs : nzs ≤ 1048576
  case neg =>
    have qzs : 1048576 < (nzs : Int) := by omega
    clear hsmzs
    go_enter Tryd.func3, Tryd.ntmps3
    go_wp2
    go_ret
    exact ⟨rfl, ((Below.refl w.heap.size w).alloc (Nat.le_refl _) _)⟩
  case pos =>
  go_enter Tryd.func3, Tryd.ntmps3
  go_wp2_with fail
  obtain ⟨W, hW⟩ : ∃ W, (w.alloc (Obj.cells #[.slice A1 n1 c1, .slice A2 n2 c2] 25)) = W := ⟨_, rfl⟩
  have hk0_0 : W.cell? ⟨w.heap.size, 0, none⟩ = some (.slice A1 n1 c1) := by rw [← hW]; simp [go_sem]
  have hk0_1 : W.cell? ⟨w.heap.size, 1, none⟩ = some (.slice A2 n2 c2) := by rw [← hW]; simp [go_sem]
  have hz : w.heap.size < W.heap.size := by rw [← hW]; simp
  have hbw : Below w.heap.size w W := by rw [← hW]; exact ((Below.refl w.heap.size w).alloc (Nat.le_refl _) _)
  have HBW := Lib.hid hbw
  have HTAB : Hid (∀ V, Below W.heap.size W V → Tab V) := Lib.hid fun V hV => (hpow.over hbw).over hV
  clear hpow
  rw [hW]
  clear hW
  have HR1 : Hid (∀ V, Below W.heap.size W V → Rd V V.heap.size A1 (ss.map Value.string)) := Lib.hid fun V hV => (hr1.moved hbw).moved hV
  clear hr1
  have HR2 : Hid (∀ V, Below W.heap.size W V → Rd V V.heap.size A2 (fs.flatMap Q4.cells)) := Lib.hid fun V hV => (hr2.moved hbw).moved hV
  clear hr2
  have HK0_0 : Hid (∀ V, Below W.heap.size W V → V.cell? ⟨w.heap.size, 0, none⟩ = some (.slice A1 n1 c1)) := Lib.hid fun V hV => (hV.cell (p := ⟨_, _, none⟩) (by show w.heap.size < _; omega)).trans hk0_0
  have HK0_1 : Hid (∀ V, Below W.heap.size W V → V.cell? ⟨w.heap.size, 1, none⟩ = some (.slice A2 n2 c2)) := Lib.hid fun V hV => (hV.cell (p := ⟨_, _, none⟩) (by show w.heap.size < _; omega)).trans hk0_1
  have HRzs : Hid (∀ V, Below W.heap.size W V → Rd V V.heap.size Azs (zs.map (Value.int .i64))) := Lib.hid fun V hV => (hrzs.moved hbw).moved hV
  clear hrzs
  clear hk0_0 hk0_1
  have HZ := Lib.hid hz
  clear hz hbw
  have B0 := Lib.hid (Below.refl W.heap.size W)
  refine (szNet A1 A2 n1 c1 n2 c2 1048576 ss fs W HN1.out hm1 (HR1.out _ B0.out) HWS.out hm2 (by omega) (by omega)).mono ?_
  rintro e w1 ⟨v0, rfl, hb1, hv00, hv10, hv20⟩
  have B1_W := Lib.hid (B0.out.trans (hb1.mono B0.out.size))
  have HLAST1 := Lib.hid hb1
  clear hb1
  by_cases hneg0 : v0 < 0
  · go_wp2
    go_ret
    exact ⟨rfl, HBW.out.trans (B1_W.out.mono HBW.out.size)⟩
  have hp0 : 0 ≤ v0 := by omega
  have hsm1 : n1 ≤ 1048576 := by have := hv20 hp0; omega
  have hsm2 : n2 ≤ 1048576 := by have := hv20 hp0; omega
  have HSZ0 := Lib.hid (hv20 hp0)
  clear hneg0 hv20 hm1 hm2
  have hLn1 : (prO ss fs zs).length ≤ 1048576 := Nat.le_trans (pr_len _ _ _).1 (by have := HN2.out; omega)
  obtain ⟨L1, hL1⟩ : ∃ L, prO ss fs zs = L := ⟨_, rfl⟩
  rw [hL1] at hLn1
  have HL1 := Lib.hid hL1; have HLN1 := Lib.hid hLn1; clear hL1 hLn1
  have hLn2 : (prC ss fs zs).length ≤ 1048576 := Nat.le_trans (pr_len _ _ _).2 (by have := HN2.out; omega)
  obtain ⟨L2, hL2⟩ : ∃ L, prC ss fs zs = L := ⟨_, rfl⟩
  rw [hL2] at hLn2
  have HL2 := Lib.hid hL2; have HLN2 := Lib.hid hLn2; clear hL2 hLn2
  obtain ⟨b, hb⟩ : ∃ b, irB ss fs zs = b := ⟨_, rfl⟩
  have HB := Lib.hid hb; clear hb
  have ka0_0 := HK0_0.out _ B1_W.out
  have ka0_1 := HK0_1.out _ B1_W.out
  go_wp2_with fail
  clear ka0_0 ka0_1
  refine (toNet A1 A2 n1 c1 n2 c2 ss fs w1 HN1.out (HR1.out _ B1_W.out) hsm1 HN2.out (HR2.out _ B1_W.out) hsm2).mono ?_
  rintro e w2 ⟨s01, s02, rfl, hos01, hos02, hb2⟩
  have B2_W := Lib.hid (B1_W.out.trans (hb2.mono B1_W.out.size))
  have HLAST2 := Lib.hid hb2
  clear hb2
  have Os01 := Lib.hid hos01
  have Rs01 : Hid (∀ V, Below w2.heap.size w2 V → Rd V V.heap.size (some ⟨s01, 0, none⟩) (ss.map Value.string)) := Lib.hid fun V hV => (Rd.ofOwnK hos01).moved hV
  have Os02 := Lib.hid hos02
  have Rs02 : Hid (∀ V, Below w2.heap.size w2 V → Rd V V.heap.size (some ⟨s02, 0, none⟩) (fs.flatMap Q4.cells)) := Lib.hid fun V hV => (Rd.ofOwnK hos02).moved hV
  clear hos01 hos02
  have Zw2 := Lib.hid (Below.refl w2.heap.size w2)
  go_wp2_with fail
  refine (toIntS Azs nzs czs zs w2 HNzs.out (HRzs.out _ B2_W.out) hsmzs).mono ?_
  rintro e w3 ⟨s1, hgs1, rfl, hos1, hb3⟩
  have B3_W := Lib.hid (B2_W.out.trans (hb3.mono B2_W.out.size))
  have B3_w2 := Lib.hid (Zw2.out.trans (hb3.mono Zw2.out.size))
  have HLAST3 := Lib.hid hb3
  clear hb3
  have Os1 := Lib.hid hos1
  have Rs1 : Hid (∀ V, Below w3.heap.size w3 V → Rd V V.heap.size (some ⟨s1, 0, none⟩) (zs.map (Value.int .i64))) := Lib.hid fun V hV => (Rd.ofOwnK hos1).moved hV
  clear hos1
  have Zw3 := Lib.hid (Below.refl w3.heap.size w3)
  go_wp2_with fail
  refine (specPF (c := nzs) ⟨HN1.out, hsm1, Nat.le_refl _, Rs01.out _ B3_w2.out, HWS.out, HN2.out, hsm2, Rs02.out _ B3_w2.out⟩ HNzs.out (Rs1.out _ Zw3.out) hsmzs (Nat.le_refl _)).mono ?_
  rw [HL1.out, HL2.out, HB.out]
  rintro e w4 ⟨A1s, A2s, N1s, N2s, d1s, d2s, rfl, HE1s, HE2s, ho1s, ho2s, HPs, hb4⟩
  have B4_W := Lib.hid (B3_W.out.trans (hb4.mono B3_W.out.size))
  have B4_w2 := Lib.hid (B3_w2.out.trans (hb4.mono B3_w2.out.size))
  have B4_w3 := Lib.hid (Zw3.out.trans (hb4.mono Zw3.out.size))
  have HLAST4 := Lib.hid hb4
  clear hb4
  have HO1s := Lib.hid ho1s; clear ho1s
  have hN1s : N1s ≤ 1048576 := by have := HE1s.out; have := HLN1.out; omega
  have HO2s := Lib.hid ho2s; clear ho2s
  have hN2s : N2s ≤ 1048576 := by have := HE2s.out; have := HLN2.out; omega
  have Zw4 := Lib.hid (Below.refl w4.heap.size w4)
  have HRR1s : Hid (∀ U, Below w4.heap.size w4 U → Rd U U.heap.size A1s (L1.map (Value.int .i64))) := Lib.hid fun U hU => (rdOwnA HO1s.out).moved hU
  have HRR2s : Hid (∀ U, Below w4.heap.size w4 U → Rd U U.heap.size A2s (L2.map (Value.int .i64))) := Lib.hid fun U hU => (rdOwnA HO2s.out).moved hU
  have WPW := Lib.hid B4_W.out.size
  have ka0_0 := HK0_0.out _ B4_W.out
  have ka0_1 := HK0_1.out _ B4_W.out
  go_wp2_with fail
  clear ka0_0 ka0_1
  have ZPRE0 := Lib.hid (Zw4.out.size)
  refine (toNet A1 A2 n1 c1 n2 c2 ss fs w4 HN1.out (HR1.out _ B4_W.out) hsm1 HN2.out (HR2.out _ B4_W.out) hsm2).mono ?_
  rintro e w5 ⟨x01, x02, rfl, hox01, hox02, hb5⟩
  have B5_W := Lib.hid (B4_W.out.trans (hb5.mono B4_W.out.size))
  have B5_w4 := Lib.hid (Zw4.out.trans (hb5.mono Zw4.out.size))
  have HLAST5 := Lib.hid hb5
  clear hb5
  have Ox01 := Lib.hid hox01
  have Rx01 : Hid (∀ V, Below w5.heap.size w5 V → Rd V V.heap.size (some ⟨x01, 0, none⟩) (ss.map Value.string)) := Lib.hid fun V hV => (Rd.ofOwnK hox01).moved hV
  have Ox02 := Lib.hid hox02
  have Rx02 : Hid (∀ V, Below w5.heap.size w5 V → Rd V V.heap.size (some ⟨x02, 0, none⟩) (fs.flatMap Q4.cells)) := Lib.hid fun V hV => (Rd.ofOwnK hox02).moved hV
  clear hox01 hox02
  have Zw5 := Lib.hid (Below.refl w5.heap.size w5)
  go_wp2_with fail
  obtain ⟨V0, hV0⟩ : ∃ V, (w5.alloc (Obj.cells #[.slice (some ⟨x01, 0, none⟩) n1 n1, .slice (some ⟨x02, 0, none⟩) n2 n2] 32)) = V := ⟨_, rfl⟩
  have hx0_0 : V0.cell? ⟨w5.heap.size, 0, none⟩ = some (.slice (some ⟨x01, 0, none⟩) n1 n1) := by rw [← hV0]; simp [go_sem]
  have hx0_1 : V0.cell? ⟨w5.heap.size, 1, none⟩ = some (.slice (some ⟨x02, 0, none⟩) n2 n2) := by rw [← hV0]; simp [go_sem]
  have hzV0 : w5.heap.size < V0.heap.size := by rw [← hV0]; simp
  have hbV0 : Below w5.heap.size w5 V0 := by rw [← hV0]; exact (Below.refl _ _).alloc (Nat.le_refl _) _
  rw [hV0]
  clear hV0
  have CV0_W := Lib.hid (B5_W.out.trans (hbV0.mono B5_W.out.size))
  have CV0_w4 := Lib.hid (B5_w4.out.trans (hbV0.mono B5_w4.out.size))
  have CV0_w5 := Lib.hid (Zw5.out.trans (hbV0.mono Zw5.out.size))
  have HX0_0 : Hid (∀ U, Below V0.heap.size V0 U → U.cell? ⟨w5.heap.size, 0, none⟩ = some (.slice (some ⟨x01, 0, none⟩) n1 n1)) := Lib.hid fun U hU => (hU.cell (p := ⟨_, _, none⟩) hzV0).trans hx0_0
  have HX0_1 : Hid (∀ U, Below V0.heap.size V0 U → U.cell? ⟨w5.heap.size, 1, none⟩ = some (.slice (some ⟨x02, 0, none⟩) n2 n2)) := Lib.hid fun U hU => (hU.cell (p := ⟨_, _, none⟩) hzV0).trans hx0_1
  have HZV0 := Lib.hid hzV0
  clear hzV0 hbV0 hx0_0 hx0_1
  have ZV0 := Lib.hid (Below.refl V0.heap.size V0)
  have ZPRE1 := Lib.hid (CV0_w4.out.size)
  refine (toIntS Azs nzs czs zs V0 HNzs.out (HRzs.out _ CV0_W.out) hsmzs).mono ?_
  rintro e w6 ⟨x1, hgx1, rfl, hox1, hb6⟩
  have B6_W := Lib.hid (CV0_W.out.trans (hb6.mono CV0_W.out.size))
  have B6_w4 := Lib.hid (CV0_w4.out.trans (hb6.mono CV0_w4.out.size))
  have B6_w5 := Lib.hid (CV0_w5.out.trans (hb6.mono CV0_w5.out.size))
  have B6_V0 := Lib.hid (ZV0.out.trans (hb6.mono ZV0.out.size))
  have HLAST6 := Lib.hid hb6
  clear hb6
  have Ox1 := Lib.hid hox1
  have Rx1 : Hid (∀ V, Below w6.heap.size w6 V → Rd V V.heap.size (some ⟨x1, 0, none⟩) (zs.map (Value.int .i64))) := Lib.hid fun V hV => (Rd.ofOwnK hox1).moved hV
  clear hox1
  have SEPx01_x1 := Lib.hid (Nat.lt_of_lt_of_le (Ox01.out.lt x01 rfl).2 (Nat.le_trans CV0_w5.out.size (Ox1.out.lt x1 rfl).1))
  have SEPBx01_1 := Lib.hid (Nat.lt_of_lt_of_le (Ox01.out.lt x01 rfl).2 B6_w5.out.size)
  have SEPx02_x1 := Lib.hid (Nat.lt_of_lt_of_le (Ox02.out.lt x02 rfl).2 (Nat.le_trans CV0_w5.out.size (Ox1.out.lt x1 rfl).1))
  have SEPBx02_1 := Lib.hid (Nat.lt_of_lt_of_le (Ox02.out.lt x02 rfl).2 B6_w5.out.size)
  have Zw6 := Lib.hid (Below.refl w6.heap.size w6)
  have kz0_0 := HX0_0.out _ B6_V0.out
  have kz0_1 := HX0_1.out _ B6_V0.out
  have hgz0 : w5.heap.size < w6.heap.size := Nat.lt_of_lt_of_le HZV0.out B6_V0.out.size
  go_wp2_with fail
  clear kz0_0 kz0_1 hgz0
  have PWV := Lib.hid B6_w4.out.size
  have HQx01 : Hid (w4.heap.size ≤ x01 ∧ x01 < w6.heap.size) := Lib.hid ⟨Nat.le_trans ZPRE0.out (Ox01.out.lt x01 rfl).1, Nat.lt_of_lt_of_le (Ox01.out.lt x01 rfl).2 B6_w5.out.size⟩
  have HQx02 : Hid (w4.heap.size ≤ x02 ∧ x02 < w6.heap.size) := Lib.hid ⟨Nat.le_trans ZPRE0.out (Ox02.out.lt x02 rfl).1, Nat.lt_of_lt_of_le (Ox02.out.lt x02 rfl).2 B6_w5.out.size⟩
  have HQx1 : Hid (w4.heap.size ≤ x1 ∧ x1 < w6.heap.size) := Lib.hid ⟨Nat.le_trans ZPRE1.out (Ox1.out.lt x1 rfl).1, Nat.lt_of_lt_of_le (Ox1.out.lt x1 rfl).2 Zw6.out.size⟩
  refine (implPF (c := nzs) ⟨HN1.out, hsm1, Nat.le_refl _, Rx01.out _ B6_w5.out, HWS.out, HN2.out, hsm2, Rx02.out _ B6_w5.out⟩ HNzs.out (Rx1.out _ Zw6.out) hsmzs (Nat.le_refl _) (HTAB.out _ B6_W.out)).mono ?_
  rw [HL1.out, HL2.out, HB.out]
  rintro e w7 ⟨A1x, A2x, N1x, N2x, d1x, d2x, rfl, HE1x, HE2x, ho1x, ho2x, HPx, hb7⟩
  have B7_W := Lib.hid (B6_W.out.trans (hb7.mono B6_W.out.size))
  have B7_w4 := Lib.hid (B6_w4.out.trans (hb7.mono B6_w4.out.size))
  have B7_w5 := Lib.hid (B6_w5.out.trans (hb7.mono B6_w5.out.size))
  have B7_V0 := Lib.hid (B6_V0.out.trans (hb7.mono B6_V0.out.size))
  have B7_w6 := Lib.hid (Zw6.out.trans (hb7.mono Zw6.out.size))
  have HLAST7 := Lib.hid hb7
  clear hb7
  have HO1x := Lib.hid ho1x; clear ho1x
  have hN1x : N1x ≤ 1048576 := by have := HE1x.out; have := HLN1.out; omega
  have HO2x := Lib.hid ho2x; clear ho2x
  have hN2x : N2x ≤ 1048576 := by have := HE2x.out; have := HLN2.out; omega
  have Zw7 := Lib.hid (Below.refl w7.heap.size w7)
  have HRR1x : Hid (∀ U, Below w7.heap.size w7 U → Rd U U.heap.size A1x (L1.map (Value.int .i64))) := Lib.hid fun U hU => (rdOwnA HO1x.out).moved hU
  have HRR2x : Hid (∀ U, Below w7.heap.size w7 U → Rd U U.heap.size A2x (L2.map (Value.int .i64))) := Lib.hid fun U hU => (rdOwnA HO2x.out).moved hU
  obtain rfl : N1x = N1s := HE1x.out.trans HE1s.out.symm
  obtain rfl : N2x = N2s := HE2x.out.trans HE2s.out.symm
  go_wp2_with fail
  refine (eqInts _ _ N1x _ _ L1 w7 HE1x.out.symm (HRR1x.out _ Zw7.out) (HRR1s.out _ B7_w4.out) hN1x).mono ?_
  rintro e w8 ⟨rfl, hb8⟩
  have B8_W := Lib.hid (B7_W.out.trans (hb8.mono B7_W.out.size))
  have B8_w4 := Lib.hid (B7_w4.out.trans (hb8.mono B7_w4.out.size))
  have B8_w5 := Lib.hid (B7_w5.out.trans (hb8.mono B7_w5.out.size))
  have B8_V0 := Lib.hid (B7_V0.out.trans (hb8.mono B7_V0.out.size))
  have B8_w6 := Lib.hid (B7_w6.out.trans (hb8.mono B7_w6.out.size))
  have B8_w7 := Lib.hid (Zw7.out.trans (hb8.mono Zw7.out.size))
  have HLAST8 := Lib.hid hb8
  clear hb8
  go_wp2_with fail
  refine (eqInts _ _ N2x _ _ L2 w8 HE2x.out.symm (HRR2x.out _ B8_w7.out) (HRR2s.out _ B8_w4.out) hN2x).mono ?_
  rintro e w9 ⟨rfl, hb9⟩
  have B9_W := Lib.hid (B8_W.out.trans (hb9.mono B8_W.out.size))
  have B9_w4 := Lib.hid (B8_w4.out.trans (hb9.mono B8_w4.out.size))
  have B9_w5 := Lib.hid (B8_w5.out.trans (hb9.mono B8_w5.out.size))
  have B9_V0 := Lib.hid (B8_V0.out.trans (hb9.mono B8_V0.out.size))
  have B9_w6 := Lib.hid (B8_w6.out.trans (hb9.mono B8_w6.out.size))
  have B9_w7 := Lib.hid (B8_w7.out.trans (hb9.mono B8_w7.out.size))
  have HLAST9 := Lib.hid hb9
  clear hb9
  have ka0_0 := HK0_0.out _ B9_W.out
  have ka0_1 := HK0_1.out _ B9_W.out
  have kx0_0 := HX0_0.out _ B9_V0.out
  have kx0_1 := HX0_1.out _ B9_V0.out
  have hgx : w5.heap.size < w9.heap.size := Nat.lt_of_lt_of_le HZV0.out B9_V0.out.size
  have hgw : w.heap.size < w9.heap.size := Nat.lt_of_lt_of_le (by have := HZ.out; omega) B9_W.out.size
  have hbd : Bel w9 w9.drew := Bel.of (Below.refl _ _).drew
  go_upto_region 13 with fail
  go_cut [67] (fun s67 wx => s67 = .bool false ∧ Bel w9 wx)
  case first =>
    go_region_held3 (fun U => U.cell? ⟨w5.heap.size, 0, none⟩ = some (.slice (some ⟨x01, 0, none⟩) n1 n1) ∧ U.cell? ⟨w5.heap.size, 1, none⟩ = some (.slice (some ⟨x02, 0, none⟩) n2 n2) ∧ U.cell? ⟨w.heap.size, 0, none⟩ = some (.slice A1 n1 c1) ∧ U.cell? ⟨w.heap.size, 1, none⟩ = some (.slice A2 n2 c2) ∧ Bel w9 U)
      (first | go_keep | (go_split_ands; (refine ⟨?_, ?_, ?_, ?_, ?_⟩ <;> first | assumption | exact Bel.step (by assumption) hbt10 | exact Bel.step (by assumption) hbt11 | exact (Bel.at_ (by assumption) hbt10 (by assumption)).trans (by assumption) | exact (Bel.at_ (by assumption) hbt11 (by assumption)).trans (by assumption))))
      (first
        | (go_at_call 9
           go_split_ands
           refine (toNet A1 A2 n1 c1 n2 c2 ss fs _ HN1.out (HR1.out _ (Below.trans B9_W.out ((Bel.out (by assumption)).mono B9_W.out.size))) hsm1 HN2.out (HR2.out _ (Below.trans B9_W.out ((Bel.out (by assumption)).mono B9_W.out.size))) hsm2).mono ?_
           rintro e t10 ⟨y111, y112, rfl, hoy111, hoy112, hbt10⟩
           have Sy111 := Lib.hid (Rd.ofOwnK hoy111)
           have Sy112 := Lib.hid (Rd.ofOwnK hoy112)
           clear hoy111 hoy112)
        | (go_at_call 13
           go_split_ands
           refine (eqNet x01 x02 y111 y112 n1 n2 n1 n2 n1 n2 ss fs t10 HN1.out hsm1 HN2.out hsm2 (Rx01.out _ (Below.trans B9_w5.out ((Bel.out (by assumption)).mono B9_w5.out.size))) (Sy111.out) (Rx02.out _ (Below.trans B9_w5.out ((Bel.out (by assumption)).mono B9_w5.out.size))) (Sy112.out)).mono ?_
           rintro e t11 ⟨rfl, hbt11⟩))
    all_goals
      go_split_ands
      have hbl : Bel w9 t11 := by assumption
      go_wp2_with fail
      go_meet
      exact ⟨rfl, hbl⟩
  case rest =>
  clear hbd hgx hgw ka0_0 ka0_1 kx0_0 kx0_1
  revert hcut; generalize wc = wc1; intro hcut
  obtain ⟨hs_, hbl⟩ := hcut
  subst hs_
  have Ewc1_W := Lib.hid (B9_W.out.trans ((Bel.out hbl).mono B9_W.out.size))
  have Ewc1_w4 := Lib.hid (B9_w4.out.trans ((Bel.out hbl).mono B9_w4.out.size))
  have Ewc1_w5 := Lib.hid (B9_w5.out.trans ((Bel.out hbl).mono B9_w5.out.size))
  have Ewc1_V0 := Lib.hid (B9_V0.out.trans ((Bel.out hbl).mono B9_V0.out.size))
  have Ewc1_w6 := Lib.hid (B9_w6.out.trans ((Bel.out hbl).mono B9_w6.out.size))
  have Ewc1_w7 := Lib.hid (B9_w7.out.trans ((Bel.out hbl).mono B9_w7.out.size))
  clear hbl
  go_wp2_with fail
  refine (toIntS Azs nzs czs zs wc1 HNzs.out (HRzs.out _ Ewc1_W.out) hsmzs).mono ?_
  rintro e w13 ⟨y12, hgy12, rfl, hoy12, hb13⟩
  have B13_W := Lib.hid (Ewc1_W.out.trans (hb13.mono Ewc1_W.out.size))
  have B13_w4 := Lib.hid (Ewc1_w4.out.trans (hb13.mono Ewc1_w4.out.size))
  have B13_w5 := Lib.hid (Ewc1_w5.out.trans (hb13.mono Ewc1_w5.out.size))
  have B13_V0 := Lib.hid (Ewc1_V0.out.trans (hb13.mono Ewc1_V0.out.size))
  have B13_w6 := Lib.hid (Ewc1_w6.out.trans (hb13.mono Ewc1_w6.out.size))
  have B13_w7 := Lib.hid (Ewc1_w7.out.trans (hb13.mono Ewc1_w7.out.size))
  have HLAST13 := Lib.hid hb13
  clear hb13
  have Sy12 := Lib.hid (Rd.ofOwnK hoy12)
  clear hoy12 hgy12
  go_wp2_with fail
  refine (eqIntS x1 y12 nzs nzs nzs zs w13 HNzs.out (Rx1.out _ B13_w6.out) (Sy12.out) hsmzs).mono ?_
  rintro e w14 ⟨rfl, hb14⟩
  have B14_W := Lib.hid (B13_W.out.trans (hb14.mono B13_W.out.size))
  have B14_w4 := Lib.hid (B13_w4.out.trans (hb14.mono B13_w4.out.size))
  have B14_w5 := Lib.hid (B13_w5.out.trans (hb14.mono B13_w5.out.size))
  have B14_V0 := Lib.hid (B13_V0.out.trans (hb14.mono B13_V0.out.size))
  have B14_w6 := Lib.hid (B13_w6.out.trans (hb14.mono B13_w6.out.size))
  have B14_w7 := Lib.hid (B13_w7.out.trans (hb14.mono B13_w7.out.size))
  have HLAST14 := Lib.hid hb14
  clear hb14
  have HG1_0 := Lib.hid (ownB HO1x.out B14_w7.out)
  have HG2_0 := Lib.hid (ownB HO2x.out B14_w7.out)
  have kx0_0 := HX0_0.out _ B14_V0.out
  have kx0_1 := HX0_1.out _ B14_V0.out
  go_wp2_with fail
  clear kx0_0 kx0_1
  refine (markNetB x01 x02 n1 n2 n1 n2 _ _ w14 (own_base (ownB Ox01.out B14_w5.out) (Nat.zero_le _)) hsm1 (own_base (ownB Ox02.out B14_w5.out) (Nat.zero_le _)) hsm2 (rows_apart Ox01.out Ox02.out (by decide))).mono ?_
  rintro e w15 ⟨k0, rfl, hk0a, hk0b, hoff⟩
  have Fw15_W := Lib.hid (B14_W.out.trans (hoff.below (B := W.heap.size) B14_W.out.size (fun b h => by have hpw := WPW.out; have := HQx01.out; have := HQx02.out; rcases h with h | h <;> omega)))
  have Fw15_w4 := Lib.hid (B14_w4.out.trans (hoff.below (B := w4.heap.size) B14_w4.out.size (fun b h => by have hpw := Nat.le_refl w4.heap.size; have := HQx01.out; have := HQx02.out; rcases h with h | h <;> omega)))
  have HG1_1 := Lib.hid (own_off HG1_0.out hoff (fun b h => by have := HQx01.out; have := HQx02.out; rcases h with h | h <;> omega))
  have HG2_1 := Lib.hid (own_off HG2_0.out hoff (fun b h => by have := HQx01.out; have := HQx02.out; rcases h with h | h <;> omega))
  have Ox1_ := Lib.hid (Off.own hoff (ownB Ox1.out B14_w6.out) (fun h => by have := SEPx01_x1.out; have := SEPx02_x1.out; rcases h with h | h <;> omega))
  clear Ox1; have Ox1 := Ox1_; clear Ox1_
  have Zw15 := Lib.hid (Below.refl w15.heap.size w15)
  clear hoff
  go_wp2_with fail
  refine (markIntsK x1 nzs nzs k0 _ w15 (ownB Ox1.out Zw15.out) hsmzs (by omega) (by omega)).mono ?_
  rintro e w16 ⟨rfl, hoff⟩
  obtain ⟨k1, hk1⟩ : ∃ k, k0 + (nzs : Int) = k := ⟨_, rfl⟩
  have hk1a : 0 ≤ k1 := by omega
  rw [hk1]
  clear hk1
  have Fw16_W := Lib.hid (Fw15_W.out.trans (hoff.below (B := W.heap.size) Fw15_W.out.size (fun b h => by have hpw := WPW.out; have := HQx1.out; have h2 : b = x1 := h; omega)))
  have Fw16_w4 := Lib.hid (Fw15_w4.out.trans (hoff.below (B := w4.heap.size) Fw15_w4.out.size (fun b h => by have hpw := Nat.le_refl w4.heap.size; have := HQx1.out; have h2 : b = x1 := h; omega)))
  have HG1_2 := Lib.hid (own_off HG1_1.out hoff (fun b h => by have := HQx1.out; have h2 : b = x1 := h; omega))
  have HG2_2 := Lib.hid (own_off HG2_1.out hoff (fun b h => by have := HQx1.out; have h2 : b = x1 := h; omega))
  have Zw16 := Lib.hid (Below.refl w16.heap.size w16)
  clear hoff
  have hkn : decide (k1 < 0) = false := decide_eq_false (by omega)
  go_wp2_with fail
  refine (eqInts _ _ N1x _ _ L1 w16 HE1x.out.symm (rdOwnA (ownB HG1_2.out Zw16.out)) (HRR1s.out _ Fw16_w4.out) hN1x).mono ?_
  rintro e w17 ⟨rfl, hb17⟩
  have B17_W := Lib.hid (Fw16_W.out.trans (hb17.mono Fw16_W.out.size))
  have B17_w4 := Lib.hid (Fw16_w4.out.trans (hb17.mono Fw16_w4.out.size))
  have B17_w16 := Lib.hid (Zw16.out.trans (hb17.mono Zw16.out.size))
  have HLAST17 := Lib.hid hb17
  clear hb17
  go_wp2_with fail
  refine (eqInts _ _ N2x _ _ L2 w17 HE2x.out.symm (rdOwnA (ownB HG2_2.out B17_w16.out)) (HRR2s.out _ B17_w4.out) hN2x).mono ?_
  rintro e w18 ⟨rfl, hb18⟩
  have B18_W := Lib.hid (B17_W.out.trans (hb18.mono B17_W.out.size))
  have B18_w4 := Lib.hid (B17_w4.out.trans (hb18.mono B17_w4.out.size))
  have B18_w16 := Lib.hid (B17_w16.out.trans (hb18.mono B17_w16.out.size))
  have HLAST18 := Lib.hid hb18
  clear hb18
  have HGA1 := Lib.hid (ownB HG1_2.out B18_w16.out)
  have HGA2 := Lib.hid (ownB HG2_2.out B18_w16.out)
  obtain ⟨K1, hK1⟩ : ∃ K, 1 + N1x = K := ⟨_, rfl⟩
  have HK1 := Lib.hid hK1
  have hK1b : 1 ≤ K1 ∧ K1 ≤ 10000000 := by omega
  clear hK1
  obtain ⟨K2, hK2⟩ : ∃ K, K1 + N2x = K := ⟨_, rfl⟩
  have HK2 := Lib.hid hK2
  clear hK2
  have hK1n : ¬ ((K1 : Int) < 0) := by omega
  have hK1d : decide ((K1 : Int) < 0) = false := decide_eq_false hK1n
  have hK2n : ¬ ((K2 : Int) < 0) := by omega
  have hK2d : decide ((K2 : Int) < 0) = false := decide_eq_false hK2n
  go_wp2_with fail
  refine (markInt1 A1x N1x d1x L1 w18 HGA1.out hN1x).mono ?_
  rw [HK1.out]
  rintro e w19 ⟨rfl, hoff9, ho91⟩
  have Gw19_W := Lib.hid (B18_W.out.trans (hoff9.below (B := W.heap.size) B18_W.out.size (fun b h => by have := WPW.out; have := PWV.out; have h2 : w6.heap.size ≤ b := (HGA1.out.lt b h).1; omega)))
  have Gw19_w4 := Lib.hid (B18_w4.out.trans (hoff9.below (B := w4.heap.size) B18_w4.out.size (fun b h => by have := WPW.out; have := PWV.out; have h2 : w6.heap.size ≤ b := (HGA1.out.lt b h).1; omega)))
  have HM1 := Lib.hid ho91
  have HM2 := Lib.hid (own_offV HGA2.out hoff9 (fun g h1 h2 => HPx.out g h2 h1))
  clear hoff9 ho91
  go_wp2_with fail
  refine (markIntA9 A2x N2x d2x K1 L2 w19 HM2.out hN2x hK1b.1 (by omega)).mono ?_
  rw [HK2.out]
  rintro e w20 ⟨rfl, hoff9, ho92⟩
  have Gw20_W := Lib.hid (Gw19_W.out.trans (hoff9.below (B := W.heap.size) Gw19_W.out.size (fun b h => by have := WPW.out; have := PWV.out; have h2 : w6.heap.size ≤ b := (HM2.out.lt b h).1; omega)))
  have Gw20_w4 := Lib.hid (Gw19_w4.out.trans (hoff9.below (B := w4.heap.size) Gw19_w4.out.size (fun b h => by have := WPW.out; have := PWV.out; have h2 : w6.heap.size ≤ b := (HM2.out.lt b h).1; omega)))
  have HP2 := Lib.hid ho92
  have HP1 := Lib.hid (own_offV HM1.out hoff9 (fun g h1 h2 => HPx.out g h1 h2))
  clear hoff9 ho92
  have Zw20 := Lib.hid (Below.refl w20.heap.size w20)
  go_wp2_with fail
  refine (heldInt1 A1x N1x d1x w20 (rdOwnA (ownB HP1.out Zw20.out)) hN1x).mono ?_
  rw [HK1.out]
  rintro e w' ⟨rfl, rfl⟩
  go_wp2_with fail
  refine (heldInt9 A2x N2x d2x K1 w20 (rdOwnA (ownB HP2.out Zw20.out)) hN2x (by omega)).mono ?_
  rw [HK2.out]
  rintro e w' ⟨rfl, rfl⟩
  have ka0_0 := HK0_0.out _ Gw20_W.out
  have ka0_1 := HK0_1.out _ Gw20_W.out
  go_wp2_with fail
  clear ka0_0 ka0_1
  refine (toNet A1 A2 n1 c1 n2 c2 ss fs w20 HN1.out (HR1.out _ Gw20_W.out) hsm1 HN2.out (HR2.out _ Gw20_W.out) hsm2).mono ?_
  rintro e w21 ⟨h01, h02, rfl, hoh01, hoh02, hb21⟩
  have B21_W := Lib.hid (Gw20_W.out.trans (hb21.mono Gw20_W.out.size))
  have B21_w4 := Lib.hid (Gw20_w4.out.trans (hb21.mono Gw20_w4.out.size))
  have B21_w20 := Lib.hid (Zw20.out.trans (hb21.mono Zw20.out.size))
  have HLAST21 := Lib.hid hb21
  clear hb21
  have Oh01 := Lib.hid hoh01
  have Rh01 : Hid (∀ V, Below w21.heap.size w21 V → Rd V V.heap.size (some ⟨h01, 0, none⟩) (ss.map Value.string)) := Lib.hid fun V hV => (Rd.ofOwnK hoh01).moved hV
  have Oh02 := Lib.hid hoh02
  have Rh02 : Hid (∀ V, Below w21.heap.size w21 V → Rd V V.heap.size (some ⟨h02, 0, none⟩) (fs.flatMap Q4.cells)) := Lib.hid fun V hV => (Rd.ofOwnK hoh02).moved hV
  clear hoh01 hoh02
  have Zw21 := Lib.hid (Below.refl w21.heap.size w21)
  go_wp2_with fail
  refine (toIntS Azs nzs czs zs w21 HNzs.out (HRzs.out _ B21_W.out) hsmzs).mono ?_
  rintro e w22 ⟨h1, hgh1, rfl, hoh1, hb22⟩
  have B22_W := Lib.hid (B21_W.out.trans (hb22.mono B21_W.out.size))
  have B22_w4 := Lib.hid (B21_w4.out.trans (hb22.mono B21_w4.out.size))
  have B22_w20 := Lib.hid (B21_w20.out.trans (hb22.mono B21_w20.out.size))
  have B22_w21 := Lib.hid (Zw21.out.trans (hb22.mono Zw21.out.size))
  have HLAST22 := Lib.hid hb22
  clear hb22
  have Oh1 := Lib.hid hoh1
  have Rh1 : Hid (∀ V, Below w22.heap.size w22 V → Rd V V.heap.size (some ⟨h1, 0, none⟩) (zs.map (Value.int .i64))) := Lib.hid fun V hV => (Rd.ofOwnK hoh1).moved hV
  clear hoh1
  have Zw22 := Lib.hid (Below.refl w22.heap.size w22)
  go_wp2_with fail
  refine (implPF (c := nzs) ⟨HN1.out, hsm1, Nat.le_refl _, Rh01.out _ B22_w21.out, HWS.out, HN2.out, hsm2, Rh02.out _ B22_w21.out⟩ HNzs.out (Rh1.out _ Zw22.out) hsmzs (Nat.le_refl _) (HTAB.out _ B22_W.out)).mono ?_
  rw [HL1.out, HL2.out, HB.out]
  rintro e w23 ⟨A1h, A2h, N1h, N2h, d1h, d2h, rfl, HE1h, HE2h, ho1h, ho2h, HPh, hb23⟩
  have B23_W := Lib.hid (B22_W.out.trans (hb23.mono B22_W.out.size))
  have B23_w4 := Lib.hid (B22_w4.out.trans (hb23.mono B22_w4.out.size))
  have B23_w20 := Lib.hid (B22_w20.out.trans (hb23.mono B22_w20.out.size))
  have B23_w21 := Lib.hid (B22_w21.out.trans (hb23.mono B22_w21.out.size))
  have B23_w22 := Lib.hid (Zw22.out.trans (hb23.mono Zw22.out.size))
  have HLAST23 := Lib.hid hb23
  clear hb23
  have HO1h := Lib.hid ho1h; clear ho1h
  have hN1h : N1h ≤ 1048576 := by have := HE1h.out; have := HLN1.out; omega
  have HO2h := Lib.hid ho2h; clear ho2h
  have hN2h : N2h ≤ 1048576 := by have := HE2h.out; have := HLN2.out; omega
  have Zw23 := Lib.hid (Below.refl w23.heap.size w23)
  have HRR1h : Hid (∀ U, Below w23.heap.size w23 U → Rd U U.heap.size A1h (L1.map (Value.int .i64))) := Lib.hid fun U hU => (rdOwnA HO1h.out).moved hU
  have HRR2h : Hid (∀ U, Below w23.heap.size w23 U → Rd U U.heap.size A2h (L2.map (Value.int .i64))) := Lib.hid fun U hU => (rdOwnA HO2h.out).moved hU
  obtain rfl : N1h = N1x := HE1h.out.trans HE1x.out.symm
  obtain rfl : N2h = N2x := HE2h.out.trans HE2x.out.symm
  go_wp2_with fail
  refine (eqInts _ _ N1h _ _ L1 w23 HE1h.out.symm (HRR1h.out _ Zw23.out) (HRR1s.out _ B23_w4.out) hN1h).mono ?_
  rintro e w24 ⟨rfl, hb24⟩
  have B24_W := Lib.hid (B23_W.out.trans (hb24.mono B23_W.out.size))
  have B24_w4 := Lib.hid (B23_w4.out.trans (hb24.mono B23_w4.out.size))
  have B24_w20 := Lib.hid (B23_w20.out.trans (hb24.mono B23_w20.out.size))
  have B24_w21 := Lib.hid (B23_w21.out.trans (hb24.mono B23_w21.out.size))
  have B24_w22 := Lib.hid (B23_w22.out.trans (hb24.mono B23_w22.out.size))
  have B24_w23 := Lib.hid (Zw23.out.trans (hb24.mono Zw23.out.size))
  have HLAST24 := Lib.hid hb24
  clear hb24
  go_wp2_with fail
  refine (eqInts _ _ N2h _ _ L2 w24 HE2h.out.symm (HRR2h.out _ B24_w23.out) (HRR2s.out _ B24_w4.out) hN2h).mono ?_
  rintro e w25 ⟨rfl, hb25⟩
  have B25_W := Lib.hid (B24_W.out.trans (hb25.mono B24_W.out.size))
  have B25_w4 := Lib.hid (B24_w4.out.trans (hb25.mono B24_w4.out.size))
  have B25_w20 := Lib.hid (B24_w20.out.trans (hb25.mono B24_w20.out.size))
  have B25_w21 := Lib.hid (B24_w21.out.trans (hb25.mono B24_w21.out.size))
  have B25_w22 := Lib.hid (B24_w22.out.trans (hb25.mono B24_w22.out.size))
  have B25_w23 := Lib.hid (B24_w23.out.trans (hb25.mono B24_w23.out.size))
  have HLAST25 := Lib.hid hb25
  clear hb25
  go_wp2_with fail
  refine (heldInt1 A1x N1h d1x w25 (rdOwnA (ownB HP1.out B25_w20.out)) hN1x).mono ?_
  rw [HK1.out]
  rintro e w' ⟨rfl, rfl⟩
  go_wp2_with fail
  refine (heldInt9 A2x N2h d2x K1 w25 (rdOwnA (ownB HP2.out B25_w20.out)) hN2x (by omega)).mono ?_
  rw [HK2.out]
  rintro e w' ⟨rfl, rfl⟩
  go_wp2
  go_ret
  exact ⟨rfl, HBW.out.trans (B25_W.out.mono HBW.out.size)⟩


theorem own : ownKnob Tryd.prog.godebug = none := by kernel_rfl
theorem laidOut : laidOutB Tryd.prog = true := by kernel_rfl

theorem tTab : (Tryd.prog.globals[1]?).map (·.type) = some 142 := by kernel_rfl
theorem cTab : Tryd.prog.cellsOf 142 = 64 := by kernel_rfl
theorem cU8 : Tryd.prog.cellsOf 5 = 1 := by kernel_rfl
theorem pow_of_laid {W : World} (h : laidMetH Tryd.prog Rows.fnExactProtectedFibersRow.laid W) : Tab W := by
  have h3 : laidMetH Tryd.prog (Rows.fnExactProtectedFibersRow.laid.filter fun x => x.1 == "math/bits.deBruijn64tab") W := h.filter _
  have e : (Rows.fnExactProtectedFibersRow.laid.filter fun x => x.1 == "math/bits.deBruijn64tab") = [("math/bits.deBruijn64tab", Lib.tabData .u8 tzTab)] := by kernel_rfl
  rw [e, MakeChecks.laidMetH_plain _ _ _ (by kernel_rfl)] at h3
  exact Lib.tabIs_of_head tabAt tTab Tryd.underlying142 Tryd.underlying5 cU8 cTab h3

theorem door_met (os : Os) (args : Array Value) : laidMetH Tryd.prog Rows.fnExactProtectedFibersRow.laid ((World.doorLaid Tryd.prog 19 os).forCall (fun _ _ => 0) ⟨#[], args, []⟩).memory :=
  laidMetH_of_parts3 (fuel := 8) (laidMet_of_run' 8 (by kernel_rfl) (by kernel_rfl)) (by kernel_rfl) (by kernel_rfl)

set_option maxRecDepth 100000 in
theorem lifted (os : Os) (started : os.Started) (H : Type) (enc : TypeId × Value → H) :
    ReturnsInHanded {} Tryd.checked os 3 .any (fun w args => (Rows.fnExactProtectedFibersSpec.pre enc Tryd.prog Tryd.f3 [] false w args ∧ laidMetH Tryd.prog Rows.fnExactProtectedFibersRow.laid w) ∧ sizedMet enc Tryd.prog Tryd.f3 (OpenSpec.ofChange Rows.fnExactProtectedFibersSpec) false w args)
      (Rows.fnExactProtectedFibersSpec.post enc Tryd.prog Tryd.f3 false true false false) := by
  refine returnsInHanded_of_change_and (C := Tryd.checked) (X := fun w _ => laidMetH Tryd.prog Rows.fnExactProtectedFibersRow.laid w) (fun _ _ _ hh h => h.of_heap hh) own started (by kernel_rfl) Tryd.func3
    (ChangeSpec.witness_shaped (enc := enc) (C := Tryd.checked) (os := os) (X := fun w _ => laidMetH Tryd.prog Rows.fnExactProtectedFibersRow.laid w) false (World.doorLaid Tryd.prog 19 os) #[.agg #[.slice none 0 0, .slice none 0 0], .slice none 0 0] 8 rfl (World.shaped_of_RefB (by kernel_rfl) (by kernel_rfl)) (by kernel_rfl) (by kernel_rfl) (by kernel_rfl) (door_met os _)) ?_
  intro W base args ds gs before hval0 hW _ hsz0 hL _
  have hval : ∀ (j : Nat) t v, Tryd.f3.params[j]? = some t → args[j]? = some v → Value.okWide Tryd.prog W .any base t v := hval0
  have hsz : (DataW.weightsEach Tryd.prog (Tryd.f3.params.toList ++ Rows.fnExactProtectedFibersSpec.plain.varTypes Tryd.prog) (ds ++ gs)).all (· ≤ reachBytes) = true := hsz0
  have hpow := pow_of_laid hL
  have hW' := hW
  obtain ⟨p, q, hA0, hV, rfl, hfz, hnd⟩ := hW
  have hA : DataW.TrodAll enc Tryd.prog W 0 (fun _ => true) true Tryd.f3.params.toList args.toList ds p := hA0
  rw [Tryd.params3] at hA hval hsz
  obtain ⟨v0, vs0, d0, ds0, p0, q0, hargs, rfl, rfl, h0, r0⟩ := trodAll_cons hA
  obtain ⟨v1, vs1, d1, ds1, p1, q1, rfl, rfl, rfl, h1, r1⟩ := trodAll_cons r0
  obtain ⟨rfl, rfl, rfl⟩ := trodAll_nil r1
  obtain rfl : args = #[v0, v1] := by cases args; simp_all
  obtain ⟨rfl, rfl⟩ := trodVars_none hV
  simp only [List.append_nil] at hW'
  have hlt0 : ∀ x ∈ p0, x.block < W.heap.size := fun x hx => by simpa using hW'.lt x (by simp [hx])
  have hlt1 : ∀ x ∈ p1, x.block < W.heap.size := fun x hx => by simpa using hW'.lt x (by simp [hx])
  have fin : ∀ W' : World, Below W.heap.size W W' → Rows.fnExactProtectedFibersSpec.post enc Tryd.checked.prog Tryd.f3 false true false false W #[v0, v1] (.bool true) W' := by
    intro W' hb
    refine ⟨_, _, _, [] ++ [], (p0 ++ (p1 ++ [])), [], hW', ?_, ?_, rfl, hb.frame _, fun h => by cases h⟩
    · exact trodAll_mk1 (shut_bool Tryd.underlying4 true)
    · exact trodAll_cons_mk (Below.trod laidOut (by kernel_rfl) (of_decide_eq_true (by kernel_rfl)) h0 hb hlt0) (trodAll_cons_mk (Below.trod laidOut (by kernel_rfl) (of_decide_eq_true (by kernel_rfl)) h1 hb hlt1) (trodAll_mk0))
  clear hW' hV hA0
  obtain ⟨A0, n0, c0, s0, B0, m0, k0, z0, rfl, ⟨ha0, hb0, hc0, hd0⟩, ⟨he0, hf0, hg0, hh0⟩⟩ := open_net Tryd.underlying25 (by kernel_rfl) (by kernel_rfl) Tryd.underlying22 Tryd.underlying9 (by kernel_rfl) Tryd.underlying23 Tryd.underlying93 (by kernel_rfl) (by kernel_rfl) rfl (hint_of Tryd.underlying3 (by decide +kernel)) (hval 0 25 v0 rfl rfl) h0
  obtain ⟨b1, len1, cap1, rfl⟩ := okWide_slice Tryd.underlying26 (hval 1 26 v1 rfl rfl)
  obtain ⟨fuel1, hf1⟩ := h1
  obtain ⟨A1, n1, c1, z1, e1, ha1, hb1, hc1, hd1⟩ := rd_ints Tryd.underlying26 Tryd.underlying3 (by kernel_rfl) hf1
  simp only [Value.cells, List.cons.injEq, Value.slice.injEq, and_true] at e1
  obtain ⟨rfl, rfl, rfl⟩ := e1
  exact (walk A0 n0 c0 s0 B0 m0 k0 z0 b1 len1 cap1 z1 W ha0 hb0 hc0 hd0 he0 hf0 hg0 hh0 ha1 hb1 hc1 hd1 hpow).mono fun e W' ⟨he, hb⟩ => ⟨_, he, fin W' hb⟩

theorem closed : joinedFacts Tryd.prog 3 Tryd.f3 Rows.fnExactProtectedFibersSpec Rows.fnExactProtectedFibersRow = true := by
  unfold joinedFacts
  rw [jn_mk, jn_li, jn_en]
  kernel_rfl
theorem over : Rows.fnExactProtectedFibersRow.holds Tryd.pinned (OpenSpec.ofChange Rows.fnExactProtectedFibersSpec) :=
  OpenClaim.holds_of_wide 3 Tryd.f3 rfl rfl rfl rfl rfl rfl rfl ⟨rfl, rfl, rfl, rfl, rfl⟩ rfl rfl rfl rfl rfl (by kernel_rfl) Tryd.func3 closed
    (of_decide_eq_true (by kernel_rfl)) (by unfold Func.isWrapper; first | (rw [if_pos (by decide +kernel)]; kernel_rfl) | (rw [if_neg (by decide +kernel)]; exact ⟨rfl, rfl⟩))
    (fun os started H enc _ => lifted os started H enc)

/-- THE STATEMENT -/
theorem proved : Rows.FnExactProtectedFibersCardSaid :=
  Claim7.holds_tied_plain_at .later [] [.data, .data] true (true, "fafddb0768df4f9ae8af660c0e0f9e50e48e912d7ac9a45c0315271b2e0844f4") false
    over (fun _ h => by cases h) (by kernel_rfl) (fun _ h => by cases h) fnExactProtectedFibers_row_tie rfl ⟨rfl, rfl⟩ jn_main rfl
    (fun f fn hf hfn => by
      obtain rfl : f = 3 := Option.some.inj ((show Tryd.prog.funcNamed "loop.example/g00897/laws.FnExactProtectedFibers" = some 3 by kernel_rfl).symm.trans hf) |>.symm
      obtain rfl : fn = Tryd.f3 := (Option.some.inj (Tryd.func3.symm.trans hfn)).symm
      exact ⟨by kernel_rfl, fun j t ht => by
        rw [Tryd.params3] at ht
        have hm : t ∈ [25, 26] := by simpa using Array.mem_of_getElem? ht
        have hall : ([25, 26].all fun u => !Tryd.prog.wantsStandIn u) = true := by kernel_rfl
        exact (show Tryd.prog.wantsStandIn t = false by simpa using List.all_eq_true.1 hall t hm)⟩)
    (by kernel_rfl)
end Go.Proofs.YtkpendpjdemknaaDoor.fnExactProtectedFibers
