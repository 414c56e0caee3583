/- Proved: at every argument impl.RemoveFibers answers as spec.RemoveFibers does, in memory of its own, and leaves its arguments alone (the law FnExactRemoveFibers returns true). No condition. -/
import Derived.Test.YtlmemmcdabhooaaRows
import Derived.Test.YtlmemmcdabhooaaJn
import Derived.JoinedOf
import Derived.Test.YtlmemmcdabhooaaGC
import Derived.Test.YtlmemmcdabhooaaGB
import Derived.Test.YtlmemmcdabhooaaRf
import Derived.Test.YtlmemmcdabhooaaNtB
import Derived.Test.YtlmemmcdabhooaaGA
import Derived.WalkKit
import Derived.ProofKit
import Derived.OpenShut
import Derived.ShutString
import Derived.SizedLaws
import Derived.Carry
namespace Go.Proofs.Ytlmemmcdabhooaa.fnExactRemoveFibers
open Go.ChangeShapes Go.WideShapes Go.ChangeAt Go.RowKit
open Go.ChangeMaps (open_string shut_string)

set_option maxRecDepth 100000 in
set_option maxHeartbeats 8000000 in
theorem walk (A1 : Option Addr) (n1 c1 : Nat) (ss : List ByteArray) (A2 : Option Addr) (n2 c2 : Nat) (fs : List Q4) (Azs : Option Addr) (nzs czs : Nat) (zs : List Int) (w : World) (hn1 : ss.length = n1) (hm1 : n1 ≤ maxLen) (hr1 : Rd w w.heap.size A1 (ss.map Value.string)) (hws : ∀ s ∈ ss, s.size ≤ maxLen) (hn2 : fs.length = n2) (hm2 : n2 ≤ maxLen) (hr2 : Rd w w.heap.size A2 (fs.flatMap Q4.cells)) (_hwf : ∀ q ∈ fs, q.wf) (hnzs : zs.length = nzs) (_hmzs : nzs ≤ maxLen) (hrzs : Rd w w.heap.size Azs (zs.map (Value.int .i64))) (_hwfzs : ∀ z ∈ zs, (Lit.int .i64 z).wf = true) :
    Calls Try.prog 5 #[.agg #[.slice A1 n1 c1, .slice A2 n2 c2], .slice Azs nzs czs] w fun e w' => e = .returned (.bool true) ∧ Below w.heap.size w w' := by
  have HN1 := Lib.hid hn1; have HN2 := Lib.hid hn2; have HWS := Lib.hid hws; clear hn1 hn2 hws _hwf
  have HNzs := Lib.hid hnzs; clear hnzs _hwfzs _hmzs
  by_cases hsmzs : nzs ≤ 1048576
  case neg =>
    have qzs : 1048576 < (nzs : Int) := by omega
    clear hsmzs
    go_enter Try.func5, Try.ntmps5
    go_wp2
    go_ret
    exact ⟨rfl, ((Below.refl w.heap.size w).alloc (Nat.le_refl _) _)⟩
  case pos =>
  go_enter Try.func5, Try.ntmps5
  go_wp2_with fail
  obtain ⟨W, hW⟩ : ∃ W, (w.alloc (Obj.cells #[.slice A1 n1 c1, .slice A2 n2 c2] 25)) = W := ⟨_, rfl⟩
  have hk0_0 : W.cell? ⟨w.heap.size, 0, none⟩ = some (.slice A1 n1 c1) := by rw [← hW]; simp [go_sem]
  have hk0_1 : W.cell? ⟨w.heap.size, 1, none⟩ = some (.slice A2 n2 c2) := by rw [← hW]; simp [go_sem]
  have hz : w.heap.size < W.heap.size := by rw [← hW]; simp
  have hbw : Below w.heap.size w W := by rw [← hW]; exact ((Below.refl w.heap.size w).alloc (Nat.le_refl _) _)
  have HBW := Lib.hid hbw
  rw [hW]
  clear hW
  have HR1 : Hid (∀ V, Below W.heap.size W V → Rd V V.heap.size A1 (ss.map Value.string)) := Lib.hid fun V hV => (hr1.moved hbw).moved hV
  clear hr1
  have HR2 : Hid (∀ V, Below W.heap.size W V → Rd V V.heap.size A2 (fs.flatMap Q4.cells)) := Lib.hid fun V hV => (hr2.moved hbw).moved hV
  clear hr2
  have HK0_0 : Hid (∀ V, Below W.heap.size W V → V.cell? ⟨w.heap.size, 0, none⟩ = some (.slice A1 n1 c1)) := Lib.hid fun V hV => (hV.cell (p := ⟨_, _, none⟩) (by show w.heap.size < _; omega)).trans hk0_0
  have HK0_1 : Hid (∀ V, Below W.heap.size W V → V.cell? ⟨w.heap.size, 1, none⟩ = some (.slice A2 n2 c2)) := Lib.hid fun V hV => (hV.cell (p := ⟨_, _, none⟩) (by show w.heap.size < _; omega)).trans hk0_1
  have HRzs : Hid (∀ V, Below W.heap.size W V → Rd V V.heap.size Azs (zs.map (Value.int .i64))) := Lib.hid fun V hV => (hrzs.moved hbw).moved hV
  clear hrzs
  clear hk0_0 hk0_1
  have HZ := Lib.hid hz
  clear hz hbw
  have B0 := Lib.hid (Below.refl W.heap.size W)
  refine (szNet A1 A2 n1 c1 n2 c2 1048576 ss fs W HN1.out hm1 (HR1.out _ B0.out) HWS.out hm2 (by omega) (by omega)).mono ?_
  rintro e w1 ⟨v0, rfl, hb1, hv00, hv10, hv20⟩
  have B1_W := Lib.hid (B0.out.trans (hb1.mono B0.out.size))
  have HLAST1 := Lib.hid hb1
  clear hb1
  by_cases hneg0 : v0 < 0
  · go_wp2
    go_ret
    exact ⟨rfl, HBW.out.trans (B1_W.out.mono HBW.out.size)⟩
  have hp0 : 0 ≤ v0 := by omega
  have hsm1 : n1 ≤ 1048576 := by have := hv20 hp0; omega
  have hsm2 : n2 ≤ 1048576 := by have := hv20 hp0; omega
  have HSZ0 := Lib.hid (hv20 hp0)
  clear hneg0 hv20 hm1 hm2
  have hLn1 : (rfLS ss fs zs).length ≤ 1048576 := Nat.le_trans (rfL_len _ _ _).1 (by have := HN1.out; omega)
  obtain ⟨LS, hL1⟩ : ∃ L, rfLS ss fs zs = L := ⟨_, rfl⟩
  rw [hL1] at hLn1
  have HL1 := Lib.hid hL1; have HLN1 := Lib.hid hLn1; clear hL1 hLn1
  have hLn2 : (rfLF ss fs zs).length ≤ 1048576 := Nat.le_trans (rfL_len _ _ _).2.1 (by have := HN2.out; omega)
  obtain ⟨LF, hL2⟩ : ∃ L, rfLF ss fs zs = L := ⟨_, rfl⟩
  rw [hL2] at hLn2
  have HL2 := Lib.hid hL2; have HLN2 := Lib.hid hLn2; clear hL2 hLn2
  have hLn3 : (rfLO ss fs zs).length ≤ 1048576 := Nat.le_trans (rfL_len _ _ _).2.2 (by have := HN2.out; omega)
  obtain ⟨LO, hL3⟩ : ∃ L, rfLO ss fs zs = L := ⟨_, rfl⟩
  rw [hL3] at hLn3
  have HL3 := Lib.hid hL3; have HLN3 := Lib.hid hLn3; clear hL3 hLn3
  obtain ⟨b, hb⟩ : ∃ b, pb (rfP ss fs zs) = b := ⟨_, rfl⟩
  have HB := Lib.hid hb; clear hb
  have ka0_0 := HK0_0.out _ B1_W.out
  have ka0_1 := HK0_1.out _ B1_W.out
  go_wp2_with fail
  clear ka0_0 ka0_1
  refine (toNet A1 A2 n1 c1 n2 c2 ss fs w1 HN1.out (HR1.out _ B1_W.out) hsm1 HN2.out (HR2.out _ B1_W.out) hsm2).mono ?_
  rintro e w2 ⟨s01, s02, rfl, hos01, hos02, hb2⟩
  have B2_W := Lib.hid (B1_W.out.trans (hb2.mono B1_W.out.size))
  have HLAST2 := Lib.hid hb2
  clear hb2
  have Os01 := Lib.hid hos01
  have Rs01 : Hid (∀ V, Below w2.heap.size w2 V → Rd V V.heap.size (some ⟨s01, 0, none⟩) (ss.map Value.string)) := Lib.hid fun V hV => (Rd.ofOwnK hos01).moved hV
  have Os02 := Lib.hid hos02
  have Rs02 : Hid (∀ V, Below w2.heap.size w2 V → Rd V V.heap.size (some ⟨s02, 0, none⟩) (fs.flatMap Q4.cells)) := Lib.hid fun V hV => (Rd.ofOwnK hos02).moved hV
  clear hos01 hos02
  have Zw2 := Lib.hid (Below.refl w2.heap.size w2)
  go_wp2_with fail
  refine (toIntS Azs nzs czs zs w2 HNzs.out (HRzs.out _ B2_W.out) hsmzs).mono ?_
  rintro e w3 ⟨s1, hgs1, rfl, hos1, hb3⟩
  have B3_W := Lib.hid (B2_W.out.trans (hb3.mono B2_W.out.size))
  have B3_w2 := Lib.hid (Zw2.out.trans (hb3.mono Zw2.out.size))
  have HLAST3 := Lib.hid hb3
  clear hb3
  have Os1 := Lib.hid hos1
  have Rs1 : Hid (∀ V, Below w3.heap.size w3 V → Rd V V.heap.size (some ⟨s1, 0, none⟩) (zs.map (Value.int .i64))) := Lib.hid fun V hV => (Rd.ofOwnK hos1).moved hV
  clear hos1
  have Zw3 := Lib.hid (Below.refl w3.heap.size w3)
  go_wp2_with fail
  refine (specRF ⟨HN1.out, hsm1, Nat.le_refl _, Rs01.out _ B3_w2.out, HWS.out, HN2.out, hsm2, Rs02.out _ B3_w2.out⟩ (c3 := nzs) HNzs.out (Rs1.out _ Zw3.out) hsmzs).mono ?_
  rw [HL1.out, HL2.out, HL3.out, HB.out]
  rintro e w4 ⟨A1s, A2s, A3s, N1s, N2s, N3s, d1s, d2s, d3s, rfl, HE1s, HE2s, HE3s, ho1s, ho2s, ho3s, hb4⟩
  have B4_W := Lib.hid (B3_W.out.trans (hb4.mono B3_W.out.size))
  have B4_w2 := Lib.hid (B3_w2.out.trans (hb4.mono B3_w2.out.size))
  have B4_w3 := Lib.hid (Zw3.out.trans (hb4.mono Zw3.out.size))
  have HLAST4 := Lib.hid hb4
  clear hb4
  have HO1s := Lib.hid ho1s; clear ho1s
  have hN1s : N1s ≤ 1048576 := by have := HE1s.out; have := HLN1.out; omega
  have HO2s := Lib.hid ho2s; clear ho2s
  have hN2s : N2s ≤ 1048576 := by have := HE2s.out; have := HLN2.out; omega
  have HO3s := Lib.hid ho3s; clear ho3s
  have hN3s : N3s ≤ 1048576 := by have := HE3s.out; have := HLN3.out; omega
  have Zw4 := Lib.hid (Below.refl w4.heap.size w4)
  have ka0_0 := HK0_0.out _ B4_W.out
  have ka0_1 := HK0_1.out _ B4_W.out
  have hgn : w.heap.size < w4.heap.size := Nat.lt_of_lt_of_le (by have := HZ.out; omega) B4_W.out.size
  go_wp2_with fail
  clear ka0_0 ka0_1 hgn
  obtain ⟨VGs, hVGs⟩ : ∃ V, (w4.alloc (Obj.cells #[.slice A1s N1s d1s, .slice A2s N2s d2s] 34)) = V := ⟨_, rfl⟩
  have hx0 : VGs.cell? ⟨w4.heap.size, 0, none⟩ = some (.slice A1s N1s d1s) := by rw [← hVGs]; simp [go_sem]
  have hx1 : VGs.cell? ⟨w4.heap.size, 1, none⟩ = some (.slice A2s N2s d2s) := by rw [← hVGs]; simp [go_sem]
  have hzv : w4.heap.size < VGs.heap.size := by rw [← hVGs]; simp
  have hbv : Below w4.heap.size w4 VGs := by rw [← hVGs]; exact (Below.refl _ _).alloc (Nat.le_refl _) _
  rw [hVGs]
  clear hVGs
  have CVGs_W := Lib.hid (B4_W.out.trans (hbv.mono B4_W.out.size))
  have CVGs_w4 := Lib.hid (Zw4.out.trans (hbv.mono Zw4.out.size))
  have HKWs : Hid (∀ U, Below VGs.heap.size VGs U → U.cell? ⟨w4.heap.size, 0, none⟩ = some (.slice A1s N1s d1s) ∧ U.cell? ⟨w4.heap.size, 1, none⟩ = some (.slice A2s N2s d2s) ∧ w4.heap.size < U.heap.size) := Lib.hid fun U hU => ⟨(hU.cell (p := ⟨_, _, none⟩) hzv).trans hx0, (hU.cell (p := ⟨_, _, none⟩) hzv).trans hx1, Nat.lt_of_lt_of_le hzv hU.size⟩
  have HRR1s : Hid (∀ U, Below VGs.heap.size VGs U → Rd U U.heap.size A1s (LS.map Value.string)) := Lib.hid fun U hU => (rdOwnA (ownB HO1s.out hbv)).moved hU
  have HRR2s : Hid (∀ U, Below VGs.heap.size VGs U → Rd U U.heap.size A2s (LF.flatMap Q4.cells)) := Lib.hid fun U hU => (rdOwnA (ownB HO2s.out hbv)).moved hU
  have HRR3s : Hid (∀ U, Below VGs.heap.size VGs U → Rd U U.heap.size A3s (LO.map (Value.int .i64))) := Lib.hid fun U hU => (rdOwnA (ownB HO3s.out hbv)).moved hU
  have ZVGs := Lib.hid (Below.refl VGs.heap.size VGs)
  clear hx0 hx1 hzv hbv
  have WPW := Lib.hid CVGs_W.out.size
  have ZPRE0 := Lib.hid (ZVGs.out.size)
  refine (toNet A1 A2 n1 c1 n2 c2 ss fs VGs HN1.out (HR1.out _ CVGs_W.out) hsm1 HN2.out (HR2.out _ CVGs_W.out) hsm2).mono ?_
  rintro e w5 ⟨x01, x02, rfl, hox01, hox02, hb5⟩
  have B5_W := Lib.hid (CVGs_W.out.trans (hb5.mono CVGs_W.out.size))
  have B5_VGs := Lib.hid (ZVGs.out.trans (hb5.mono ZVGs.out.size))
  have HLAST5 := Lib.hid hb5
  clear hb5
  have Ox01 := Lib.hid hox01
  have Rx01 : Hid (∀ V, Below w5.heap.size w5 V → Rd V V.heap.size (some ⟨x01, 0, none⟩) (ss.map Value.string)) := Lib.hid fun V hV => (Rd.ofOwnK hox01).moved hV
  have Ox02 := Lib.hid hox02
  have Rx02 : Hid (∀ V, Below w5.heap.size w5 V → Rd V V.heap.size (some ⟨x02, 0, none⟩) (fs.flatMap Q4.cells)) := Lib.hid fun V hV => (Rd.ofOwnK hox02).moved hV
  clear hox01 hox02
  have Zw5 := Lib.hid (Below.refl w5.heap.size w5)
  go_wp2_with fail
  obtain ⟨V0, hV0⟩ : ∃ V, (w5.alloc (Obj.cells #[.slice (some ⟨x01, 0, none⟩) n1 n1, .slice (some ⟨x02, 0, none⟩) n2 n2] 34)) = V := ⟨_, rfl⟩
  have hx0_0 : V0.cell? ⟨w5.heap.size, 0, none⟩ = some (.slice (some ⟨x01, 0, none⟩) n1 n1) := by rw [← hV0]; simp [go_sem]
  have hx0_1 : V0.cell? ⟨w5.heap.size, 1, none⟩ = some (.slice (some ⟨x02, 0, none⟩) n2 n2) := by rw [← hV0]; simp [go_sem]
  have hzV0 : w5.heap.size < V0.heap.size := by rw [← hV0]; simp
  have hbV0 : Below w5.heap.size w5 V0 := by rw [← hV0]; exact (Below.refl _ _).alloc (Nat.le_refl _) _
  rw [hV0]
  clear hV0
  have CV0_W := Lib.hid (B5_W.out.trans (hbV0.mono B5_W.out.size))
  have CV0_VGs := Lib.hid (B5_VGs.out.trans (hbV0.mono B5_VGs.out.size))
  have CV0_w5 := Lib.hid (Zw5.out.trans (hbV0.mono Zw5.out.size))
  have HX0_0 : Hid (∀ U, Below V0.heap.size V0 U → U.cell? ⟨w5.heap.size, 0, none⟩ = some (.slice (some ⟨x01, 0, none⟩) n1 n1)) := Lib.hid fun U hU => (hU.cell (p := ⟨_, _, none⟩) hzV0).trans hx0_0
  have HX0_1 : Hid (∀ U, Below V0.heap.size V0 U → U.cell? ⟨w5.heap.size, 1, none⟩ = some (.slice (some ⟨x02, 0, none⟩) n2 n2)) := Lib.hid fun U hU => (hU.cell (p := ⟨_, _, none⟩) hzV0).trans hx0_1
  have HZV0 := Lib.hid hzV0
  clear hzV0 hbV0 hx0_0 hx0_1
  have ZV0 := Lib.hid (Below.refl V0.heap.size V0)
  have ZPRE1 := Lib.hid (CV0_VGs.out.size)
  refine (toIntS Azs nzs czs zs V0 HNzs.out (HRzs.out _ CV0_W.out) hsmzs).mono ?_
  rintro e w6 ⟨x1, hgx1, rfl, hox1, hb6⟩
  have B6_W := Lib.hid (CV0_W.out.trans (hb6.mono CV0_W.out.size))
  have B6_VGs := Lib.hid (CV0_VGs.out.trans (hb6.mono CV0_VGs.out.size))
  have B6_w5 := Lib.hid (CV0_w5.out.trans (hb6.mono CV0_w5.out.size))
  have B6_V0 := Lib.hid (ZV0.out.trans (hb6.mono ZV0.out.size))
  have HLAST6 := Lib.hid hb6
  clear hb6
  have Ox1 := Lib.hid hox1
  have Rx1 : Hid (∀ V, Below w6.heap.size w6 V → Rd V V.heap.size (some ⟨x1, 0, none⟩) (zs.map (Value.int .i64))) := Lib.hid fun V hV => (Rd.ofOwnK hox1).moved hV
  clear hox1
  have SEPx01_x1 := Lib.hid (Nat.lt_of_lt_of_le (Ox01.out.lt x01 rfl).2 (Nat.le_trans CV0_w5.out.size (Ox1.out.lt x1 rfl).1))
  have SEPBx01_1 := Lib.hid (Nat.lt_of_lt_of_le (Ox01.out.lt x01 rfl).2 B6_w5.out.size)
  have SEPx02_x1 := Lib.hid (Nat.lt_of_lt_of_le (Ox02.out.lt x02 rfl).2 (Nat.le_trans CV0_w5.out.size (Ox1.out.lt x1 rfl).1))
  have SEPBx02_1 := Lib.hid (Nat.lt_of_lt_of_le (Ox02.out.lt x02 rfl).2 B6_w5.out.size)
  have Zw6 := Lib.hid (Below.refl w6.heap.size w6)
  have kz0_0 := HX0_0.out _ B6_V0.out
  have kz0_1 := HX0_1.out _ B6_V0.out
  have hgz0 : w5.heap.size < w6.heap.size := Nat.lt_of_lt_of_le HZV0.out B6_V0.out.size
  go_wp2_with fail
  clear kz0_0 kz0_1 hgz0
  have PWV := Lib.hid B6_VGs.out.size
  have HQx01 : Hid (VGs.heap.size ≤ x01 ∧ x01 < w6.heap.size) := Lib.hid ⟨Nat.le_trans ZPRE0.out (Ox01.out.lt x01 rfl).1, Nat.lt_of_lt_of_le (Ox01.out.lt x01 rfl).2 B6_w5.out.size⟩
  have HQx02 : Hid (VGs.heap.size ≤ x02 ∧ x02 < w6.heap.size) := Lib.hid ⟨Nat.le_trans ZPRE0.out (Ox02.out.lt x02 rfl).1, Nat.lt_of_lt_of_le (Ox02.out.lt x02 rfl).2 B6_w5.out.size⟩
  have HQx1 : Hid (VGs.heap.size ≤ x1 ∧ x1 < w6.heap.size) := Lib.hid ⟨Nat.le_trans ZPRE1.out (Ox1.out.lt x1 rfl).1, Nat.lt_of_lt_of_le (Ox1.out.lt x1 rfl).2 Zw6.out.size⟩
  refine (implRF ⟨HN1.out, hsm1, Nat.le_refl _, Rx01.out _ B6_w5.out, HWS.out, HN2.out, hsm2, Rx02.out _ B6_w5.out⟩ (c3 := nzs) HNzs.out (Rx1.out _ Zw6.out) hsmzs).mono ?_
  rw [HL1.out, HL2.out, HL3.out, HB.out]
  rintro e w7 ⟨A1x, A2x, A3x, N1x, N2x, N3x, d1x, d2x, d3x, rfl, HE1x, HE2x, HE3x, ho1x, ho2x, ho3x, hb7⟩
  have B7_W := Lib.hid (B6_W.out.trans (hb7.mono B6_W.out.size))
  have B7_VGs := Lib.hid (B6_VGs.out.trans (hb7.mono B6_VGs.out.size))
  have B7_w5 := Lib.hid (B6_w5.out.trans (hb7.mono B6_w5.out.size))
  have B7_V0 := Lib.hid (B6_V0.out.trans (hb7.mono B6_V0.out.size))
  have B7_w6 := Lib.hid (Zw6.out.trans (hb7.mono Zw6.out.size))
  have HLAST7 := Lib.hid hb7
  clear hb7
  have HO1x := Lib.hid ho1x; clear ho1x
  have hN1x : N1x ≤ 1048576 := by have := HE1x.out; have := HLN1.out; omega
  have HO2x := Lib.hid ho2x; clear ho2x
  have hN2x : N2x ≤ 1048576 := by have := HE2x.out; have := HLN2.out; omega
  have HO3x := Lib.hid ho3x; clear ho3x
  have hN3x : N3x ≤ 1048576 := by have := HE3x.out; have := HLN3.out; omega
  have Zw7 := Lib.hid (Below.refl w7.heap.size w7)
  obtain rfl : N1x = N1s := HE1x.out.trans HE1s.out.symm
  obtain rfl : N2x = N2s := HE2x.out.trans HE2s.out.symm
  obtain rfl : N3x = N3s := HE3x.out.trans HE3s.out.symm
  obtain ⟨sx0, sx1, sx2⟩ := HKWs.out _ B7_VGs.out
  go_wp2_with fail
  clear sx0 sx1 sx2
  obtain ⟨VGx, hVGx⟩ : ∃ V, (w7.alloc (Obj.cells #[.slice A1x N1x d1x, .slice A2x N2x d2x] 34)) = V := ⟨_, rfl⟩
  have hx0 : VGx.cell? ⟨w7.heap.size, 0, none⟩ = some (.slice A1x N1x d1x) := by rw [← hVGx]; simp [go_sem]
  have hx1 : VGx.cell? ⟨w7.heap.size, 1, none⟩ = some (.slice A2x N2x d2x) := by rw [← hVGx]; simp [go_sem]
  have hzv : w7.heap.size < VGx.heap.size := by rw [← hVGx]; simp
  have hbv : Below w7.heap.size w7 VGx := by rw [← hVGx]; exact (Below.refl _ _).alloc (Nat.le_refl _) _
  have HGBX := Lib.hid (show VGx.ownsRow w6.heap.size 34 2 (.slice (some ⟨w7.heap.size, 0, none⟩) 1 1) 1 [.slice A1x N1x d1x, .slice A2x N2x d2x] from by rw [← hVGx]; exact one_rowN w7 _ _ HLAST7.out.size)
  rw [hVGx]
  clear hVGx
  have CVGx_W := Lib.hid (B7_W.out.trans (hbv.mono B7_W.out.size))
  have CVGx_VGs := Lib.hid (B7_VGs.out.trans (hbv.mono B7_VGs.out.size))
  have CVGx_w5 := Lib.hid (B7_w5.out.trans (hbv.mono B7_w5.out.size))
  have CVGx_V0 := Lib.hid (B7_V0.out.trans (hbv.mono B7_V0.out.size))
  have CVGx_w6 := Lib.hid (B7_w6.out.trans (hbv.mono B7_w6.out.size))
  have CVGx_w7 := Lib.hid (Zw7.out.trans (hbv.mono Zw7.out.size))
  have HKWx : Hid (∀ U, Below VGx.heap.size VGx U → U.cell? ⟨w7.heap.size, 0, none⟩ = some (.slice A1x N1x d1x) ∧ U.cell? ⟨w7.heap.size, 1, none⟩ = some (.slice A2x N2x d2x) ∧ w7.heap.size < U.heap.size) := Lib.hid fun U hU => ⟨(hU.cell (p := ⟨_, _, none⟩) hzv).trans hx0, (hU.cell (p := ⟨_, _, none⟩) hzv).trans hx1, Nat.lt_of_lt_of_le hzv hU.size⟩
  have HRR1x : Hid (∀ U, Below VGx.heap.size VGx U → Rd U U.heap.size A1x (LS.map Value.string)) := Lib.hid fun U hU => (rdOwnA (ownB HO1x.out hbv)).moved hU
  have HRR2x : Hid (∀ U, Below VGx.heap.size VGx U → Rd U U.heap.size A2x (LF.flatMap Q4.cells)) := Lib.hid fun U hU => (rdOwnA (ownB HO2x.out hbv)).moved hU
  have HRR3x : Hid (∀ U, Below VGx.heap.size VGx U → Rd U U.heap.size A3x (LO.map (Value.int .i64))) := Lib.hid fun U hU => (rdOwnA (ownB HO3x.out hbv)).moved hU
  have ZVGx := Lib.hid (Below.refl VGx.heap.size VGx)
  clear hx0 hx1 hzv hbv
  refine (eqNetR _ _ _ _ N1x N2x _ _ _ _ LS LF VGx HE1x.out.symm hN1x HE2x.out.symm hN2x (HRR1x.out _ ZVGx.out) (HRR1s.out _ CVGx_VGs.out) (HRR2x.out _ ZVGx.out) (HRR2s.out _ CVGx_VGs.out)).mono ?_
  rintro e w8 ⟨rfl, hb8⟩
  have B8_W := Lib.hid (CVGx_W.out.trans (hb8.mono CVGx_W.out.size))
  have B8_VGs := Lib.hid (CVGx_VGs.out.trans (hb8.mono CVGx_VGs.out.size))
  have B8_w5 := Lib.hid (CVGx_w5.out.trans (hb8.mono CVGx_w5.out.size))
  have B8_V0 := Lib.hid (CVGx_V0.out.trans (hb8.mono CVGx_V0.out.size))
  have B8_w6 := Lib.hid (CVGx_w6.out.trans (hb8.mono CVGx_w6.out.size))
  have B8_w7 := Lib.hid (CVGx_w7.out.trans (hb8.mono CVGx_w7.out.size))
  have B8_VGx := Lib.hid (ZVGx.out.trans (hb8.mono ZVGx.out.size))
  have HLAST8 := Lib.hid hb8
  clear hb8
  go_wp2_with fail
  refine (eqInts _ _ N3x _ _ LO w8 HE3x.out.symm (HRR3x.out _ B8_VGx.out) (HRR3s.out _ B8_VGs.out) hN3x).mono ?_
  rintro e w9 ⟨rfl, hb9⟩
  have B9_W := Lib.hid (B8_W.out.trans (hb9.mono B8_W.out.size))
  have B9_VGs := Lib.hid (B8_VGs.out.trans (hb9.mono B8_VGs.out.size))
  have B9_w5 := Lib.hid (B8_w5.out.trans (hb9.mono B8_w5.out.size))
  have B9_V0 := Lib.hid (B8_V0.out.trans (hb9.mono B8_V0.out.size))
  have B9_w6 := Lib.hid (B8_w6.out.trans (hb9.mono B8_w6.out.size))
  have B9_w7 := Lib.hid (B8_w7.out.trans (hb9.mono B8_w7.out.size))
  have B9_VGx := Lib.hid (B8_VGx.out.trans (hb9.mono B8_VGx.out.size))
  have HLAST9 := Lib.hid hb9
  clear hb9
  have ka0_0 := HK0_0.out _ B9_W.out
  have ka0_1 := HK0_1.out _ B9_W.out
  have kx0_0 := HX0_0.out _ B9_V0.out
  have kx0_1 := HX0_1.out _ B9_V0.out
  have hgx : w5.heap.size < w9.heap.size := Nat.lt_of_lt_of_le HZV0.out B9_V0.out.size
  have hgw : w.heap.size < w9.heap.size := Nat.lt_of_lt_of_le (by have := HZ.out; omega) B9_W.out.size
  have hbd : Bel w9 w9.drew := Bel.of (Below.refl _ _).drew
  go_upto_region 13 with fail
  go_cut [67] (fun s67 wx => s67 = .bool false ∧ Bel w9 wx)
  case first =>
    go_region_held3 (fun U => U.cell? ⟨w5.heap.size, 0, none⟩ = some (.slice (some ⟨x01, 0, none⟩) n1 n1) ∧ U.cell? ⟨w5.heap.size, 1, none⟩ = some (.slice (some ⟨x02, 0, none⟩) n2 n2) ∧ U.cell? ⟨w.heap.size, 0, none⟩ = some (.slice A1 n1 c1) ∧ U.cell? ⟨w.heap.size, 1, none⟩ = some (.slice A2 n2 c2) ∧ Bel w9 U)
      (first | go_keep | (go_split_ands; (refine ⟨?_, ?_, ?_, ?_, ?_⟩ <;> first | assumption | exact Bel.step (by assumption) hbt10 | exact Bel.step (by assumption) hbt11 | exact (Bel.at_ (by assumption) hbt10 (by assumption)).trans (by assumption) | exact (Bel.at_ (by assumption) hbt11 (by assumption)).trans (by assumption))))
      (first
        | (go_at_call 14
           go_split_ands
           refine (toNet A1 A2 n1 c1 n2 c2 ss fs _ HN1.out (HR1.out _ (Below.trans B9_W.out ((Bel.out (by assumption)).mono B9_W.out.size))) hsm1 HN2.out (HR2.out _ (Below.trans B9_W.out ((Bel.out (by assumption)).mono B9_W.out.size))) hsm2).mono ?_
           rintro e t10 ⟨y111, y112, rfl, hoy111, hoy112, hbt10⟩
           have Sy111 := Lib.hid (Rd.ofOwnK hoy111)
           have Sy112 := Lib.hid (Rd.ofOwnK hoy112)
           clear hoy111 hoy112)
        | (go_at_call 18
           go_split_ands
           refine (eqNet x01 x02 y111 y112 n1 n2 n1 n2 n1 n2 ss fs t10 HN1.out hsm1 HN2.out hsm2 (Rx01.out _ (Below.trans B9_w5.out ((Bel.out (by assumption)).mono B9_w5.out.size))) (Sy111.out) (Rx02.out _ (Below.trans B9_w5.out ((Bel.out (by assumption)).mono B9_w5.out.size))) (Sy112.out)).mono ?_
           rintro e t11 ⟨rfl, hbt11⟩))
    all_goals
      go_split_ands
      have hbl : Bel w9 t11 := by assumption
      go_wp2_with fail
      go_meet
      exact ⟨rfl, hbl⟩
  case rest =>
  clear hbd hgx hgw ka0_0 ka0_1 kx0_0 kx0_1
  revert hcut; generalize wc = wc1; intro hcut
  obtain ⟨hs_, hbl⟩ := hcut
  subst hs_
  have Ewc1_W := Lib.hid (B9_W.out.trans ((Bel.out hbl).mono B9_W.out.size))
  have Ewc1_VGs := Lib.hid (B9_VGs.out.trans ((Bel.out hbl).mono B9_VGs.out.size))
  have Ewc1_w5 := Lib.hid (B9_w5.out.trans ((Bel.out hbl).mono B9_w5.out.size))
  have Ewc1_V0 := Lib.hid (B9_V0.out.trans ((Bel.out hbl).mono B9_V0.out.size))
  have Ewc1_w6 := Lib.hid (B9_w6.out.trans ((Bel.out hbl).mono B9_w6.out.size))
  have Ewc1_w7 := Lib.hid (B9_w7.out.trans ((Bel.out hbl).mono B9_w7.out.size))
  have Ewc1_VGx := Lib.hid (B9_VGx.out.trans ((Bel.out hbl).mono B9_VGx.out.size))
  clear hbl
  go_wp2_with fail
  refine (toIntS Azs nzs czs zs wc1 HNzs.out (HRzs.out _ Ewc1_W.out) hsmzs).mono ?_
  rintro e w13 ⟨y12, hgy12, rfl, hoy12, hb13⟩
  have B13_W := Lib.hid (Ewc1_W.out.trans (hb13.mono Ewc1_W.out.size))
  have B13_VGs := Lib.hid (Ewc1_VGs.out.trans (hb13.mono Ewc1_VGs.out.size))
  have B13_w5 := Lib.hid (Ewc1_w5.out.trans (hb13.mono Ewc1_w5.out.size))
  have B13_V0 := Lib.hid (Ewc1_V0.out.trans (hb13.mono Ewc1_V0.out.size))
  have B13_w6 := Lib.hid (Ewc1_w6.out.trans (hb13.mono Ewc1_w6.out.size))
  have B13_w7 := Lib.hid (Ewc1_w7.out.trans (hb13.mono Ewc1_w7.out.size))
  have B13_VGx := Lib.hid (Ewc1_VGx.out.trans (hb13.mono Ewc1_VGx.out.size))
  have HLAST13 := Lib.hid hb13
  clear hb13
  have Sy12 := Lib.hid (Rd.ofOwnK hoy12)
  clear hoy12 hgy12
  go_wp2_with fail
  refine (eqIntS x1 y12 nzs nzs nzs zs w13 HNzs.out (Rx1.out _ B13_w6.out) (Sy12.out) hsmzs).mono ?_
  rintro e w14 ⟨rfl, hb14⟩
  have B14_W := Lib.hid (B13_W.out.trans (hb14.mono B13_W.out.size))
  have B14_VGs := Lib.hid (B13_VGs.out.trans (hb14.mono B13_VGs.out.size))
  have B14_w5 := Lib.hid (B13_w5.out.trans (hb14.mono B13_w5.out.size))
  have B14_V0 := Lib.hid (B13_V0.out.trans (hb14.mono B13_V0.out.size))
  have B14_w6 := Lib.hid (B13_w6.out.trans (hb14.mono B13_w6.out.size))
  have B14_w7 := Lib.hid (B13_w7.out.trans (hb14.mono B13_w7.out.size))
  have B14_VGx := Lib.hid (B13_VGx.out.trans (hb14.mono B13_VGx.out.size))
  have HLAST14 := Lib.hid hb14
  clear hb14
  have HG1_0 := Lib.hid (ownB HO1x.out B14_w7.out)
  have HG2_0 := Lib.hid (ownB HO2x.out B14_w7.out)
  have HG3_0 := Lib.hid (ownB HO3x.out B14_w7.out)
  have HGB_0 := Lib.hid (ownB HGBX.out B14_VGx.out)
  have kx0_0 := HX0_0.out _ B14_V0.out
  have kx0_1 := HX0_1.out _ B14_V0.out
  go_wp2_with fail
  clear kx0_0 kx0_1
  refine (markNetB x01 x02 n1 n2 n1 n2 _ _ w14 (own_base (ownB Ox01.out B14_w5.out) (Nat.zero_le _)) hsm1 (own_base (ownB Ox02.out B14_w5.out) (Nat.zero_le _)) hsm2 (rows_apart Ox01.out Ox02.out (by decide))).mono ?_
  rintro e w15 ⟨k0, rfl, hk0a, hk0b, hoff⟩
  have Fw15_W := Lib.hid (B14_W.out.trans (hoff.below (B := W.heap.size) B14_W.out.size (fun b h => by have hpw := WPW.out; have := HQx01.out; have := HQx02.out; rcases h with h | h <;> omega)))
  have Fw15_VGs := Lib.hid (B14_VGs.out.trans (hoff.below (B := VGs.heap.size) B14_VGs.out.size (fun b h => by have hpw := Nat.le_refl VGs.heap.size; have := HQx01.out; have := HQx02.out; rcases h with h | h <;> omega)))
  have HG1_1 := Lib.hid (own_off HG1_0.out hoff (fun b h => by have := HQx01.out; have := HQx02.out; rcases h with h | h <;> omega))
  have HG2_1 := Lib.hid (own_off HG2_0.out hoff (fun b h => by have := HQx01.out; have := HQx02.out; rcases h with h | h <;> omega))
  have HG3_1 := Lib.hid (own_off HG3_0.out hoff (fun b h => by have := HQx01.out; have := HQx02.out; rcases h with h | h <;> omega))
  have HGB_1 := Lib.hid (own_off HGB_0.out hoff (fun b h => by have := HQx01.out; have := HQx02.out; rcases h with h | h <;> omega))
  have Ox1_ := Lib.hid (Off.own hoff (ownB Ox1.out B14_w6.out) (fun h => by have := SEPx01_x1.out; have := SEPx02_x1.out; rcases h with h | h <;> omega))
  clear Ox1; have Ox1 := Ox1_; clear Ox1_
  have Zw15 := Lib.hid (Below.refl w15.heap.size w15)
  clear hoff
  go_wp2_with fail
  refine (markIntsK x1 nzs nzs k0 _ w15 (ownB Ox1.out Zw15.out) hsmzs (by omega) (by omega)).mono ?_
  rintro e w16 ⟨rfl, hoff⟩
  obtain ⟨k1, hk1⟩ : ∃ k, k0 + (nzs : Int) = k := ⟨_, rfl⟩
  have hk1a : 0 ≤ k1 := by omega
  rw [hk1]
  clear hk1
  have Fw16_W := Lib.hid (Fw15_W.out.trans (hoff.below (B := W.heap.size) Fw15_W.out.size (fun b h => by have hpw := WPW.out; have := HQx1.out; have h2 : b = x1 := h; omega)))
  have Fw16_VGs := Lib.hid (Fw15_VGs.out.trans (hoff.below (B := VGs.heap.size) Fw15_VGs.out.size (fun b h => by have hpw := Nat.le_refl VGs.heap.size; have := HQx1.out; have h2 : b = x1 := h; omega)))
  have HG1_2 := Lib.hid (own_off HG1_1.out hoff (fun b h => by have := HQx1.out; have h2 : b = x1 := h; omega))
  have HG2_2 := Lib.hid (own_off HG2_1.out hoff (fun b h => by have := HQx1.out; have h2 : b = x1 := h; omega))
  have HG3_2 := Lib.hid (own_off HG3_1.out hoff (fun b h => by have := HQx1.out; have h2 : b = x1 := h; omega))
  have HGB_2 := Lib.hid (own_off HGB_1.out hoff (fun b h => by have := HQx1.out; have h2 : b = x1 := h; omega))
  have Zw16 := Lib.hid (Below.refl w16.heap.size w16)
  clear hoff
  have hkn : decide (k1 < 0) = false := decide_eq_false (by omega)
  obtain ⟨sx0, sx1, sx2⟩ := HKWs.out _ Fw16_VGs.out
  have gx0 := HGB_2.out.cellAt 0 (by omega)
  have gx1 := HGB_2.out.cellAt 1 (by omega)
  simp only [List.getElem?_cons_zero, List.getElem?_cons_succ] at gx0 gx1
  have gx2 := (HGB_2.out.lt w7.heap.size rfl).2
  go_wp2_with fail
  clear sx0 sx1 sx2 gx0 gx1 gx2
  refine (eqNetR _ _ _ _ N1x N2x _ _ _ _ LS LF w16 HE1x.out.symm hN1x HE2x.out.symm hN2x (rdOwnA HG1_2.out) (HRR1s.out _ Fw16_VGs.out) (rdOwnA HG2_2.out) (HRR2s.out _ Fw16_VGs.out)).mono ?_
  rintro e w17 ⟨rfl, hb17⟩
  have B17_W := Lib.hid (Fw16_W.out.trans (hb17.mono Fw16_W.out.size))
  have B17_VGs := Lib.hid (Fw16_VGs.out.trans (hb17.mono Fw16_VGs.out.size))
  have B17_w16 := Lib.hid (Zw16.out.trans (hb17.mono Zw16.out.size))
  have HLAST17 := Lib.hid hb17
  clear hb17
  go_wp2_with fail
  refine (eqInts _ _ N3x _ _ LO w17 HE3x.out.symm (rdOwnA (ownB HG3_2.out B17_w16.out)) (HRR3s.out _ B17_VGs.out) hN3x).mono ?_
  rintro e w18 ⟨rfl, hb18⟩
  have B18_W := Lib.hid (B17_W.out.trans (hb18.mono B17_W.out.size))
  have B18_VGs := Lib.hid (B17_VGs.out.trans (hb18.mono B17_VGs.out.size))
  have B18_w16 := Lib.hid (B17_w16.out.trans (hb18.mono B17_w16.out.size))
  have HLAST18 := Lib.hid hb18
  clear hb18
  have HGA1 := Lib.hid (ownB HG1_2.out B18_w16.out)
  have HGA2 := Lib.hid (ownB HG2_2.out B18_w16.out)
  have HGA3 := Lib.hid (ownB HG3_2.out B18_w16.out)
  have HGAB := Lib.hid (ownB HGB_2.out B18_w16.out)
  obtain ⟨K1, hK1⟩ : ∃ K, 1 + N1x + 4 * N2x = K := ⟨_, rfl⟩
  have HK1 := Lib.hid hK1
  have hK1b : 1 ≤ K1 ∧ K1 ≤ 10000000 := by omega
  clear hK1
  obtain ⟨K2, hK2⟩ : ∃ K, K1 + N3x = K := ⟨_, rfl⟩
  have HK2 := Lib.hid hK2
  clear hK2
  have hK1n : ¬ ((K1 : Int) < 0) := by omega
  have hK1d : decide ((K1 : Int) < 0) = false := decide_eq_false hK1n
  have hK2n : ¬ ((K2 : Int) < 0) := by omega
  have hK2d : decide ((K2 : Int) < 0) = false := decide_eq_false hK2n
  have gx0 := HGAB.out.cellAt 0 (by omega)
  have gx1 := HGAB.out.cellAt 1 (by omega)
  simp only [List.getElem?_cons_zero, List.getElem?_cons_succ] at gx0 gx1
  have gx2 := (HGAB.out.lt w7.heap.size rfl).2
  go_wp2_with fail
  clear gx0 gx1 gx2
  refine (markNetV A1x A2x N1x N2x d1x d2x LS LF w18 HGA1.out hN1x HGA2.out hN2x).mono ?_
  rw [HK1.out]
  rintro e w19 ⟨rfl, hoff9, ho91, ho92⟩
  have Gw19_W := Lib.hid (B18_W.out.trans (hoff9.below (B := W.heap.size) B18_W.out.size (fun b h => by have := WPW.out; have := PWV.out; have h2 : w6.heap.size ≤ b := (by rcases h with h | h; exact (HGA1.out.lt b h).1; exact (HGA2.out.lt b h).1); omega)))
  have Gw19_VGs := Lib.hid (B18_VGs.out.trans (hoff9.below (B := VGs.heap.size) B18_VGs.out.size (fun b h => by have := WPW.out; have := PWV.out; have h2 : w6.heap.size ≤ b := (by rcases h with h | h; exact (HGA1.out.lt b h).1; exact (HGA2.out.lt b h).1); omega)))
  have HM1 := Lib.hid ho91; have HM2 := Lib.hid ho92
  have HM3 := Lib.hid (own_offV HGA3.out hoff9 (fun g h1 h2 => by rcases h2 with h2 | h2; exact own_type_apart HGA3.out HGA1.out (by decide) g h1 h2; exact own_type_apart HGA3.out HGA2.out (by decide) g h1 h2))
  have HMB := Lib.hid (own_offV HGAB.out hoff9 (fun g h1 h2 => by rcases h2 with h2 | h2; exact own_type_apart HGAB.out HGA1.out (by decide) g h1 h2; exact own_type_apart HGAB.out HGA2.out (by decide) g h1 h2))
  clear hoff9 ho91 ho92
  go_wp2_with fail
  refine (markIntA9 A3x N3x d3x K1 LO w19 HM3.out hN3x hK1b.1 (by omega)).mono ?_
  rw [HK2.out]
  rintro e w20 ⟨rfl, hoff9, ho93⟩
  have Gw20_W := Lib.hid (Gw19_W.out.trans (hoff9.below (B := W.heap.size) Gw19_W.out.size (fun b h => by have := WPW.out; have := PWV.out; have h2 : w6.heap.size ≤ b := (HM3.out.lt b h).1; omega)))
  have Gw20_VGs := Lib.hid (Gw19_VGs.out.trans (hoff9.below (B := VGs.heap.size) Gw19_VGs.out.size (fun b h => by have := WPW.out; have := PWV.out; have h2 : w6.heap.size ≤ b := (HM3.out.lt b h).1; omega)))
  have HP3 := Lib.hid ho93
  have HP1 := Lib.hid (own_offV HM1.out hoff9 (fun g h1 h2 => own_type_apart HM1.out HM3.out (by decide) g h1 h2))
  have HP2 := Lib.hid (own_offV HM2.out hoff9 (fun g h1 h2 => own_type_apart HM2.out HM3.out (by decide) g h1 h2))
  have HPB := Lib.hid (own_offV HMB.out hoff9 (fun g h1 h2 => own_type_apart HMB.out HM3.out (by decide) g h1 h2))
  clear hoff9 ho93
  have Zw20 := Lib.hid (Below.refl w20.heap.size w20)
  have HPBc := Lib.hid (HPB.out)
  have gx0 := HPBc.out.cellAt 0 (by omega)
  have gx1 := HPBc.out.cellAt 1 (by omega)
  simp only [List.getElem?_cons_zero, List.getElem?_cons_succ] at gx0 gx1
  have gx2 := (HPBc.out.lt w7.heap.size rfl).2
  go_wp2_with fail
  clear HPBc gx0 gx1 gx2
  refine (heldNetV A1x A2x N1x N2x d1x d2x w20 (rdOwnA (HP1.out)) hN1x (rdOwnA (HP2.out)) hN2x).mono ?_
  rw [HK1.out]
  rintro e w21 ⟨rfl, hb21⟩
  have B21_W := Lib.hid (Gw20_W.out.trans (hb21.mono Gw20_W.out.size))
  have B21_VGs := Lib.hid (Gw20_VGs.out.trans (hb21.mono Gw20_VGs.out.size))
  have B21_w20 := Lib.hid (Zw20.out.trans (hb21.mono Zw20.out.size))
  have HLAST21 := Lib.hid hb21
  clear hb21
  go_wp2_with fail
  refine (heldInt9 A3x N3x d3x K1 w21 (rdOwnA (ownB HP3.out B21_w20.out)) hN3x (by omega)).mono ?_
  rw [HK2.out]
  rintro e w' ⟨rfl, rfl⟩
  have ka0_0 := HK0_0.out _ B21_W.out
  have ka0_1 := HK0_1.out _ B21_W.out
  go_wp2_with fail
  clear ka0_0 ka0_1
  refine (toNet A1 A2 n1 c1 n2 c2 ss fs w21 HN1.out (HR1.out _ B21_W.out) hsm1 HN2.out (HR2.out _ B21_W.out) hsm2).mono ?_
  rintro e w22 ⟨h01, h02, rfl, hoh01, hoh02, hb22⟩
  have B22_W := Lib.hid (B21_W.out.trans (hb22.mono B21_W.out.size))
  have B22_VGs := Lib.hid (B21_VGs.out.trans (hb22.mono B21_VGs.out.size))
  have B22_w20 := Lib.hid (B21_w20.out.trans (hb22.mono B21_w20.out.size))
  have HLAST22 := Lib.hid hb22
  clear hb22
  have Oh01 := Lib.hid hoh01
  have Rh01 : Hid (∀ V, Below w22.heap.size w22 V → Rd V V.heap.size (some ⟨h01, 0, none⟩) (ss.map Value.string)) := Lib.hid fun V hV => (Rd.ofOwnK hoh01).moved hV
  have Oh02 := Lib.hid hoh02
  have Rh02 : Hid (∀ V, Below w22.heap.size w22 V → Rd V V.heap.size (some ⟨h02, 0, none⟩) (fs.flatMap Q4.cells)) := Lib.hid fun V hV => (Rd.ofOwnK hoh02).moved hV
  clear hoh01 hoh02
  have Zw22 := Lib.hid (Below.refl w22.heap.size w22)
  go_wp2_with fail
  refine (toIntS Azs nzs czs zs w22 HNzs.out (HRzs.out _ B22_W.out) hsmzs).mono ?_
  rintro e w23 ⟨h1, hgh1, rfl, hoh1, hb23⟩
  have B23_W := Lib.hid (B22_W.out.trans (hb23.mono B22_W.out.size))
  have B23_VGs := Lib.hid (B22_VGs.out.trans (hb23.mono B22_VGs.out.size))
  have B23_w20 := Lib.hid (B22_w20.out.trans (hb23.mono B22_w20.out.size))
  have B23_w22 := Lib.hid (Zw22.out.trans (hb23.mono Zw22.out.size))
  have HLAST23 := Lib.hid hb23
  clear hb23
  have Oh1 := Lib.hid hoh1
  have Rh1 : Hid (∀ V, Below w23.heap.size w23 V → Rd V V.heap.size (some ⟨h1, 0, none⟩) (zs.map (Value.int .i64))) := Lib.hid fun V hV => (Rd.ofOwnK hoh1).moved hV
  clear hoh1
  have Zw23 := Lib.hid (Below.refl w23.heap.size w23)
  go_wp2_with fail
  refine (implRF ⟨HN1.out, hsm1, Nat.le_refl _, Rh01.out _ B23_w22.out, HWS.out, HN2.out, hsm2, Rh02.out _ B23_w22.out⟩ (c3 := nzs) HNzs.out (Rh1.out _ Zw23.out) hsmzs).mono ?_
  rw [HL1.out, HL2.out, HL3.out, HB.out]
  rintro e w24 ⟨A1h, A2h, A3h, N1h, N2h, N3h, d1h, d2h, d3h, rfl, HE1h, HE2h, HE3h, ho1h, ho2h, ho3h, hb24⟩
  have B24_W := Lib.hid (B23_W.out.trans (hb24.mono B23_W.out.size))
  have B24_VGs := Lib.hid (B23_VGs.out.trans (hb24.mono B23_VGs.out.size))
  have B24_w20 := Lib.hid (B23_w20.out.trans (hb24.mono B23_w20.out.size))
  have B24_w22 := Lib.hid (B23_w22.out.trans (hb24.mono B23_w22.out.size))
  have B24_w23 := Lib.hid (Zw23.out.trans (hb24.mono Zw23.out.size))
  have HLAST24 := Lib.hid hb24
  clear hb24
  have HO1h := Lib.hid ho1h; clear ho1h
  have hN1h : N1h ≤ 1048576 := by have := HE1h.out; have := HLN1.out; omega
  have HO2h := Lib.hid ho2h; clear ho2h
  have hN2h : N2h ≤ 1048576 := by have := HE2h.out; have := HLN2.out; omega
  have HO3h := Lib.hid ho3h; clear ho3h
  have hN3h : N3h ≤ 1048576 := by have := HE3h.out; have := HLN3.out; omega
  have Zw24 := Lib.hid (Below.refl w24.heap.size w24)
  obtain rfl : N1h = N1x := HE1h.out.trans HE1x.out.symm
  obtain rfl : N2h = N2x := HE2h.out.trans HE2x.out.symm
  obtain rfl : N3h = N3x := HE3h.out.trans HE3x.out.symm
  obtain ⟨sx0, sx1, sx2⟩ := HKWs.out _ B24_VGs.out
  go_wp2_with fail
  clear sx0 sx1 sx2
  obtain ⟨VGh, hVGh⟩ : ∃ V, (w24.alloc (Obj.cells #[.slice A1h N1h d1h, .slice A2h N2h d2h] 34)) = V := ⟨_, rfl⟩
  have hx0 : VGh.cell? ⟨w24.heap.size, 0, none⟩ = some (.slice A1h N1h d1h) := by rw [← hVGh]; simp [go_sem]
  have hx1 : VGh.cell? ⟨w24.heap.size, 1, none⟩ = some (.slice A2h N2h d2h) := by rw [← hVGh]; simp [go_sem]
  have hzv : w24.heap.size < VGh.heap.size := by rw [← hVGh]; simp
  have hbv : Below w24.heap.size w24 VGh := by rw [← hVGh]; exact (Below.refl _ _).alloc (Nat.le_refl _) _
  rw [hVGh]
  clear hVGh
  have CVGh_W := Lib.hid (B24_W.out.trans (hbv.mono B24_W.out.size))
  have CVGh_VGs := Lib.hid (B24_VGs.out.trans (hbv.mono B24_VGs.out.size))
  have CVGh_w20 := Lib.hid (B24_w20.out.trans (hbv.mono B24_w20.out.size))
  have CVGh_w22 := Lib.hid (B24_w22.out.trans (hbv.mono B24_w22.out.size))
  have CVGh_w23 := Lib.hid (B24_w23.out.trans (hbv.mono B24_w23.out.size))
  have CVGh_w24 := Lib.hid (Zw24.out.trans (hbv.mono Zw24.out.size))
  have HKWh : Hid (∀ U, Below VGh.heap.size VGh U → U.cell? ⟨w24.heap.size, 0, none⟩ = some (.slice A1h N1h d1h) ∧ U.cell? ⟨w24.heap.size, 1, none⟩ = some (.slice A2h N2h d2h) ∧ w24.heap.size < U.heap.size) := Lib.hid fun U hU => ⟨(hU.cell (p := ⟨_, _, none⟩) hzv).trans hx0, (hU.cell (p := ⟨_, _, none⟩) hzv).trans hx1, Nat.lt_of_lt_of_le hzv hU.size⟩
  have HRR1h : Hid (∀ U, Below VGh.heap.size VGh U → Rd U U.heap.size A1h (LS.map Value.string)) := Lib.hid fun U hU => (rdOwnA (ownB HO1h.out hbv)).moved hU
  have HRR2h : Hid (∀ U, Below VGh.heap.size VGh U → Rd U U.heap.size A2h (LF.flatMap Q4.cells)) := Lib.hid fun U hU => (rdOwnA (ownB HO2h.out hbv)).moved hU
  have HRR3h : Hid (∀ U, Below VGh.heap.size VGh U → Rd U U.heap.size A3h (LO.map (Value.int .i64))) := Lib.hid fun U hU => (rdOwnA (ownB HO3h.out hbv)).moved hU
  have ZVGh := Lib.hid (Below.refl VGh.heap.size VGh)
  clear hx0 hx1 hzv hbv
  refine (eqNetR _ _ _ _ N1h N2h _ _ _ _ LS LF VGh HE1h.out.symm hN1h HE2h.out.symm hN2h (HRR1h.out _ ZVGh.out) (HRR1s.out _ CVGh_VGs.out) (HRR2h.out _ ZVGh.out) (HRR2s.out _ CVGh_VGs.out)).mono ?_
  rintro e w25 ⟨rfl, hb25⟩
  have B25_W := Lib.hid (CVGh_W.out.trans (hb25.mono CVGh_W.out.size))
  have B25_VGs := Lib.hid (CVGh_VGs.out.trans (hb25.mono CVGh_VGs.out.size))
  have B25_w20 := Lib.hid (CVGh_w20.out.trans (hb25.mono CVGh_w20.out.size))
  have B25_w22 := Lib.hid (CVGh_w22.out.trans (hb25.mono CVGh_w22.out.size))
  have B25_w23 := Lib.hid (CVGh_w23.out.trans (hb25.mono CVGh_w23.out.size))
  have B25_w24 := Lib.hid (CVGh_w24.out.trans (hb25.mono CVGh_w24.out.size))
  have B25_VGh := Lib.hid (ZVGh.out.trans (hb25.mono ZVGh.out.size))
  have HLAST25 := Lib.hid hb25
  clear hb25
  go_wp2_with fail
  refine (eqInts _ _ N3h _ _ LO w25 HE3h.out.symm (HRR3h.out _ B25_VGh.out) (HRR3s.out _ B25_VGs.out) hN3h).mono ?_
  rintro e w26 ⟨rfl, hb26⟩
  have B26_W := Lib.hid (B25_W.out.trans (hb26.mono B25_W.out.size))
  have B26_VGs := Lib.hid (B25_VGs.out.trans (hb26.mono B25_VGs.out.size))
  have B26_w20 := Lib.hid (B25_w20.out.trans (hb26.mono B25_w20.out.size))
  have B26_w22 := Lib.hid (B25_w22.out.trans (hb26.mono B25_w22.out.size))
  have B26_w23 := Lib.hid (B25_w23.out.trans (hb26.mono B25_w23.out.size))
  have B26_w24 := Lib.hid (B25_w24.out.trans (hb26.mono B25_w24.out.size))
  have B26_VGh := Lib.hid (B25_VGh.out.trans (hb26.mono B25_VGh.out.size))
  have HLAST26 := Lib.hid hb26
  clear hb26
  have HPBc := Lib.hid (ownB HPB.out B26_w20.out)
  have gx0 := HPBc.out.cellAt 0 (by omega)
  have gx1 := HPBc.out.cellAt 1 (by omega)
  simp only [List.getElem?_cons_zero, List.getElem?_cons_succ] at gx0 gx1
  have gx2 := (HPBc.out.lt w7.heap.size rfl).2
  go_wp2_with fail
  clear HPBc gx0 gx1 gx2
  refine (heldNetV A1x A2x N1h N2h d1x d2x w26 (rdOwnA (ownB HP1.out B26_w20.out)) hN1x (rdOwnA (ownB HP2.out B26_w20.out)) hN2x).mono ?_
  rw [HK1.out]
  rintro e w27 ⟨rfl, hb27⟩
  have B27_W := Lib.hid (B26_W.out.trans (hb27.mono B26_W.out.size))
  have B27_VGs := Lib.hid (B26_VGs.out.trans (hb27.mono B26_VGs.out.size))
  have B27_w20 := Lib.hid (B26_w20.out.trans (hb27.mono B26_w20.out.size))
  have B27_w22 := Lib.hid (B26_w22.out.trans (hb27.mono B26_w22.out.size))
  have B27_w23 := Lib.hid (B26_w23.out.trans (hb27.mono B26_w23.out.size))
  have B27_w24 := Lib.hid (B26_w24.out.trans (hb27.mono B26_w24.out.size))
  have B27_VGh := Lib.hid (B26_VGh.out.trans (hb27.mono B26_VGh.out.size))
  have HLAST27 := Lib.hid hb27
  clear hb27
  go_wp2_with fail
  refine (heldInt9 A3x N3h d3x K1 w27 (rdOwnA (ownB HP3.out B27_w20.out)) hN3x (by omega)).mono ?_
  rw [HK2.out]
  rintro e w' ⟨rfl, rfl⟩
  go_wp2
  go_ret
  exact ⟨rfl, HBW.out.trans (B27_W.out.mono HBW.out.size)⟩


theorem own : ownKnob Try.prog.godebug = none := by kernel_rfl
theorem laidOut : laidOutB Try.prog = true := by kernel_rfl
set_option maxRecDepth 100000 in
theorem lifted (os : Os) (started : os.Started) (H : Type) (enc : TypeId × Value → H) :
    ReturnsInHanded {} Try.checked os 5 .any (Rows.fnExactRemoveFibersSpec.pre6 enc Try.prog Try.f5 Rows.fnExactRemoveFibersRow.domain false) (Rows.fnExactRemoveFibersSpec.post enc Try.prog Try.f5 false true false false) := by
  refine returnsInHanded_of_change_sized (C := Try.checked) own started (by kernel_rfl) Try.func5
    (ChangeSpec.witness6 (enc := enc) (C := Try.checked) false ⟨#[], #[.agg #[.slice none 0 0, .slice none 0 0], .slice none 0 0], []⟩ 8 (by kernel_rfl) (by kernel_rfl) (by kernel_rfl) (by kernel_rfl)) ?_
  intro W base args ds gs before hval0 hW _ hsz0 _
  clear hsz0
  have hval : ∀ (j : Nat) t v, Try.f5.params[j]? = some t → args[j]? = some v → Value.okWide Try.prog W .any base t v := hval0
  have hW' := hW
  obtain ⟨p, q, hA0, hV, rfl, _, _⟩ := hW
  have hA : DataW.TrodAll enc Try.prog W 0 (fun _ => true) true Try.f5.params.toList args.toList ds p := hA0
  rw [Try.params5] at hA hval
  obtain ⟨v0, vs0, d0, ds0, p0, q0, hargs, rfl, rfl, h0, r0⟩ := trodAll_cons hA
  obtain ⟨v1, vs1, d1, ds1, p1, q1, rfl, rfl, rfl, h1, r1⟩ := trodAll_cons r0
  obtain ⟨rfl, rfl, rfl⟩ := trodAll_nil r1
  obtain rfl : args = #[v0, v1] := by cases args; simp_all
  obtain ⟨rfl, rfl⟩ := trodVars_none hV
  simp only [List.append_nil] at hW'
  have hlt0 : ∀ x ∈ p0, x.block < W.heap.size := fun x hx => by simpa using hW'.lt x (by simp [hx])
  have hlt1 : ∀ x ∈ p1, x.block < W.heap.size := fun x hx => by simpa using hW'.lt x (by simp [hx])
  have fin : ∀ W' : World, Below W.heap.size W W' → Rows.fnExactRemoveFibersSpec.post enc Try.checked.prog Try.f5 false true false false W #[v0, v1] (.bool true) W' := by
    intro W' hb
    refine ⟨_, _, _, [] ++ [], (p0 ++ (p1 ++ [])), [], hW', ?_, ?_, rfl, hb.frame _, fun h => by cases h⟩
    · exact trodAll_mk1 (shut_bool Try.underlying4 true)
    · exact trodAll_cons_mk (Below.trod laidOut (by kernel_rfl) (of_decide_eq_true (by kernel_rfl)) h0 hb hlt0) (trodAll_cons_mk (Below.trod laidOut (by kernel_rfl) (of_decide_eq_true (by kernel_rfl)) h1 hb hlt1) (trodAll_mk0))
  clear hW' hV hA0
  obtain ⟨A0, n0, c0, s0, B0, m0, k0, z0, rfl, ⟨ha0, hb0, hc0, hd0⟩, ⟨he0, hf0, hg0, hh0⟩⟩ := open_net Try.underlying25 (by kernel_rfl) (by kernel_rfl) Try.underlying22 Try.underlying9 (by kernel_rfl) Try.underlying23 Try.underlying91 (by kernel_rfl) (by kernel_rfl) rfl (hint_of Try.underlying3 (by decide +kernel)) (hval 0 25 v0 rfl rfl) h0
  obtain ⟨b1, len1, cap1, rfl⟩ := okWide_slice Try.underlying55 (hval 1 55 v1 rfl rfl)
  obtain ⟨fuel1, hf1⟩ := h1
  obtain ⟨A1, n1, c1, z1, e1, ha1, hb1, hc1, hd1⟩ := rd_ints Try.underlying55 Try.underlying3 (by kernel_rfl) hf1
  simp only [Value.cells, List.cons.injEq, Value.slice.injEq, and_true] at e1
  obtain ⟨rfl, rfl, rfl⟩ := e1
  exact (walk A0 n0 c0 s0 B0 m0 k0 z0 b1 len1 cap1 z1 W ha0 hb0 hc0 hd0 he0 hf0 hg0 hh0 ha1 hb1 hc1 hd1).mono fun e W' ⟨he, hb⟩ => ⟨_, he, fin W' hb⟩

theorem closed : joinedFacts Try.prog 5 Try.f5 Rows.fnExactRemoveFibersSpec Rows.fnExactRemoveFibersRow = true := by
  unfold joinedFacts
  rw [jn_mk, jn_li, jn_en]
  kernel_rfl
theorem over : Rows.fnExactRemoveFibersRow.holds Try.pinned (OpenSpec.ofChange Rows.fnExactRemoveFibersSpec) :=
  OpenClaim.holds_of_wide 5 Try.f5 rfl rfl rfl rfl rfl rfl rfl ⟨rfl, rfl, rfl, rfl, rfl⟩ rfl rfl rfl rfl rfl (by kernel_rfl) Try.func5 closed
    (of_decide_eq_true (by kernel_rfl)) (by unfold Func.isWrapper; first | (rw [if_pos (by decide +kernel)]; kernel_rfl) | (rw [if_neg (by decide +kernel)]; exact ⟨rfl, rfl⟩))
    (fun os started H enc _ => lifted os started H enc)

/-- THE STATEMENT -/
theorem proved : Rows.FnExactRemoveFibersSaid :=
  over
end Go.Proofs.Ytlmemmcdabhooaa.fnExactRemoveFibers
