/- Proved: at every argument impl.ServiceMasks answers as spec.ServiceMasks does, in memory of its own, and leaves its arguments alone (the law FnExactServiceMasks returns true). The table of math/bits as Go's text lays it. -/
import Derived.Test.YtlgkjidginibdaaDoorRows
import Derived.Test.YtlgkjidginibdaaDoorCards
import Derived.Test.YtlgkjidginibdaaDoorTie
import Derived.Test.YtlgkjidginibdaaDoorJn
import Derived.JoinedOf
import Derived.Test.YtlgkjidginibdaaDoorGC
import Derived.Test.YtlgkjidginibdaaDoorGB
import Derived.Test.YtlgkjidginibdaaDoorTwL
import Derived.Test.YtlgkjidginibdaaDoorSvB
import Derived.Test.YtlgkjidginibdaaDoorSmJ
import Derived.WalkKit
import Derived.ProofKit
import Derived.OpenShut
import Derived.ShutString
import Derived.SizedLaws
import Derived.Carry
import Derived.LaidMore
import Derived.LaidHandle
import Derived.MakeChecks
import Derived.Stop.Joined
import Derived.SevenTiedAt
import Derived.SliceStrings
import Derived.DataBytes
import Derived.OpenVars
import Derived.ChangeVars
namespace Go.Proofs.YtlgkjidginibdaaDoor.fnExactServiceMasks
open Go.ChangeShapes Go.WideShapes Go.ChangeAt Go.RowKit
open Go.ChangeMaps (open_string shut_string)

set_option maxRecDepth 100000 in
set_option maxHeartbeats 8000000 in
theorem walk (A1 : Option Addr) (n1 c1 : Nat) (ss : List ByteArray) (A2 : Option Addr) (n2 c2 : Nat) (fs : List Q4) (Axs : Option Addr) (nxs cxs : Nat) (xs : List Sv) (w : World) (hn1 : ss.length = n1) (hm1 : n1 ≤ maxLen) (hr1 : Rd w w.heap.size A1 (ss.map Value.string)) (hws : ∀ s ∈ ss, s.size ≤ maxLen) (hn2 : fs.length = n2) (hm2 : n2 ≤ maxLen) (hr2 : Rd w w.heap.size A2 (fs.flatMap Q4.cells)) (_hwf : ∀ q ∈ fs, q.wf) (hnxs : xs.length = nxs) (hmxs : nxs ≤ maxLen) (hrxs : Rd w w.heap.size Axs (xs.flatMap Sv.cells)) (hixs : ∀ x ∈ xs, SvIn w x) (hpow : Tab w) :
    Calls Tryd.prog 3 #[.agg #[.slice A1 n1 c1, .slice A2 n2 c2], .slice Axs nxs cxs] w fun e w' => e = .returned (.bool true) ∧ Below w.heap.size w w' := by
  have HN1 := Lib.hid hn1; have HN2 := Lib.hid hn2; have HWS := Lib.hid hws; clear hn1 hn2 hws _hwf
  have HNxs := Lib.hid hnxs; clear hnxs
  go_enter Tryd.func3, Tryd.ntmps3
  go_wp2_with fail
  obtain ⟨W, hW⟩ : ∃ W, (w.alloc (Obj.cells #[.slice A1 n1 c1, .slice A2 n2 c2] 25)) = W := ⟨_, rfl⟩
  have hk0_0 : W.cell? ⟨w.heap.size, 0, none⟩ = some (.slice A1 n1 c1) := by rw [← hW]; simp [go_sem]
  have hk0_1 : W.cell? ⟨w.heap.size, 1, none⟩ = some (.slice A2 n2 c2) := by rw [← hW]; simp [go_sem]
  have hz : w.heap.size < W.heap.size := by rw [← hW]; simp
  have hbw : Below w.heap.size w W := by rw [← hW]; exact ((Below.refl w.heap.size w).alloc (Nat.le_refl _) _)
  have HBW := Lib.hid hbw
  have HTAB : Hid (∀ V, Below W.heap.size W V → Tab V) := Lib.hid fun V hV => (hpow.over hbw).over hV
  clear hpow
  rw [hW]
  clear hW
  have HR1 : Hid (∀ V, Below W.heap.size W V → Rd V V.heap.size A1 (ss.map Value.string)) := Lib.hid fun V hV => (hr1.moved hbw).moved hV
  clear hr1
  have HR2 : Hid (∀ V, Below W.heap.size W V → Rd V V.heap.size A2 (fs.flatMap Q4.cells)) := Lib.hid fun V hV => (hr2.moved hbw).moved hV
  clear hr2
  have HK0_0 : Hid (∀ V, Below W.heap.size W V → V.cell? ⟨w.heap.size, 0, none⟩ = some (.slice A1 n1 c1)) := Lib.hid fun V hV => (hV.cell (p := ⟨_, _, none⟩) (by show w.heap.size < _; omega)).trans hk0_0
  have HK0_1 : Hid (∀ V, Below W.heap.size W V → V.cell? ⟨w.heap.size, 1, none⟩ = some (.slice A2 n2 c2)) := Lib.hid fun V hV => (hV.cell (p := ⟨_, _, none⟩) (by show w.heap.size < _; omega)).trans hk0_1
  have HRxs : Hid (∀ V, Below W.heap.size W V → Rd V V.heap.size Axs (xs.flatMap Sv.cells)) := Lib.hid fun V hV => (hrxs.moved hbw).moved hV
  clear hrxs
  have HIxs : Hid (∀ V, Below W.heap.size W V → ∀ x ∈ xs, SvIn V x) := Lib.hid fun V hV x hx => ((hixs x hx).moved hbw).moved hV
  clear hixs
  clear hk0_0 hk0_1
  have HZ := Lib.hid hz
  clear hz hbw
  have B0 := Lib.hid (Below.refl W.heap.size W)
  refine (szNet A1 A2 n1 c1 n2 c2 1048576 ss fs W HN1.out hm1 (HR1.out _ B0.out) HWS.out hm2 (by omega) (by omega)).mono ?_
  rintro e w1 ⟨v0, rfl, hb1, hv00, hv10, hv20⟩
  have B1_W := Lib.hid (B0.out.trans (hb1.mono B0.out.size))
  have HLAST1 := Lib.hid hb1
  clear hb1
  by_cases hneg0 : v0 < 0
  · go_wp2
    go_ret
    exact ⟨rfl, HBW.out.trans (B1_W.out.mono HBW.out.size)⟩
  have hp0 : 0 ≤ v0 := by omega
  have hsm1 : n1 ≤ 1048576 := by have := hv20 hp0; omega
  have hsm2 : n2 ≤ 1048576 := by have := hv20 hp0; omega
  have HSZ0 := Lib.hid (hv20 hp0)
  clear hneg0 hv20 hm1 hm2
  go_wp2_with fail
  refine (szSvs Axs nxs cxs v0 xs w1 HNxs.out hmxs (HRxs.out _ B1_W.out) (HIxs.out _ B1_W.out) (by omega) (by omega)).mono ?_
  rintro e w2 ⟨v1, rfl, hb2, hv01, hv11, hv21⟩
  have B2_W := Lib.hid (B1_W.out.trans (hb2.mono B1_W.out.size))
  have HLAST2 := Lib.hid hb2
  clear hb2
  by_cases hneg1 : v1 < 0
  · go_wp2
    go_ret
    exact ⟨rfl, HBW.out.trans (B2_W.out.mono HBW.out.size)⟩
  have hp1 : 0 ≤ v1 := by omega
  have hsmxs : nxs ≤ 1048576 := by have := hv21 hp1; omega
  have HSZ1 := Lib.hid (hv21 hp1)
  have HRIxs : Hid (∀ V, Below W.heap.size W V → ∀ x ∈ xs, SvAt V x) := Lib.hid fun V hV x hx => by have h1 := hv21 hp1; have h2 := Svtot_le hx; have h3 := HIxs.out V hV x hx; exact ⟨⟨h3.1.1, by omega, h3.1.2.2⟩, ⟨h3.2.1, by omega, h3.2.2.2⟩⟩
  clear HIxs
  clear hneg1 hv21 hmxs
  have hLn1 : (smW ss fs (xs.map Sv.d)).length ≤ 1048576 := Nat.le_trans (sm_len _ _ _).1 (by have := HN2.out; omega)
  obtain ⟨L1, hL1⟩ : ∃ L, smW ss fs (xs.map Sv.d) = L := ⟨_, rfl⟩
  rw [hL1] at hLn1
  have HL1 := Lib.hid hL1; have HLN1 := Lib.hid hLn1; clear hL1 hLn1
  have hLn2 : (smU ss fs (xs.map Sv.d)).length ≤ 1048576 := Nat.le_trans (sm_len _ _ _).2 (by have := HN2.out; omega)
  obtain ⟨L2, hL2⟩ : ∃ L, smU ss fs (xs.map Sv.d) = L := ⟨_, rfl⟩
  rw [hL2] at hLn2
  have HL2 := Lib.hid hL2; have HLN2 := Lib.hid hLn2; clear hL2 hLn2
  obtain ⟨b, hb⟩ : ∃ b, pb (svsP ss fs (xs.map Sv.d)) = b := ⟨_, rfl⟩
  have HB := Lib.hid hb; clear hb
  have ka0_0 := HK0_0.out _ B2_W.out
  have ka0_1 := HK0_1.out _ B2_W.out
  go_wp2_with fail
  clear ka0_0 ka0_1
  refine (toNet A1 A2 n1 c1 n2 c2 ss fs w2 HN1.out (HR1.out _ B2_W.out) hsm1 HN2.out (HR2.out _ B2_W.out) hsm2).mono ?_
  rintro e w3 ⟨s01, s02, rfl, hos01, hos02, hb3⟩
  have B3_W := Lib.hid (B2_W.out.trans (hb3.mono B2_W.out.size))
  have HLAST3 := Lib.hid hb3
  clear hb3
  have Os01 := Lib.hid hos01
  have Rs01 : Hid (∀ V, Below w3.heap.size w3 V → Rd V V.heap.size (some ⟨s01, 0, none⟩) (ss.map Value.string)) := Lib.hid fun V hV => (Rd.ofOwnK hos01).moved hV
  have Os02 := Lib.hid hos02
  have Rs02 : Hid (∀ V, Below w3.heap.size w3 V → Rd V V.heap.size (some ⟨s02, 0, none⟩) (fs.flatMap Q4.cells)) := Lib.hid fun V hV => (Rd.ofOwnK hos02).moved hV
  clear hos01 hos02
  have Zw3 := Lib.hid (Below.refl w3.heap.size w3)
  go_wp2_with fail
  refine (toSvs Axs nxs cxs xs w3 HNxs.out (HRxs.out _ B3_W.out) (HRIxs.out _ B3_W.out) hsmxs).mono ?_
  rintro e w4 ⟨s1, yss1, rfl, hgs1, hds1, hTs1, hb4⟩
  have B4_W := Lib.hid (B3_W.out.trans (hb4.mono B3_W.out.size))
  have B4_w3 := Lib.hid (Zw3.out.trans (hb4.mono Zw3.out.size))
  have HLAST4 := Lib.hid hb4
  clear hb4
  have Ds1 := Lib.hid hds1
  have Ts1 : Hid (∀ V, Below w4.heap.size w4 V → Svs w3.heap.size s1 nxs yss1 V) := Lib.hid fun V hV => hTs1.moved hV
  clear hds1 hTs1 hgs1
  have Zw4 := Lib.hid (Below.refl w4.heap.size w4)
  go_wp2_with fail
  refine (specSM ⟨HN1.out, hsm1, Nat.le_refl _, Rs01.out _ B4_w3.out, HWS.out, HN2.out, hsm2, Rs02.out _ B4_w3.out⟩ (Ts1.out _ Zw4.out) Ds1.out hsmxs).mono ?_
  rw [HL1.out, HL2.out, HB.out]
  rintro e w5 ⟨A1s, A2s, N1s, N2s, d1s, d2s, rfl, HE1s, HE2s, ho1s, ho2s, HPs, hb5⟩
  have B5_W := Lib.hid (B4_W.out.trans (hb5.mono B4_W.out.size))
  have B5_w3 := Lib.hid (B4_w3.out.trans (hb5.mono B4_w3.out.size))
  have B5_w4 := Lib.hid (Zw4.out.trans (hb5.mono Zw4.out.size))
  have HLAST5 := Lib.hid hb5
  clear hb5
  have HO1s := Lib.hid ho1s; clear ho1s
  have hN1s : N1s ≤ 1048576 := by have := HE1s.out; have := HLN1.out; omega
  have HO2s := Lib.hid ho2s; clear ho2s
  have hN2s : N2s ≤ 1048576 := by have := HE2s.out; have := HLN2.out; omega
  have Zw5 := Lib.hid (Below.refl w5.heap.size w5)
  have HRR1s : Hid (∀ U, Below w5.heap.size w5 U → Rd U U.heap.size A1s (L1.map (Value.int .i64))) := Lib.hid fun U hU => (rdOwnA HO1s.out).moved hU
  have HRR2s : Hid (∀ U, Below w5.heap.size w5 U → Rd U U.heap.size A2s (L2.map (Value.int .i64))) := Lib.hid fun U hU => (rdOwnA HO2s.out).moved hU
  have WPW := Lib.hid B5_W.out.size
  have ka0_0 := HK0_0.out _ B5_W.out
  have ka0_1 := HK0_1.out _ B5_W.out
  go_wp2_with fail
  clear ka0_0 ka0_1
  have ZPRE0 := Lib.hid (Zw5.out.size)
  refine (toNet A1 A2 n1 c1 n2 c2 ss fs w5 HN1.out (HR1.out _ B5_W.out) hsm1 HN2.out (HR2.out _ B5_W.out) hsm2).mono ?_
  rintro e w6 ⟨x01, x02, rfl, hox01, hox02, hb6⟩
  have B6_W := Lib.hid (B5_W.out.trans (hb6.mono B5_W.out.size))
  have B6_w5 := Lib.hid (Zw5.out.trans (hb6.mono Zw5.out.size))
  have HLAST6 := Lib.hid hb6
  clear hb6
  have Ox01 := Lib.hid hox01
  have Rx01 : Hid (∀ V, Below w6.heap.size w6 V → Rd V V.heap.size (some ⟨x01, 0, none⟩) (ss.map Value.string)) := Lib.hid fun V hV => (Rd.ofOwnK hox01).moved hV
  have Ox02 := Lib.hid hox02
  have Rx02 : Hid (∀ V, Below w6.heap.size w6 V → Rd V V.heap.size (some ⟨x02, 0, none⟩) (fs.flatMap Q4.cells)) := Lib.hid fun V hV => (Rd.ofOwnK hox02).moved hV
  clear hox01 hox02
  have Zw6 := Lib.hid (Below.refl w6.heap.size w6)
  go_wp2_with fail
  obtain ⟨V0, hV0⟩ : ∃ V, (w6.alloc (Obj.cells #[.slice (some ⟨x01, 0, none⟩) n1 n1, .slice (some ⟨x02, 0, none⟩) n2 n2] 34)) = V := ⟨_, rfl⟩
  have hx0_0 : V0.cell? ⟨w6.heap.size, 0, none⟩ = some (.slice (some ⟨x01, 0, none⟩) n1 n1) := by rw [← hV0]; simp [go_sem]
  have hx0_1 : V0.cell? ⟨w6.heap.size, 1, none⟩ = some (.slice (some ⟨x02, 0, none⟩) n2 n2) := by rw [← hV0]; simp [go_sem]
  have hzV0 : w6.heap.size < V0.heap.size := by rw [← hV0]; simp
  have hbV0 : Below w6.heap.size w6 V0 := by rw [← hV0]; exact (Below.refl _ _).alloc (Nat.le_refl _) _
  rw [hV0]
  clear hV0
  have CV0_W := Lib.hid (B6_W.out.trans (hbV0.mono B6_W.out.size))
  have CV0_w5 := Lib.hid (B6_w5.out.trans (hbV0.mono B6_w5.out.size))
  have CV0_w6 := Lib.hid (Zw6.out.trans (hbV0.mono Zw6.out.size))
  have HX0_0 : Hid (∀ U, Below V0.heap.size V0 U → U.cell? ⟨w6.heap.size, 0, none⟩ = some (.slice (some ⟨x01, 0, none⟩) n1 n1)) := Lib.hid fun U hU => (hU.cell (p := ⟨_, _, none⟩) hzV0).trans hx0_0
  have HX0_1 : Hid (∀ U, Below V0.heap.size V0 U → U.cell? ⟨w6.heap.size, 1, none⟩ = some (.slice (some ⟨x02, 0, none⟩) n2 n2)) := Lib.hid fun U hU => (hU.cell (p := ⟨_, _, none⟩) hzV0).trans hx0_1
  have HZV0 := Lib.hid hzV0
  clear hzV0 hbV0 hx0_0 hx0_1
  have ZV0 := Lib.hid (Below.refl V0.heap.size V0)
  have ZPRE1 := Lib.hid (CV0_w5.out.size)
  refine (toSvs Axs nxs cxs xs V0 HNxs.out (HRxs.out _ CV0_W.out) (HRIxs.out _ CV0_W.out) hsmxs).mono ?_
  rintro e w7 ⟨x1, ysx1, rfl, hgx1, hdx1, hTx1, hb7⟩
  have B7_W := Lib.hid (CV0_W.out.trans (hb7.mono CV0_W.out.size))
  have B7_w5 := Lib.hid (CV0_w5.out.trans (hb7.mono CV0_w5.out.size))
  have B7_w6 := Lib.hid (CV0_w6.out.trans (hb7.mono CV0_w6.out.size))
  have B7_V0 := Lib.hid (ZV0.out.trans (hb7.mono ZV0.out.size))
  have HLAST7 := Lib.hid hb7
  clear hb7
  have Dx1 := Lib.hid hdx1
  have Tx1 : Hid (∀ V, Below w7.heap.size w7 V → Svs V0.heap.size x1 nxs ysx1 V) := Lib.hid fun V hV => hTx1.moved hV
  have LIEx1 := Lib.hid (hTx1.lies)
  clear hdx1 hTx1 hgx1
  have SEPx01_Tx1 := Lib.hid (Nat.lt_of_lt_of_le (Ox01.out.lt x01 rfl).2 CV0_w6.out.size)
  have SEPx02_Tx1 := Lib.hid (Nat.lt_of_lt_of_le (Ox02.out.lt x02 rfl).2 CV0_w6.out.size)
  have SEPBx01_1 := Lib.hid (Nat.lt_of_lt_of_le (Ox01.out.lt x01 rfl).2 B7_w6.out.size)
  have SEPBx02_1 := Lib.hid (Nat.lt_of_lt_of_le (Ox02.out.lt x02 rfl).2 B7_w6.out.size)
  have Zw7 := Lib.hid (Below.refl w7.heap.size w7)
  have kz0_0 := HX0_0.out _ B7_V0.out
  have kz0_1 := HX0_1.out _ B7_V0.out
  have hgz0 : w6.heap.size < w7.heap.size := Nat.lt_of_lt_of_le HZV0.out B7_V0.out.size
  go_wp2_with fail
  clear kz0_0 kz0_1 hgz0
  have PWV := Lib.hid B7_w5.out.size
  have HQx01 : Hid (w5.heap.size ≤ x01 ∧ x01 < w7.heap.size) := Lib.hid ⟨Nat.le_trans ZPRE0.out (Ox01.out.lt x01 rfl).1, Nat.lt_of_lt_of_le (Ox01.out.lt x01 rfl).2 B7_w6.out.size⟩
  have HQx02 : Hid (w5.heap.size ≤ x02 ∧ x02 < w7.heap.size) := Lib.hid ⟨Nat.le_trans ZPRE0.out (Ox02.out.lt x02 rfl).1, Nat.lt_of_lt_of_le (Ox02.out.lt x02 rfl).2 B7_w6.out.size⟩
  have HQTx1 : Hid (w5.heap.size ≤ V0.heap.size ∧ w7.heap.size ≤ w7.heap.size) := Lib.hid ⟨ZPRE1.out, Zw7.out.size⟩
  refine (implSM ⟨HN1.out, hsm1, Nat.le_refl _, Rx01.out _ B7_w6.out, HWS.out, HN2.out, hsm2, Rx02.out _ B7_w6.out⟩ (Tx1.out _ Zw7.out) Dx1.out hsmxs (HTAB.out _ B7_W.out)).mono ?_
  rw [HL1.out, HL2.out, HB.out]
  rintro e w8 ⟨A1x, A2x, N1x, N2x, d1x, d2x, rfl, HE1x, HE2x, ho1x, ho2x, HPx, hb8⟩
  have B8_W := Lib.hid (B7_W.out.trans (hb8.mono B7_W.out.size))
  have B8_w5 := Lib.hid (B7_w5.out.trans (hb8.mono B7_w5.out.size))
  have B8_w6 := Lib.hid (B7_w6.out.trans (hb8.mono B7_w6.out.size))
  have B8_V0 := Lib.hid (B7_V0.out.trans (hb8.mono B7_V0.out.size))
  have B8_w7 := Lib.hid (Zw7.out.trans (hb8.mono Zw7.out.size))
  have HLAST8 := Lib.hid hb8
  clear hb8
  have HO1x := Lib.hid ho1x; clear ho1x
  have hN1x : N1x ≤ 1048576 := by have := HE1x.out; have := HLN1.out; omega
  have HO2x := Lib.hid ho2x; clear ho2x
  have hN2x : N2x ≤ 1048576 := by have := HE2x.out; have := HLN2.out; omega
  have Zw8 := Lib.hid (Below.refl w8.heap.size w8)
  have HRR1x : Hid (∀ U, Below w8.heap.size w8 U → Rd U U.heap.size A1x (L1.map (Value.int .i64))) := Lib.hid fun U hU => (rdOwnA HO1x.out).moved hU
  have HRR2x : Hid (∀ U, Below w8.heap.size w8 U → Rd U U.heap.size A2x (L2.map (Value.int .i64))) := Lib.hid fun U hU => (rdOwnA HO2x.out).moved hU
  obtain rfl : N1x = N1s := HE1x.out.trans HE1s.out.symm
  obtain rfl : N2x = N2s := HE2x.out.trans HE2s.out.symm
  go_wp2_with fail
  refine (eqInts _ _ N1x _ _ L1 w8 HE1x.out.symm (HRR1x.out _ Zw8.out) (HRR1s.out _ B8_w5.out) hN1x).mono ?_
  rintro e w9 ⟨rfl, hb9⟩
  have B9_W := Lib.hid (B8_W.out.trans (hb9.mono B8_W.out.size))
  have B9_w5 := Lib.hid (B8_w5.out.trans (hb9.mono B8_w5.out.size))
  have B9_w6 := Lib.hid (B8_w6.out.trans (hb9.mono B8_w6.out.size))
  have B9_V0 := Lib.hid (B8_V0.out.trans (hb9.mono B8_V0.out.size))
  have B9_w7 := Lib.hid (B8_w7.out.trans (hb9.mono B8_w7.out.size))
  have B9_w8 := Lib.hid (Zw8.out.trans (hb9.mono Zw8.out.size))
  have HLAST9 := Lib.hid hb9
  clear hb9
  go_wp2_with fail
  refine (eqInts _ _ N2x _ _ L2 w9 HE2x.out.symm (HRR2x.out _ B9_w8.out) (HRR2s.out _ B9_w5.out) hN2x).mono ?_
  rintro e w10 ⟨rfl, hb10⟩
  have B10_W := Lib.hid (B9_W.out.trans (hb10.mono B9_W.out.size))
  have B10_w5 := Lib.hid (B9_w5.out.trans (hb10.mono B9_w5.out.size))
  have B10_w6 := Lib.hid (B9_w6.out.trans (hb10.mono B9_w6.out.size))
  have B10_V0 := Lib.hid (B9_V0.out.trans (hb10.mono B9_V0.out.size))
  have B10_w7 := Lib.hid (B9_w7.out.trans (hb10.mono B9_w7.out.size))
  have B10_w8 := Lib.hid (B9_w8.out.trans (hb10.mono B9_w8.out.size))
  have HLAST10 := Lib.hid hb10
  clear hb10
  have ka0_0 := HK0_0.out _ B10_W.out
  have ka0_1 := HK0_1.out _ B10_W.out
  have kx0_0 := HX0_0.out _ B10_V0.out
  have kx0_1 := HX0_1.out _ B10_V0.out
  have hgx : w6.heap.size < w10.heap.size := Nat.lt_of_lt_of_le HZV0.out B10_V0.out.size
  have hgw : w.heap.size < w10.heap.size := Nat.lt_of_lt_of_le (by have := HZ.out; omega) B10_W.out.size
  have hbd : Bel w10 w10.drew := Bel.of (Below.refl _ _).drew
  go_upto_region 14 with fail
  go_cut [69] (fun s69 wx => s69 = .bool false ∧ Bel w10 wx)
  case first =>
    go_region_held3 (fun U => U.cell? ⟨w6.heap.size, 0, none⟩ = some (.slice (some ⟨x01, 0, none⟩) n1 n1) ∧ U.cell? ⟨w6.heap.size, 1, none⟩ = some (.slice (some ⟨x02, 0, none⟩) n2 n2) ∧ U.cell? ⟨w.heap.size, 0, none⟩ = some (.slice A1 n1 c1) ∧ U.cell? ⟨w.heap.size, 1, none⟩ = some (.slice A2 n2 c2) ∧ Bel w10 U)
      (first | go_keep | (go_split_ands; (refine ⟨?_, ?_, ?_, ?_, ?_⟩ <;> first | assumption | exact Bel.step (by assumption) hbt11 | exact Bel.step (by assumption) hbt12 | exact (Bel.at_ (by assumption) hbt11 (by assumption)).trans (by assumption) | exact (Bel.at_ (by assumption) hbt12 (by assumption)).trans (by assumption))))
      (first
        | (go_at_call 9
           go_split_ands
           refine (toNet A1 A2 n1 c1 n2 c2 ss fs _ HN1.out (HR1.out _ (Below.trans B10_W.out ((Bel.out (by assumption)).mono B10_W.out.size))) hsm1 HN2.out (HR2.out _ (Below.trans B10_W.out ((Bel.out (by assumption)).mono B10_W.out.size))) hsm2).mono ?_
           rintro e t11 ⟨y121, y122, rfl, hoy121, hoy122, hbt11⟩
           have Sy121 := Lib.hid (Rd.ofOwnK hoy121)
           have Sy122 := Lib.hid (Rd.ofOwnK hoy122)
           clear hoy121 hoy122)
        | (go_at_call 13
           go_split_ands
           refine (eqNet x01 x02 y121 y122 n1 n2 n1 n2 n1 n2 ss fs t11 HN1.out hsm1 HN2.out hsm2 (Rx01.out _ (Below.trans B10_w6.out ((Bel.out (by assumption)).mono B10_w6.out.size))) (Sy121.out) (Rx02.out _ (Below.trans B10_w6.out ((Bel.out (by assumption)).mono B10_w6.out.size))) (Sy122.out)).mono ?_
           rintro e t12 ⟨rfl, hbt12⟩))
    all_goals
      go_split_ands
      have hbl : Bel w10 t12 := by assumption
      go_wp2_with fail
      go_meet
      exact ⟨rfl, hbl⟩
  case rest =>
  clear hbd hgx hgw ka0_0 ka0_1 kx0_0 kx0_1
  revert hcut; generalize wc = wc1; intro hcut
  obtain ⟨hs_, hbl⟩ := hcut
  subst hs_
  have Ewc1_W := Lib.hid (B10_W.out.trans ((Bel.out hbl).mono B10_W.out.size))
  have Ewc1_w5 := Lib.hid (B10_w5.out.trans ((Bel.out hbl).mono B10_w5.out.size))
  have Ewc1_w6 := Lib.hid (B10_w6.out.trans ((Bel.out hbl).mono B10_w6.out.size))
  have Ewc1_V0 := Lib.hid (B10_V0.out.trans ((Bel.out hbl).mono B10_V0.out.size))
  have Ewc1_w7 := Lib.hid (B10_w7.out.trans ((Bel.out hbl).mono B10_w7.out.size))
  have Ewc1_w8 := Lib.hid (B10_w8.out.trans ((Bel.out hbl).mono B10_w8.out.size))
  clear hbl
  go_wp2_with fail
  refine (toSvs Axs nxs cxs xs wc1 HNxs.out (HRxs.out _ Ewc1_W.out) (HRIxs.out _ Ewc1_W.out) hsmxs).mono ?_
  rintro e w14 ⟨y13, ysy13, rfl, hgy13, hdy13, hTy13, hb14⟩
  have B14_W := Lib.hid (Ewc1_W.out.trans (hb14.mono Ewc1_W.out.size))
  have B14_w5 := Lib.hid (Ewc1_w5.out.trans (hb14.mono Ewc1_w5.out.size))
  have B14_w6 := Lib.hid (Ewc1_w6.out.trans (hb14.mono Ewc1_w6.out.size))
  have B14_V0 := Lib.hid (Ewc1_V0.out.trans (hb14.mono Ewc1_V0.out.size))
  have B14_w7 := Lib.hid (Ewc1_w7.out.trans (hb14.mono Ewc1_w7.out.size))
  have B14_w8 := Lib.hid (Ewc1_w8.out.trans (hb14.mono Ewc1_w8.out.size))
  have HLAST14 := Lib.hid hb14
  clear hb14
  have Dy13 := Lib.hid hdy13; have STy13 := Lib.hid hTy13; clear hdy13 hTy13
  clear  hgy13
  go_wp2_with fail
  refine (eqSvs x1 y13 nxs _ _ ysx1 ysy13 w14 (Tx1.out _ B14_w7.out) (STy13.out) (Dx1.out.trans Dy13.out.symm) hsmxs).mono ?_
  rintro e w15 ⟨rfl, hb15⟩
  have B15_W := Lib.hid (B14_W.out.trans (hb15.mono B14_W.out.size))
  have B15_w5 := Lib.hid (B14_w5.out.trans (hb15.mono B14_w5.out.size))
  have B15_w6 := Lib.hid (B14_w6.out.trans (hb15.mono B14_w6.out.size))
  have B15_V0 := Lib.hid (B14_V0.out.trans (hb15.mono B14_V0.out.size))
  have B15_w7 := Lib.hid (B14_w7.out.trans (hb15.mono B14_w7.out.size))
  have B15_w8 := Lib.hid (B14_w8.out.trans (hb15.mono B14_w8.out.size))
  have HLAST15 := Lib.hid hb15
  clear hb15
  have HG1_0 := Lib.hid (ownB HO1x.out B15_w8.out)
  have HG2_0 := Lib.hid (ownB HO2x.out B15_w8.out)
  have kx0_0 := HX0_0.out _ B15_V0.out
  have kx0_1 := HX0_1.out _ B15_V0.out
  go_wp2_with fail
  clear kx0_0 kx0_1
  refine (markNetB x01 x02 n1 n2 n1 n2 _ _ w15 (own_base (ownB Ox01.out B15_w6.out) (Nat.zero_le _)) hsm1 (own_base (ownB Ox02.out B15_w6.out) (Nat.zero_le _)) hsm2 (rows_apart Ox01.out Ox02.out (by decide))).mono ?_
  rintro e w16 ⟨k0, rfl, hk0a, hk0b, hoff⟩
  have Fw16_W := Lib.hid (B15_W.out.trans (hoff.below (B := W.heap.size) B15_W.out.size (fun b h => by have hpw := WPW.out; have := HQx01.out; have := HQx02.out; rcases h with h | h <;> omega)))
  have Fw16_w5 := Lib.hid (B15_w5.out.trans (hoff.below (B := w5.heap.size) B15_w5.out.size (fun b h => by have hpw := Nat.le_refl w5.heap.size; have := HQx01.out; have := HQx02.out; rcases h with h | h <;> omega)))
  have HG1_1 := Lib.hid (own_off HG1_0.out hoff (fun b h => by have := HQx01.out; have := HQx02.out; rcases h with h | h <;> omega))
  have HG2_1 := Lib.hid (own_off HG2_0.out hoff (fun b h => by have := HQx01.out; have := HQx02.out; rcases h with h | h <;> omega))
  have hT9 := (Tx1.out _ B15_w7.out)
  have hT9l := hT9.lies
  have hT8 := hT9.off hoff (fun h => by have := hT9l.1; have := SEPx01_Tx1.out; have := SEPx02_Tx1.out; rcases h with h | h <;> omega) (fun y hy q e h => by have := hT9l.2 y hy q e; have := SEPx01_Tx1.out; have := SEPx02_Tx1.out; rcases h with h | h <;> omega)
  have Tx1_ : Hid (∀ V, Below w16.heap.size w16 V → Svs V0.heap.size x1 nxs ysx1 V) := Lib.hid fun V hV => hT8.moved hV
  clear Tx1 hT9 hT9l hT8; have Tx1 := Tx1_; clear Tx1_
  have Zw16 := Lib.hid (Below.refl w16.heap.size w16)
  clear hoff
  go_wp2_with fail
  refine (markSvs k0 w16 (Tx1.out _ Zw16.out) LIEx1.out.1.2 (fun y hy q e => (LIEx1.out.2 y hy q e).2) hsmxs (by omega) (by omega)).mono ?_
  rintro e w17 ⟨k1, rfl, hk1a, hk1b, hoff⟩
  have Fw17_W := Lib.hid (Fw16_W.out.trans (hoff.below (B := W.heap.size) Fw16_W.out.size (fun b h => by have hpw := WPW.out; have := HQTx1.out; have h2 : V0.heap.size ≤ b ∧ b < w7.heap.size := h; omega)))
  have Fw17_w5 := Lib.hid (Fw16_w5.out.trans (hoff.below (B := w5.heap.size) Fw16_w5.out.size (fun b h => by have hpw := Nat.le_refl w5.heap.size; have := HQTx1.out; have h2 : V0.heap.size ≤ b ∧ b < w7.heap.size := h; omega)))
  have HG1_2 := Lib.hid (own_off HG1_1.out hoff (fun b h => by have := HQTx1.out; have h2 : V0.heap.size ≤ b ∧ b < w7.heap.size := h; omega))
  have HG2_2 := Lib.hid (own_off HG2_1.out hoff (fun b h => by have := HQTx1.out; have h2 : V0.heap.size ≤ b ∧ b < w7.heap.size := h; omega))
  have Zw17 := Lib.hid (Below.refl w17.heap.size w17)
  clear hoff
  have hkn : decide (k1 < 0) = false := decide_eq_false (by omega)
  go_wp2_with fail
  refine (eqInts _ _ N1x _ _ L1 w17 HE1x.out.symm (rdOwnA (ownB HG1_2.out Zw17.out)) (HRR1s.out _ Fw17_w5.out) hN1x).mono ?_
  rintro e w18 ⟨rfl, hb18⟩
  have B18_W := Lib.hid (Fw17_W.out.trans (hb18.mono Fw17_W.out.size))
  have B18_w5 := Lib.hid (Fw17_w5.out.trans (hb18.mono Fw17_w5.out.size))
  have B18_w17 := Lib.hid (Zw17.out.trans (hb18.mono Zw17.out.size))
  have HLAST18 := Lib.hid hb18
  clear hb18
  go_wp2_with fail
  refine (eqInts _ _ N2x _ _ L2 w18 HE2x.out.symm (rdOwnA (ownB HG2_2.out B18_w17.out)) (HRR2s.out _ B18_w5.out) hN2x).mono ?_
  rintro e w19 ⟨rfl, hb19⟩
  have B19_W := Lib.hid (B18_W.out.trans (hb19.mono B18_W.out.size))
  have B19_w5 := Lib.hid (B18_w5.out.trans (hb19.mono B18_w5.out.size))
  have B19_w17 := Lib.hid (B18_w17.out.trans (hb19.mono B18_w17.out.size))
  have HLAST19 := Lib.hid hb19
  clear hb19
  have HGA1 := Lib.hid (ownB HG1_2.out B19_w17.out)
  have HGA2 := Lib.hid (ownB HG2_2.out B19_w17.out)
  obtain ⟨K1, hK1⟩ : ∃ K, 1 + N1x = K := ⟨_, rfl⟩
  have HK1 := Lib.hid hK1
  have hK1b : 1 ≤ K1 ∧ K1 ≤ 10000000 := by omega
  clear hK1
  obtain ⟨K2, hK2⟩ : ∃ K, K1 + N2x = K := ⟨_, rfl⟩
  have HK2 := Lib.hid hK2
  clear hK2
  have hK1n : ¬ ((K1 : Int) < 0) := by omega
  have hK1d : decide ((K1 : Int) < 0) = false := decide_eq_false hK1n
  have hK2n : ¬ ((K2 : Int) < 0) := by omega
  have hK2d : decide ((K2 : Int) < 0) = false := decide_eq_false hK2n
  go_wp2_with fail
  refine (markInt1 A1x N1x d1x L1 w19 HGA1.out hN1x).mono ?_
  rw [HK1.out]
  rintro e w20 ⟨rfl, hoff9, ho91⟩
  have Gw20_W := Lib.hid (B19_W.out.trans (hoff9.below (B := W.heap.size) B19_W.out.size (fun b h => by have := WPW.out; have := PWV.out; have h2 : w7.heap.size ≤ b := (HGA1.out.lt b h).1; omega)))
  have Gw20_w5 := Lib.hid (B19_w5.out.trans (hoff9.below (B := w5.heap.size) B19_w5.out.size (fun b h => by have := WPW.out; have := PWV.out; have h2 : w7.heap.size ≤ b := (HGA1.out.lt b h).1; omega)))
  have HM1 := Lib.hid ho91
  have HM2 := Lib.hid (own_offV HGA2.out hoff9 (fun g h1 h2 => HPx.out g h2 h1))
  clear hoff9 ho91
  go_wp2_with fail
  refine (markIntA9 A2x N2x d2x K1 L2 w20 HM2.out hN2x hK1b.1 (by omega)).mono ?_
  rw [HK2.out]
  rintro e w21 ⟨rfl, hoff9, ho92⟩
  have Gw21_W := Lib.hid (Gw20_W.out.trans (hoff9.below (B := W.heap.size) Gw20_W.out.size (fun b h => by have := WPW.out; have := PWV.out; have h2 : w7.heap.size ≤ b := (HM2.out.lt b h).1; omega)))
  have Gw21_w5 := Lib.hid (Gw20_w5.out.trans (hoff9.below (B := w5.heap.size) Gw20_w5.out.size (fun b h => by have := WPW.out; have := PWV.out; have h2 : w7.heap.size ≤ b := (HM2.out.lt b h).1; omega)))
  have HP2 := Lib.hid ho92
  have HP1 := Lib.hid (own_offV HM1.out hoff9 (fun g h1 h2 => HPx.out g h1 h2))
  clear hoff9 ho92
  have Zw21 := Lib.hid (Below.refl w21.heap.size w21)
  go_wp2_with fail
  refine (heldInt1 A1x N1x d1x w21 (rdOwnA (ownB HP1.out Zw21.out)) hN1x).mono ?_
  rw [HK1.out]
  rintro e w' ⟨rfl, rfl⟩
  go_wp2_with fail
  refine (heldInt9 A2x N2x d2x K1 w21 (rdOwnA (ownB HP2.out Zw21.out)) hN2x (by omega)).mono ?_
  rw [HK2.out]
  rintro e w' ⟨rfl, rfl⟩
  have ka0_0 := HK0_0.out _ Gw21_W.out
  have ka0_1 := HK0_1.out _ Gw21_W.out
  go_wp2_with fail
  clear ka0_0 ka0_1
  refine (toNet A1 A2 n1 c1 n2 c2 ss fs w21 HN1.out (HR1.out _ Gw21_W.out) hsm1 HN2.out (HR2.out _ Gw21_W.out) hsm2).mono ?_
  rintro e w22 ⟨h01, h02, rfl, hoh01, hoh02, hb22⟩
  have B22_W := Lib.hid (Gw21_W.out.trans (hb22.mono Gw21_W.out.size))
  have B22_w5 := Lib.hid (Gw21_w5.out.trans (hb22.mono Gw21_w5.out.size))
  have B22_w21 := Lib.hid (Zw21.out.trans (hb22.mono Zw21.out.size))
  have HLAST22 := Lib.hid hb22
  clear hb22
  have Oh01 := Lib.hid hoh01
  have Rh01 : Hid (∀ V, Below w22.heap.size w22 V → Rd V V.heap.size (some ⟨h01, 0, none⟩) (ss.map Value.string)) := Lib.hid fun V hV => (Rd.ofOwnK hoh01).moved hV
  have Oh02 := Lib.hid hoh02
  have Rh02 : Hid (∀ V, Below w22.heap.size w22 V → Rd V V.heap.size (some ⟨h02, 0, none⟩) (fs.flatMap Q4.cells)) := Lib.hid fun V hV => (Rd.ofOwnK hoh02).moved hV
  clear hoh01 hoh02
  have Zw22 := Lib.hid (Below.refl w22.heap.size w22)
  go_wp2_with fail
  refine (toSvs Axs nxs cxs xs w22 HNxs.out (HRxs.out _ B22_W.out) (HRIxs.out _ B22_W.out) hsmxs).mono ?_
  rintro e w23 ⟨h1, ysh1, rfl, hgh1, hdh1, hTh1, hb23⟩
  have B23_W := Lib.hid (B22_W.out.trans (hb23.mono B22_W.out.size))
  have B23_w5 := Lib.hid (B22_w5.out.trans (hb23.mono B22_w5.out.size))
  have B23_w21 := Lib.hid (B22_w21.out.trans (hb23.mono B22_w21.out.size))
  have B23_w22 := Lib.hid (Zw22.out.trans (hb23.mono Zw22.out.size))
  have HLAST23 := Lib.hid hb23
  clear hb23
  have Dh1 := Lib.hid hdh1
  have Th1 : Hid (∀ V, Below w23.heap.size w23 V → Svs w22.heap.size h1 nxs ysh1 V) := Lib.hid fun V hV => hTh1.moved hV
  clear hdh1 hTh1 hgh1
  have Zw23 := Lib.hid (Below.refl w23.heap.size w23)
  go_wp2_with fail
  refine (implSM ⟨HN1.out, hsm1, Nat.le_refl _, Rh01.out _ B23_w22.out, HWS.out, HN2.out, hsm2, Rh02.out _ B23_w22.out⟩ (Th1.out _ Zw23.out) Dh1.out hsmxs (HTAB.out _ B23_W.out)).mono ?_
  rw [HL1.out, HL2.out, HB.out]
  rintro e w24 ⟨A1h, A2h, N1h, N2h, d1h, d2h, rfl, HE1h, HE2h, ho1h, ho2h, HPh, hb24⟩
  have B24_W := Lib.hid (B23_W.out.trans (hb24.mono B23_W.out.size))
  have B24_w5 := Lib.hid (B23_w5.out.trans (hb24.mono B23_w5.out.size))
  have B24_w21 := Lib.hid (B23_w21.out.trans (hb24.mono B23_w21.out.size))
  have B24_w22 := Lib.hid (B23_w22.out.trans (hb24.mono B23_w22.out.size))
  have B24_w23 := Lib.hid (Zw23.out.trans (hb24.mono Zw23.out.size))
  have HLAST24 := Lib.hid hb24
  clear hb24
  have HO1h := Lib.hid ho1h; clear ho1h
  have hN1h : N1h ≤ 1048576 := by have := HE1h.out; have := HLN1.out; omega
  have HO2h := Lib.hid ho2h; clear ho2h
  have hN2h : N2h ≤ 1048576 := by have := HE2h.out; have := HLN2.out; omega
  have Zw24 := Lib.hid (Below.refl w24.heap.size w24)
  have HRR1h : Hid (∀ U, Below w24.heap.size w24 U → Rd U U.heap.size A1h (L1.map (Value.int .i64))) := Lib.hid fun U hU => (rdOwnA HO1h.out).moved hU
  have HRR2h : Hid (∀ U, Below w24.heap.size w24 U → Rd U U.heap.size A2h (L2.map (Value.int .i64))) := Lib.hid fun U hU => (rdOwnA HO2h.out).moved hU
  obtain rfl : N1h = N1x := HE1h.out.trans HE1x.out.symm
  obtain rfl : N2h = N2x := HE2h.out.trans HE2x.out.symm
  go_wp2_with fail
  refine (eqInts _ _ N1h _ _ L1 w24 HE1h.out.symm (HRR1h.out _ Zw24.out) (HRR1s.out _ B24_w5.out) hN1h).mono ?_
  rintro e w25 ⟨rfl, hb25⟩
  have B25_W := Lib.hid (B24_W.out.trans (hb25.mono B24_W.out.size))
  have B25_w5 := Lib.hid (B24_w5.out.trans (hb25.mono B24_w5.out.size))
  have B25_w21 := Lib.hid (B24_w21.out.trans (hb25.mono B24_w21.out.size))
  have B25_w22 := Lib.hid (B24_w22.out.trans (hb25.mono B24_w22.out.size))
  have B25_w23 := Lib.hid (B24_w23.out.trans (hb25.mono B24_w23.out.size))
  have B25_w24 := Lib.hid (Zw24.out.trans (hb25.mono Zw24.out.size))
  have HLAST25 := Lib.hid hb25
  clear hb25
  go_wp2_with fail
  refine (eqInts _ _ N2h _ _ L2 w25 HE2h.out.symm (HRR2h.out _ B25_w24.out) (HRR2s.out _ B25_w5.out) hN2h).mono ?_
  rintro e w26 ⟨rfl, hb26⟩
  have B26_W := Lib.hid (B25_W.out.trans (hb26.mono B25_W.out.size))
  have B26_w5 := Lib.hid (B25_w5.out.trans (hb26.mono B25_w5.out.size))
  have B26_w21 := Lib.hid (B25_w21.out.trans (hb26.mono B25_w21.out.size))
  have B26_w22 := Lib.hid (B25_w22.out.trans (hb26.mono B25_w22.out.size))
  have B26_w23 := Lib.hid (B25_w23.out.trans (hb26.mono B25_w23.out.size))
  have B26_w24 := Lib.hid (B25_w24.out.trans (hb26.mono B25_w24.out.size))
  have HLAST26 := Lib.hid hb26
  clear hb26
  go_wp2_with fail
  refine (heldInt1 A1x N1h d1x w26 (rdOwnA (ownB HP1.out B26_w21.out)) hN1x).mono ?_
  rw [HK1.out]
  rintro e w' ⟨rfl, rfl⟩
  go_wp2_with fail
  refine (heldInt9 A2x N2h d2x K1 w26 (rdOwnA (ownB HP2.out B26_w21.out)) hN2x (by omega)).mono ?_
  rw [HK2.out]
  rintro e w' ⟨rfl, rfl⟩
  go_wp2
  go_ret
  exact ⟨rfl, HBW.out.trans (B26_W.out.mono HBW.out.size)⟩


theorem own : ownKnob Tryd.prog.godebug = none := by kernel_rfl
theorem laidOut : laidOutB Tryd.prog = true := by kernel_rfl

theorem tTab : (Tryd.prog.globals[1]?).map (·.type) = some 149 := by kernel_rfl
theorem cTab : Tryd.prog.cellsOf 149 = 64 := by kernel_rfl
theorem cU8 : Tryd.prog.cellsOf 5 = 1 := by kernel_rfl
theorem pow_of_laid {W : World} (h : laidMetH Tryd.prog Rows.fnExactServiceMasksRow.laid W) : Tab W := by
  have h3 : laidMetH Tryd.prog (Rows.fnExactServiceMasksRow.laid.filter fun x => x.1 == "math/bits.deBruijn64tab") W := h.filter _
  have e : (Rows.fnExactServiceMasksRow.laid.filter fun x => x.1 == "math/bits.deBruijn64tab") = [("math/bits.deBruijn64tab", Lib.tabData .u8 tzTab)] := by kernel_rfl
  rw [e, MakeChecks.laidMetH_plain _ _ _ (by kernel_rfl)] at h3
  exact Lib.tabIs_of_head tabAt tTab Tryd.underlying149 Tryd.underlying5 cU8 cTab h3

theorem door_met (os : Os) (args : Array Value) : laidMetH Tryd.prog Rows.fnExactServiceMasksRow.laid ((World.doorLaid Tryd.prog 19 os).forCall (fun _ _ => 0) ⟨#[], args, []⟩).memory :=
  laidMetH_of_parts3 (fuel := 8) (laidMet_of_run' 8 (by kernel_rfl) (by kernel_rfl)) (by kernel_rfl) (by kernel_rfl)

set_option maxRecDepth 100000 in
theorem lifted (os : Os) (started : os.Started) (H : Type) (enc : TypeId × Value → H) :
    ReturnsInHanded {} Tryd.checked os 3 .any (fun w args => (Rows.fnExactServiceMasksSpec.pre enc Tryd.prog Tryd.f3 [] false w args ∧ laidMetH Tryd.prog Rows.fnExactServiceMasksRow.laid w) ∧ sizedMet enc Tryd.prog Tryd.f3 (OpenSpec.ofChange Rows.fnExactServiceMasksSpec) false w args)
      (Rows.fnExactServiceMasksSpec.post enc Tryd.prog Tryd.f3 false true false false) := by
  refine returnsInHanded_of_change_and (C := Tryd.checked) (X := fun w _ => laidMetH Tryd.prog Rows.fnExactServiceMasksRow.laid w) (fun _ _ _ hh h => h.of_heap hh) own started (by kernel_rfl) Tryd.func3
    (ChangeSpec.witness_shaped (enc := enc) (C := Tryd.checked) (os := os) (X := fun w _ => laidMetH Tryd.prog Rows.fnExactServiceMasksRow.laid w) false (World.doorLaid Tryd.prog 19 os) #[.agg #[.slice none 0 0, .slice none 0 0], .slice none 0 0] 8 rfl (World.shaped_of_RefB (by kernel_rfl) (by kernel_rfl)) (by kernel_rfl) (by kernel_rfl) (by kernel_rfl) (door_met os _)) ?_
  intro W base args ds gs before hval0 hW _ hsz0 hL _
  have hval : ∀ (j : Nat) t v, Tryd.f3.params[j]? = some t → args[j]? = some v → Value.okWide Tryd.prog W .any base t v := hval0
  have hsz : (DataW.weightsEach Tryd.prog (Tryd.f3.params.toList ++ Rows.fnExactServiceMasksSpec.plain.varTypes Tryd.prog) (ds ++ gs)).all (· ≤ reachBytes) = true := hsz0
  have hpow := pow_of_laid hL
  have hW' := hW
  obtain ⟨p, q, hA0, hV, rfl, hfz, hnd⟩ := hW
  have hA : DataW.TrodAll enc Tryd.prog W 0 (fun _ => true) true Tryd.f3.params.toList args.toList ds p := hA0
  rw [Tryd.params3] at hA hval hsz
  obtain ⟨v0, vs0, d0, ds0, p0, q0, hargs, rfl, rfl, h0, r0⟩ := trodAll_cons hA
  obtain ⟨v1, vs1, d1, ds1, p1, q1, rfl, rfl, rfl, h1, r1⟩ := trodAll_cons r0
  obtain ⟨rfl, rfl, rfl⟩ := trodAll_nil r1
  obtain rfl : args = #[v0, v1] := by cases args; simp_all
  obtain ⟨rfl, rfl⟩ := trodVars_none hV
  simp only [List.append_nil] at hW'
  have hlt0 : ∀ x ∈ p0, x.block < W.heap.size := fun x hx => by simpa using hW'.lt x (by simp [hx])
  have hlt1 : ∀ x ∈ p1, x.block < W.heap.size := fun x hx => by simpa using hW'.lt x (by simp [hx])
  have fin : ∀ W' : World, Below W.heap.size W W' → Rows.fnExactServiceMasksSpec.post enc Tryd.checked.prog Tryd.f3 false true false false W #[v0, v1] (.bool true) W' := by
    intro W' hb
    refine ⟨_, _, _, [] ++ [], (p0 ++ (p1 ++ [])), [], hW', ?_, ?_, rfl, hb.frame _, fun h => by cases h⟩
    · exact trodAll_mk1 (shut_bool Tryd.underlying4 true)
    · exact trodAll_cons_mk (Below.trod laidOut (by kernel_rfl) (of_decide_eq_true (by kernel_rfl)) h0 hb hlt0) (trodAll_cons_mk (Below.trod laidOut (by kernel_rfl) (of_decide_eq_true (by kernel_rfl)) h1 hb hlt1) (trodAll_mk0))
  clear hW' hV hA0
  obtain ⟨A0, n0, c0, s0, B0, m0, k0, z0, rfl, ⟨ha0, hb0, hc0, hd0⟩, ⟨he0, hf0, hg0, hh0⟩⟩ := open_net Tryd.underlying25 (by kernel_rfl) (by kernel_rfl) Tryd.underlying22 Tryd.underlying9 (by kernel_rfl) Tryd.underlying23 Tryd.underlying99 (by kernel_rfl) (by kernel_rfl) rfl (hint_of Tryd.underlying3 (by decide +kernel)) (hval 0 25 v0 rfl rfl) h0
  obtain ⟨b1, len1, cap1, rfl⟩ := okWide_slice Tryd.underlying26 (hval 1 26 v1 rfl rfl)
  obtain ⟨fuel1, hf1⟩ := h1
  obtain ⟨A1, n1, c1, z1, e1, ha1, hb1, hc1, hd1⟩ := rd_svs hf1
  simp only [Value.cells, List.cons.injEq, Value.slice.injEq, and_true] at e1
  obtain ⟨rfl, rfl, rfl⟩ := e1
  exact (walk A0 n0 c0 s0 B0 m0 k0 z0 b1 len1 cap1 z1 W ha0 hb0 hc0 hd0 he0 hf0 hg0 hh0 ha1 hb1 hc1 hd1 hpow).mono fun e W' ⟨he, hb⟩ => ⟨_, he, fin W' hb⟩

theorem closed : joinedFacts Tryd.prog 3 Tryd.f3 Rows.fnExactServiceMasksSpec Rows.fnExactServiceMasksRow = true := by
  unfold joinedFacts
  rw [jn_mk, jn_li, jn_en]
  kernel_rfl
theorem over : Rows.fnExactServiceMasksRow.holds Tryd.pinned (OpenSpec.ofChange Rows.fnExactServiceMasksSpec) :=
  OpenClaim.holds_of_wide 3 Tryd.f3 rfl rfl rfl rfl rfl rfl rfl ⟨rfl, rfl, rfl, rfl, rfl⟩ rfl rfl rfl rfl rfl (by kernel_rfl) Tryd.func3 closed
    (of_decide_eq_true (by kernel_rfl)) (by unfold Func.isWrapper; first | (rw [if_pos (by decide +kernel)]; kernel_rfl) | (rw [if_neg (by decide +kernel)]; exact ⟨rfl, rfl⟩))
    (fun os started H enc _ => lifted os started H enc)

/-- THE STATEMENT -/
theorem proved : Rows.FnExactServiceMasksCardSaid :=
  Claim7.holds_tied_plain_at .later [] [.data, .data] true (true, "b7d65082545e8e3cac7370942148a438eb1da38865f1aa27ba379da9eb509816") false
    over (fun _ h => by cases h) (by kernel_rfl) (fun _ h => by cases h) fnExactServiceMasks_row_tie rfl ⟨rfl, rfl⟩ jn_main rfl
    (fun f fn hf hfn => by
      obtain rfl : f = 3 := Option.some.inj ((show Tryd.prog.funcNamed "loop.example/g00897/laws.FnExactServiceMasks" = some 3 by kernel_rfl).symm.trans hf) |>.symm
      obtain rfl : fn = Tryd.f3 := (Option.some.inj (Tryd.func3.symm.trans hfn)).symm
      exact ⟨by kernel_rfl, fun j t ht => by
        rw [Tryd.params3] at ht
        have hm : t ∈ [25, 26] := by simpa using Array.mem_of_getElem? ht
        have hall : ([25, 26].all fun u => !Tryd.prog.wantsStandIn u) = true := by kernel_rfl
        exact (show Tryd.prog.wantsStandIn t = false by simpa using List.all_eq_true.1 hall t hm)⟩)
    (by kernel_rfl)
end Go.Proofs.YtlgkjidginibdaaDoor.fnExactServiceMasks
