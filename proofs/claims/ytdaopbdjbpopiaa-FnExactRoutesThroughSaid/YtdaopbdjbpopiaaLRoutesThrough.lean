/- Proved: at every argument impl.RoutesThrough answers as spec.RoutesThrough does, in memory of its own, and leaves its arguments alone (the law FnExactRoutesThrough returns true). No condition. -/
import Derived.Test.YtdaopbdjbpopiaaRows
import Derived.Test.YtdaopbdjbpopiaaJn
import Derived.JoinedOf
import Derived.Test.YtdaopbdjbpopiaaThru
import Derived.Test.YtdaopbdjbpopiaaNmk
import Derived.Test.YtdaopbdjbpopiaaIntW
import Derived.Test.YtdaopbdjbpopiaaArg
import Derived.WalkKit
import Derived.ProofKit
import Derived.OpenShut
import Derived.ShutString
import Derived.SizedLaws
import Derived.Carry
namespace Go.Proofs.Ytdaopbdjbpopiaa.fnExactRoutesThrough
open Go.ChangeShapes Go.WideShapes Go.ChangeAt Go.RowKit
open Go.ChangeMaps (open_string shut_string)

set_option maxRecDepth 100000 in
set_option maxHeartbeats 8000000 in
theorem walk (A1 : Option Addr) (n1 c1 : Nat) (ss : List ByteArray) (A2 : Option Addr) (n2 c2 : Nat) (fs : List Q4) (Axs : Option Addr) (nxs cxs : Nat) (xs : List Ro) (Aks : Option Addr) (nks cks : Nat) (ks : List Int) (w : World) (hn1 : ss.length = n1) (hm1 : n1 ≤ maxLen) (hr1 : Rd w w.heap.size A1 (ss.map Value.string)) (hws : ∀ s ∈ ss, s.size ≤ maxLen) (hn2 : fs.length = n2) (hm2 : n2 ≤ maxLen) (hr2 : Rd w w.heap.size A2 (fs.flatMap Q4.cells)) (_hwf : ∀ q ∈ fs, q.wf) (hnxs : xs.length = nxs) (hmxs : nxs ≤ maxLen) (hrxs : Rd w w.heap.size Axs (xs.flatMap Ro.cells)) (hixs : ∀ x ∈ xs, RoIn w x) (hnks : ks.length = nks) (_hmks : nks ≤ maxLen) (hrks : Rd w w.heap.size Aks (ks.map (Value.int .i64))) (_hwfks : ∀ z ∈ ks, (Lit.int .i64 z).wf = true) :
    Calls Try.prog 6 #[.agg #[.slice A1 n1 c1, .slice A2 n2 c2], .slice Axs nxs cxs, .slice Aks nks cks] w fun e w' => e = .returned (.bool true) ∧ Below w.heap.size w w' := by
  have HN1 := Lib.hid hn1; have HN2 := Lib.hid hn2; have HWS := Lib.hid hws; clear hn1 hn2 hws _hwf
  have HNxs := Lib.hid hnxs; clear hnxs
  have HNks := Lib.hid hnks; clear hnks _hwfks _hmks
  by_cases hsmks : nks ≤ 1048576
  case neg =>
    have qks : 1048576 < (nks : Int) := by omega
    clear hsmks
    go_enter Try.func6, Try.ntmps6
    go_wp2
    go_ret
    exact ⟨rfl, ((Below.refl w.heap.size w).alloc (Nat.le_refl _) _)⟩
  case pos =>
  go_enter Try.func6, Try.ntmps6
  go_wp2_with fail
  obtain ⟨W, hW⟩ : ∃ W, (w.alloc (Obj.cells #[.slice A1 n1 c1, .slice A2 n2 c2] 25)) = W := ⟨_, rfl⟩
  have hk0_0 : W.cell? ⟨w.heap.size, 0, none⟩ = some (.slice A1 n1 c1) := by rw [← hW]; simp [go_sem]
  have hk0_1 : W.cell? ⟨w.heap.size, 1, none⟩ = some (.slice A2 n2 c2) := by rw [← hW]; simp [go_sem]
  have hz : w.heap.size < W.heap.size := by rw [← hW]; simp
  have hbw : Below w.heap.size w W := by rw [← hW]; exact ((Below.refl w.heap.size w).alloc (Nat.le_refl _) _)
  have HBW := Lib.hid hbw
  rw [hW]
  clear hW
  have HR1 : Hid (∀ V, Below W.heap.size W V → Rd V V.heap.size A1 (ss.map Value.string)) := Lib.hid fun V hV => (hr1.moved hbw).moved hV
  clear hr1
  have HR2 : Hid (∀ V, Below W.heap.size W V → Rd V V.heap.size A2 (fs.flatMap Q4.cells)) := Lib.hid fun V hV => (hr2.moved hbw).moved hV
  clear hr2
  have HK0_0 : Hid (∀ V, Below W.heap.size W V → V.cell? ⟨w.heap.size, 0, none⟩ = some (.slice A1 n1 c1)) := Lib.hid fun V hV => (hV.cell (p := ⟨_, _, none⟩) (by show w.heap.size < _; omega)).trans hk0_0
  have HK0_1 : Hid (∀ V, Below W.heap.size W V → V.cell? ⟨w.heap.size, 1, none⟩ = some (.slice A2 n2 c2)) := Lib.hid fun V hV => (hV.cell (p := ⟨_, _, none⟩) (by show w.heap.size < _; omega)).trans hk0_1
  have HRxs : Hid (∀ V, Below W.heap.size W V → Rd V V.heap.size Axs (xs.flatMap Ro.cells)) := Lib.hid fun V hV => (hrxs.moved hbw).moved hV
  clear hrxs
  have HRks : Hid (∀ V, Below W.heap.size W V → Rd V V.heap.size Aks (ks.map (Value.int .i64))) := Lib.hid fun V hV => (hrks.moved hbw).moved hV
  clear hrks
  have HIxs : Hid (∀ V, Below W.heap.size W V → ∀ x ∈ xs, RoIn V x) := Lib.hid fun V hV x hx => ((hixs x hx).moved hbw).moved hV
  clear hixs
  clear hk0_0 hk0_1
  have HZ := Lib.hid hz
  clear hz hbw
  have B0 := Lib.hid (Below.refl W.heap.size W)
  refine (szNet A1 A2 n1 c1 n2 c2 1048576 ss fs W HN1.out hm1 (HR1.out _ B0.out) HWS.out hm2 (by omega) (by omega)).mono ?_
  rintro e w1 ⟨v0, rfl, hb1, hv00, hv10, hv20⟩
  have B1_W := Lib.hid (B0.out.trans (hb1.mono B0.out.size))
  have HLAST1 := Lib.hid hb1
  clear hb1
  by_cases hneg0 : v0 < 0
  · go_wp2
    go_ret
    exact ⟨rfl, HBW.out.trans (B1_W.out.mono HBW.out.size)⟩
  have hp0 : 0 ≤ v0 := by omega
  have hsm1 : n1 ≤ 1048576 := by have := hv20 hp0; omega
  have hsm2 : n2 ≤ 1048576 := by have := hv20 hp0; omega
  have HSZ0 := Lib.hid (hv20 hp0)
  clear hneg0 hv20 hm1 hm2
  go_wp2_with fail
  refine (szRos Axs nxs cxs v0 xs w1 HNxs.out hmxs (HRxs.out _ B1_W.out) (HIxs.out _ B1_W.out) (by omega) (by omega)).mono ?_
  rintro e w2 ⟨v1, rfl, hb2, hv01, hv11, hv21⟩
  have B2_W := Lib.hid (B1_W.out.trans (hb2.mono B1_W.out.size))
  have HLAST2 := Lib.hid hb2
  clear hb2
  by_cases hneg1 : v1 < 0
  · go_wp2
    go_ret
    exact ⟨rfl, HBW.out.trans (B2_W.out.mono HBW.out.size)⟩
  have hp1 : 0 ≤ v1 := by omega
  have hsmxs : nxs ≤ 1048576 := by have := hv21 hp1; omega
  have HSZ1 := Lib.hid (hv21 hp1)
  have HRIxs : Hid (∀ V, Below W.heap.size W V → ∀ x ∈ xs, RoAt V x) := Lib.hid fun V hV x hx => ⟨(HIxs.out V hV x hx).1, by have h1 := hv21 hp1; have h2 := Rotot_le hx; omega, (HIxs.out V hV x hx).2.2⟩
  clear HIxs
  clear hneg1 hv21 hmxs
  have hLn : (thL ss fs (xs.map Ro.d) ks).length ≤ 1048576 := Nat.le_trans (thL_len _ _ _ _) (by rw [List.length_map]; have := HNxs.out; omega)
  obtain ⟨L, hL⟩ : ∃ L, thL ss fs (xs.map Ro.d) ks = L := ⟨_, rfl⟩
  obtain ⟨b, hb⟩ : ∃ b, thB ss fs (xs.map Ro.d) ks = b := ⟨_, rfl⟩
  rw [hL] at hLn
  have HL := Lib.hid hL; have HB := Lib.hid hb; have HLN := Lib.hid hLn
  clear hL hb hLn
  have ka0_0 := HK0_0.out _ B2_W.out
  have ka0_1 := HK0_1.out _ B2_W.out
  go_wp2_with fail
  clear ka0_0 ka0_1
  refine (toNet A1 A2 n1 c1 n2 c2 ss fs w2 HN1.out (HR1.out _ B2_W.out) hsm1 HN2.out (HR2.out _ B2_W.out) hsm2).mono ?_
  rintro e w3 ⟨s01, s02, rfl, hos01, hos02, hb3⟩
  have B3_W := Lib.hid (B2_W.out.trans (hb3.mono B2_W.out.size))
  have HLAST3 := Lib.hid hb3
  clear hb3
  have Os01 := Lib.hid hos01
  have Rs01 : Hid (∀ V, Below w3.heap.size w3 V → Rd V V.heap.size (some ⟨s01, 0, none⟩) (ss.map Value.string)) := Lib.hid fun V hV => (Rd.ofOwnK hos01).moved hV
  have Os02 := Lib.hid hos02
  have Rs02 : Hid (∀ V, Below w3.heap.size w3 V → Rd V V.heap.size (some ⟨s02, 0, none⟩) (fs.flatMap Q4.cells)) := Lib.hid fun V hV => (Rd.ofOwnK hos02).moved hV
  clear hos01 hos02
  have Zw3 := Lib.hid (Below.refl w3.heap.size w3)
  go_wp2_with fail
  refine (toRos Axs nxs cxs xs w3 HNxs.out (HRxs.out _ B3_W.out) (HRIxs.out _ B3_W.out) hsmxs).mono ?_
  rintro e w4 ⟨s1, yss1, rfl, hgs1, hds1, hTs1, hb4⟩
  have B4_W := Lib.hid (B3_W.out.trans (hb4.mono B3_W.out.size))
  have B4_w3 := Lib.hid (Zw3.out.trans (hb4.mono Zw3.out.size))
  have HLAST4 := Lib.hid hb4
  clear hb4
  have Ds1 := Lib.hid hds1
  have Ts1 : Hid (∀ V, Below w4.heap.size w4 V → Ros w3.heap.size s1 nxs yss1 V) := Lib.hid fun V hV => hTs1.moved hV
  clear hds1 hTs1 hgs1
  have Zw4 := Lib.hid (Below.refl w4.heap.size w4)
  go_wp2_with fail
  refine (toIntS Aks nks cks ks w4 HNks.out (HRks.out _ B4_W.out) hsmks).mono ?_
  rintro e w5 ⟨s2, hgs2, rfl, hos2, hb5⟩
  have B5_W := Lib.hid (B4_W.out.trans (hb5.mono B4_W.out.size))
  have B5_w3 := Lib.hid (B4_w3.out.trans (hb5.mono B4_w3.out.size))
  have B5_w4 := Lib.hid (Zw4.out.trans (hb5.mono Zw4.out.size))
  have HLAST5 := Lib.hid hb5
  clear hb5
  have Os2 := Lib.hid hos2
  have Rs2 : Hid (∀ V, Below w5.heap.size w5 V → Rd V V.heap.size (some ⟨s2, 0, none⟩) (ks.map (Value.int .i64))) := Lib.hid fun V hV => (Rd.ofOwnK hos2).moved hV
  clear hos2
  have Zw5 := Lib.hid (Below.refl w5.heap.size w5)
  go_wp2_with fail
  refine (specTH ⟨HN1.out, hsm1, Nat.le_refl _, Rs01.out _ B5_w3.out, HWS.out, HN2.out, hsm2, Rs02.out _ B5_w3.out⟩ (Ts1.out _ B5_w4.out) Ds1.out hsmxs (c3 := nks) HNks.out (Rs2.out _ Zw5.out) hsmks).mono ?_
  rw [HL.out, HB.out]
  rintro e w6 ⟨As, Ns, cs, rfl, HNNs, hos, hb6⟩
  have B6_W := Lib.hid (B5_W.out.trans (hb6.mono B5_W.out.size))
  have B6_w3 := Lib.hid (B5_w3.out.trans (hb6.mono B5_w3.out.size))
  have B6_w4 := Lib.hid (B5_w4.out.trans (hb6.mono B5_w4.out.size))
  have B6_w5 := Lib.hid (Zw5.out.trans (hb6.mono Zw5.out.size))
  have HLAST6 := Lib.hid hb6
  clear hb6
  have HOs := Lib.hid hos; clear hos
  have hNs : Ns ≤ 1048576 := by have := HNNs.out; have := HLN.out; omega
  have HRRs : Hid (∀ V, Below w6.heap.size w6 V → Rd V V.heap.size As (L.map (Value.int .i64))) := Lib.hid fun V hV => (Rd.ofOwn HOs.out).moved hV
  have Zw6 := Lib.hid (Below.refl w6.heap.size w6)
  have WPW := Lib.hid B6_W.out.size
  have ka0_0 := HK0_0.out _ B6_W.out
  have ka0_1 := HK0_1.out _ B6_W.out
  go_wp2_with fail
  clear ka0_0 ka0_1
  have ZPRE0 := Lib.hid (Zw6.out.size)
  refine (toNet A1 A2 n1 c1 n2 c2 ss fs w6 HN1.out (HR1.out _ B6_W.out) hsm1 HN2.out (HR2.out _ B6_W.out) hsm2).mono ?_
  rintro e w7 ⟨x01, x02, rfl, hox01, hox02, hb7⟩
  have B7_W := Lib.hid (B6_W.out.trans (hb7.mono B6_W.out.size))
  have B7_w6 := Lib.hid (Zw6.out.trans (hb7.mono Zw6.out.size))
  have HLAST7 := Lib.hid hb7
  clear hb7
  have Ox01 := Lib.hid hox01
  have Rx01 : Hid (∀ V, Below w7.heap.size w7 V → Rd V V.heap.size (some ⟨x01, 0, none⟩) (ss.map Value.string)) := Lib.hid fun V hV => (Rd.ofOwnK hox01).moved hV
  have Ox02 := Lib.hid hox02
  have Rx02 : Hid (∀ V, Below w7.heap.size w7 V → Rd V V.heap.size (some ⟨x02, 0, none⟩) (fs.flatMap Q4.cells)) := Lib.hid fun V hV => (Rd.ofOwnK hox02).moved hV
  clear hox01 hox02
  have Zw7 := Lib.hid (Below.refl w7.heap.size w7)
  go_wp2_with fail
  obtain ⟨V0, hV0⟩ : ∃ V, (w7.alloc (Obj.cells #[.slice (some ⟨x01, 0, none⟩) n1 n1, .slice (some ⟨x02, 0, none⟩) n2 n2] 32)) = V := ⟨_, rfl⟩
  have hx0_0 : V0.cell? ⟨w7.heap.size, 0, none⟩ = some (.slice (some ⟨x01, 0, none⟩) n1 n1) := by rw [← hV0]; simp [go_sem]
  have hx0_1 : V0.cell? ⟨w7.heap.size, 1, none⟩ = some (.slice (some ⟨x02, 0, none⟩) n2 n2) := by rw [← hV0]; simp [go_sem]
  have hzV0 : w7.heap.size < V0.heap.size := by rw [← hV0]; simp
  have hbV0 : Below w7.heap.size w7 V0 := by rw [← hV0]; exact (Below.refl _ _).alloc (Nat.le_refl _) _
  rw [hV0]
  clear hV0
  have CV0_W := Lib.hid (B7_W.out.trans (hbV0.mono B7_W.out.size))
  have CV0_w6 := Lib.hid (B7_w6.out.trans (hbV0.mono B7_w6.out.size))
  have CV0_w7 := Lib.hid (Zw7.out.trans (hbV0.mono Zw7.out.size))
  have HX0_0 : Hid (∀ U, Below V0.heap.size V0 U → U.cell? ⟨w7.heap.size, 0, none⟩ = some (.slice (some ⟨x01, 0, none⟩) n1 n1)) := Lib.hid fun U hU => (hU.cell (p := ⟨_, _, none⟩) hzV0).trans hx0_0
  have HX0_1 : Hid (∀ U, Below V0.heap.size V0 U → U.cell? ⟨w7.heap.size, 1, none⟩ = some (.slice (some ⟨x02, 0, none⟩) n2 n2)) := Lib.hid fun U hU => (hU.cell (p := ⟨_, _, none⟩) hzV0).trans hx0_1
  have HZV0 := Lib.hid hzV0
  clear hzV0 hbV0 hx0_0 hx0_1
  have ZV0 := Lib.hid (Below.refl V0.heap.size V0)
  have ZPRE1 := Lib.hid (CV0_w6.out.size)
  refine (toRos Axs nxs cxs xs V0 HNxs.out (HRxs.out _ CV0_W.out) (HRIxs.out _ CV0_W.out) hsmxs).mono ?_
  rintro e w8 ⟨x1, ysx1, rfl, hgx1, hdx1, hTx1, hb8⟩
  have B8_W := Lib.hid (CV0_W.out.trans (hb8.mono CV0_W.out.size))
  have B8_w6 := Lib.hid (CV0_w6.out.trans (hb8.mono CV0_w6.out.size))
  have B8_w7 := Lib.hid (CV0_w7.out.trans (hb8.mono CV0_w7.out.size))
  have B8_V0 := Lib.hid (ZV0.out.trans (hb8.mono ZV0.out.size))
  have HLAST8 := Lib.hid hb8
  clear hb8
  have Dx1 := Lib.hid hdx1
  have Tx1 : Hid (∀ V, Below w8.heap.size w8 V → Ros V0.heap.size x1 nxs ysx1 V) := Lib.hid fun V hV => hTx1.moved hV
  have LIEx1 := Lib.hid (hTx1.lies)
  clear hdx1 hTx1 hgx1
  have SEPx01_Tx1 := Lib.hid (Nat.lt_of_lt_of_le (Ox01.out.lt x01 rfl).2 CV0_w7.out.size)
  have SEPx02_Tx1 := Lib.hid (Nat.lt_of_lt_of_le (Ox02.out.lt x02 rfl).2 CV0_w7.out.size)
  have SEPBx01_1 := Lib.hid (Nat.lt_of_lt_of_le (Ox01.out.lt x01 rfl).2 B8_w7.out.size)
  have SEPBx02_1 := Lib.hid (Nat.lt_of_lt_of_le (Ox02.out.lt x02 rfl).2 B8_w7.out.size)
  have Zw8 := Lib.hid (Below.refl w8.heap.size w8)
  go_wp2_with fail
  have ZPRE2 := Lib.hid (B8_w6.out.size)
  refine (toIntS Aks nks cks ks w8 HNks.out (HRks.out _ B8_W.out) hsmks).mono ?_
  rintro e w9 ⟨x2, hgx2, rfl, hox2, hb9⟩
  have B9_W := Lib.hid (B8_W.out.trans (hb9.mono B8_W.out.size))
  have B9_w6 := Lib.hid (B8_w6.out.trans (hb9.mono B8_w6.out.size))
  have B9_w7 := Lib.hid (B8_w7.out.trans (hb9.mono B8_w7.out.size))
  have B9_V0 := Lib.hid (B8_V0.out.trans (hb9.mono B8_V0.out.size))
  have B9_w8 := Lib.hid (Zw8.out.trans (hb9.mono Zw8.out.size))
  have HLAST9 := Lib.hid hb9
  clear hb9
  have Ox2 := Lib.hid hox2
  have Rx2 : Hid (∀ V, Below w9.heap.size w9 V → Rd V V.heap.size (some ⟨x2, 0, none⟩) (ks.map (Value.int .i64))) := Lib.hid fun V hV => (Rd.ofOwnK hox2).moved hV
  clear hox2
  have SEPx01_x2 := Lib.hid (Nat.lt_of_lt_of_le (Ox01.out.lt x01 rfl).2 (Nat.le_trans B8_w7.out.size (Ox2.out.lt x2 rfl).1))
  have SEPBx01_2 := Lib.hid (Nat.lt_of_lt_of_le (Ox01.out.lt x01 rfl).2 B9_w7.out.size)
  have SEPx02_x2 := Lib.hid (Nat.lt_of_lt_of_le (Ox02.out.lt x02 rfl).2 (Nat.le_trans B8_w7.out.size (Ox2.out.lt x2 rfl).1))
  have SEPBx02_2 := Lib.hid (Nat.lt_of_lt_of_le (Ox02.out.lt x02 rfl).2 B9_w7.out.size)
  have SEPTx1_x2 := Lib.hid (Nat.le_trans Zw8.out.size (Ox2.out.lt x2 rfl).1)
  have SEPBTx1_2 := Lib.hid B9_w8.out.size
  have Zw9 := Lib.hid (Below.refl w9.heap.size w9)
  have kz0_0 := HX0_0.out _ B9_V0.out
  have kz0_1 := HX0_1.out _ B9_V0.out
  have hgz0 : w7.heap.size < w9.heap.size := Nat.lt_of_lt_of_le HZV0.out B9_V0.out.size
  go_wp2_with fail
  clear kz0_0 kz0_1 hgz0
  have PWV := Lib.hid B9_w6.out.size
  have HQx01 : Hid (w6.heap.size ≤ x01 ∧ x01 < w9.heap.size) := Lib.hid ⟨Nat.le_trans ZPRE0.out (Ox01.out.lt x01 rfl).1, Nat.lt_of_lt_of_le (Ox01.out.lt x01 rfl).2 B9_w7.out.size⟩
  have HQx02 : Hid (w6.heap.size ≤ x02 ∧ x02 < w9.heap.size) := Lib.hid ⟨Nat.le_trans ZPRE0.out (Ox02.out.lt x02 rfl).1, Nat.lt_of_lt_of_le (Ox02.out.lt x02 rfl).2 B9_w7.out.size⟩
  have HQTx1 : Hid (w6.heap.size ≤ V0.heap.size ∧ w8.heap.size ≤ w9.heap.size) := Lib.hid ⟨ZPRE1.out, B9_w8.out.size⟩
  have HQx2 : Hid (w6.heap.size ≤ x2 ∧ x2 < w9.heap.size) := Lib.hid ⟨Nat.le_trans ZPRE2.out (Ox2.out.lt x2 rfl).1, Nat.lt_of_lt_of_le (Ox2.out.lt x2 rfl).2 Zw9.out.size⟩
  refine (implTH ⟨HN1.out, hsm1, Nat.le_refl _, Rx01.out _ B9_w7.out, HWS.out, HN2.out, hsm2, Rx02.out _ B9_w7.out⟩ (Tx1.out _ B9_w8.out) Dx1.out hsmxs (c3 := nks) HNks.out (Rx2.out _ Zw9.out) hsmks).mono ?_
  rw [HL.out, HB.out]
  rintro e w10 ⟨Ax, Nx, cx, rfl, HNNx, hox, hb10⟩
  have B10_W := Lib.hid (B9_W.out.trans (hb10.mono B9_W.out.size))
  have B10_w6 := Lib.hid (B9_w6.out.trans (hb10.mono B9_w6.out.size))
  have B10_w7 := Lib.hid (B9_w7.out.trans (hb10.mono B9_w7.out.size))
  have B10_V0 := Lib.hid (B9_V0.out.trans (hb10.mono B9_V0.out.size))
  have B10_w8 := Lib.hid (B9_w8.out.trans (hb10.mono B9_w8.out.size))
  have B10_w9 := Lib.hid (Zw9.out.trans (hb10.mono Zw9.out.size))
  have HLAST10 := Lib.hid hb10
  clear hb10
  have HOx := Lib.hid hox; clear hox
  have hNx : Nx ≤ 1048576 := by have := HNNx.out; have := HLN.out; omega
  obtain rfl : Nx = Ns := HNNx.out.trans HNNs.out.symm
  have Zw10 := Lib.hid (Below.refl w10.heap.size w10)
  go_wp2_with fail
  refine (eqInts _ _ Nx _ _ L w10 HNNx.out.symm (Rd.ofOwn (ownB HOx.out Zw10.out)) (HRRs.out _ B10_w6.out) hNx).mono ?_
  rintro e w11 ⟨rfl, hb11⟩
  have B11_W := Lib.hid (B10_W.out.trans (hb11.mono B10_W.out.size))
  have B11_w6 := Lib.hid (B10_w6.out.trans (hb11.mono B10_w6.out.size))
  have B11_w7 := Lib.hid (B10_w7.out.trans (hb11.mono B10_w7.out.size))
  have B11_V0 := Lib.hid (B10_V0.out.trans (hb11.mono B10_V0.out.size))
  have B11_w8 := Lib.hid (B10_w8.out.trans (hb11.mono B10_w8.out.size))
  have B11_w9 := Lib.hid (B10_w9.out.trans (hb11.mono B10_w9.out.size))
  have B11_w10 := Lib.hid (Zw10.out.trans (hb11.mono Zw10.out.size))
  have HLAST11 := Lib.hid hb11
  clear hb11
  have ka0_0 := HK0_0.out _ B11_W.out
  have ka0_1 := HK0_1.out _ B11_W.out
  have kx0_0 := HX0_0.out _ B11_V0.out
  have kx0_1 := HX0_1.out _ B11_V0.out
  have hgx : w7.heap.size < w11.heap.size := Nat.lt_of_lt_of_le HZV0.out B11_V0.out.size
  have hgw : w.heap.size < w11.heap.size := Nat.lt_of_lt_of_le (by have := HZ.out; omega) B11_W.out.size
  have hbd : Bel w11 w11.drew := Bel.of (Below.refl _ _).drew
  go_upto_region 17 with fail
  go_cut [69] (fun s69 wx => s69 = .bool false ∧ Bel w11 wx)
  case first =>
    go_region_held3 (fun U => U.cell? ⟨w7.heap.size, 0, none⟩ = some (.slice (some ⟨x01, 0, none⟩) n1 n1) ∧ U.cell? ⟨w7.heap.size, 1, none⟩ = some (.slice (some ⟨x02, 0, none⟩) n2 n2) ∧ U.cell? ⟨w.heap.size, 0, none⟩ = some (.slice A1 n1 c1) ∧ U.cell? ⟨w.heap.size, 1, none⟩ = some (.slice A2 n2 c2) ∧ Bel w11 U)
      (first | go_keep | (go_split_ands; (refine ⟨?_, ?_, ?_, ?_, ?_⟩ <;> first | assumption | exact Bel.step (by assumption) hbt12 | exact Bel.step (by assumption) hbt13 | exact (Bel.at_ (by assumption) hbt12 (by assumption)).trans (by assumption) | exact (Bel.at_ (by assumption) hbt13 (by assumption)).trans (by assumption))))
      (first
        | (go_at_call 22
           go_split_ands
           refine (toNet A1 A2 n1 c1 n2 c2 ss fs _ HN1.out (HR1.out _ (Below.trans B11_W.out ((Bel.out (by assumption)).mono B11_W.out.size))) hsm1 HN2.out (HR2.out _ (Below.trans B11_W.out ((Bel.out (by assumption)).mono B11_W.out.size))) hsm2).mono ?_
           rintro e t12 ⟨y131, y132, rfl, hoy131, hoy132, hbt12⟩
           have Sy131 := Lib.hid (Rd.ofOwnK hoy131)
           have Sy132 := Lib.hid (Rd.ofOwnK hoy132)
           clear hoy131 hoy132)
        | (go_at_call 25
           go_split_ands
           refine (eqNet x01 x02 y131 y132 n1 n2 n1 n2 n1 n2 ss fs t12 HN1.out hsm1 HN2.out hsm2 (Rx01.out _ (Below.trans B11_w7.out ((Bel.out (by assumption)).mono B11_w7.out.size))) (Sy131.out) (Rx02.out _ (Below.trans B11_w7.out ((Bel.out (by assumption)).mono B11_w7.out.size))) (Sy132.out)).mono ?_
           rintro e t13 ⟨rfl, hbt13⟩))
    all_goals
      go_split_ands
      have hbl : Bel w11 t13 := by assumption
      go_wp2_with fail
      go_meet
      exact ⟨rfl, hbl⟩
  case rest =>
  clear hbd hgx hgw ka0_0 ka0_1 kx0_0 kx0_1
  revert hcut; generalize wc = wc1; intro hcut
  obtain ⟨hs_, hbl⟩ := hcut
  subst hs_
  have Ewc1_W := Lib.hid (B11_W.out.trans ((Bel.out hbl).mono B11_W.out.size))
  have Ewc1_w6 := Lib.hid (B11_w6.out.trans ((Bel.out hbl).mono B11_w6.out.size))
  have Ewc1_w7 := Lib.hid (B11_w7.out.trans ((Bel.out hbl).mono B11_w7.out.size))
  have Ewc1_V0 := Lib.hid (B11_V0.out.trans ((Bel.out hbl).mono B11_V0.out.size))
  have Ewc1_w8 := Lib.hid (B11_w8.out.trans ((Bel.out hbl).mono B11_w8.out.size))
  have Ewc1_w9 := Lib.hid (B11_w9.out.trans ((Bel.out hbl).mono B11_w9.out.size))
  have Ewc1_w10 := Lib.hid (B11_w10.out.trans ((Bel.out hbl).mono B11_w10.out.size))
  clear hbl
  go_wp2_with fail
  refine (toRos Axs nxs cxs xs wc1 HNxs.out (HRxs.out _ Ewc1_W.out) (HRIxs.out _ Ewc1_W.out) hsmxs).mono ?_
  rintro e w15 ⟨y14, ysy14, rfl, hgy14, hdy14, hTy14, hb15⟩
  have B15_W := Lib.hid (Ewc1_W.out.trans (hb15.mono Ewc1_W.out.size))
  have B15_w6 := Lib.hid (Ewc1_w6.out.trans (hb15.mono Ewc1_w6.out.size))
  have B15_w7 := Lib.hid (Ewc1_w7.out.trans (hb15.mono Ewc1_w7.out.size))
  have B15_V0 := Lib.hid (Ewc1_V0.out.trans (hb15.mono Ewc1_V0.out.size))
  have B15_w8 := Lib.hid (Ewc1_w8.out.trans (hb15.mono Ewc1_w8.out.size))
  have B15_w9 := Lib.hid (Ewc1_w9.out.trans (hb15.mono Ewc1_w9.out.size))
  have B15_w10 := Lib.hid (Ewc1_w10.out.trans (hb15.mono Ewc1_w10.out.size))
  have HLAST15 := Lib.hid hb15
  clear hb15
  have Dy14 := Lib.hid hdy14; have STy14 := Lib.hid hTy14; clear hdy14 hTy14
  clear  hgy14
  go_wp2_with fail
  refine (eqRos x1 y14 nxs _ _ ysx1 ysy14 w15 (Tx1.out _ B15_w8.out) (STy14.out) (Dx1.out.trans Dy14.out.symm) hsmxs).mono ?_
  rintro e w16 ⟨rfl, hb16⟩
  have B16_W := Lib.hid (B15_W.out.trans (hb16.mono B15_W.out.size))
  have B16_w6 := Lib.hid (B15_w6.out.trans (hb16.mono B15_w6.out.size))
  have B16_w7 := Lib.hid (B15_w7.out.trans (hb16.mono B15_w7.out.size))
  have B16_V0 := Lib.hid (B15_V0.out.trans (hb16.mono B15_V0.out.size))
  have B16_w8 := Lib.hid (B15_w8.out.trans (hb16.mono B15_w8.out.size))
  have B16_w9 := Lib.hid (B15_w9.out.trans (hb16.mono B15_w9.out.size))
  have B16_w10 := Lib.hid (B15_w10.out.trans (hb16.mono B15_w10.out.size))
  have HLAST16 := Lib.hid hb16
  clear hb16
  go_wp2_with fail
  refine (toIntS Aks nks cks ks w16 HNks.out (HRks.out _ B16_W.out) hsmks).mono ?_
  rintro e w18 ⟨y17, hgy17, rfl, hoy17, hb18⟩
  have B18_W := Lib.hid (B16_W.out.trans (hb18.mono B16_W.out.size))
  have B18_w6 := Lib.hid (B16_w6.out.trans (hb18.mono B16_w6.out.size))
  have B18_w7 := Lib.hid (B16_w7.out.trans (hb18.mono B16_w7.out.size))
  have B18_V0 := Lib.hid (B16_V0.out.trans (hb18.mono B16_V0.out.size))
  have B18_w8 := Lib.hid (B16_w8.out.trans (hb18.mono B16_w8.out.size))
  have B18_w9 := Lib.hid (B16_w9.out.trans (hb18.mono B16_w9.out.size))
  have B18_w10 := Lib.hid (B16_w10.out.trans (hb18.mono B16_w10.out.size))
  have HLAST18 := Lib.hid hb18
  clear hb18
  have Sy17 := Lib.hid (Rd.ofOwnK hoy17)
  clear hoy17 hgy17
  go_wp2_with fail
  refine (eqIntS x2 y17 nks nks nks ks w18 HNks.out (Rx2.out _ B18_w9.out) (Sy17.out) hsmks).mono ?_
  rintro e w19 ⟨rfl, hb19⟩
  have B19_W := Lib.hid (B18_W.out.trans (hb19.mono B18_W.out.size))
  have B19_w6 := Lib.hid (B18_w6.out.trans (hb19.mono B18_w6.out.size))
  have B19_w7 := Lib.hid (B18_w7.out.trans (hb19.mono B18_w7.out.size))
  have B19_V0 := Lib.hid (B18_V0.out.trans (hb19.mono B18_V0.out.size))
  have B19_w8 := Lib.hid (B18_w8.out.trans (hb19.mono B18_w8.out.size))
  have B19_w9 := Lib.hid (B18_w9.out.trans (hb19.mono B18_w9.out.size))
  have B19_w10 := Lib.hid (B18_w10.out.trans (hb19.mono B18_w10.out.size))
  have HLAST19 := Lib.hid hb19
  clear hb19
  have HG0 := Lib.hid (ownB HOx.out B19_w10.out)
  have kx0_0 := HX0_0.out _ B19_V0.out
  have kx0_1 := HX0_1.out _ B19_V0.out
  go_wp2_with fail
  clear kx0_0 kx0_1
  refine (markNetB x01 x02 n1 n2 n1 n2 _ _ w19 (own_base (ownB Ox01.out B19_w7.out) (Nat.zero_le _)) hsm1 (own_base (ownB Ox02.out B19_w7.out) (Nat.zero_le _)) hsm2 (rows_apart Ox01.out Ox02.out (by decide))).mono ?_
  rintro e w20 ⟨k0, rfl, hk0a, hk0b, hoff⟩
  have Fw20_W := Lib.hid (B19_W.out.trans (hoff.below (B := W.heap.size) B19_W.out.size (fun b h => by have hpw := WPW.out; have := HQx01.out; have := HQx02.out; rcases h with h | h <;> omega)))
  have Fw20_w6 := Lib.hid (B19_w6.out.trans (hoff.below (B := w6.heap.size) B19_w6.out.size (fun b h => by have hpw := Nat.le_refl w6.heap.size; have := HQx01.out; have := HQx02.out; rcases h with h | h <;> omega)))
  have HG1 := Lib.hid (own_off HG0.out hoff (fun b h => by have := HQx01.out; have := HQx02.out; rcases h with h | h <;> omega))
  have hT9 := (Tx1.out _ B19_w8.out)
  have hT9l := hT9.lies
  have hT8 := hT9.off hoff (fun h => by have := hT9l.1; have := SEPx01_Tx1.out; have := SEPx02_Tx1.out; rcases h with h | h <;> omega) (fun y hy q e h => by have := hT9l.2 y hy q e; have := SEPx01_Tx1.out; have := SEPx02_Tx1.out; rcases h with h | h <;> omega)
  have Tx1_ : Hid (∀ V, Below w20.heap.size w20 V → Ros V0.heap.size x1 nxs ysx1 V) := Lib.hid fun V hV => hT8.moved hV
  clear Tx1 hT9 hT9l hT8; have Tx1 := Tx1_; clear Tx1_
  have Ox2_ := Lib.hid (Off.own hoff (ownB Ox2.out B19_w9.out) (fun h => by have := SEPx01_x2.out; have := SEPx02_x2.out; rcases h with h | h <;> omega))
  clear Ox2; have Ox2 := Ox2_; clear Ox2_
  have Zw20 := Lib.hid (Below.refl w20.heap.size w20)
  clear hoff
  go_wp2_with fail
  refine (markRos k0 w20 (Tx1.out _ Zw20.out) LIEx1.out.1.2 (fun y hy q e => (LIEx1.out.2 y hy q e).2) hsmxs (by omega) (by omega)).mono ?_
  rintro e w21 ⟨k1, rfl, hk1a, hk1b, hoff⟩
  have Fw21_W := Lib.hid (Fw20_W.out.trans (hoff.below (B := W.heap.size) Fw20_W.out.size (fun b h => by have hpw := WPW.out; have := HQTx1.out; have h2 : V0.heap.size ≤ b ∧ b < w8.heap.size := h; omega)))
  have Fw21_w6 := Lib.hid (Fw20_w6.out.trans (hoff.below (B := w6.heap.size) Fw20_w6.out.size (fun b h => by have hpw := Nat.le_refl w6.heap.size; have := HQTx1.out; have h2 : V0.heap.size ≤ b ∧ b < w8.heap.size := h; omega)))
  have HG2 := Lib.hid (own_off HG1.out hoff (fun b h => by have := HQTx1.out; have h2 : V0.heap.size ≤ b ∧ b < w8.heap.size := h; omega))
  have Ox2_ := Lib.hid (Off.own hoff (ownB Ox2.out Zw20.out) (fun h => by have := SEPTx1_x2.out; have h2 : V0.heap.size ≤ x2 ∧ x2 < w8.heap.size := h; omega))
  clear Ox2; have Ox2 := Ox2_; clear Ox2_
  have Zw21 := Lib.hid (Below.refl w21.heap.size w21)
  clear hoff
  go_wp2_with fail
  refine (markIntsW x2 nks nks k1 _ w21 (ownB Ox2.out Zw21.out) hsmks (by omega) (by omega)).mono ?_
  rintro e w22 ⟨rfl, hoff⟩
  obtain ⟨k2, hk2⟩ : ∃ k, k1 + (nks : Int) = k := ⟨_, rfl⟩
  have hk2a : 0 ≤ k2 := by omega
  have hk2b : k2 ≤ 2000004000000 := by omega
  rw [hk2]
  clear hk2
  have Fw22_W := Lib.hid (Fw21_W.out.trans (hoff.below (B := W.heap.size) Fw21_W.out.size (fun b h => by have hpw := WPW.out; have := HQx2.out; have h2 : b = x2 := h; omega)))
  have Fw22_w6 := Lib.hid (Fw21_w6.out.trans (hoff.below (B := w6.heap.size) Fw21_w6.out.size (fun b h => by have hpw := Nat.le_refl w6.heap.size; have := HQx2.out; have h2 : b = x2 := h; omega)))
  have HG3 := Lib.hid (own_off HG2.out hoff (fun b h => by have := HQx2.out; have h2 : b = x2 := h; omega))
  have Zw22 := Lib.hid (Below.refl w22.heap.size w22)
  clear hoff
  have hkn : decide (k2 < 0) = false := decide_eq_false (by omega)
  go_wp2_with fail
  refine (eqInts _ _ Nx _ _ L w22 HNNx.out.symm (Rd.ofOwn HG3.out) (HRRs.out _ Fw22_w6.out) hNx).mono ?_
  rintro e w23 ⟨rfl, hb23⟩
  have B23_W := Lib.hid (Fw22_W.out.trans (hb23.mono Fw22_W.out.size))
  have B23_w6 := Lib.hid (Fw22_w6.out.trans (hb23.mono Fw22_w6.out.size))
  have B23_w22 := Lib.hid (Zw22.out.trans (hb23.mono Zw22.out.size))
  have HLAST23 := Lib.hid hb23
  clear hb23
  have HGA := Lib.hid (ownB HG3.out B23_w22.out)
  go_wp2_with fail
  refine (markIntsA Ax Nx cx L w23 HGA.out hNx).mono ?_
  rintro e w24 ⟨rfl, hoff9, ho9⟩
  have Gw24_W := Lib.hid (B23_W.out.trans (hoff9.below (B := W.heap.size) B23_W.out.size (fun b h => by have := WPW.out; have := PWV.out; have h2 : w9.heap.size ≤ b := h; omega)))
  have Gw24_w6 := Lib.hid (B23_w6.out.trans (hoff9.below (B := w6.heap.size) B23_w6.out.size (fun b h => by have := WPW.out; have := PWV.out; have h2 : w9.heap.size ≤ b := h; omega)))
  have HM := Lib.hid ho9
  clear hoff9 ho9
  have Zw24 := Lib.hid (Below.refl w24.heap.size w24)
  go_wp2_with fail
  refine (heldInts Ax Nx cx w24 (Rd.ofOwn HM.out) hNx).mono ?_
  rintro e w' ⟨rfl, rfl⟩
  have hN4 : 0 ≤ (Nx : Int) := Int.natCast_nonneg _
  have ka0_0 := HK0_0.out _ Gw24_W.out
  have ka0_1 := HK0_1.out _ Gw24_W.out
  go_wp2_with fail
  clear ka0_0 ka0_1
  refine (toNet A1 A2 n1 c1 n2 c2 ss fs w24 HN1.out (HR1.out _ Gw24_W.out) hsm1 HN2.out (HR2.out _ Gw24_W.out) hsm2).mono ?_
  rintro e w25 ⟨h01, h02, rfl, hoh01, hoh02, hb25⟩
  have B25_W := Lib.hid (Gw24_W.out.trans (hb25.mono Gw24_W.out.size))
  have B25_w6 := Lib.hid (Gw24_w6.out.trans (hb25.mono Gw24_w6.out.size))
  have B25_w24 := Lib.hid (Zw24.out.trans (hb25.mono Zw24.out.size))
  have HLAST25 := Lib.hid hb25
  clear hb25
  have Oh01 := Lib.hid hoh01
  have Rh01 : Hid (∀ V, Below w25.heap.size w25 V → Rd V V.heap.size (some ⟨h01, 0, none⟩) (ss.map Value.string)) := Lib.hid fun V hV => (Rd.ofOwnK hoh01).moved hV
  have Oh02 := Lib.hid hoh02
  have Rh02 : Hid (∀ V, Below w25.heap.size w25 V → Rd V V.heap.size (some ⟨h02, 0, none⟩) (fs.flatMap Q4.cells)) := Lib.hid fun V hV => (Rd.ofOwnK hoh02).moved hV
  clear hoh01 hoh02
  have Zw25 := Lib.hid (Below.refl w25.heap.size w25)
  go_wp2_with fail
  refine (toRos Axs nxs cxs xs w25 HNxs.out (HRxs.out _ B25_W.out) (HRIxs.out _ B25_W.out) hsmxs).mono ?_
  rintro e w26 ⟨h1, ysh1, rfl, hgh1, hdh1, hTh1, hb26⟩
  have B26_W := Lib.hid (B25_W.out.trans (hb26.mono B25_W.out.size))
  have B26_w6 := Lib.hid (B25_w6.out.trans (hb26.mono B25_w6.out.size))
  have B26_w24 := Lib.hid (B25_w24.out.trans (hb26.mono B25_w24.out.size))
  have B26_w25 := Lib.hid (Zw25.out.trans (hb26.mono Zw25.out.size))
  have HLAST26 := Lib.hid hb26
  clear hb26
  have Dh1 := Lib.hid hdh1
  have Th1 : Hid (∀ V, Below w26.heap.size w26 V → Ros w25.heap.size h1 nxs ysh1 V) := Lib.hid fun V hV => hTh1.moved hV
  clear hdh1 hTh1 hgh1
  have Zw26 := Lib.hid (Below.refl w26.heap.size w26)
  go_wp2_with fail
  refine (toIntS Aks nks cks ks w26 HNks.out (HRks.out _ B26_W.out) hsmks).mono ?_
  rintro e w27 ⟨h2, hgh2, rfl, hoh2, hb27⟩
  have B27_W := Lib.hid (B26_W.out.trans (hb27.mono B26_W.out.size))
  have B27_w6 := Lib.hid (B26_w6.out.trans (hb27.mono B26_w6.out.size))
  have B27_w24 := Lib.hid (B26_w24.out.trans (hb27.mono B26_w24.out.size))
  have B27_w25 := Lib.hid (B26_w25.out.trans (hb27.mono B26_w25.out.size))
  have B27_w26 := Lib.hid (Zw26.out.trans (hb27.mono Zw26.out.size))
  have HLAST27 := Lib.hid hb27
  clear hb27
  have Oh2 := Lib.hid hoh2
  have Rh2 : Hid (∀ V, Below w27.heap.size w27 V → Rd V V.heap.size (some ⟨h2, 0, none⟩) (ks.map (Value.int .i64))) := Lib.hid fun V hV => (Rd.ofOwnK hoh2).moved hV
  clear hoh2
  have Zw27 := Lib.hid (Below.refl w27.heap.size w27)
  go_wp2_with fail
  refine (implTH ⟨HN1.out, hsm1, Nat.le_refl _, Rh01.out _ B27_w25.out, HWS.out, HN2.out, hsm2, Rh02.out _ B27_w25.out⟩ (Th1.out _ B27_w26.out) Dh1.out hsmxs (c3 := nks) HNks.out (Rh2.out _ Zw27.out) hsmks).mono ?_
  rw [HL.out, HB.out]
  rintro e w28 ⟨Ah, Nh, ch, rfl, HNNh, hoh, hb28⟩
  have B28_W := Lib.hid (B27_W.out.trans (hb28.mono B27_W.out.size))
  have B28_w6 := Lib.hid (B27_w6.out.trans (hb28.mono B27_w6.out.size))
  have B28_w24 := Lib.hid (B27_w24.out.trans (hb28.mono B27_w24.out.size))
  have B28_w25 := Lib.hid (B27_w25.out.trans (hb28.mono B27_w25.out.size))
  have B28_w26 := Lib.hid (B27_w26.out.trans (hb28.mono B27_w26.out.size))
  have B28_w27 := Lib.hid (Zw27.out.trans (hb28.mono Zw27.out.size))
  have HLAST28 := Lib.hid hb28
  clear hb28
  have HOh := Lib.hid hoh; clear hoh
  have hNh : Nh ≤ 1048576 := by have := HNNh.out; have := HLN.out; omega
  have HRRh : Hid (∀ V, Below w28.heap.size w28 V → Rd V V.heap.size Ah (L.map (Value.int .i64))) := Lib.hid fun V hV => (Rd.ofOwn HOh.out).moved hV
  have Zw28 := Lib.hid (Below.refl w28.heap.size w28)
  obtain rfl : Nh = Nx := HNNh.out.trans HNNx.out.symm
  go_wp2_with fail
  refine (eqInts _ _ Nh _ _ L w28 HNNh.out.symm (HRRh.out _ Zw28.out) (HRRs.out _ B28_w6.out) hNh).mono ?_
  rintro e w29 ⟨rfl, hb29⟩
  have B29_W := Lib.hid (B28_W.out.trans (hb29.mono B28_W.out.size))
  have B29_w6 := Lib.hid (B28_w6.out.trans (hb29.mono B28_w6.out.size))
  have B29_w24 := Lib.hid (B28_w24.out.trans (hb29.mono B28_w24.out.size))
  have B29_w25 := Lib.hid (B28_w25.out.trans (hb29.mono B28_w25.out.size))
  have B29_w26 := Lib.hid (B28_w26.out.trans (hb29.mono B28_w26.out.size))
  have B29_w27 := Lib.hid (B28_w27.out.trans (hb29.mono B28_w27.out.size))
  have B29_w28 := Lib.hid (Zw28.out.trans (hb29.mono Zw28.out.size))
  have HLAST29 := Lib.hid hb29
  clear hb29
  have HMM := Lib.hid (ownB HM.out B29_w24.out)
  go_wp2_with fail
  refine (heldInts Ax Nh cx w29 (Rd.ofOwn HMM.out) hNh).mono ?_
  rintro e w' ⟨rfl, rfl⟩
  go_wp2
  go_ret
  exact ⟨rfl, HBW.out.trans (B29_W.out.mono HBW.out.size)⟩


theorem own : ownKnob Try.prog.godebug = none := by kernel_rfl
theorem laidOut : laidOutB Try.prog = true := by kernel_rfl
set_option maxRecDepth 100000 in
theorem lifted (os : Os) (started : os.Started) (H : Type) (enc : TypeId × Value → H) :
    ReturnsInHanded {} Try.checked os 6 .any (Rows.fnExactRoutesThroughSpec.pre6 enc Try.prog Try.f6 Rows.fnExactRoutesThroughRow.domain false) (Rows.fnExactRoutesThroughSpec.post enc Try.prog Try.f6 false true false false) := by
  refine returnsInHanded_of_change_sized (C := Try.checked) own started (by kernel_rfl) Try.func6
    (ChangeSpec.witness6 (enc := enc) (C := Try.checked) false ⟨#[], #[.agg #[.slice none 0 0, .slice none 0 0], .slice none 0 0, .slice none 0 0], []⟩ 8 (by kernel_rfl) (by kernel_rfl) (by kernel_rfl) (by kernel_rfl)) ?_
  intro W base args ds gs before hval0 hW _ hsz0 _
  clear hsz0
  have hval : ∀ (j : Nat) t v, Try.f6.params[j]? = some t → args[j]? = some v → Value.okWide Try.prog W .any base t v := hval0
  have hW' := hW
  obtain ⟨p, q, hA0, hV, rfl, _, _⟩ := hW
  have hA : DataW.TrodAll enc Try.prog W 0 (fun _ => true) true Try.f6.params.toList args.toList ds p := hA0
  rw [Try.params6] at hA hval
  obtain ⟨v0, vs0, d0, ds0, p0, q0, hargs, rfl, rfl, h0, r0⟩ := trodAll_cons hA
  obtain ⟨v1, vs1, d1, ds1, p1, q1, rfl, rfl, rfl, h1, r1⟩ := trodAll_cons r0
  obtain ⟨v2, vs2, d2, ds2, p2, q2, rfl, rfl, rfl, h2, r2⟩ := trodAll_cons r1
  obtain ⟨rfl, rfl, rfl⟩ := trodAll_nil r2
  obtain rfl : args = #[v0, v1, v2] := by cases args; simp_all
  obtain ⟨rfl, rfl⟩ := trodVars_none hV
  simp only [List.append_nil] at hW'
  have hlt0 : ∀ x ∈ p0, x.block < W.heap.size := fun x hx => by simpa using hW'.lt x (by simp [hx])
  have hlt1 : ∀ x ∈ p1, x.block < W.heap.size := fun x hx => by simpa using hW'.lt x (by simp [hx])
  have hlt2 : ∀ x ∈ p2, x.block < W.heap.size := fun x hx => by simpa using hW'.lt x (by simp [hx])
  have fin : ∀ W' : World, Below W.heap.size W W' → Rows.fnExactRoutesThroughSpec.post enc Try.checked.prog Try.f6 false true false false W #[v0, v1, v2] (.bool true) W' := by
    intro W' hb
    refine ⟨_, _, _, [] ++ [], (p0 ++ (p1 ++ (p2 ++ []))), [], hW', ?_, ?_, rfl, hb.frame _, fun h => by cases h⟩
    · exact trodAll_mk1 (shut_bool Try.underlying4 true)
    · exact trodAll_cons_mk (Below.trod laidOut (by kernel_rfl) (of_decide_eq_true (by kernel_rfl)) h0 hb hlt0) (trodAll_cons_mk (Below.trod laidOut (by kernel_rfl) (of_decide_eq_true (by kernel_rfl)) h1 hb hlt1) (trodAll_cons_mk (Below.trod laidOut (by kernel_rfl) (of_decide_eq_true (by kernel_rfl)) h2 hb hlt2) (trodAll_mk0)))
  clear hW' hV hA0
  obtain ⟨A0, n0, c0, s0, B0, m0, k0, z0, rfl, ⟨ha0, hb0, hc0, hd0⟩, ⟨he0, hf0, hg0, hh0⟩⟩ := open_net Try.underlying25 (by kernel_rfl) (by kernel_rfl) Try.underlying22 Try.underlying9 (by kernel_rfl) Try.underlying23 Try.underlying207 (by kernel_rfl) (by kernel_rfl) rfl (hint_of Try.underlying3 (by decide +kernel)) (hval 0 25 v0 rfl rfl) h0
  obtain ⟨b1, len1, cap1, rfl⟩ := okWide_slice Try.underlying51 (hval 1 51 v1 rfl rfl)
  obtain ⟨fuel1, hf1⟩ := h1
  obtain ⟨A1, n1, c1, z1, e1, ha1, hb1, hc1, hd1⟩ := rd_ros hf1
  simp only [Value.cells, List.cons.injEq, Value.slice.injEq, and_true] at e1
  obtain ⟨rfl, rfl, rfl⟩ := e1
  obtain ⟨b2, len2, cap2, rfl⟩ := okWide_slice Try.underlying39 (hval 2 39 v2 rfl rfl)
  obtain ⟨fuel2, hf2⟩ := h2
  obtain ⟨A2, n2, c2, z2, e2, ha2, hb2, hc2, hd2⟩ := rd_ints Try.underlying39 Try.underlying3 (by kernel_rfl) hf2
  simp only [Value.cells, List.cons.injEq, Value.slice.injEq, and_true] at e2
  obtain ⟨rfl, rfl, rfl⟩ := e2
  exact (walk A0 n0 c0 s0 B0 m0 k0 z0 b1 len1 cap1 z1 b2 len2 cap2 z2 W ha0 hb0 hc0 hd0 he0 hf0 hg0 hh0 ha1 hb1 hc1 hd1 ha2 hb2 hc2 hd2).mono fun e W' ⟨he, hb⟩ => ⟨_, he, fin W' hb⟩

theorem closed : joinedFacts Try.prog 6 Try.f6 Rows.fnExactRoutesThroughSpec Rows.fnExactRoutesThroughRow = true := by
  unfold joinedFacts
  rw [jn_mk, jn_li, jn_en]
  kernel_rfl
theorem over : Rows.fnExactRoutesThroughRow.holds Try.pinned (OpenSpec.ofChange Rows.fnExactRoutesThroughSpec) :=
  OpenClaim.holds_of_wide 6 Try.f6 rfl rfl rfl rfl rfl rfl rfl ⟨rfl, rfl, rfl, rfl, rfl⟩ rfl rfl rfl rfl rfl (by kernel_rfl) Try.func6 closed
    (of_decide_eq_true (by kernel_rfl)) (by unfold Func.isWrapper; first | (rw [if_pos (by decide +kernel)]; kernel_rfl) | (rw [if_neg (by decide +kernel)]; exact ⟨rfl, rfl⟩))
    (fun os started H enc _ => lifted os started H enc)

/-- THE STATEMENT -/
theorem proved : Rows.FnExactRoutesThroughSaid :=
  over
end Go.Proofs.Ytdaopbdjbpopiaa.fnExactRoutesThrough
