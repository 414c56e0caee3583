/- Proved: at every argument impl.Defragment answers as spec.Defragment does, in memory of its own, and leaves its arguments alone (the law FnExactDefragment returns true). The table of math/bits as Go's text lays it. -/
import Derived.Test.YtflniajjecfgeaaGreatDoorRows
import Derived.Test.YtflniajjecfgeaaGreatDoorCards
import Derived.Test.YtflniajjecfgeaaGreatDoorTie
import Derived.Test.YtflniajjecfgeaaGreatDoorJn
import Derived.JoinedOf
import Derived.Test.YtflniajjecfgeaaGreatDoorGC
import Derived.Test.YtflniajjecfgeaaGreatDoorGB
import Derived.Test.YtflniajjecfgeaaGreatDoorPlt
import Derived.Test.YtflniajjecfgeaaGreatDoorNtB
import Derived.Test.YtflniajjecfgeaaGreatDoorGF
import Derived.WalkKit
import Derived.ProofKit
import Derived.OpenShut
import Derived.ShutString
import Derived.SizedLaws
import Derived.Carry
import Derived.LaidMore
import Derived.LaidHandle
import Derived.MakeChecks
import Derived.Stop.Joined
import Derived.SevenTiedAt
import Derived.SliceStrings
import Derived.DataBytes
import Derived.OpenVars
import Derived.ChangeVars
namespace Go.Proofs.YtflniajjecfgeaaGreatDoor.fnExactDefragment
open Go.ChangeShapes Go.WideShapes Go.ChangeAt Go.RowKit
open Go.ChangeMaps (open_string shut_string)

set_option maxRecDepth 100000 in
set_option maxHeartbeats 8000000 in
theorem walk (A1 : Option Addr) (n1 c1 : Nat) (ss : List ByteArray) (A2 : Option Addr) (n2 c2 : Nat) (fs : List Q4) (A3 : Option Addr) (n3 c3 : Nat) (ls : List Lt) (y : Bool) (x : Int) (w : World) (hn1 : ss.length = n1) (hm1 : n1 ≤ maxLen) (hr1 : Rd w w.heap.size A1 (ss.map Value.string)) (hws : ∀ s ∈ ss, s.size ≤ maxLen) (hn2 : fs.length = n2) (hm2 : n2 ≤ maxLen) (hr2 : Rd w w.heap.size A2 (fs.flatMap Q4.cells)) (_hwf : ∀ q ∈ fs, q.wf) (hn3 : ls.length = n3) (hm3 : n3 ≤ maxLen) (hr3 : Rd w w.heap.size A3 (ls.flatMap Lt.cells)) (hi3 : ∀ x ∈ ls, LtIn w x)  (_w2 : (Lit.int .i64 x).wf = true) (hpow : Tab w) :
    Calls Tryz.prog 4 #[.agg #[.slice A1 n1 c1, .slice A2 n2 c2, .slice A3 n3 c3], .bool y, .int .i64 x] w fun e w' => e = .returned (.bool true) ∧ Below w.heap.size w w' := by
  have HN1 := Lib.hid hn1; have HN2 := Lib.hid hn2; have HWS := Lib.hid hws; have HN3 := Lib.hid hn3; clear hn1 hn2 hws _hwf hn3
  clear _w2
  go_enter Tryz.func4, Tryz.ntmps4
  go_wp2_with fail
  obtain ⟨W, hW⟩ : ∃ W, (w.alloc (Obj.cells #[.slice A1 n1 c1, .slice A2 n2 c2, .slice A3 n3 c3] 28)) = W := ⟨_, rfl⟩
  have hk0_0 : W.cell? ⟨w.heap.size, 0, none⟩ = some (.slice A1 n1 c1) := by rw [← hW]; simp [go_sem]
  have hk0_1 : W.cell? ⟨w.heap.size, 1, none⟩ = some (.slice A2 n2 c2) := by rw [← hW]; simp [go_sem]
  have hk0_2 : W.cell? ⟨w.heap.size, 2, none⟩ = some (.slice A3 n3 c3) := by rw [← hW]; simp [go_sem]
  have hz : w.heap.size < W.heap.size := by rw [← hW]; simp
  have hbw : Below w.heap.size w W := by rw [← hW]; exact ((Below.refl w.heap.size w).alloc (Nat.le_refl _) _)
  have HBW := Lib.hid hbw
  have HTAB : Hid (∀ V, Below W.heap.size W V → Tab V) := Lib.hid fun V hV => (hpow.over hbw).over hV
  clear hpow
  rw [hW]
  clear hW
  have HR1 : Hid (∀ V, Below W.heap.size W V → Rd V V.heap.size A1 (ss.map Value.string)) := Lib.hid fun V hV => (hr1.moved hbw).moved hV
  clear hr1
  have HR2 : Hid (∀ V, Below W.heap.size W V → Rd V V.heap.size A2 (fs.flatMap Q4.cells)) := Lib.hid fun V hV => (hr2.moved hbw).moved hV
  clear hr2
  have HR3 : Hid (∀ V, Below W.heap.size W V → Rd V V.heap.size A3 (ls.flatMap Lt.cells)) := Lib.hid fun V hV => (hr3.moved hbw).moved hV
  clear hr3
  have HK0_0 : Hid (∀ V, Below W.heap.size W V → V.cell? ⟨w.heap.size, 0, none⟩ = some (.slice A1 n1 c1)) := Lib.hid fun V hV => (hV.cell (p := ⟨_, _, none⟩) (by show w.heap.size < _; omega)).trans hk0_0
  have HK0_1 : Hid (∀ V, Below W.heap.size W V → V.cell? ⟨w.heap.size, 1, none⟩ = some (.slice A2 n2 c2)) := Lib.hid fun V hV => (hV.cell (p := ⟨_, _, none⟩) (by show w.heap.size < _; omega)).trans hk0_1
  have HK0_2 : Hid (∀ V, Below W.heap.size W V → V.cell? ⟨w.heap.size, 2, none⟩ = some (.slice A3 n3 c3)) := Lib.hid fun V hV => (hV.cell (p := ⟨_, _, none⟩) (by show w.heap.size < _; omega)).trans hk0_2
  have HI3 : Hid (∀ V, Below W.heap.size W V → ∀ x ∈ ls, LtIn V x) := Lib.hid fun V hV x hx => ((hi3 x hx).moved hbw).moved hV
  clear hi3
  clear hk0_0 hk0_1 hk0_2
  have HZ := Lib.hid hz
  clear hz hbw
  have B0 := Lib.hid (Below.refl W.heap.size W)
  refine (szPl A1 A2 A3 n1 c1 n2 c2 n3 c3 1048576 ss fs ls W HN1.out hm1 (HR1.out _ B0.out) HWS.out hm2 HN3.out hm3 (HR3.out _ B0.out) (HI3.out _ B0.out) (by omega) (by omega)).mono ?_
  rintro e w1 ⟨v0, rfl, hb1, hv00, hv10, hv20⟩
  have B1_W := Lib.hid (B0.out.trans (hb1.mono B0.out.size))
  have HLAST1 := Lib.hid hb1
  clear hb1
  by_cases hneg0 : v0 < 0
  · go_wp2
    go_ret
    exact ⟨rfl, HBW.out.trans (B1_W.out.mono HBW.out.size)⟩
  have hp0 : 0 ≤ v0 := by omega
  have hsm1 : n1 ≤ 1048576 := by have := hv20 hp0; omega
  have hsm2 : n2 ≤ 1048576 := by have := hv20 hp0; omega
  have hsm3 : n3 ≤ 1048576 := by have := hv20 hp0; omega
  have HSZ0 := Lib.hid (hv20 hp0)
  have HRI3 : Hid (∀ V, Below W.heap.size W V → ∀ x ∈ ls, LtAt V x) := Lib.hid fun V hV x hx => ⟨(HI3.out V hV x hx).1, by have h1 := hv20 hp0; have h2 := Lttot_le hx; omega, (HI3.out V hV x hx).2.2⟩
  clear HI3
  clear hneg0 hv20 hm1 hm2 hm3
  have hLE : ∀ d ∈ (dgLD ss fs (ls.map Lt.d) y x), d.zs.length ≤ 1000 := (dgLD_short _ _ _ _ _).2
  have hLn1 : (dgLS ss fs (ls.map Lt.d) x).length ≤ 1048576 := Nat.le_trans (dgSF_len _ _ _ _).1 (by have := HN1.out; omega)
  obtain ⟨LS, hL1⟩ : ∃ L, dgLS ss fs (ls.map Lt.d) x = L := ⟨_, rfl⟩
  rw [hL1] at hLn1
  have HL1 := Lib.hid hL1; have HLN1 := Lib.hid hLn1; clear hL1 hLn1
  have hLn2 : (dgLF ss fs (ls.map Lt.d) x).length ≤ 1048576 := Nat.le_trans (dgSF_len _ _ _ _).2 (by have := HN2.out; omega)
  obtain ⟨LF, hL2⟩ : ∃ L, dgLF ss fs (ls.map Lt.d) x = L := ⟨_, rfl⟩
  rw [hL2] at hLn2
  have HL2 := Lib.hid hL2; have HLN2 := Lib.hid hLn2; clear hL2 hLn2
  have hLn3 : (dgLD ss fs (ls.map Lt.d) y x).length ≤ 1000 := (dgLD_short _ _ _ _ _).1
  obtain ⟨LD, hL3⟩ : ∃ L, dgLD ss fs (ls.map Lt.d) y x = L := ⟨_, rfl⟩
  rw [hL3] at hLn3 hLE
  have HL3 := Lib.hid hL3; have HLN3 := Lib.hid hLn3; clear hL3 hLn3
  have hLn4 : (dgLI ss fs (ls.map Lt.d) y x).length ≤ 1048576 := Nat.le_trans (dgLI_len _ _ _ _ _) (by decide)
  obtain ⟨LO, hL4⟩ : ∃ L, dgLI ss fs (ls.map Lt.d) y x = L := ⟨_, rfl⟩
  rw [hL4] at hLn4
  have HL4 := Lib.hid hL4; have HLN4 := Lib.hid hLn4; clear hL4 hLn4
  obtain ⟨b, hb⟩ : ∃ b, dgOk ss fs (ls.map Lt.d) x = b := ⟨_, rfl⟩
  have HB := Lib.hid hb; clear hb
  have HLE := Lib.hid hLE; clear hLE
  have ka0_0 := HK0_0.out _ B1_W.out
  have ka0_1 := HK0_1.out _ B1_W.out
  have ka0_2 := HK0_2.out _ B1_W.out
  go_wp2_with fail
  clear ka0_0 ka0_1 ka0_2
  refine (toPl A1 A2 A3 n1 c1 n2 c2 n3 c3 ss fs ls w1 HN1.out (HR1.out _ B1_W.out) hsm1 HN2.out (HR2.out _ B1_W.out) hsm2 HN3.out (HR3.out _ B1_W.out) (HRI3.out _ B1_W.out) hsm3).mono ?_
  rintro e w2 ⟨s01, s02, s03, yss0, rfl, hos01, hos02, hgs0, hds0, hTs0, hb2⟩
  have B2_W := Lib.hid (B1_W.out.trans (hb2.mono B1_W.out.size))
  have HLAST2 := Lib.hid hb2
  clear hb2
  have Os01 := Lib.hid hos01
  have Rs01 : Hid (∀ V, Below w2.heap.size w2 V → Rd V V.heap.size (some ⟨s01, 0, none⟩) (ss.map Value.string)) := Lib.hid fun V hV => (Rd.ofOwnK hos01).moved hV
  have Os02 := Lib.hid hos02
  have Rs02 : Hid (∀ V, Below w2.heap.size w2 V → Rd V V.heap.size (some ⟨s02, 0, none⟩) (fs.flatMap Q4.cells)) := Lib.hid fun V hV => (Rd.ofOwnK hos02).moved hV
  clear hos01 hos02
  have Ds0 := Lib.hid hds0
  have Ts0 : Hid (∀ V, Below w2.heap.size w2 V → Lts w1.heap.size s03 n3 yss0 V) := Lib.hid fun V hV => hTs0.moved hV
  clear hds0 hTs0 hgs0
  have Zw2 := Lib.hid (Below.refl w2.heap.size w2)
  go_wp2_with fail
  refine (specDG ⟨HN1.out, hsm1, Nat.le_refl _, Rs01.out _ Zw2.out, HWS.out, HN2.out, hsm2, Rs02.out _ Zw2.out⟩ (Ts0.out _ Zw2.out) Ds0.out hsm3 y x).mono ?_
  rw [HL1.out, HL2.out, HL3.out, HL4.out, HB.out]
  rintro e w3 ⟨A1s, A2s, A3s, A4s, N1s, N2s, N3s, N4s, d1s, d2s, d3s, d4s, zss, rfl, HE1s, HE2s, HE3s, HE4s, HDs, ho1s, ho2s, hcs, ho4s, hb3⟩
  have B3_W := Lib.hid (B2_W.out.trans (hb3.mono B2_W.out.size))
  have B3_w2 := Lib.hid (Zw2.out.trans (hb3.mono Zw2.out.size))
  have HLAST3 := Lib.hid hb3
  clear hb3
  have HO1s := Lib.hid ho1s; clear ho1s
  have HO2s := Lib.hid ho2s; clear ho2s
  have HO4s := Lib.hid ho4s; clear ho4s
  have HO3s := Lib.hid hcs; clear hcs
  have hN1s : N1s ≤ 1048576 := by have := HE1s.out; have := HLN1.out; omega
  have hN2s : N2s ≤ 1048576 := by have := HE2s.out; have := HLN2.out; omega
  have hN3s : N3s ≤ 1048576 := by have := HE3s.out; have := HLN3.out; omega
  have hN4s : N4s ≤ 1048576 := by have := HE4s.out; have := HLN4.out; omega
  have Zw3 := Lib.hid (Below.refl w3.heap.size w3)
  have ka0_0 := HK0_0.out _ B3_W.out
  have ka0_1 := HK0_1.out _ B3_W.out
  have ka0_2 := HK0_2.out _ B3_W.out
  have hgn : w.heap.size < w3.heap.size := Nat.lt_of_lt_of_le (by have := HZ.out; omega) B3_W.out.size
  go_wp2_with fail
  clear ka0_0 ka0_1 ka0_2 hgn
  obtain ⟨VGs, hVGs⟩ : ∃ V, (w3.alloc (Obj.cells #[.slice A1s N1s d1s, .slice A2s N2s d2s, .slice A3s N3s d3s] 35)) = V := ⟨_, rfl⟩
  have hx0 : VGs.cell? ⟨w3.heap.size, 0, none⟩ = some (.slice A1s N1s d1s) := by rw [← hVGs]; simp [go_sem]
  have hx1 : VGs.cell? ⟨w3.heap.size, 1, none⟩ = some (.slice A2s N2s d2s) := by rw [← hVGs]; simp [go_sem]
  have hx2 : VGs.cell? ⟨w3.heap.size, 2, none⟩ = some (.slice A3s N3s d3s) := by rw [← hVGs]; simp [go_sem]
  have hzv : w3.heap.size < VGs.heap.size := by rw [← hVGs]; simp
  have hbv : Below w3.heap.size w3 VGs := by rw [← hVGs]; exact (Below.refl _ _).alloc (Nat.le_refl _) _
  rw [hVGs]
  clear hVGs
  have CVGs_W := Lib.hid (B3_W.out.trans (hbv.mono B3_W.out.size))
  have CVGs_w3 := Lib.hid (Zw3.out.trans (hbv.mono Zw3.out.size))
  have HKWs : Hid (∀ U, Below VGs.heap.size VGs U → U.cell? ⟨w3.heap.size, 0, none⟩ = some (.slice A1s N1s d1s) ∧ U.cell? ⟨w3.heap.size, 1, none⟩ = some (.slice A2s N2s d2s) ∧ U.cell? ⟨w3.heap.size, 2, none⟩ = some (.slice A3s N3s d3s) ∧ w3.heap.size < U.heap.size) := Lib.hid fun U hU => ⟨(hU.cell (p := ⟨_, _, none⟩) hzv).trans hx0, (hU.cell (p := ⟨_, _, none⟩) hzv).trans hx1, (hU.cell (p := ⟨_, _, none⟩) hzv).trans hx2, Nat.lt_of_lt_of_le hzv hU.size⟩
  have HRR1s : Hid (∀ U, Below VGs.heap.size VGs U → Rd U U.heap.size A1s (LS.map Value.string)) := Lib.hid fun U hU => (rdOwnA (ownB HO1s.out hbv)).moved hU
  have HRR2s : Hid (∀ U, Below VGs.heap.size VGs U → Rd U U.heap.size A2s (LF.flatMap Q4.cells)) := Lib.hid fun U hU => (rdOwnA (ownB HO2s.out hbv)).moved hU
  have HRR4s : Hid (∀ U, Below VGs.heap.size VGs U → Rd U U.heap.size A4s (LO.map (Value.int .i64))) := Lib.hid fun U hU => (rdOwnA (ownB HO4s.out hbv)).moved hU
  have HRR3s : Hid (∀ U, Below VGs.heap.size VGs U → LtR A3s N3s zss U) := Lib.hid fun U hU => ((HO3s.out.moved hbv).moved hU).toR
  have ZVGs := Lib.hid (Below.refl VGs.heap.size VGs)
  clear hx0 hx1 hx2 hzv hbv
  have WPW := Lib.hid CVGs_W.out.size
  have ZPRE0 := Lib.hid (ZVGs.out.size)
  refine (toPl A1 A2 A3 n1 c1 n2 c2 n3 c3 ss fs ls VGs HN1.out (HR1.out _ CVGs_W.out) hsm1 HN2.out (HR2.out _ CVGs_W.out) hsm2 HN3.out (HR3.out _ CVGs_W.out) (HRI3.out _ CVGs_W.out) hsm3).mono ?_
  rintro e w4 ⟨x01, x02, x03, ysx0, rfl, hox01, hox02, hgx0, hdx0, hTx0, hb4⟩
  have B4_W := Lib.hid (CVGs_W.out.trans (hb4.mono CVGs_W.out.size))
  have B4_VGs := Lib.hid (ZVGs.out.trans (hb4.mono ZVGs.out.size))
  have HLAST4 := Lib.hid hb4
  clear hb4
  have Ox01 := Lib.hid hox01
  have Rx01 : Hid (∀ V, Below w4.heap.size w4 V → Rd V V.heap.size (some ⟨x01, 0, none⟩) (ss.map Value.string)) := Lib.hid fun V hV => (Rd.ofOwnK hox01).moved hV
  have Ox02 := Lib.hid hox02
  have Rx02 : Hid (∀ V, Below w4.heap.size w4 V → Rd V V.heap.size (some ⟨x02, 0, none⟩) (fs.flatMap Q4.cells)) := Lib.hid fun V hV => (Rd.ofOwnK hox02).moved hV
  clear hox01 hox02
  have Dx0 := Lib.hid hdx0
  have Tx0 : Hid (∀ V, Below w4.heap.size w4 V → Lts VGs.heap.size x03 n3 ysx0 V) := Lib.hid fun V hV => hTx0.moved hV
  have LIEx0 := Lib.hid (hTx0.lies)
  clear hdx0 hTx0 hgx0
  have Zw4 := Lib.hid (Below.refl w4.heap.size w4)
  go_wp2_with fail
  obtain ⟨V0, hV0⟩ : ∃ V, (w4.alloc (Obj.cells #[.slice (some ⟨x01, 0, none⟩) n1 n1, .slice (some ⟨x02, 0, none⟩) n2 n2, .slice (some ⟨x03, 0, none⟩) n3 n3] 35)) = V := ⟨_, rfl⟩
  have hx0_0 : V0.cell? ⟨w4.heap.size, 0, none⟩ = some (.slice (some ⟨x01, 0, none⟩) n1 n1) := by rw [← hV0]; simp [go_sem]
  have hx0_1 : V0.cell? ⟨w4.heap.size, 1, none⟩ = some (.slice (some ⟨x02, 0, none⟩) n2 n2) := by rw [← hV0]; simp [go_sem]
  have hx0_2 : V0.cell? ⟨w4.heap.size, 2, none⟩ = some (.slice (some ⟨x03, 0, none⟩) n3 n3) := by rw [← hV0]; simp [go_sem]
  have hzV0 : w4.heap.size < V0.heap.size := by rw [← hV0]; simp
  have hbV0 : Below w4.heap.size w4 V0 := by rw [← hV0]; exact (Below.refl _ _).alloc (Nat.le_refl _) _
  rw [hV0]
  clear hV0
  have CV0_W := Lib.hid (B4_W.out.trans (hbV0.mono B4_W.out.size))
  have CV0_VGs := Lib.hid (B4_VGs.out.trans (hbV0.mono B4_VGs.out.size))
  have CV0_w4 := Lib.hid (Zw4.out.trans (hbV0.mono Zw4.out.size))
  have HX0_0 : Hid (∀ U, Below V0.heap.size V0 U → U.cell? ⟨w4.heap.size, 0, none⟩ = some (.slice (some ⟨x01, 0, none⟩) n1 n1)) := Lib.hid fun U hU => (hU.cell (p := ⟨_, _, none⟩) hzV0).trans hx0_0
  have HX0_1 : Hid (∀ U, Below V0.heap.size V0 U → U.cell? ⟨w4.heap.size, 1, none⟩ = some (.slice (some ⟨x02, 0, none⟩) n2 n2)) := Lib.hid fun U hU => (hU.cell (p := ⟨_, _, none⟩) hzV0).trans hx0_1
  have HX0_2 : Hid (∀ U, Below V0.heap.size V0 U → U.cell? ⟨w4.heap.size, 2, none⟩ = some (.slice (some ⟨x03, 0, none⟩) n3 n3)) := Lib.hid fun U hU => (hU.cell (p := ⟨_, _, none⟩) hzV0).trans hx0_2
  have HZV0 := Lib.hid hzV0
  clear hzV0 hbV0 hx0_0 hx0_1 hx0_2
  have ZV0 := Lib.hid (Below.refl V0.heap.size V0)
  have PWV := Lib.hid CV0_VGs.out.size
  have HQx01 : Hid (VGs.heap.size ≤ x01 ∧ x01 < V0.heap.size) := Lib.hid ⟨Nat.le_trans ZPRE0.out (Ox01.out.lt x01 rfl).1, Nat.lt_of_lt_of_le (Ox01.out.lt x01 rfl).2 CV0_w4.out.size⟩
  have HQx02 : Hid (VGs.heap.size ≤ x02 ∧ x02 < V0.heap.size) := Lib.hid ⟨Nat.le_trans ZPRE0.out (Ox02.out.lt x02 rfl).1, Nat.lt_of_lt_of_le (Ox02.out.lt x02 rfl).2 CV0_w4.out.size⟩
  have HQTx0 : Hid (VGs.heap.size ≤ VGs.heap.size ∧ w4.heap.size ≤ V0.heap.size) := Lib.hid ⟨ZPRE0.out, CV0_w4.out.size⟩
  refine (implDGA ⟨HN1.out, hsm1, Nat.le_refl _, Rx01.out _ CV0_w4.out, HWS.out, HN2.out, hsm2, Rx02.out _ CV0_w4.out⟩ (Tx0.out _ CV0_w4.out) Dx0.out hsm3 y x (HTAB.out _ CV0_W.out)).mono ?_
  rw [HL1.out, HL2.out, HL3.out, HL4.out, HB.out]
  rintro e w5 ⟨A1x, A2x, A3x, A4x, N1x, N2x, N3x, N4x, d1x, d2x, d3x, d4x, zsx, Bqx, rfl, HE1x, HE2x, HE3x, HE4x, HDx, HBqx, ho1x, ho2x, hcx, ho4x, HLtx, hb5⟩
  have B5_W := Lib.hid (CV0_W.out.trans (hb5.mono CV0_W.out.size))
  have B5_VGs := Lib.hid (CV0_VGs.out.trans (hb5.mono CV0_VGs.out.size))
  have B5_w4 := Lib.hid (CV0_w4.out.trans (hb5.mono CV0_w4.out.size))
  have B5_V0 := Lib.hid (ZV0.out.trans (hb5.mono ZV0.out.size))
  have HLAST5 := Lib.hid hb5
  clear hb5
  have HO1x := Lib.hid ho1x; clear ho1x
  have HO2x := Lib.hid ho2x; clear ho2x
  have HO4x := Lib.hid ho4x; clear ho4x
  have HO3x := Lib.hid hcx; clear hcx
  have hN1x : N1x ≤ 1048576 := by have := HE1x.out; have := HLN1.out; omega
  have hN2x : N2x ≤ 1048576 := by have := HE2x.out; have := HLN2.out; omega
  have hN3x : N3x ≤ 1048576 := by have := HE3x.out; have := HLN3.out; omega
  have hN4x : N4x ≤ 1048576 := by have := HE4x.out; have := HLN4.out; omega
  have Zw5 := Lib.hid (Below.refl w5.heap.size w5)
  obtain rfl : N1x = N1s := HE1x.out.trans HE1s.out.symm
  obtain rfl : N2x = N2s := HE2x.out.trans HE2s.out.symm
  obtain rfl : N3x = N3s := HE3x.out.trans HE3s.out.symm
  obtain rfl : N4x = N4s := HE4x.out.trans HE4s.out.symm
  obtain ⟨sx0, sx1, sx2, sx3⟩ := HKWs.out _ B5_VGs.out
  go_wp2_with fail
  clear sx0 sx1 sx2 sx3
  obtain ⟨VGx, hVGx⟩ : ∃ V, (w5.alloc (Obj.cells #[.slice A1x N1x d1x, .slice A2x N2x d2x, .slice A3x N3x d3x] 35)) = V := ⟨_, rfl⟩
  have hx0 : VGx.cell? ⟨w5.heap.size, 0, none⟩ = some (.slice A1x N1x d1x) := by rw [← hVGx]; simp [go_sem]
  have hx1 : VGx.cell? ⟨w5.heap.size, 1, none⟩ = some (.slice A2x N2x d2x) := by rw [← hVGx]; simp [go_sem]
  have hx2 : VGx.cell? ⟨w5.heap.size, 2, none⟩ = some (.slice A3x N3x d3x) := by rw [← hVGx]; simp [go_sem]
  have hzv : w5.heap.size < VGx.heap.size := by rw [← hVGx]; simp
  have hbv : Below w5.heap.size w5 VGx := by rw [← hVGx]; exact (Below.refl _ _).alloc (Nat.le_refl _) _
  have HGBX := Lib.hid (show VGx.ownsRow V0.heap.size 35 3 (.slice (some ⟨w5.heap.size, 0, none⟩) 1 1) 1 [.slice A1x N1x d1x, .slice A2x N2x d2x, .slice A3x N3x d3x] from by rw [← hVGx]; exact one_rowP w5 _ _ _ HLAST5.out.size)
  rw [hVGx]
  clear hVGx
  have CVGx_W := Lib.hid (B5_W.out.trans (hbv.mono B5_W.out.size))
  have CVGx_VGs := Lib.hid (B5_VGs.out.trans (hbv.mono B5_VGs.out.size))
  have CVGx_w4 := Lib.hid (B5_w4.out.trans (hbv.mono B5_w4.out.size))
  have CVGx_V0 := Lib.hid (B5_V0.out.trans (hbv.mono B5_V0.out.size))
  have CVGx_w5 := Lib.hid (Zw5.out.trans (hbv.mono Zw5.out.size))
  have HKWx : Hid (∀ U, Below VGx.heap.size VGx U → U.cell? ⟨w5.heap.size, 0, none⟩ = some (.slice A1x N1x d1x) ∧ U.cell? ⟨w5.heap.size, 1, none⟩ = some (.slice A2x N2x d2x) ∧ U.cell? ⟨w5.heap.size, 2, none⟩ = some (.slice A3x N3x d3x) ∧ w5.heap.size < U.heap.size) := Lib.hid fun U hU => ⟨(hU.cell (p := ⟨_, _, none⟩) hzv).trans hx0, (hU.cell (p := ⟨_, _, none⟩) hzv).trans hx1, (hU.cell (p := ⟨_, _, none⟩) hzv).trans hx2, Nat.lt_of_lt_of_le hzv hU.size⟩
  have HRR1x : Hid (∀ U, Below VGx.heap.size VGx U → Rd U U.heap.size A1x (LS.map Value.string)) := Lib.hid fun U hU => (rdOwnA (ownB HO1x.out hbv)).moved hU
  have HRR2x : Hid (∀ U, Below VGx.heap.size VGx U → Rd U U.heap.size A2x (LF.flatMap Q4.cells)) := Lib.hid fun U hU => (rdOwnA (ownB HO2x.out hbv)).moved hU
  have HRR4x : Hid (∀ U, Below VGx.heap.size VGx U → Rd U U.heap.size A4x (LO.map (Value.int .i64))) := Lib.hid fun U hU => (rdOwnA (ownB HO4x.out hbv)).moved hU
  have HRR3x : Hid (∀ U, Below VGx.heap.size VGx U → LtR A3x N3x zsx U) := Lib.hid fun U hU => ((HO3x.out.moved hbv).moved hU).toR
  have ZVGx := Lib.hid (Below.refl VGx.heap.size VGx)
  clear hx0 hx1 hx2 hzv hbv
  refine (eqPlR _ _ _ _ _ _ N1x N2x N3x _ _ _ _ _ _ LS LF zsx zss VGx HE1x.out.symm hN1x HE2x.out.symm hN2x hN3x (HRR1x.out _ ZVGx.out) (HRR1s.out _ CVGx_VGs.out) (HRR2x.out _ ZVGx.out) (HRR2s.out _ CVGx_VGs.out) (HRR3x.out _ ZVGx.out) (HRR3s.out _ CVGx_VGs.out) (HDx.out.trans HDs.out.symm)).mono ?_
  rintro e w6 ⟨rfl, hb6⟩
  have B6_W := Lib.hid (CVGx_W.out.trans (hb6.mono CVGx_W.out.size))
  have B6_VGs := Lib.hid (CVGx_VGs.out.trans (hb6.mono CVGx_VGs.out.size))
  have B6_w4 := Lib.hid (CVGx_w4.out.trans (hb6.mono CVGx_w4.out.size))
  have B6_V0 := Lib.hid (CVGx_V0.out.trans (hb6.mono CVGx_V0.out.size))
  have B6_w5 := Lib.hid (CVGx_w5.out.trans (hb6.mono CVGx_w5.out.size))
  have B6_VGx := Lib.hid (ZVGx.out.trans (hb6.mono ZVGx.out.size))
  have HLAST6 := Lib.hid hb6
  clear hb6
  go_wp2_with fail
  refine (eqInts _ _ N4x _ _ LO w6 HE4x.out.symm (HRR4x.out _ B6_VGx.out) (HRR4s.out _ B6_VGs.out) hN4x).mono ?_
  rintro e w7 ⟨rfl, hb7⟩
  have B7_W := Lib.hid (B6_W.out.trans (hb7.mono B6_W.out.size))
  have B7_VGs := Lib.hid (B6_VGs.out.trans (hb7.mono B6_VGs.out.size))
  have B7_w4 := Lib.hid (B6_w4.out.trans (hb7.mono B6_w4.out.size))
  have B7_V0 := Lib.hid (B6_V0.out.trans (hb7.mono B6_V0.out.size))
  have B7_w5 := Lib.hid (B6_w5.out.trans (hb7.mono B6_w5.out.size))
  have B7_VGx := Lib.hid (B6_VGx.out.trans (hb7.mono B6_VGx.out.size))
  have HLAST7 := Lib.hid hb7
  clear hb7
  have ka0_0 := HK0_0.out _ B7_W.out
  have ka0_1 := HK0_1.out _ B7_W.out
  have ka0_2 := HK0_2.out _ B7_W.out
  have kx0_0 := HX0_0.out _ B7_V0.out
  have kx0_1 := HX0_1.out _ B7_V0.out
  have kx0_2 := HX0_2.out _ B7_V0.out
  have hgx : w4.heap.size < w7.heap.size := Nat.lt_of_lt_of_le HZV0.out B7_V0.out.size
  have hgw : w.heap.size < w7.heap.size := Nat.lt_of_lt_of_le (by have := HZ.out; omega) B7_W.out.size
  have hbd : Bel w7 w7.drew := Bel.of (Below.refl _ _).drew
  go_upto_region 10 with fail
  go_cut [64] (fun s64 wx => s64 = .bool false ∧ Bel w7 wx)
  case first =>
    go_region_held3 (fun U => U.cell? ⟨w4.heap.size, 0, none⟩ = some (.slice (some ⟨x01, 0, none⟩) n1 n1) ∧ U.cell? ⟨w4.heap.size, 1, none⟩ = some (.slice (some ⟨x02, 0, none⟩) n2 n2) ∧ U.cell? ⟨w4.heap.size, 2, none⟩ = some (.slice (some ⟨x03, 0, none⟩) n3 n3) ∧ U.cell? ⟨w.heap.size, 0, none⟩ = some (.slice A1 n1 c1) ∧ U.cell? ⟨w.heap.size, 1, none⟩ = some (.slice A2 n2 c2) ∧ U.cell? ⟨w.heap.size, 2, none⟩ = some (.slice A3 n3 c3) ∧ Bel w7 U)
      (first | go_keep | (go_split_ands; (refine ⟨?_, ?_, ?_, ?_, ?_, ?_, ?_⟩ <;> first | assumption | exact Bel.step (by assumption) hbt8 | exact Bel.step (by assumption) hbt9 | exact (Bel.at_ (by assumption) hbt8 (by assumption)).trans (by assumption) | exact (Bel.at_ (by assumption) hbt9 (by assumption)).trans (by assumption))))
      (first
        | (go_at_call 8
           go_split_ands
           refine (toPl A1 A2 A3 n1 c1 n2 c2 n3 c3 ss fs ls _ HN1.out (HR1.out _ (Below.trans B7_W.out ((Bel.out (by assumption)).mono B7_W.out.size))) hsm1 HN2.out (HR2.out _ (Below.trans B7_W.out ((Bel.out (by assumption)).mono B7_W.out.size))) hsm2 HN3.out (HR3.out _ (Below.trans B7_W.out ((Bel.out (by assumption)).mono B7_W.out.size))) (HRI3.out _ (Below.trans B7_W.out ((Bel.out (by assumption)).mono B7_W.out.size))) hsm3).mono ?_
           rintro e t8 ⟨y91, y92, y93, ysy9, rfl, hoy91, hoy92, hgy9, hdy9, hTy9, hbt8⟩
           have Sy91 := Lib.hid (Rd.ofOwnK hoy91)
           have Sy92 := Lib.hid (Rd.ofOwnK hoy92)
           have Dy9 := Lib.hid hdy9; have STy9 := Lib.hid hTy9; clear hdy9 hTy9
           clear hoy91 hoy92 hgy9)
        | (go_at_call 10
           go_split_ands
           refine (eqPl x01 x02 x03 y91 y92 y93 n1 n2 n3 ss fs ysx0 ysy9 t8 HN1.out hsm1 HN2.out hsm2 (Rx01.out _ (Below.trans B7_w4.out ((Bel.out (by assumption)).mono B7_w4.out.size))) (Sy91.out) (Rx02.out _ (Below.trans B7_w4.out ((Bel.out (by assumption)).mono B7_w4.out.size))) (Sy92.out) (Tx0.out _ (Below.trans B7_w4.out ((Bel.out (by assumption)).mono B7_w4.out.size))) (STy9.out) (Dx0.out.trans Dy9.out.symm) hsm3).mono ?_
           rintro e t9 ⟨rfl, hbt9⟩))
    all_goals
      go_split_ands
      have hbl : Bel w7 t9 := by assumption
      go_wp2_with fail
      go_meet
      exact ⟨rfl, hbl⟩
  case rest =>
  clear hbd hgx hgw ka0_0 ka0_1 ka0_2 kx0_0 kx0_1 kx0_2
  revert hcut; generalize wc = wc1; intro hcut
  obtain ⟨hs_, hbl⟩ := hcut
  subst hs_
  have Ewc1_W := Lib.hid (B7_W.out.trans ((Bel.out hbl).mono B7_W.out.size))
  have Ewc1_VGs := Lib.hid (B7_VGs.out.trans ((Bel.out hbl).mono B7_VGs.out.size))
  have Ewc1_w4 := Lib.hid (B7_w4.out.trans ((Bel.out hbl).mono B7_w4.out.size))
  have Ewc1_V0 := Lib.hid (B7_V0.out.trans ((Bel.out hbl).mono B7_V0.out.size))
  have Ewc1_w5 := Lib.hid (B7_w5.out.trans ((Bel.out hbl).mono B7_w5.out.size))
  have Ewc1_VGx := Lib.hid (B7_VGx.out.trans ((Bel.out hbl).mono B7_VGx.out.size))
  clear hbl
  have HG1_0 := Lib.hid (ownB HO1x.out Ewc1_w5.out)
  have HG2_0 := Lib.hid (ownB HO2x.out Ewc1_w5.out)
  have HG4_0 := Lib.hid (ownB HO4x.out Ewc1_w5.out)
  have HG3_0 := Lib.hid (HO3x.out.moved Ewc1_w5.out)
  have HGB_0 := Lib.hid (ownB HGBX.out Ewc1_VGx.out)
  have kx0_0 := HX0_0.out _ Ewc1_V0.out
  have kx0_1 := HX0_1.out _ Ewc1_V0.out
  have kx0_2 := HX0_2.out _ Ewc1_V0.out
  go_wp2_with fail
  clear kx0_0 kx0_1 kx0_2
  refine (markPl wc1 (ownB Ox01.out Ewc1_w4.out) hsm1 (ownB Ox02.out Ewc1_w4.out) hsm2 (Tx0.out _ Ewc1_w4.out) hsm3 (Ox01.out.lt x01 rfl).2 (Ox02.out.lt x02 rfl).2 LIEx0.out.1.2 (fun y hy q e => (LIEx0.out.2 y hy q e).2)).mono ?_
  rintro e w10 ⟨k0, rfl, hk0a, hk0b, hoff⟩
  have Fw10_W := Lib.hid (Ewc1_W.out.trans (hoff.below (B := W.heap.size) Ewc1_W.out.size (fun b h => by have hpw := WPW.out; have := HBqx.out; have := HQTx0.out; have h2 : VGs.heap.size ≤ b ∧ b < w4.heap.size := h; omega)))
  have Fw10_VGs := Lib.hid (Ewc1_VGs.out.trans (hoff.below (B := VGs.heap.size) Ewc1_VGs.out.size (fun b h => by have hpw := Nat.le_refl VGs.heap.size; have := HBqx.out; have := HQTx0.out; have h2 : VGs.heap.size ≤ b ∧ b < w4.heap.size := h; omega)))
  have HG1_1 := Lib.hid (own_off HG1_0.out hoff (fun b h => by have := HBqx.out; have := HQTx0.out; have h2 : VGs.heap.size ≤ b ∧ b < w4.heap.size := h; omega))
  have HG2_1 := Lib.hid (own_off HG2_0.out hoff (fun b h => by have := HBqx.out; have := HQTx0.out; have h2 : VGs.heap.size ≤ b ∧ b < w4.heap.size := h; omega))
  have HG4_1 := Lib.hid (own_off HG4_0.out hoff (fun b h => by have := HBqx.out; have := HQTx0.out; have h2 : VGs.heap.size ≤ b ∧ b < w4.heap.size := h; omega))
  have HGB_1 := Lib.hid (own_off HGB_0.out hoff (fun b h => by have := HBqx.out; have := HQTx0.out; have h2 : VGs.heap.size ≤ b ∧ b < w4.heap.size := h; omega))
  have HG3_1 := Lib.hid (HG3_0.out.offB hoff (fun b h => by have := HBqx.out; have := HQTx0.out; have h2 : VGs.heap.size ≤ b ∧ b < w4.heap.size := h; omega))
  have Zw10 := Lib.hid (Below.refl w10.heap.size w10)
  clear hoff
  have hkn : decide (k0 < 0) = false := decide_eq_false (by omega)
  obtain ⟨sx0, sx1, sx2, sx3⟩ := HKWs.out _ Fw10_VGs.out
  have gx0 := HGB_1.out.cellAt 0 (by omega)
  have gx1 := HGB_1.out.cellAt 1 (by omega)
  have gx2 := HGB_1.out.cellAt 2 (by omega)
  simp only [List.getElem?_cons_zero, List.getElem?_cons_succ] at gx0 gx1 gx2
  have gx3 := (HGB_1.out.lt w5.heap.size rfl).2
  go_wp2_with fail
  clear sx0 sx1 sx2 sx3 gx0 gx1 gx2 gx3
  refine (eqPlR _ _ _ _ _ _ N1x N2x N3x _ _ _ _ _ _ LS LF zsx zss w10 HE1x.out.symm hN1x HE2x.out.symm hN2x hN3x (rdOwnA HG1_1.out) (HRR1s.out _ Fw10_VGs.out) (rdOwnA HG2_1.out) (HRR2s.out _ Fw10_VGs.out) (HG3_1.out.toR) (HRR3s.out _ Fw10_VGs.out) (HDx.out.trans HDs.out.symm)).mono ?_
  rintro e w11 ⟨rfl, hb11⟩
  have B11_W := Lib.hid (Fw10_W.out.trans (hb11.mono Fw10_W.out.size))
  have B11_VGs := Lib.hid (Fw10_VGs.out.trans (hb11.mono Fw10_VGs.out.size))
  have B11_w10 := Lib.hid (Zw10.out.trans (hb11.mono Zw10.out.size))
  have HLAST11 := Lib.hid hb11
  clear hb11
  go_wp2_with fail
  refine (eqInts _ _ N4x _ _ LO w11 HE4x.out.symm (rdOwnA (ownB HG4_1.out B11_w10.out)) (HRR4s.out _ B11_VGs.out) hN4x).mono ?_
  rintro e w12 ⟨rfl, hb12⟩
  have B12_W := Lib.hid (B11_W.out.trans (hb12.mono B11_W.out.size))
  have B12_VGs := Lib.hid (B11_VGs.out.trans (hb12.mono B11_VGs.out.size))
  have B12_w10 := Lib.hid (B11_w10.out.trans (hb12.mono B11_w10.out.size))
  have HLAST12 := Lib.hid hb12
  clear hb12
  have HGA1 := Lib.hid (ownB HG1_1.out B12_w10.out)
  have HGA2 := Lib.hid (ownB HG2_1.out B12_w10.out)
  have HGA4 := Lib.hid (ownB HG4_1.out B12_w10.out)
  have HGAB := Lib.hid (ownB HGB_1.out B12_w10.out)
  have HGA3 := Lib.hid (HG3_1.out.moved B12_w10.out)
  have htot := plTot (N1 := N1x) (N2 := N2x) HGA3.out HDx.out (by exact HLE.out) (by have := HE3x.out; have := HLN3.out; omega) hN1x hN2x
  have HTOT := Lib.hid htot; clear htot
  obtain ⟨K1, hK1⟩ : ∃ K, mAt (1 + N1x + 4 * N2x) zsx N3x = K := ⟨_, rfl⟩
  have HK1 := Lib.hid hK1
  have hK1b : 1 ≤ K1 ∧ K1 ≤ 90000000 := ⟨by rw [← hK1]; exact Nat.le_trans (by omega) (mAt_base _ _ _), by rw [← hK1]; exact HTOT.out⟩
  clear hK1
  obtain ⟨K2, hK2⟩ : ∃ K, K1 + N4x = K := ⟨_, rfl⟩
  have HK2 := Lib.hid hK2
  clear hK2
  have hK2n : ¬ ((K2 : Int) < 0) := by omega
  have hK2d : decide ((K2 : Int) < 0) = false := decide_eq_false hK2n
  have hK1n : ¬ ((K1 : Int) < 0) := by omega
  have hK1d : decide ((K1 : Int) < 0) = false := decide_eq_false hK1n
  have gx0 := HGAB.out.cellAt 0 (by omega)
  have gx1 := HGAB.out.cellAt 1 (by omega)
  have gx2 := HGAB.out.cellAt 2 (by omega)
  simp only [List.getElem?_cons_zero, List.getElem?_cons_succ] at gx0 gx1 gx2
  have gx3 := (HGAB.out.lt w5.heap.size rfl).2
  go_wp2_with fail
  clear gx0 gx1 gx2 gx3
  refine (markPlV A1x A2x A3x N1x N2x N3x d1x d2x d3x LS LF zsx w12 HGA1.out hN1x HGA2.out hN2x HGA3.out hN3x HTOT.out).mono ?_
  rw [HK1.out]
  rintro e w13 ⟨rfl, hoff9, ho91, ho92, hc93⟩
  have Gw13_W := Lib.hid (B12_W.out.trans (hoff9.below (B := W.heap.size) B12_W.out.size (fun b h => by have := WPW.out; have := PWV.out; have h2 : V0.heap.size ≤ b := Nat.le_trans HBqx.out (by rcases h with (h | h) | h; exact (HGA1.out.lt b h).1; exact (HGA2.out.lt b h).1; exact HGA3.out.blGe h); omega)))
  have Gw13_VGs := Lib.hid (B12_VGs.out.trans (hoff9.below (B := VGs.heap.size) B12_VGs.out.size (fun b h => by have := WPW.out; have := PWV.out; have h2 : V0.heap.size ≤ b := Nat.le_trans HBqx.out (by rcases h with (h | h) | h; exact (HGA1.out.lt b h).1; exact (HGA2.out.lt b h).1; exact HGA3.out.blGe h); omega)))
  have HM1 := Lib.hid ho91; have HM2 := Lib.hid ho92; have HM3 := Lib.hid hc93
  have HMB := Lib.hid (own_offV HGAB.out hoff9 (fun g h1 h2 => by rcases h2 with (h2 | h2) | h2; exact own_type_apart HGAB.out HGA1.out (by decide) g h1 h2; exact own_type_apart HGAB.out HGA2.out (by decide) g h1 h2; exact lt_apart HGA3.out HGAB.out (by decide) (by decide) g h1 h2))
  have HM4 := Lib.hid (own_offV HGA4.out hoff9 (fun g h1 h2 => by rcases h2 with (h2 | h2) | h2; exact own_type_apart HGA4.out HGA1.out (by decide) g h1 h2; exact own_type_apart HGA4.out HGA2.out (by decide) g h1 h2; exact absurd (HGA3.out.blGe h2) (by have := HLtx.out g h1; omega)))
  clear hoff9 ho91 ho92 hc93
  go_wp2_with fail
  refine (markIntA9 A4x N4x d4x K1 LO w13 HM4.out hN4x hK1b.1 (by omega)).mono ?_
  rw [HK2.out]
  rintro e w14 ⟨rfl, hoff9, ho93⟩
  have Gw14_W := Lib.hid (Gw13_W.out.trans (hoff9.below (B := W.heap.size) Gw13_W.out.size (fun b h => by have := WPW.out; have := PWV.out; have h2 : V0.heap.size ≤ b := (HM4.out.lt b h).1; omega)))
  have Gw14_VGs := Lib.hid (Gw13_VGs.out.trans (hoff9.below (B := VGs.heap.size) Gw13_VGs.out.size (fun b h => by have := WPW.out; have := PWV.out; have h2 : V0.heap.size ≤ b := (HM4.out.lt b h).1; omega)))
  have HP4 := Lib.hid ho93
  have HP1 := Lib.hid (own_offV HM1.out hoff9 (fun g h1 h2 => own_type_apart HM1.out HM4.out (by decide) g h1 h2))
  have HP2 := Lib.hid (own_offV HM2.out hoff9 (fun g h1 h2 => own_type_apart HM2.out HM4.out (by decide) g h1 h2))
  have HPB := Lib.hid (own_offV HMB.out hoff9 (fun g h1 h2 => own_type_apart HMB.out HM4.out (by decide) g h1 h2))
  have HP3 := Lib.hid (HM3.out.offB hoff9 (fun b hb => HLtx.out b hb))
  clear hoff9 ho93
  have Zw14 := Lib.hid (Below.refl w14.heap.size w14)
  have HN3Z : Hid (zsx.length = N3x) := Lib.hid HGA3.out.len
  have HPBc := Lib.hid (HPB.out)
  have gx0 := HPBc.out.cellAt 0 (by omega)
  have gx1 := HPBc.out.cellAt 1 (by omega)
  have gx2 := HPBc.out.cellAt 2 (by omega)
  simp only [List.getElem?_cons_zero, List.getElem?_cons_succ] at gx0 gx1 gx2
  have gx3 := (HPBc.out.lt w5.heap.size rfl).2
  go_wp2_with fail
  clear HPBc gx0 gx1 gx2 gx3
  refine (heldPlV A1x A2x A3x N1x N2x N3x d1x d2x d3x zsx w14 HN3Z.out (rdOwnA (HP1.out)) hN1x (rdOwnA (HP2.out)) hN2x (HP3.out.toR) hN3x HTOT.out).mono ?_
  rw [HK1.out]
  rintro e w15 ⟨rfl, hb15⟩
  have B15_W := Lib.hid (Gw14_W.out.trans (hb15.mono Gw14_W.out.size))
  have B15_VGs := Lib.hid (Gw14_VGs.out.trans (hb15.mono Gw14_VGs.out.size))
  have B15_w14 := Lib.hid (Zw14.out.trans (hb15.mono Zw14.out.size))
  have HLAST15 := Lib.hid hb15
  clear hb15
  go_wp2_with fail
  refine (heldInt9 A4x N4x d4x K1 w15 (rdOwnA (ownB HP4.out B15_w14.out)) hN4x (by omega)).mono ?_
  rw [HK2.out]
  rintro e w' ⟨rfl, rfl⟩
  have ka0_0 := HK0_0.out _ B15_W.out
  have ka0_1 := HK0_1.out _ B15_W.out
  have ka0_2 := HK0_2.out _ B15_W.out
  go_wp2_with fail
  clear ka0_0 ka0_1 ka0_2
  refine (toPl A1 A2 A3 n1 c1 n2 c2 n3 c3 ss fs ls w15 HN1.out (HR1.out _ B15_W.out) hsm1 HN2.out (HR2.out _ B15_W.out) hsm2 HN3.out (HR3.out _ B15_W.out) (HRI3.out _ B15_W.out) hsm3).mono ?_
  rintro e w16 ⟨h01, h02, h03, ysh0, rfl, hoh01, hoh02, hgh0, hdh0, hTh0, hb16⟩
  have B16_W := Lib.hid (B15_W.out.trans (hb16.mono B15_W.out.size))
  have B16_VGs := Lib.hid (B15_VGs.out.trans (hb16.mono B15_VGs.out.size))
  have B16_w14 := Lib.hid (B15_w14.out.trans (hb16.mono B15_w14.out.size))
  have HLAST16 := Lib.hid hb16
  clear hb16
  have Oh01 := Lib.hid hoh01
  have Rh01 : Hid (∀ V, Below w16.heap.size w16 V → Rd V V.heap.size (some ⟨h01, 0, none⟩) (ss.map Value.string)) := Lib.hid fun V hV => (Rd.ofOwnK hoh01).moved hV
  have Oh02 := Lib.hid hoh02
  have Rh02 : Hid (∀ V, Below w16.heap.size w16 V → Rd V V.heap.size (some ⟨h02, 0, none⟩) (fs.flatMap Q4.cells)) := Lib.hid fun V hV => (Rd.ofOwnK hoh02).moved hV
  clear hoh01 hoh02
  have Dh0 := Lib.hid hdh0
  have Th0 : Hid (∀ V, Below w16.heap.size w16 V → Lts w15.heap.size h03 n3 ysh0 V) := Lib.hid fun V hV => hTh0.moved hV
  clear hdh0 hTh0 hgh0
  have Zw16 := Lib.hid (Below.refl w16.heap.size w16)
  go_wp2_with fail
  refine (implDGA ⟨HN1.out, hsm1, Nat.le_refl _, Rh01.out _ Zw16.out, HWS.out, HN2.out, hsm2, Rh02.out _ Zw16.out⟩ (Th0.out _ Zw16.out) Dh0.out hsm3 y x (HTAB.out _ B16_W.out)).mono ?_
  rw [HL1.out, HL2.out, HL3.out, HL4.out, HB.out]
  rintro e w17 ⟨A1h, A2h, A3h, A4h, N1h, N2h, N3h, N4h, d1h, d2h, d3h, d4h, zsh, Bqh, rfl, HE1h, HE2h, HE3h, HE4h, HDh, HBqh, ho1h, ho2h, hch, ho4h, HLth, hb17⟩
  have B17_W := Lib.hid (B16_W.out.trans (hb17.mono B16_W.out.size))
  have B17_VGs := Lib.hid (B16_VGs.out.trans (hb17.mono B16_VGs.out.size))
  have B17_w14 := Lib.hid (B16_w14.out.trans (hb17.mono B16_w14.out.size))
  have B17_w16 := Lib.hid (Zw16.out.trans (hb17.mono Zw16.out.size))
  have HLAST17 := Lib.hid hb17
  clear hb17
  have HO1h := Lib.hid ho1h; clear ho1h
  have HO2h := Lib.hid ho2h; clear ho2h
  have HO4h := Lib.hid ho4h; clear ho4h
  have HO3h := Lib.hid hch; clear hch
  have hN1h : N1h ≤ 1048576 := by have := HE1h.out; have := HLN1.out; omega
  have hN2h : N2h ≤ 1048576 := by have := HE2h.out; have := HLN2.out; omega
  have hN3h : N3h ≤ 1048576 := by have := HE3h.out; have := HLN3.out; omega
  have hN4h : N4h ≤ 1048576 := by have := HE4h.out; have := HLN4.out; omega
  have Zw17 := Lib.hid (Below.refl w17.heap.size w17)
  obtain rfl : N1h = N1x := HE1h.out.trans HE1x.out.symm
  obtain rfl : N2h = N2x := HE2h.out.trans HE2x.out.symm
  obtain rfl : N3h = N3x := HE3h.out.trans HE3x.out.symm
  obtain rfl : N4h = N4x := HE4h.out.trans HE4x.out.symm
  obtain ⟨sx0, sx1, sx2, sx3⟩ := HKWs.out _ B17_VGs.out
  go_wp2_with fail
  clear sx0 sx1 sx2 sx3
  obtain ⟨VGh, hVGh⟩ : ∃ V, (w17.alloc (Obj.cells #[.slice A1h N1h d1h, .slice A2h N2h d2h, .slice A3h N3h d3h] 35)) = V := ⟨_, rfl⟩
  have hx0 : VGh.cell? ⟨w17.heap.size, 0, none⟩ = some (.slice A1h N1h d1h) := by rw [← hVGh]; simp [go_sem]
  have hx1 : VGh.cell? ⟨w17.heap.size, 1, none⟩ = some (.slice A2h N2h d2h) := by rw [← hVGh]; simp [go_sem]
  have hx2 : VGh.cell? ⟨w17.heap.size, 2, none⟩ = some (.slice A3h N3h d3h) := by rw [← hVGh]; simp [go_sem]
  have hzv : w17.heap.size < VGh.heap.size := by rw [← hVGh]; simp
  have hbv : Below w17.heap.size w17 VGh := by rw [← hVGh]; exact (Below.refl _ _).alloc (Nat.le_refl _) _
  rw [hVGh]
  clear hVGh
  have CVGh_W := Lib.hid (B17_W.out.trans (hbv.mono B17_W.out.size))
  have CVGh_VGs := Lib.hid (B17_VGs.out.trans (hbv.mono B17_VGs.out.size))
  have CVGh_w14 := Lib.hid (B17_w14.out.trans (hbv.mono B17_w14.out.size))
  have CVGh_w16 := Lib.hid (B17_w16.out.trans (hbv.mono B17_w16.out.size))
  have CVGh_w17 := Lib.hid (Zw17.out.trans (hbv.mono Zw17.out.size))
  have HKWh : Hid (∀ U, Below VGh.heap.size VGh U → U.cell? ⟨w17.heap.size, 0, none⟩ = some (.slice A1h N1h d1h) ∧ U.cell? ⟨w17.heap.size, 1, none⟩ = some (.slice A2h N2h d2h) ∧ U.cell? ⟨w17.heap.size, 2, none⟩ = some (.slice A3h N3h d3h) ∧ w17.heap.size < U.heap.size) := Lib.hid fun U hU => ⟨(hU.cell (p := ⟨_, _, none⟩) hzv).trans hx0, (hU.cell (p := ⟨_, _, none⟩) hzv).trans hx1, (hU.cell (p := ⟨_, _, none⟩) hzv).trans hx2, Nat.lt_of_lt_of_le hzv hU.size⟩
  have HRR1h : Hid (∀ U, Below VGh.heap.size VGh U → Rd U U.heap.size A1h (LS.map Value.string)) := Lib.hid fun U hU => (rdOwnA (ownB HO1h.out hbv)).moved hU
  have HRR2h : Hid (∀ U, Below VGh.heap.size VGh U → Rd U U.heap.size A2h (LF.flatMap Q4.cells)) := Lib.hid fun U hU => (rdOwnA (ownB HO2h.out hbv)).moved hU
  have HRR4h : Hid (∀ U, Below VGh.heap.size VGh U → Rd U U.heap.size A4h (LO.map (Value.int .i64))) := Lib.hid fun U hU => (rdOwnA (ownB HO4h.out hbv)).moved hU
  have HRR3h : Hid (∀ U, Below VGh.heap.size VGh U → LtR A3h N3h zsh U) := Lib.hid fun U hU => ((HO3h.out.moved hbv).moved hU).toR
  have ZVGh := Lib.hid (Below.refl VGh.heap.size VGh)
  clear hx0 hx1 hx2 hzv hbv
  refine (eqPlR _ _ _ _ _ _ N1h N2h N3h _ _ _ _ _ _ LS LF zsh zss VGh HE1h.out.symm hN1h HE2h.out.symm hN2h hN3h (HRR1h.out _ ZVGh.out) (HRR1s.out _ CVGh_VGs.out) (HRR2h.out _ ZVGh.out) (HRR2s.out _ CVGh_VGs.out) (HRR3h.out _ ZVGh.out) (HRR3s.out _ CVGh_VGs.out) (HDh.out.trans HDs.out.symm)).mono ?_
  rintro e w18 ⟨rfl, hb18⟩
  have B18_W := Lib.hid (CVGh_W.out.trans (hb18.mono CVGh_W.out.size))
  have B18_VGs := Lib.hid (CVGh_VGs.out.trans (hb18.mono CVGh_VGs.out.size))
  have B18_w14 := Lib.hid (CVGh_w14.out.trans (hb18.mono CVGh_w14.out.size))
  have B18_w16 := Lib.hid (CVGh_w16.out.trans (hb18.mono CVGh_w16.out.size))
  have B18_w17 := Lib.hid (CVGh_w17.out.trans (hb18.mono CVGh_w17.out.size))
  have B18_VGh := Lib.hid (ZVGh.out.trans (hb18.mono ZVGh.out.size))
  have HLAST18 := Lib.hid hb18
  clear hb18
  go_wp2_with fail
  refine (eqInts _ _ N4h _ _ LO w18 HE4h.out.symm (HRR4h.out _ B18_VGh.out) (HRR4s.out _ B18_VGs.out) hN4h).mono ?_
  rintro e w19 ⟨rfl, hb19⟩
  have B19_W := Lib.hid (B18_W.out.trans (hb19.mono B18_W.out.size))
  have B19_VGs := Lib.hid (B18_VGs.out.trans (hb19.mono B18_VGs.out.size))
  have B19_w14 := Lib.hid (B18_w14.out.trans (hb19.mono B18_w14.out.size))
  have B19_w16 := Lib.hid (B18_w16.out.trans (hb19.mono B18_w16.out.size))
  have B19_w17 := Lib.hid (B18_w17.out.trans (hb19.mono B18_w17.out.size))
  have B19_VGh := Lib.hid (B18_VGh.out.trans (hb19.mono B18_VGh.out.size))
  have HLAST19 := Lib.hid hb19
  clear hb19
  have HPBc := Lib.hid (ownB HPB.out B19_w14.out)
  have gx0 := HPBc.out.cellAt 0 (by omega)
  have gx1 := HPBc.out.cellAt 1 (by omega)
  have gx2 := HPBc.out.cellAt 2 (by omega)
  simp only [List.getElem?_cons_zero, List.getElem?_cons_succ] at gx0 gx1 gx2
  have gx3 := (HPBc.out.lt w5.heap.size rfl).2
  go_wp2_with fail
  clear HPBc gx0 gx1 gx2 gx3
  refine (heldPlV A1x A2x A3x N1h N2h N3h d1x d2x d3x zsx w19 HN3Z.out (rdOwnA (ownB HP1.out B19_w14.out)) hN1x (rdOwnA (ownB HP2.out B19_w14.out)) hN2x ((HP3.out.moved B19_w14.out).toR) hN3x HTOT.out).mono ?_
  rw [HK1.out]
  rintro e w20 ⟨rfl, hb20⟩
  have B20_W := Lib.hid (B19_W.out.trans (hb20.mono B19_W.out.size))
  have B20_VGs := Lib.hid (B19_VGs.out.trans (hb20.mono B19_VGs.out.size))
  have B20_w14 := Lib.hid (B19_w14.out.trans (hb20.mono B19_w14.out.size))
  have B20_w16 := Lib.hid (B19_w16.out.trans (hb20.mono B19_w16.out.size))
  have B20_w17 := Lib.hid (B19_w17.out.trans (hb20.mono B19_w17.out.size))
  have B20_VGh := Lib.hid (B19_VGh.out.trans (hb20.mono B19_VGh.out.size))
  have HLAST20 := Lib.hid hb20
  clear hb20
  go_wp2_with fail
  refine (heldInt9 A4x N4h d4x K1 w20 (rdOwnA (ownB HP4.out B20_w14.out)) hN4x (by omega)).mono ?_
  rw [HK2.out]
  rintro e w' ⟨rfl, rfl⟩
  go_wp2
  go_ret
  exact ⟨rfl, HBW.out.trans (B20_W.out.mono HBW.out.size)⟩


theorem own : ownKnob Tryz.prog.godebug = none := by kernel_rfl
theorem laidOut : laidOutB Tryz.prog = true := by kernel_rfl

theorem tTab : (Tryz.prog.globals[2]?).map (·.type) = some 179 := by kernel_rfl
theorem cTab : Tryz.prog.cellsOf 179 = 64 := by kernel_rfl
theorem cU8 : Tryz.prog.cellsOf 5 = 1 := by kernel_rfl
theorem pow_of_laid {W : World} (h : laidMetH Tryz.prog Rows.fnExactDefragmentRow.laid W) : Tab W := by
  have h3 : laidMetH Tryz.prog (Rows.fnExactDefragmentRow.laid.filter fun x => x.1 == "math/bits.deBruijn64tab") W := h.filter _
  have e : (Rows.fnExactDefragmentRow.laid.filter fun x => x.1 == "math/bits.deBruijn64tab") = [("math/bits.deBruijn64tab", Lib.tabData .u8 tzTab)] := by kernel_rfl
  rw [e, MakeChecks.laidMetH_plain _ _ _ (by kernel_rfl)] at h3
  exact Lib.tabIs_of_head tabAt tTab Tryz.underlying179 Tryz.underlying5 cU8 cTab h3

theorem door_met (os : Os) (args : Array Value) : laidMetH Tryz.prog Rows.fnExactDefragmentRow.laid ((World.doorLaid Tryz.prog 38 os).forCall (fun _ _ => 0) ⟨#[], args, []⟩).memory :=
  laidMetH_of_parts3 (fuel := 8) (laidMet_of_run' 8 (by kernel_rfl) (by kernel_rfl)) (by kernel_rfl) (by kernel_rfl)

set_option maxRecDepth 100000 in
theorem lifted (os : Os) (started : os.Started) (H : Type) (enc : TypeId × Value → H) :
    ReturnsInHanded {} Tryz.checked os 4 .any (fun w args => (Rows.fnExactDefragmentSpec.pre enc Tryz.prog Tryz.f4 [] false w args ∧ laidMetH Tryz.prog Rows.fnExactDefragmentRow.laid w) ∧ sizedMet enc Tryz.prog Tryz.f4 (OpenSpec.ofChange Rows.fnExactDefragmentSpec) false w args)
      (Rows.fnExactDefragmentSpec.post enc Tryz.prog Tryz.f4 false true false false) := by
  refine returnsInHanded_of_change_and (C := Tryz.checked) (X := fun w _ => laidMetH Tryz.prog Rows.fnExactDefragmentRow.laid w) (fun _ _ _ hh h => h.of_heap hh) own started (by kernel_rfl) Tryz.func4
    (ChangeSpec.witness_shaped (enc := enc) (C := Tryz.checked) (os := os) (X := fun w _ => laidMetH Tryz.prog Rows.fnExactDefragmentRow.laid w) false (World.doorLaid Tryz.prog 38 os) #[.agg #[.slice none 0 0, .slice none 0 0, .slice none 0 0], .bool false, .int .i64 0] 8 rfl (World.shaped_of_RefB (by kernel_rfl) (by kernel_rfl)) (by kernel_rfl) (by kernel_rfl) (by kernel_rfl) (door_met os _)) ?_
  intro W base args ds gs before hval0 hW _ hsz0 hL _
  have hval : ∀ (j : Nat) t v, Tryz.f4.params[j]? = some t → args[j]? = some v → Value.okWide Tryz.prog W .any base t v := hval0
  have hsz : (DataW.weightsEach Tryz.prog (Tryz.f4.params.toList ++ Rows.fnExactDefragmentSpec.plain.varTypes Tryz.prog) (ds ++ gs)).all (· ≤ reachBytes) = true := hsz0
  have hpow := pow_of_laid hL
  have hW' := hW
  obtain ⟨p, q, hA0, hV, rfl, hfz, hnd⟩ := hW
  have hA : DataW.TrodAll enc Tryz.prog W 0 (fun _ => true) true Tryz.f4.params.toList args.toList ds p := hA0
  rw [Tryz.params4] at hA hval hsz
  obtain ⟨v0, vs0, d0, ds0, p0, q0, hargs, rfl, rfl, h0, r0⟩ := trodAll_cons hA
  obtain ⟨v1, vs1, d1, ds1, p1, q1, rfl, rfl, rfl, h1, r1⟩ := trodAll_cons r0
  obtain ⟨v2, vs2, d2, ds2, p2, q2, rfl, rfl, rfl, h2, r2⟩ := trodAll_cons r1
  obtain ⟨rfl, rfl, rfl⟩ := trodAll_nil r2
  obtain rfl : args = #[v0, v1, v2] := by cases args; simp_all
  obtain ⟨rfl, rfl⟩ := trodVars_none hV
  simp only [List.append_nil] at hW'
  have hlt0 : ∀ x ∈ p0, x.block < W.heap.size := fun x hx => by simpa using hW'.lt x (by simp [hx])
  have hlt1 : ∀ x ∈ p1, x.block < W.heap.size := fun x hx => by simpa using hW'.lt x (by simp [hx])
  have hlt2 : ∀ x ∈ p2, x.block < W.heap.size := fun x hx => by simpa using hW'.lt x (by simp [hx])
  have fin : ∀ W' : World, Below W.heap.size W W' → Rows.fnExactDefragmentSpec.post enc Tryz.checked.prog Tryz.f4 false true false false W #[v0, v1, v2] (.bool true) W' := by
    intro W' hb
    refine ⟨_, _, _, [] ++ [], (p0 ++ (p1 ++ (p2 ++ []))), [], hW', ?_, ?_, rfl, hb.frame _, fun h => by cases h⟩
    · exact trodAll_mk1 (shut_bool Tryz.underlying4 true)
    · exact trodAll_cons_mk (Below.trod laidOut (by kernel_rfl) (of_decide_eq_true (by kernel_rfl)) h0 hb hlt0) (trodAll_cons_mk (Below.trod laidOut (by kernel_rfl) (of_decide_eq_true (by kernel_rfl)) h1 hb hlt1) (trodAll_cons_mk (Below.trod laidOut (by kernel_rfl) (of_decide_eq_true (by kernel_rfl)) h2 hb hlt2) (trodAll_mk0)))
  clear hW' hV hA0
  obtain ⟨A0, n0, c0, s0, B0, m0, k0, z0, C0, o0, l0, x0, rfl, ⟨ha0, hb0, hc0, hd0⟩, ⟨he0, hf0, hg0, hh0⟩, ⟨hi0, hj0, hk0, hl0⟩⟩ := open_plan (hval 0 28 v0 rfl rfl) h0
  obtain ⟨a1, rfl, _, _⟩ := open_bool Tryz.underlying4 (hval 1 4 v1 rfl rfl) h1
  obtain ⟨a2, rfl, _, _, w2⟩ := open_int Tryz.underlying3 (hval 2 3 v2 rfl rfl) h2
  exact (walk A0 n0 c0 s0 B0 m0 k0 z0 C0 o0 l0 x0 a1 a2 W ha0 hb0 hc0 hd0 he0 hf0 hg0 hh0 hi0 hj0 hk0 hl0 w2 hpow).mono fun e W' ⟨he, hb⟩ => ⟨_, he, fin W' hb⟩

theorem closed : joinedFacts Tryz.prog 4 Tryz.f4 Rows.fnExactDefragmentSpec Rows.fnExactDefragmentRow = true := by
  unfold joinedFacts
  rw [jn_mk, jn_li, jn_en]
  kernel_rfl
theorem over : Rows.fnExactDefragmentRow.holds Tryz.pinned (OpenSpec.ofChange Rows.fnExactDefragmentSpec) :=
  OpenClaim.holds_of_wide 4 Tryz.f4 rfl rfl rfl rfl rfl rfl rfl ⟨rfl, rfl, rfl, rfl, rfl⟩ rfl rfl rfl rfl rfl (by kernel_rfl) Tryz.func4 closed
    (of_decide_eq_true (by kernel_rfl)) (by unfold Func.isWrapper; first | (rw [if_pos (by decide +kernel)]; kernel_rfl) | (rw [if_neg (by decide +kernel)]; exact ⟨rfl, rfl⟩))
    (fun os started H enc _ => lifted os started H enc)

/-- THE STATEMENT -/
theorem proved : Rows.FnExactDefragmentCardSaid :=
  Claim7.holds_tied_plain_at .later [] [.data, .data] true (true, "cbbea0c797d6075d2a13cd1fd6509eb64d1831ce7f3fc1117edcfe7308d916b7") false
    over (fun _ h => by cases h) (by kernel_rfl) (fun _ h => by cases h) fnExactDefragment_row_tie rfl ⟨rfl, rfl⟩ jn_main rfl
    (fun f fn hf hfn => by
      obtain rfl : f = 4 := Option.some.inj ((show Tryz.prog.funcNamed "loop.example/g00897/laws.FnExactDefragment" = some 4 by kernel_rfl).symm.trans hf) |>.symm
      obtain rfl : fn = Tryz.f4 := (Option.some.inj (Tryz.func4.symm.trans hfn)).symm
      exact ⟨by kernel_rfl, fun j t ht => by
        rw [Tryz.params4] at ht
        have hm : t ∈ [28, 4, 3] := by simpa using Array.mem_of_getElem? ht
        have hall : ([28, 4, 3].all fun u => !Tryz.prog.wantsStandIn u) = true := by kernel_rfl
        exact (show Tryz.prog.wantsStandIn t = false by simpa using List.all_eq_true.1 hall t hm)⟩)
    (by kernel_rfl)
end Go.Proofs.YtflniajjecfgeaaGreatDoor.fnExactDefragment
