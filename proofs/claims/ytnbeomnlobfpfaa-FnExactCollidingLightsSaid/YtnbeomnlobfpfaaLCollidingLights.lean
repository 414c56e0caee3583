/- Proved: at every argument impl.CollidingLights answers as spec.CollidingLights does, in memory of its own, and leaves its arguments alone (the law FnExactCollidingLights returns true). No condition. -/
import Derived.Test.YtnbeomnlobfpfaaRows
import Derived.Test.YtnbeomnlobfpfaaJn
import Derived.JoinedOf
import Derived.Test.YtnbeomnlobfpfaaGC
import Derived.Test.YtnbeomnlobfpfaaGB
import Derived.Test.YtnbeomnlobfpfaaClK
import Derived.Test.YtnbeomnlobfpfaaGA
import Derived.WalkKit
import Derived.ProofKit
import Derived.OpenShut
import Derived.ShutString
import Derived.SizedLaws
import Derived.Carry
namespace Go.Proofs.Ytnbeomnlobfpfaa.fnExactCollidingLights
open Go.ChangeShapes Go.WideShapes Go.ChangeAt Go.RowKit
open Go.ChangeMaps (open_string shut_string)

set_option maxRecDepth 100000 in
set_option maxHeartbeats 8000000 in
theorem walk (A1 : Option Addr) (n1 c1 : Nat) (ss : List ByteArray) (A2 : Option Addr) (n2 c2 : Nat) (fs : List Q4) (A3 : Option Addr) (n3 c3 : Nat) (ls : List Lt) (p0_1 p1_1 : Int) (Azx : Option Addr) (nzx czx : Nat) (zx : List Int) (q0_1 q1_1 : Int) (w : World) (hn1 : ss.length = n1) (hm1 : n1 ≤ maxLen) (hr1 : Rd w w.heap.size A1 (ss.map Value.string)) (hws : ∀ s ∈ ss, s.size ≤ maxLen) (hn2 : fs.length = n2) (hm2 : n2 ≤ maxLen) (hr2 : Rd w w.heap.size A2 (fs.flatMap Q4.cells)) (_hwf : ∀ q ∈ fs, q.wf) (hn3 : ls.length = n3) (hm3 : n3 ≤ maxLen) (hr3 : Rd w w.heap.size A3 (ls.flatMap Lt.cells)) (hi3 : ∀ x ∈ ls, LtIn w x) (hnzx : zx.length = nzx) (hmzx : nzx ≤ maxLen) (hrzx : Rd w w.heap.size Azx (zx.map (Value.int .i64))) :
    Calls Try.prog 7 #[.agg #[.slice A1 n1 c1, .slice A2 n2 c2, .slice A3 n3 c3], .agg #[.int .i64 p0_1, .int .i64 p1_1, .slice Azx nzx czx, .int .i64 q0_1, .int .i64 q1_1]] w fun e w' => e = .returned (.bool true) ∧ Below w.heap.size w w' := by
  have HN1 := Lib.hid hn1; have HN2 := Lib.hid hn2; have HWS := Lib.hid hws; have HN3 := Lib.hid hn3; clear hn1 hn2 hws _hwf hn3
  have HNzx := Lib.hid hnzx; clear hnzx
  go_enter Try.func7, Try.ntmps7
  go_wp2_with fail
  obtain ⟨W, hW⟩ : ∃ W, ((w.alloc (Obj.cells #[.slice A1 n1 c1, .slice A2 n2 c2, .slice A3 n3 c3] 28)).alloc (Obj.cells #[.int .i64 p0_1, .int .i64 p1_1, .slice Azx nzx czx, .int .i64 q0_1, .int .i64 q1_1] 82)) = W := ⟨_, rfl⟩
  have hk0_0 : W.cell? ⟨w.heap.size, 0, none⟩ = some (.slice A1 n1 c1) := by rw [← hW]; simp [go_sem]
  have hk0_1 : W.cell? ⟨w.heap.size, 1, none⟩ = some (.slice A2 n2 c2) := by rw [← hW]; simp [go_sem]
  have hk0_2 : W.cell? ⟨w.heap.size, 2, none⟩ = some (.slice A3 n3 c3) := by rw [← hW]; simp [go_sem]
  have hk1_0 : W.cell? ⟨w.heap.size + 1, 0, none⟩ = some (.int .i64 p0_1) := by rw [← hW]; simp [go_sem]
  have hk1_1 : W.cell? ⟨w.heap.size + 1, 1, none⟩ = some (.int .i64 p1_1) := by rw [← hW]; simp [go_sem]
  have hk1_2 : W.cell? ⟨w.heap.size + 1, 2, none⟩ = some (.slice Azx nzx czx) := by rw [← hW]; simp [go_sem]
  have hk1_3 : W.cell? ⟨w.heap.size + 1, 3, none⟩ = some (.int .i64 q0_1) := by rw [← hW]; simp [go_sem]
  have hk1_4 : W.cell? ⟨w.heap.size + 1, 4, none⟩ = some (.int .i64 q1_1) := by rw [← hW]; simp [go_sem]
  have hz : w.heap.size + 1 < W.heap.size := by rw [← hW]; simp
  have hbw : Below w.heap.size w W := by rw [← hW]; exact (((Below.refl w.heap.size w).alloc (Nat.le_refl _) _).alloc (by simp) _)
  have HBW := Lib.hid hbw
  rw [hW]
  clear hW
  have HR1 : Hid (∀ V, Below W.heap.size W V → Rd V V.heap.size A1 (ss.map Value.string)) := Lib.hid fun V hV => (hr1.moved hbw).moved hV
  clear hr1
  have HR2 : Hid (∀ V, Below W.heap.size W V → Rd V V.heap.size A2 (fs.flatMap Q4.cells)) := Lib.hid fun V hV => (hr2.moved hbw).moved hV
  clear hr2
  have HR3 : Hid (∀ V, Below W.heap.size W V → Rd V V.heap.size A3 (ls.flatMap Lt.cells)) := Lib.hid fun V hV => (hr3.moved hbw).moved hV
  clear hr3
  have HK0_0 : Hid (∀ V, Below W.heap.size W V → V.cell? ⟨w.heap.size, 0, none⟩ = some (.slice A1 n1 c1)) := Lib.hid fun V hV => (hV.cell (p := ⟨_, _, none⟩) (by show w.heap.size < _; omega)).trans hk0_0
  have HK0_1 : Hid (∀ V, Below W.heap.size W V → V.cell? ⟨w.heap.size, 1, none⟩ = some (.slice A2 n2 c2)) := Lib.hid fun V hV => (hV.cell (p := ⟨_, _, none⟩) (by show w.heap.size < _; omega)).trans hk0_1
  have HK0_2 : Hid (∀ V, Below W.heap.size W V → V.cell? ⟨w.heap.size, 2, none⟩ = some (.slice A3 n3 c3)) := Lib.hid fun V hV => (hV.cell (p := ⟨_, _, none⟩) (by show w.heap.size < _; omega)).trans hk0_2
  have HRzx : Hid (∀ V, Below W.heap.size W V → Rd V V.heap.size Azx (zx.map (Value.int .i64))) := Lib.hid fun V hV => (hrzx.moved hbw).moved hV
  clear hrzx
  have HK1_0 : Hid (∀ V, Below W.heap.size W V → V.cell? ⟨w.heap.size + 1, 0, none⟩ = some (.int .i64 p0_1)) := Lib.hid fun V hV => (hV.cell (p := ⟨_, _, none⟩) (by show w.heap.size + 1 < _; omega)).trans hk1_0
  have HK1_1 : Hid (∀ V, Below W.heap.size W V → V.cell? ⟨w.heap.size + 1, 1, none⟩ = some (.int .i64 p1_1)) := Lib.hid fun V hV => (hV.cell (p := ⟨_, _, none⟩) (by show w.heap.size + 1 < _; omega)).trans hk1_1
  have HK1_2 : Hid (∀ V, Below W.heap.size W V → V.cell? ⟨w.heap.size + 1, 2, none⟩ = some (.slice Azx nzx czx)) := Lib.hid fun V hV => (hV.cell (p := ⟨_, _, none⟩) (by show w.heap.size + 1 < _; omega)).trans hk1_2
  have HK1_3 : Hid (∀ V, Below W.heap.size W V → V.cell? ⟨w.heap.size + 1, 3, none⟩ = some (.int .i64 q0_1)) := Lib.hid fun V hV => (hV.cell (p := ⟨_, _, none⟩) (by show w.heap.size + 1 < _; omega)).trans hk1_3
  have HK1_4 : Hid (∀ V, Below W.heap.size W V → V.cell? ⟨w.heap.size + 1, 4, none⟩ = some (.int .i64 q1_1)) := Lib.hid fun V hV => (hV.cell (p := ⟨_, _, none⟩) (by show w.heap.size + 1 < _; omega)).trans hk1_4
  have HI3 : Hid (∀ V, Below W.heap.size W V → ∀ x ∈ ls, LtIn V x) := Lib.hid fun V hV x hx => ((hi3 x hx).moved hbw).moved hV
  clear hi3
  clear hk0_0 hk0_1 hk0_2
  clear hk1_0 hk1_1 hk1_2 hk1_3 hk1_4
  have HZ := Lib.hid hz
  clear hz hbw
  have B0 := Lib.hid (Below.refl W.heap.size W)
  refine (szPl A1 A2 A3 n1 c1 n2 c2 n3 c3 1048576 ss fs ls W HN1.out hm1 (HR1.out _ B0.out) HWS.out hm2 HN3.out hm3 (HR3.out _ B0.out) (HI3.out _ B0.out) (by omega) (by omega)).mono ?_
  rintro e w1 ⟨v0, rfl, hb1, hv00, hv10, hv20⟩
  have B1_W := Lib.hid (B0.out.trans (hb1.mono B0.out.size))
  have HLAST1 := Lib.hid hb1
  clear hb1
  by_cases hneg0 : v0 < 0
  · go_wp2
    go_ret
    exact ⟨rfl, HBW.out.trans (B1_W.out.mono HBW.out.size)⟩
  have hp0 : 0 ≤ v0 := by omega
  have hsm1 : n1 ≤ 1048576 := by have := hv20 hp0; omega
  have hsm2 : n2 ≤ 1048576 := by have := hv20 hp0; omega
  have hsm3 : n3 ≤ 1048576 := by have := hv20 hp0; omega
  have HSZ0 := Lib.hid (hv20 hp0)
  have HRI3 : Hid (∀ V, Below W.heap.size W V → ∀ x ∈ ls, LtAt V x) := Lib.hid fun V hV x hx => ⟨(HI3.out V hV x hx).1, by have h1 := hv20 hp0; have h2 := Lttot_le hx; omega, (HI3.out V hV x hx).2.2⟩
  clear HI3
  clear hneg0 hv20 hm1 hm2 hm3
  have ka1_0 := HK1_0.out _ B1_W.out
  have ka1_1 := HK1_1.out _ B1_W.out
  have ka1_2 := HK1_2.out _ B1_W.out
  have ka1_3 := HK1_3.out _ B1_W.out
  have ka1_4 := HK1_4.out _ B1_W.out
  go_wp2_with fail
  clear ka1_0 ka1_1 ka1_2 ka1_3 ka1_4
  refine (szLtK _ _ _ _ Azx nzx czx v0 w1 hmzx (by omega) (by omega)).mono ?_
  rintro e w2 ⟨v1, rfl, hb2, hv01, hv11, hv21⟩
  have B2_W := Lib.hid (B1_W.out.trans (hb2.mono B1_W.out.size))
  have HLAST2 := Lib.hid hb2
  clear hb2
  by_cases hneg1 : v1 < 0
  · go_wp2
    go_ret
    exact ⟨rfl, HBW.out.trans (B2_W.out.mono HBW.out.size)⟩
  have hp1 : 0 ≤ v1 := by omega
  have hsmzx : nzx ≤ 1048576 := by have := hv21 hp1; omega
  have HSZ1 := Lib.hid (hv21 hp1)
  clear hneg1 hv21 hmzx
  have hLn : (clL ss fs (ls.map Lt.d) ⟨p0_1, p1_1, zx, q0_1, q1_1⟩).length ≤ 1048576 := Nat.le_trans (clL_len _ _ _ _) (by rw [List.length_map]; have := HN3.out; omega)
  obtain ⟨L, hL⟩ : ∃ L, clL ss fs (ls.map Lt.d) ⟨p0_1, p1_1, zx, q0_1, q1_1⟩ = L := ⟨_, rfl⟩
  obtain ⟨b, hb⟩ : ∃ b, pb (clP ss fs (ls.map Lt.d) ⟨p0_1, p1_1, zx, q0_1, q1_1⟩) = b := ⟨_, rfl⟩
  rw [hL] at hLn
  have HL := Lib.hid hL; have HB := Lib.hid hb; have HLN := Lib.hid hLn
  clear hL hb hLn
  have ka0_0 := HK0_0.out _ B2_W.out
  have ka0_1 := HK0_1.out _ B2_W.out
  have ka0_2 := HK0_2.out _ B2_W.out
  have ka1_0 := HK1_0.out _ B2_W.out
  have ka1_1 := HK1_1.out _ B2_W.out
  have ka1_2 := HK1_2.out _ B2_W.out
  have ka1_3 := HK1_3.out _ B2_W.out
  have ka1_4 := HK1_4.out _ B2_W.out
  have hbd : Bel w2 w2.drew := Bel.of (Below.refl _ _).drew
  have hgw0 : w.heap.size < w2.heap.size := Nat.lt_of_lt_of_le (by have := HZ.out; omega) B2_W.out.size
  have hgw1 : w.heap.size + 1 < w2.heap.size := Nat.lt_of_lt_of_le (by have := HZ.out; omega) B2_W.out.size
  go_upto_region 8 with fail
  go_cut [6, 7] (fun s6 s7 wx => ∃ (A : Option Addr), ∃ (N c : Nat), s6 = .slice A N c ∧ s7 = .bool b ∧ Hid (N = L.length) ∧ Hid (Rd wx wx.heap.size A (L.map (Value.int .i64))) ∧ Bel w2 wx)
  case first =>
    go_region_held3 (fun U => U.cell? ⟨w.heap.size, 0, none⟩ = some (.slice A1 n1 c1) ∧ U.cell? ⟨w.heap.size, 1, none⟩ = some (.slice A2 n2 c2) ∧ U.cell? ⟨w.heap.size, 2, none⟩ = some (.slice A3 n3 c3) ∧ U.cell? ⟨w.heap.size + 1, 0, none⟩ = some (.int .i64 p0_1) ∧ U.cell? ⟨w.heap.size + 1, 1, none⟩ = some (.int .i64 p1_1) ∧ U.cell? ⟨w.heap.size + 1, 2, none⟩ = some (.slice Azx nzx czx) ∧ U.cell? ⟨w.heap.size + 1, 3, none⟩ = some (.int .i64 q0_1) ∧ U.cell? ⟨w.heap.size + 1, 4, none⟩ = some (.int .i64 q1_1) ∧ Bel w2 U)
      (first | go_keep | (go_split_ands; (refine ⟨?_, ?_, ?_, ?_, ?_, ?_, ?_, ?_, ?_⟩ <;> first | assumption | exact Bel.step (by assumption) hbc1a | exact (Bel.at_ (by assumption) hbc1a (by assumption)).trans (by assumption) | exact Bel.step (by assumption) hbc1b | exact (Bel.at_ (by assumption) hbc1b (by assumption)).trans (by assumption) | exact Bel.step (by assumption) hbc1z | exact (Bel.at_ (by assumption) hbc1z (by assumption)).trans (by assumption))))
      (first
        | (go_at_call 15
           go_split_ands
           refine (toPl A1 A2 A3 n1 c1 n2 c2 n3 c3 ss fs ls _ HN1.out (HR1.out _ (Below.trans B2_W.out ((Bel.out (by assumption)).mono B2_W.out.size))) hsm1 HN2.out (HR2.out _ (Below.trans B2_W.out ((Bel.out (by assumption)).mono B2_W.out.size))) hsm2 HN3.out (HR3.out _ (Below.trans B2_W.out ((Bel.out (by assumption)).mono B2_W.out.size))) (HRI3.out _ (Below.trans B2_W.out ((Bel.out (by assumption)).mono B2_W.out.size))) hsm3).mono ?_
           rintro e u1a ⟨c1a1, c1a2, c1a3, ysc1a, rfl, hoc1a1, hoc1a2, hgc1a, hdc1a, hTc1a, hbc1a⟩
           have Rc1a1 : Hid (∀ V, Below u1a.heap.size u1a V → Rd V V.heap.size (some ⟨c1a1, 0, none⟩) (ss.map Value.string)) := Lib.hid fun V hV => (Rd.ofOwnK hoc1a1).moved hV
           have Rc1a2 : Hid (∀ V, Below u1a.heap.size u1a V → Rd V V.heap.size (some ⟨c1a2, 0, none⟩) (fs.flatMap Q4.cells)) := Lib.hid fun V hV => (Rd.ofOwnK hoc1a2).moved hV
           have Dc1a := Lib.hid hdc1a
           have Tc1a : Hid (∀ V, Below u1a.heap.size u1a V → ∃ B, Lts B c1a3 n3 ysc1a V) := Lib.hid fun V hV => ⟨_, hTc1a.moved hV⟩
           clear hdc1a hTc1a
           clear hoc1a1 hoc1a2 hgc1a)
        | (go_at_call 47
           go_split_ands
           refine (toLtK p0_1 p1_1 q0_1 q1_1 Azx nzx czx zx _ HNzx.out (HRzx.out _ (Below.trans B2_W.out ((Bel.out (by assumption)).mono B2_W.out.size))) hsmzx).mono ?_
           rintro e u1b ⟨c1b, rfl, hgc1b, hoc1b, hbc1b⟩
           have Rc1b : Hid (∀ V, Below u1b.heap.size u1b V → Rd V V.heap.size (some ⟨c1b, 0, none⟩) (zx.map (Value.int .i64))) := Lib.hid fun V hV => (Rd.ofOwnK hoc1b).moved hV
           clear hoc1b hgc1b)
        | (go_at_call 46
           go_split_ands
           refine (specCLK ⟨HN1.out, hsm1, Nat.le_refl _, Rc1a1.out _ (by first | exact Below.refl _ _ | assumption), HWS.out, HN2.out, hsm2, Rc1a2.out _ (by first | exact Below.refl _ _ | assumption)⟩ (Tc1a.out _ (by first | exact Below.refl _ _ | assumption)).choose_spec Dc1a.out hsm3 p0_1 p1_1 (c := nzx) HNzx.out (Rc1b.out _ (by first | exact Below.refl _ _ | assumption)) hsmzx q0_1 q1_1).mono ?_
           rw [HL.out, HB.out]
           rintro e u1z ⟨As, Ns, cs, rfl, HNNs, hos, hbc1z⟩))
    all_goals
      go_split_ands
      have hbl : Bel w2 u1z := by assumption
      clear ka0_0 ka0_1 ka0_2 ka1_0 ka1_1 ka1_2 ka1_3 ka1_4
      go_wp2_with fail
      go_meet
      exact ⟨As, Ns, cs, rfl, rfl, HNNs, Lib.hid (Rd.ofOwn hos), hbl⟩
  case rest =>
  clear hbd hgw0 hgw1 ka0_0 ka0_1 ka0_2 ka1_0 ka1_1 ka1_2 ka1_3 ka1_4
  revert hcut; generalize wc = wc1; intro hcut
  obtain ⟨As, Ns, cs, h0_, h1_, HNNs, HAs, hbl⟩ := hcut
  subst h0_ h1_
  have hNs : Ns ≤ 1048576 := by have := HNNs.out; have := HLN.out; omega
  have HRRs : Hid (∀ V, Below wc1.heap.size wc1 V → Rd V V.heap.size As (L.map (Value.int .i64))) := Lib.hid fun V hV => HAs.out.moved hV
  have Ewc1_W := Lib.hid (B2_W.out.trans ((Bel.out hbl).mono B2_W.out.size))
  clear hbl
  have Zwc1 := Lib.hid (Below.refl wc1.heap.size wc1)
  have WPW := Lib.hid Ewc1_W.out.size
  have ka0_0 := HK0_0.out _ Ewc1_W.out
  have ka0_1 := HK0_1.out _ Ewc1_W.out
  have ka0_2 := HK0_2.out _ Ewc1_W.out
  go_wp2_with fail
  clear ka0_0 ka0_1 ka0_2
  have ZPRE0 := Lib.hid (Zwc1.out.size)
  refine (toPl A1 A2 A3 n1 c1 n2 c2 n3 c3 ss fs ls wc1 HN1.out (HR1.out _ Ewc1_W.out) hsm1 HN2.out (HR2.out _ Ewc1_W.out) hsm2 HN3.out (HR3.out _ Ewc1_W.out) (HRI3.out _ Ewc1_W.out) hsm3).mono ?_
  rintro e w3 ⟨x01, x02, x03, ysx0, rfl, hox01, hox02, hgx0, hdx0, hTx0, hb3⟩
  have B3_W := Lib.hid (Ewc1_W.out.trans (hb3.mono Ewc1_W.out.size))
  have B3_wc1 := Lib.hid (Zwc1.out.trans (hb3.mono Zwc1.out.size))
  have HLAST3 := Lib.hid hb3
  clear hb3
  have Ox01 := Lib.hid hox01
  have Rx01 : Hid (∀ V, Below w3.heap.size w3 V → Rd V V.heap.size (some ⟨x01, 0, none⟩) (ss.map Value.string)) := Lib.hid fun V hV => (Rd.ofOwnK hox01).moved hV
  have Ox02 := Lib.hid hox02
  have Rx02 : Hid (∀ V, Below w3.heap.size w3 V → Rd V V.heap.size (some ⟨x02, 0, none⟩) (fs.flatMap Q4.cells)) := Lib.hid fun V hV => (Rd.ofOwnK hox02).moved hV
  clear hox01 hox02
  have Dx0 := Lib.hid hdx0
  have Tx0 : Hid (∀ V, Below w3.heap.size w3 V → Lts wc1.heap.size x03 n3 ysx0 V) := Lib.hid fun V hV => hTx0.moved hV
  have LIEx0 := Lib.hid (hTx0.lies)
  clear hdx0 hTx0 hgx0
  have Zw3 := Lib.hid (Below.refl w3.heap.size w3)
  have ka1_0 := HK1_0.out _ B3_W.out
  have ka1_1 := HK1_1.out _ B3_W.out
  have ka1_2 := HK1_2.out _ B3_W.out
  have ka1_3 := HK1_3.out _ B3_W.out
  have ka1_4 := HK1_4.out _ B3_W.out
  have hgn : w.heap.size + 1 < w3.heap.size := Nat.lt_of_lt_of_le (by have := HZ.out; omega) B3_W.out.size
  go_wp2_with fail
  clear ka1_0 ka1_1 ka1_2 ka1_3 ka1_4 hgn
  obtain ⟨V0, hV0⟩ : ∃ V, (w3.alloc (Obj.cells #[.slice (some ⟨x01, 0, none⟩) n1 n1, .slice (some ⟨x02, 0, none⟩) n2 n2, .slice (some ⟨x03, 0, none⟩) n3 n3] 37)) = V := ⟨_, rfl⟩
  have hx0_0 : V0.cell? ⟨w3.heap.size, 0, none⟩ = some (.slice (some ⟨x01, 0, none⟩) n1 n1) := by rw [← hV0]; simp [go_sem]
  have hx0_1 : V0.cell? ⟨w3.heap.size, 1, none⟩ = some (.slice (some ⟨x02, 0, none⟩) n2 n2) := by rw [← hV0]; simp [go_sem]
  have hx0_2 : V0.cell? ⟨w3.heap.size, 2, none⟩ = some (.slice (some ⟨x03, 0, none⟩) n3 n3) := by rw [← hV0]; simp [go_sem]
  have hzV0 : w3.heap.size < V0.heap.size := by rw [← hV0]; simp
  have hbV0 : Below w3.heap.size w3 V0 := by rw [← hV0]; exact (Below.refl _ _).alloc (Nat.le_refl _) _
  rw [hV0]
  clear hV0
  have CV0_W := Lib.hid (B3_W.out.trans (hbV0.mono B3_W.out.size))
  have CV0_wc1 := Lib.hid (B3_wc1.out.trans (hbV0.mono B3_wc1.out.size))
  have CV0_w3 := Lib.hid (Zw3.out.trans (hbV0.mono Zw3.out.size))
  have HX0_0 : Hid (∀ U, Below V0.heap.size V0 U → U.cell? ⟨w3.heap.size, 0, none⟩ = some (.slice (some ⟨x01, 0, none⟩) n1 n1)) := Lib.hid fun U hU => (hU.cell (p := ⟨_, _, none⟩) hzV0).trans hx0_0
  have HX0_1 : Hid (∀ U, Below V0.heap.size V0 U → U.cell? ⟨w3.heap.size, 1, none⟩ = some (.slice (some ⟨x02, 0, none⟩) n2 n2)) := Lib.hid fun U hU => (hU.cell (p := ⟨_, _, none⟩) hzV0).trans hx0_1
  have HX0_2 : Hid (∀ U, Below V0.heap.size V0 U → U.cell? ⟨w3.heap.size, 2, none⟩ = some (.slice (some ⟨x03, 0, none⟩) n3 n3)) := Lib.hid fun U hU => (hU.cell (p := ⟨_, _, none⟩) hzV0).trans hx0_2
  have HZV0 := Lib.hid hzV0
  clear hzV0 hbV0 hx0_0 hx0_1 hx0_2
  have ZV0 := Lib.hid (Below.refl V0.heap.size V0)
  have ZPRE1 := Lib.hid (CV0_wc1.out.size)
  refine (toLtK p0_1 p1_1 q0_1 q1_1 Azx nzx czx zx V0 HNzx.out (HRzx.out _ CV0_W.out) hsmzx).mono ?_
  rintro e w4 ⟨x1, rfl, hgx1, hox1, hb4⟩
  have B4_W := Lib.hid (CV0_W.out.trans (hb4.mono CV0_W.out.size))
  have B4_wc1 := Lib.hid (CV0_wc1.out.trans (hb4.mono CV0_wc1.out.size))
  have B4_w3 := Lib.hid (CV0_w3.out.trans (hb4.mono CV0_w3.out.size))
  have B4_V0 := Lib.hid (ZV0.out.trans (hb4.mono ZV0.out.size))
  have HLAST4 := Lib.hid hb4
  clear hb4
  have Ox1 := Lib.hid hox1
  have Rx1 : Hid (∀ V, Below w4.heap.size w4 V → Rd V V.heap.size (some ⟨x1, 0, none⟩) (zx.map (Value.int .i64))) := Lib.hid fun V hV => (Rd.ofOwnK hox1).moved hV
  clear hox1
  have SEPTx0_x1 := Lib.hid (Nat.le_trans CV0_w3.out.size (Ox1.out.lt x1 rfl).1)
  have SEPBTx0_1 := Lib.hid B4_w3.out.size
  have Zw4 := Lib.hid (Below.refl w4.heap.size w4)
  have kz0_0 := HX0_0.out _ B4_V0.out
  have kz0_1 := HX0_1.out _ B4_V0.out
  have kz0_2 := HX0_2.out _ B4_V0.out
  have hgz0 : w3.heap.size < w4.heap.size := Nat.lt_of_lt_of_le HZV0.out B4_V0.out.size
  go_wp2_with fail
  clear kz0_0 kz0_1 kz0_2 hgz0
  obtain ⟨V1, hV1⟩ : ∃ V, (w4.alloc (Obj.cells #[.int .i64 p0_1, .int .i64 p1_1, .slice (some ⟨x1, 0, none⟩) nzx nzx, .int .i64 q0_1, .int .i64 q1_1] 88)) = V := ⟨_, rfl⟩
  have hx1_0 : V1.cell? ⟨w4.heap.size, 0, none⟩ = some (.int .i64 p0_1) := by rw [← hV1]; simp [go_sem]
  have hx1_1 : V1.cell? ⟨w4.heap.size, 1, none⟩ = some (.int .i64 p1_1) := by rw [← hV1]; simp [go_sem]
  have hx1_2 : V1.cell? ⟨w4.heap.size, 2, none⟩ = some (.slice (some ⟨x1, 0, none⟩) nzx nzx) := by rw [← hV1]; simp [go_sem]
  have hx1_3 : V1.cell? ⟨w4.heap.size, 3, none⟩ = some (.int .i64 q0_1) := by rw [← hV1]; simp [go_sem]
  have hx1_4 : V1.cell? ⟨w4.heap.size, 4, none⟩ = some (.int .i64 q1_1) := by rw [← hV1]; simp [go_sem]
  have hzV1 : w4.heap.size < V1.heap.size := by rw [← hV1]; simp
  have hbV1 : Below w4.heap.size w4 V1 := by rw [← hV1]; exact (Below.refl _ _).alloc (Nat.le_refl _) _
  rw [hV1]
  clear hV1
  have CV1_W := Lib.hid (B4_W.out.trans (hbV1.mono B4_W.out.size))
  have CV1_wc1 := Lib.hid (B4_wc1.out.trans (hbV1.mono B4_wc1.out.size))
  have CV1_w3 := Lib.hid (B4_w3.out.trans (hbV1.mono B4_w3.out.size))
  have CV1_V0 := Lib.hid (B4_V0.out.trans (hbV1.mono B4_V0.out.size))
  have CV1_w4 := Lib.hid (Zw4.out.trans (hbV1.mono Zw4.out.size))
  have HX1_0 : Hid (∀ U, Below V1.heap.size V1 U → U.cell? ⟨w4.heap.size, 0, none⟩ = some (.int .i64 p0_1)) := Lib.hid fun U hU => (hU.cell (p := ⟨_, _, none⟩) hzV1).trans hx1_0
  have HX1_1 : Hid (∀ U, Below V1.heap.size V1 U → U.cell? ⟨w4.heap.size, 1, none⟩ = some (.int .i64 p1_1)) := Lib.hid fun U hU => (hU.cell (p := ⟨_, _, none⟩) hzV1).trans hx1_1
  have HX1_2 : Hid (∀ U, Below V1.heap.size V1 U → U.cell? ⟨w4.heap.size, 2, none⟩ = some (.slice (some ⟨x1, 0, none⟩) nzx nzx)) := Lib.hid fun U hU => (hU.cell (p := ⟨_, _, none⟩) hzV1).trans hx1_2
  have HX1_3 : Hid (∀ U, Below V1.heap.size V1 U → U.cell? ⟨w4.heap.size, 3, none⟩ = some (.int .i64 q0_1)) := Lib.hid fun U hU => (hU.cell (p := ⟨_, _, none⟩) hzV1).trans hx1_3
  have HX1_4 : Hid (∀ U, Below V1.heap.size V1 U → U.cell? ⟨w4.heap.size, 4, none⟩ = some (.int .i64 q1_1)) := Lib.hid fun U hU => (hU.cell (p := ⟨_, _, none⟩) hzV1).trans hx1_4
  have HZV1 := Lib.hid hzV1
  clear hzV1 hbV1 hx1_0 hx1_1 hx1_2 hx1_3 hx1_4
  have ZV1 := Lib.hid (Below.refl V1.heap.size V1)
  have PWV := Lib.hid CV1_wc1.out.size
  have HQTx0 : Hid (wc1.heap.size ≤ wc1.heap.size ∧ w3.heap.size ≤ V1.heap.size) := Lib.hid ⟨ZPRE0.out, CV1_w3.out.size⟩
  have HQx01 : Hid (wc1.heap.size ≤ x01 ∧ x01 < V1.heap.size) := Lib.hid ⟨Nat.le_trans ZPRE0.out (Ox01.out.lt x01 rfl).1, Nat.lt_of_lt_of_le (Ox01.out.lt x01 rfl).2 CV1_w3.out.size⟩
  have HQx02 : Hid (wc1.heap.size ≤ x02 ∧ x02 < V1.heap.size) := Lib.hid ⟨Nat.le_trans ZPRE0.out (Ox02.out.lt x02 rfl).1, Nat.lt_of_lt_of_le (Ox02.out.lt x02 rfl).2 CV1_w3.out.size⟩
  have HQx1 : Hid (wc1.heap.size ≤ x1 ∧ x1 < V1.heap.size) := Lib.hid ⟨Nat.le_trans ZPRE1.out (Ox1.out.lt x1 rfl).1, Nat.lt_of_lt_of_le (Ox1.out.lt x1 rfl).2 CV1_w4.out.size⟩
  refine (implCLK ⟨HN1.out, hsm1, Nat.le_refl _, Rx01.out _ CV1_w3.out, HWS.out, HN2.out, hsm2, Rx02.out _ CV1_w3.out⟩ (Tx0.out _ CV1_w3.out) Dx0.out hsm3 p0_1 p1_1 (c := nzx) HNzx.out (Rx1.out _ CV1_w4.out) hsmzx q0_1 q1_1).mono ?_
  rw [HL.out, HB.out]
  rintro e w5 ⟨Ax, Nx, cx, rfl, HNNx, hox, hb5⟩
  have B5_W := Lib.hid (CV1_W.out.trans (hb5.mono CV1_W.out.size))
  have B5_wc1 := Lib.hid (CV1_wc1.out.trans (hb5.mono CV1_wc1.out.size))
  have B5_w3 := Lib.hid (CV1_w3.out.trans (hb5.mono CV1_w3.out.size))
  have B5_V0 := Lib.hid (CV1_V0.out.trans (hb5.mono CV1_V0.out.size))
  have B5_w4 := Lib.hid (CV1_w4.out.trans (hb5.mono CV1_w4.out.size))
  have B5_V1 := Lib.hid (ZV1.out.trans (hb5.mono ZV1.out.size))
  have HLAST5 := Lib.hid hb5
  clear hb5
  have HOx := Lib.hid hox; clear hox
  have hNx : Nx ≤ 1048576 := by have := HNNx.out; have := HLN.out; omega
  obtain rfl : Nx = Ns := HNNx.out.trans HNNs.out.symm
  have Zw5 := Lib.hid (Below.refl w5.heap.size w5)
  go_wp2_with fail
  refine (eqInts _ _ Nx _ _ L w5 HNNx.out.symm (Rd.ofOwn (ownB HOx.out Zw5.out)) (HRRs.out _ B5_wc1.out) hNx).mono ?_
  rintro e w6 ⟨rfl, hb6⟩
  have B6_W := Lib.hid (B5_W.out.trans (hb6.mono B5_W.out.size))
  have B6_wc1 := Lib.hid (B5_wc1.out.trans (hb6.mono B5_wc1.out.size))
  have B6_w3 := Lib.hid (B5_w3.out.trans (hb6.mono B5_w3.out.size))
  have B6_V0 := Lib.hid (B5_V0.out.trans (hb6.mono B5_V0.out.size))
  have B6_w4 := Lib.hid (B5_w4.out.trans (hb6.mono B5_w4.out.size))
  have B6_V1 := Lib.hid (B5_V1.out.trans (hb6.mono B5_V1.out.size))
  have B6_w5 := Lib.hid (Zw5.out.trans (hb6.mono Zw5.out.size))
  have HLAST6 := Lib.hid hb6
  clear hb6
  have ka0_0 := HK0_0.out _ B6_W.out
  have ka0_1 := HK0_1.out _ B6_W.out
  have ka0_2 := HK0_2.out _ B6_W.out
  have kx0_0 := HX0_0.out _ B6_V0.out
  have kx0_1 := HX0_1.out _ B6_V0.out
  have kx0_2 := HX0_2.out _ B6_V0.out
  have hgx : w3.heap.size < w6.heap.size := Nat.lt_of_lt_of_le HZV0.out B6_V0.out.size
  have hgw : w.heap.size < w6.heap.size := Nat.lt_of_lt_of_le (by have := HZ.out; omega) B6_W.out.size
  have hbd : Bel w6 w6.drew := Bel.of (Below.refl _ _).drew
  go_upto_region 14 with fail
  go_cut [58] (fun s58 wx => s58 = .bool false ∧ Bel w6 wx)
  case first =>
    go_region_held3 (fun U => U.cell? ⟨w3.heap.size, 0, none⟩ = some (.slice (some ⟨x01, 0, none⟩) n1 n1) ∧ U.cell? ⟨w3.heap.size, 1, none⟩ = some (.slice (some ⟨x02, 0, none⟩) n2 n2) ∧ U.cell? ⟨w3.heap.size, 2, none⟩ = some (.slice (some ⟨x03, 0, none⟩) n3 n3) ∧ U.cell? ⟨w.heap.size, 0, none⟩ = some (.slice A1 n1 c1) ∧ U.cell? ⟨w.heap.size, 1, none⟩ = some (.slice A2 n2 c2) ∧ U.cell? ⟨w.heap.size, 2, none⟩ = some (.slice A3 n3 c3) ∧ Bel w6 U)
      (first | go_keep | (go_split_ands; (refine ⟨?_, ?_, ?_, ?_, ?_, ?_, ?_⟩ <;> first | assumption | exact Bel.step (by assumption) hbt7 | exact Bel.step (by assumption) hbt8 | exact (Bel.at_ (by assumption) hbt7 (by assumption)).trans (by assumption) | exact (Bel.at_ (by assumption) hbt8 (by assumption)).trans (by assumption))))
      (first
        | (go_at_call 15
           go_split_ands
           refine (toPl A1 A2 A3 n1 c1 n2 c2 n3 c3 ss fs ls _ HN1.out (HR1.out _ (Below.trans B6_W.out ((Bel.out (by assumption)).mono B6_W.out.size))) hsm1 HN2.out (HR2.out _ (Below.trans B6_W.out ((Bel.out (by assumption)).mono B6_W.out.size))) hsm2 HN3.out (HR3.out _ (Below.trans B6_W.out ((Bel.out (by assumption)).mono B6_W.out.size))) (HRI3.out _ (Below.trans B6_W.out ((Bel.out (by assumption)).mono B6_W.out.size))) hsm3).mono ?_
           rintro e t7 ⟨y81, y82, y83, ysy8, rfl, hoy81, hoy82, hgy8, hdy8, hTy8, hbt7⟩
           have Sy81 := Lib.hid (Rd.ofOwnK hoy81)
           have Sy82 := Lib.hid (Rd.ofOwnK hoy82)
           have Dy8 := Lib.hid hdy8; have STy8 := Lib.hid hTy8; clear hdy8 hTy8
           clear hoy81 hoy82 hgy8)
        | (go_at_call 17
           go_split_ands
           refine (eqPl x01 x02 x03 y81 y82 y83 n1 n2 n3 ss fs ysx0 ysy8 t7 HN1.out hsm1 HN2.out hsm2 (Rx01.out _ (Below.trans B6_w3.out ((Bel.out (by assumption)).mono B6_w3.out.size))) (Sy81.out) (Rx02.out _ (Below.trans B6_w3.out ((Bel.out (by assumption)).mono B6_w3.out.size))) (Sy82.out) (Tx0.out _ (Below.trans B6_w3.out ((Bel.out (by assumption)).mono B6_w3.out.size))) (STy8.out) (Dx0.out.trans Dy8.out.symm) hsm3).mono ?_
           rintro e t8 ⟨rfl, hbt8⟩))
    all_goals
      go_split_ands
      have hbl : Bel w6 t8 := by assumption
      go_wp2_with fail
      go_meet
      exact ⟨rfl, hbl⟩
  case rest =>
  clear hbd hgx hgw ka0_0 ka0_1 ka0_2 kx0_0 kx0_1 kx0_2
  revert hcut; generalize wc = wc2; intro hcut
  obtain ⟨hs_, hbl⟩ := hcut
  subst hs_
  have Ewc2_W := Lib.hid (B6_W.out.trans ((Bel.out hbl).mono B6_W.out.size))
  have Ewc2_wc1 := Lib.hid (B6_wc1.out.trans ((Bel.out hbl).mono B6_wc1.out.size))
  have Ewc2_w3 := Lib.hid (B6_w3.out.trans ((Bel.out hbl).mono B6_w3.out.size))
  have Ewc2_V0 := Lib.hid (B6_V0.out.trans ((Bel.out hbl).mono B6_V0.out.size))
  have Ewc2_w4 := Lib.hid (B6_w4.out.trans ((Bel.out hbl).mono B6_w4.out.size))
  have Ewc2_V1 := Lib.hid (B6_V1.out.trans ((Bel.out hbl).mono B6_V1.out.size))
  have Ewc2_w5 := Lib.hid (B6_w5.out.trans ((Bel.out hbl).mono B6_w5.out.size))
  clear hbl
  have ka1_0 := HK1_0.out _ Ewc2_W.out
  have ka1_1 := HK1_1.out _ Ewc2_W.out
  have ka1_2 := HK1_2.out _ Ewc2_W.out
  have ka1_3 := HK1_3.out _ Ewc2_W.out
  have ka1_4 := HK1_4.out _ Ewc2_W.out
  have kx1_0 := HX1_0.out _ Ewc2_V1.out
  have kx1_1 := HX1_1.out _ Ewc2_V1.out
  have kx1_2 := HX1_2.out _ Ewc2_V1.out
  have kx1_3 := HX1_3.out _ Ewc2_V1.out
  have kx1_4 := HX1_4.out _ Ewc2_V1.out
  have hgx : w4.heap.size < wc2.heap.size := Nat.lt_of_lt_of_le HZV1.out Ewc2_V1.out.size
  have hgw : w.heap.size + 1 < wc2.heap.size := Nat.lt_of_lt_of_le (by have := HZ.out; omega) Ewc2_W.out.size
  have hbd : Bel wc2 wc2.drew := Bel.of (Below.refl _ _).drew
  go_upto_region 16 with fail
  go_cut [63] (fun s63 wx => s63 = .bool false ∧ Bel wc2 wx)
  case first =>
    go_region_held3 (fun U => U.cell? ⟨w4.heap.size, 0, none⟩ = some (.int .i64 p0_1) ∧ U.cell? ⟨w4.heap.size, 1, none⟩ = some (.int .i64 p1_1) ∧ U.cell? ⟨w4.heap.size, 2, none⟩ = some (.slice (some ⟨x1, 0, none⟩) nzx nzx) ∧ U.cell? ⟨w4.heap.size, 3, none⟩ = some (.int .i64 q0_1) ∧ U.cell? ⟨w4.heap.size, 4, none⟩ = some (.int .i64 q1_1) ∧ U.cell? ⟨w.heap.size + 1, 0, none⟩ = some (.int .i64 p0_1) ∧ U.cell? ⟨w.heap.size + 1, 1, none⟩ = some (.int .i64 p1_1) ∧ U.cell? ⟨w.heap.size + 1, 2, none⟩ = some (.slice Azx nzx czx) ∧ U.cell? ⟨w.heap.size + 1, 3, none⟩ = some (.int .i64 q0_1) ∧ U.cell? ⟨w.heap.size + 1, 4, none⟩ = some (.int .i64 q1_1) ∧ Bel wc2 U)
      (first | go_keep | (go_split_ands; (refine ⟨?_, ?_, ?_, ?_, ?_, ?_, ?_, ?_, ?_, ?_, ?_⟩ <;> first | assumption | exact Bel.step (by assumption) hbt9 | exact Bel.step (by assumption) hbt10 | exact (Bel.at_ (by assumption) hbt9 (by assumption)).trans (by assumption) | exact (Bel.at_ (by assumption) hbt10 (by assumption)).trans (by assumption))))
      (first
        | (go_at_call 47
           go_split_ands
           refine (toLtK p0_1 p1_1 q0_1 q1_1 Azx nzx czx zx _ HNzx.out (HRzx.out _ (Below.trans Ewc2_W.out ((Bel.out (by assumption)).mono Ewc2_W.out.size))) hsmzx).mono ?_
           rintro e t9 ⟨y10, rfl, hgy10, hoy10, hbt9⟩
           have Sy10 := Lib.hid (Rd.ofOwnK hoy10)
           clear hoy10 hgy10)
        | (go_at_call 50
           go_split_ands
           refine (eqLtK p0_1 p1_1 q0_1 q1_1 x1 y10 nzx nzx nzx zx t9 HNzx.out hsmzx (Rx1.out _ (Below.trans Ewc2_w4.out ((Bel.out (by assumption)).mono Ewc2_w4.out.size))) (Sy10.out)).mono ?_
           rintro e t10 ⟨rfl, hbt10⟩))
    all_goals
      go_split_ands
      have hbl : Bel wc2 t10 := by assumption
      go_wp2_with fail
      go_meet
      exact ⟨rfl, hbl⟩
  case rest =>
  clear hbd hgx hgw ka1_0 ka1_1 ka1_2 ka1_3 ka1_4 kx1_0 kx1_1 kx1_2 kx1_3 kx1_4
  revert hcut; generalize wc = wc3; intro hcut
  obtain ⟨hs_, hbl⟩ := hcut
  subst hs_
  have Ewc3_W := Lib.hid (Ewc2_W.out.trans ((Bel.out hbl).mono Ewc2_W.out.size))
  have Ewc3_wc1 := Lib.hid (Ewc2_wc1.out.trans ((Bel.out hbl).mono Ewc2_wc1.out.size))
  have Ewc3_w3 := Lib.hid (Ewc2_w3.out.trans ((Bel.out hbl).mono Ewc2_w3.out.size))
  have Ewc3_V0 := Lib.hid (Ewc2_V0.out.trans ((Bel.out hbl).mono Ewc2_V0.out.size))
  have Ewc3_w4 := Lib.hid (Ewc2_w4.out.trans ((Bel.out hbl).mono Ewc2_w4.out.size))
  have Ewc3_V1 := Lib.hid (Ewc2_V1.out.trans ((Bel.out hbl).mono Ewc2_V1.out.size))
  have Ewc3_w5 := Lib.hid (Ewc2_w5.out.trans ((Bel.out hbl).mono Ewc2_w5.out.size))
  clear hbl
  have HG0 := Lib.hid (ownB HOx.out Ewc3_w5.out)
  have kx0_0 := HX0_0.out _ Ewc3_V0.out
  have kx0_1 := HX0_1.out _ Ewc3_V0.out
  have kx0_2 := HX0_2.out _ Ewc3_V0.out
  go_wp2_with fail
  clear kx0_0 kx0_1 kx0_2
  refine (markPl wc3 (ownB Ox01.out Ewc3_w3.out) hsm1 (ownB Ox02.out Ewc3_w3.out) hsm2 (Tx0.out _ Ewc3_w3.out) hsm3 (Ox01.out.lt x01 rfl).2 (Ox02.out.lt x02 rfl).2 LIEx0.out.1.2 (fun y hy q e => (LIEx0.out.2 y hy q e).2)).mono ?_
  rintro e w11 ⟨k0, rfl, hk0a, hk0b, hoff⟩
  have Fw11_W := Lib.hid (Ewc3_W.out.trans (hoff.below (B := W.heap.size) Ewc3_W.out.size (fun b h => by have hpw := WPW.out; have := HQTx0.out; have h2 : wc1.heap.size ≤ b ∧ b < w3.heap.size := h; omega)))
  have Fw11_wc1 := Lib.hid (Ewc3_wc1.out.trans (hoff.below (B := wc1.heap.size) Ewc3_wc1.out.size (fun b h => by have hpw := Nat.le_refl wc1.heap.size; have := HQTx0.out; have h2 : wc1.heap.size ≤ b ∧ b < w3.heap.size := h; omega)))
  have HG1 := Lib.hid (own_off HG0.out hoff (fun b h => by have := HQTx0.out; have h2 : wc1.heap.size ≤ b ∧ b < w3.heap.size := h; omega))
  have Ox1_ := Lib.hid (Off.own hoff (ownB Ox1.out Ewc3_w4.out) (fun h => by have := SEPTx0_x1.out; have h2 : wc1.heap.size ≤ x1 ∧ x1 < w3.heap.size := h; omega))
  clear Ox1; have Ox1 := Ox1_; clear Ox1_
  have kk1_0 := (hoff.cell (p := ⟨w4.heap.size, 0, none⟩) (Nat.lt_of_lt_of_le HZV1.out Ewc3_V1.out.size) (fun h => by have := SEPBTx0_1.out; have h2 : wc1.heap.size ≤ w4.heap.size ∧ w4.heap.size < w3.heap.size := h; omega)).trans (HX1_0.out _ Ewc3_V1.out)
  have HX1_0 : Hid (∀ U, Below w11.heap.size w11 U → U.cell? ⟨w4.heap.size, 0, none⟩ = some (.int .i64 p0_1)) := Lib.hid fun U hU => (hU.cell (p := ⟨_, _, none⟩) (Nat.lt_of_lt_of_le HZV1.out (Nat.le_trans Ewc3_V1.out.size hoff.size))).trans kk1_0
  clear kk1_0
  have kk1_1 := (hoff.cell (p := ⟨w4.heap.size, 1, none⟩) (Nat.lt_of_lt_of_le HZV1.out Ewc3_V1.out.size) (fun h => by have := SEPBTx0_1.out; have h2 : wc1.heap.size ≤ w4.heap.size ∧ w4.heap.size < w3.heap.size := h; omega)).trans (HX1_1.out _ Ewc3_V1.out)
  have HX1_1 : Hid (∀ U, Below w11.heap.size w11 U → U.cell? ⟨w4.heap.size, 1, none⟩ = some (.int .i64 p1_1)) := Lib.hid fun U hU => (hU.cell (p := ⟨_, _, none⟩) (Nat.lt_of_lt_of_le HZV1.out (Nat.le_trans Ewc3_V1.out.size hoff.size))).trans kk1_1
  clear kk1_1
  have kk1_2 := (hoff.cell (p := ⟨w4.heap.size, 2, none⟩) (Nat.lt_of_lt_of_le HZV1.out Ewc3_V1.out.size) (fun h => by have := SEPBTx0_1.out; have h2 : wc1.heap.size ≤ w4.heap.size ∧ w4.heap.size < w3.heap.size := h; omega)).trans (HX1_2.out _ Ewc3_V1.out)
  have HX1_2 : Hid (∀ U, Below w11.heap.size w11 U → U.cell? ⟨w4.heap.size, 2, none⟩ = some (.slice (some ⟨x1, 0, none⟩) nzx nzx)) := Lib.hid fun U hU => (hU.cell (p := ⟨_, _, none⟩) (Nat.lt_of_lt_of_le HZV1.out (Nat.le_trans Ewc3_V1.out.size hoff.size))).trans kk1_2
  clear kk1_2
  have kk1_3 := (hoff.cell (p := ⟨w4.heap.size, 3, none⟩) (Nat.lt_of_lt_of_le HZV1.out Ewc3_V1.out.size) (fun h => by have := SEPBTx0_1.out; have h2 : wc1.heap.size ≤ w4.heap.size ∧ w4.heap.size < w3.heap.size := h; omega)).trans (HX1_3.out _ Ewc3_V1.out)
  have HX1_3 : Hid (∀ U, Below w11.heap.size w11 U → U.cell? ⟨w4.heap.size, 3, none⟩ = some (.int .i64 q0_1)) := Lib.hid fun U hU => (hU.cell (p := ⟨_, _, none⟩) (Nat.lt_of_lt_of_le HZV1.out (Nat.le_trans Ewc3_V1.out.size hoff.size))).trans kk1_3
  clear kk1_3
  have kk1_4 := (hoff.cell (p := ⟨w4.heap.size, 4, none⟩) (Nat.lt_of_lt_of_le HZV1.out Ewc3_V1.out.size) (fun h => by have := SEPBTx0_1.out; have h2 : wc1.heap.size ≤ w4.heap.size ∧ w4.heap.size < w3.heap.size := h; omega)).trans (HX1_4.out _ Ewc3_V1.out)
  have HX1_4 : Hid (∀ U, Below w11.heap.size w11 U → U.cell? ⟨w4.heap.size, 4, none⟩ = some (.int .i64 q1_1)) := Lib.hid fun U hU => (hU.cell (p := ⟨_, _, none⟩) (Nat.lt_of_lt_of_le HZV1.out (Nat.le_trans Ewc3_V1.out.size hoff.size))).trans kk1_4
  clear kk1_4
  have HZV1_ : Hid (w4.heap.size < w11.heap.size) := Lib.hid (Nat.lt_of_lt_of_le HZV1.out (Nat.le_trans Ewc3_V1.out.size hoff.size))
  clear HZV1; have HZV1 := HZV1_; clear HZV1_
  have Zw11 := Lib.hid (Below.refl w11.heap.size w11)
  clear hoff
  have kx1_0 := HX1_0.out _ Zw11.out
  have kx1_1 := HX1_1.out _ Zw11.out
  have kx1_2 := HX1_2.out _ Zw11.out
  have kx1_3 := HX1_3.out _ Zw11.out
  have kx1_4 := HX1_4.out _ Zw11.out
  go_wp2_with fail
  clear kx1_0 kx1_1 kx1_2 kx1_3 kx1_4
  refine (markLtK _ _ _ _ x1 nzx nzx k0 _ w11 (ownB Ox1.out Zw11.out) hsmzx (by omega) (by omega)).mono ?_
  rintro e w12 ⟨rfl, hoff⟩
  obtain ⟨k1, hk1⟩ : ∃ k, k0 + (nzx : Int) = k := ⟨_, rfl⟩
  have hk1a : 0 ≤ k1 := by omega
  have hk1b : k1 ≤ 2000002000000 := by omega
  rw [hk1]
  clear hk1
  have Fw12_W := Lib.hid (Fw11_W.out.trans (hoff.below (B := W.heap.size) Fw11_W.out.size (fun b h => by have hpw := WPW.out; have := HQx1.out; have h2 : b = x1 := h; omega)))
  have Fw12_wc1 := Lib.hid (Fw11_wc1.out.trans (hoff.below (B := wc1.heap.size) Fw11_wc1.out.size (fun b h => by have hpw := Nat.le_refl wc1.heap.size; have := HQx1.out; have h2 : b = x1 := h; omega)))
  have HG2 := Lib.hid (own_off HG1.out hoff (fun b h => by have := HQx1.out; have h2 : b = x1 := h; omega))
  have Zw12 := Lib.hid (Below.refl w12.heap.size w12)
  clear hoff
  have hkn : decide (k1 < 0) = false := decide_eq_false (by omega)
  go_wp2_with fail
  refine (eqInts _ _ Nx _ _ L w12 HNNx.out.symm (Rd.ofOwn HG2.out) (HRRs.out _ Fw12_wc1.out) hNx).mono ?_
  rintro e w13 ⟨rfl, hb13⟩
  have B13_W := Lib.hid (Fw12_W.out.trans (hb13.mono Fw12_W.out.size))
  have B13_wc1 := Lib.hid (Fw12_wc1.out.trans (hb13.mono Fw12_wc1.out.size))
  have B13_w12 := Lib.hid (Zw12.out.trans (hb13.mono Zw12.out.size))
  have HLAST13 := Lib.hid hb13
  clear hb13
  have HGA := Lib.hid (ownB HG2.out B13_w12.out)
  go_wp2_with fail
  refine (markIntsA Ax Nx cx L w13 HGA.out hNx).mono ?_
  rintro e w14 ⟨rfl, hoff9, ho9⟩
  have Gw14_W := Lib.hid (B13_W.out.trans (hoff9.below (B := W.heap.size) B13_W.out.size (fun b h => by have := WPW.out; have := PWV.out; have h2 : V1.heap.size ≤ b := h; omega)))
  have Gw14_wc1 := Lib.hid (B13_wc1.out.trans (hoff9.below (B := wc1.heap.size) B13_wc1.out.size (fun b h => by have := WPW.out; have := PWV.out; have h2 : V1.heap.size ≤ b := h; omega)))
  have HM := Lib.hid ho9
  clear hoff9 ho9
  have Zw14 := Lib.hid (Below.refl w14.heap.size w14)
  go_wp2_with fail
  refine (heldInts Ax Nx cx w14 (Rd.ofOwn HM.out) hNx).mono ?_
  rintro e w' ⟨rfl, rfl⟩
  have hN4 : 0 ≤ (Nx : Int) := Int.natCast_nonneg _
  have ka0_0 := HK0_0.out _ Gw14_W.out
  have ka0_1 := HK0_1.out _ Gw14_W.out
  have ka0_2 := HK0_2.out _ Gw14_W.out
  have ka1_0 := HK1_0.out _ Gw14_W.out
  have ka1_1 := HK1_1.out _ Gw14_W.out
  have ka1_2 := HK1_2.out _ Gw14_W.out
  have ka1_3 := HK1_3.out _ Gw14_W.out
  have ka1_4 := HK1_4.out _ Gw14_W.out
  have hbd : Bel w14 w14.drew := Bel.of (Below.refl _ _).drew
  have hgw0 : w.heap.size < w14.heap.size := Nat.lt_of_lt_of_le (by have := HZ.out; omega) Gw14_W.out.size
  have hgw1 : w.heap.size + 1 < w14.heap.size := Nat.lt_of_lt_of_le (by have := HZ.out; omega) Gw14_W.out.size
  go_upto_region 31 with fail
  go_cut [15, 16] (fun s15 s16 wx => ∃ (A : Option Addr), ∃ (N c : Nat), s15 = .slice A N c ∧ s16 = .bool b ∧ Hid (N = L.length) ∧ Hid (Rd wx wx.heap.size A (L.map (Value.int .i64))) ∧ Bel w14 wx)
  case first =>
    go_region_held3 (fun U => U.cell? ⟨w.heap.size, 0, none⟩ = some (.slice A1 n1 c1) ∧ U.cell? ⟨w.heap.size, 1, none⟩ = some (.slice A2 n2 c2) ∧ U.cell? ⟨w.heap.size, 2, none⟩ = some (.slice A3 n3 c3) ∧ U.cell? ⟨w.heap.size + 1, 0, none⟩ = some (.int .i64 p0_1) ∧ U.cell? ⟨w.heap.size + 1, 1, none⟩ = some (.int .i64 p1_1) ∧ U.cell? ⟨w.heap.size + 1, 2, none⟩ = some (.slice Azx nzx czx) ∧ U.cell? ⟨w.heap.size + 1, 3, none⟩ = some (.int .i64 q0_1) ∧ U.cell? ⟨w.heap.size + 1, 4, none⟩ = some (.int .i64 q1_1) ∧ Bel w14 U)
      (first | go_keep | (go_split_ands; (refine ⟨?_, ?_, ?_, ?_, ?_, ?_, ?_, ?_, ?_⟩ <;> first | assumption | exact Bel.step (by assumption) hbc4a | exact (Bel.at_ (by assumption) hbc4a (by assumption)).trans (by assumption) | exact Bel.step (by assumption) hbc4b | exact (Bel.at_ (by assumption) hbc4b (by assumption)).trans (by assumption) | exact Bel.step (by assumption) hbc4z | exact (Bel.at_ (by assumption) hbc4z (by assumption)).trans (by assumption))))
      (first
        | (go_at_call 15
           go_split_ands
           refine (toPl A1 A2 A3 n1 c1 n2 c2 n3 c3 ss fs ls _ HN1.out (HR1.out _ (Below.trans Gw14_W.out ((Bel.out (by assumption)).mono Gw14_W.out.size))) hsm1 HN2.out (HR2.out _ (Below.trans Gw14_W.out ((Bel.out (by assumption)).mono Gw14_W.out.size))) hsm2 HN3.out (HR3.out _ (Below.trans Gw14_W.out ((Bel.out (by assumption)).mono Gw14_W.out.size))) (HRI3.out _ (Below.trans Gw14_W.out ((Bel.out (by assumption)).mono Gw14_W.out.size))) hsm3).mono ?_
           rintro e u4a ⟨c4a1, c4a2, c4a3, ysc4a, rfl, hoc4a1, hoc4a2, hgc4a, hdc4a, hTc4a, hbc4a⟩
           have Rc4a1 : Hid (∀ V, Below u4a.heap.size u4a V → Rd V V.heap.size (some ⟨c4a1, 0, none⟩) (ss.map Value.string)) := Lib.hid fun V hV => (Rd.ofOwnK hoc4a1).moved hV
           have Rc4a2 : Hid (∀ V, Below u4a.heap.size u4a V → Rd V V.heap.size (some ⟨c4a2, 0, none⟩) (fs.flatMap Q4.cells)) := Lib.hid fun V hV => (Rd.ofOwnK hoc4a2).moved hV
           have Dc4a := Lib.hid hdc4a
           have Tc4a : Hid (∀ V, Below u4a.heap.size u4a V → ∃ B, Lts B c4a3 n3 ysc4a V) := Lib.hid fun V hV => ⟨_, hTc4a.moved hV⟩
           clear hdc4a hTc4a
           clear hoc4a1 hoc4a2 hgc4a)
        | (go_at_call 47
           go_split_ands
           refine (toLtK p0_1 p1_1 q0_1 q1_1 Azx nzx czx zx _ HNzx.out (HRzx.out _ (Below.trans Gw14_W.out ((Bel.out (by assumption)).mono Gw14_W.out.size))) hsmzx).mono ?_
           rintro e u4b ⟨c4b, rfl, hgc4b, hoc4b, hbc4b⟩
           have Rc4b : Hid (∀ V, Below u4b.heap.size u4b V → Rd V V.heap.size (some ⟨c4b, 0, none⟩) (zx.map (Value.int .i64))) := Lib.hid fun V hV => (Rd.ofOwnK hoc4b).moved hV
           clear hoc4b hgc4b)
        | (go_at_call 48
           go_split_ands
           refine (implCLK ⟨HN1.out, hsm1, Nat.le_refl _, Rc4a1.out _ (by first | exact Below.refl _ _ | assumption), HWS.out, HN2.out, hsm2, Rc4a2.out _ (by first | exact Below.refl _ _ | assumption)⟩ (Tc4a.out _ (by first | exact Below.refl _ _ | assumption)).choose_spec Dc4a.out hsm3 p0_1 p1_1 (c := nzx) HNzx.out (Rc4b.out _ (by first | exact Below.refl _ _ | assumption)) hsmzx q0_1 q1_1).mono ?_
           rw [HL.out, HB.out]
           rintro e u4z ⟨Ah, Nh, ch, rfl, HNNh, hoh, hbc4z⟩))
    all_goals
      go_split_ands
      have hbl : Bel w14 u4z := by assumption
      clear ka0_0 ka0_1 ka0_2 ka1_0 ka1_1 ka1_2 ka1_3 ka1_4
      go_wp2_with fail
      go_meet
      exact ⟨Ah, Nh, ch, rfl, rfl, HNNh, Lib.hid (Rd.ofOwn hoh), hbl⟩
  case rest =>
  clear hbd hgw0 hgw1 ka0_0 ka0_1 ka0_2 ka1_0 ka1_1 ka1_2 ka1_3 ka1_4
  revert hcut; generalize wc = wc4; intro hcut
  obtain ⟨Ah, Nh, ch, h0_, h1_, HNNh, HAh, hbl⟩ := hcut
  subst h0_ h1_
  have hNh : Nh ≤ 1048576 := by have := HNNh.out; have := HLN.out; omega
  have HRRh : Hid (∀ V, Below wc4.heap.size wc4 V → Rd V V.heap.size Ah (L.map (Value.int .i64))) := Lib.hid fun V hV => HAh.out.moved hV
  have Ewc4_W := Lib.hid (Gw14_W.out.trans ((Bel.out hbl).mono Gw14_W.out.size))
  have Ewc4_wc1 := Lib.hid (Gw14_wc1.out.trans ((Bel.out hbl).mono Gw14_wc1.out.size))
  have Ewc4_w14 := Lib.hid (Zw14.out.trans ((Bel.out hbl).mono Zw14.out.size))
  clear hbl
  have Zwc4 := Lib.hid (Below.refl wc4.heap.size wc4)
  obtain rfl : Nh = Nx := HNNh.out.trans HNNx.out.symm
  go_wp2_with fail
  refine (eqInts _ _ Nh _ _ L wc4 HNNh.out.symm (HRRh.out _ Zwc4.out) (HRRs.out _ Ewc4_wc1.out) hNh).mono ?_
  rintro e w15 ⟨rfl, hb15⟩
  have B15_W := Lib.hid (Ewc4_W.out.trans (hb15.mono Ewc4_W.out.size))
  have B15_wc1 := Lib.hid (Ewc4_wc1.out.trans (hb15.mono Ewc4_wc1.out.size))
  have B15_w14 := Lib.hid (Ewc4_w14.out.trans (hb15.mono Ewc4_w14.out.size))
  have B15_wc4 := Lib.hid (Zwc4.out.trans (hb15.mono Zwc4.out.size))
  have HLAST15 := Lib.hid hb15
  clear hb15
  have HMM := Lib.hid (ownB HM.out B15_w14.out)
  go_wp2_with fail
  refine (heldInts Ax Nh cx w15 (Rd.ofOwn HMM.out) hNh).mono ?_
  rintro e w' ⟨rfl, rfl⟩
  go_wp2
  go_ret
  exact ⟨rfl, HBW.out.trans (B15_W.out.mono HBW.out.size)⟩


theorem own : ownKnob Try.prog.godebug = none := by kernel_rfl
theorem laidOut : laidOutB Try.prog = true := by kernel_rfl
set_option maxRecDepth 100000 in
theorem lifted (os : Os) (started : os.Started) (H : Type) (enc : TypeId × Value → H) :
    ReturnsInHanded {} Try.checked os 7 .any (Rows.fnExactCollidingLightsSpec.pre6 enc Try.prog Try.f7 Rows.fnExactCollidingLightsRow.domain false) (Rows.fnExactCollidingLightsSpec.post enc Try.prog Try.f7 false true false false) := by
  refine returnsInHanded_of_change_sized (C := Try.checked) own started (by kernel_rfl) Try.func7
    (ChangeSpec.witness6 (enc := enc) (C := Try.checked) false ⟨#[], #[.agg #[.slice none 0 0, .slice none 0 0, .slice none 0 0], .agg #[.int .i64 0, .int .i64 0, .slice none 0 0, .int .i64 0, .int .i64 0]], []⟩ 8 (by kernel_rfl) (by kernel_rfl) (by kernel_rfl) (by kernel_rfl)) ?_
  intro W base args ds gs before hval0 hW _ hsz0 _
  clear hsz0
  have hval : ∀ (j : Nat) t v, Try.f7.params[j]? = some t → args[j]? = some v → Value.okWide Try.prog W .any base t v := hval0
  have hW' := hW
  obtain ⟨p, q, hA0, hV, rfl, _, _⟩ := hW
  have hA : DataW.TrodAll enc Try.prog W 0 (fun _ => true) true Try.f7.params.toList args.toList ds p := hA0
  rw [Try.params7] at hA hval
  obtain ⟨v0, vs0, d0, ds0, p0, q0, hargs, rfl, rfl, h0, r0⟩ := trodAll_cons hA
  obtain ⟨v1, vs1, d1, ds1, p1, q1, rfl, rfl, rfl, h1, r1⟩ := trodAll_cons r0
  obtain ⟨rfl, rfl, rfl⟩ := trodAll_nil r1
  obtain rfl : args = #[v0, v1] := by cases args; simp_all
  obtain ⟨rfl, rfl⟩ := trodVars_none hV
  simp only [List.append_nil] at hW'
  have hlt0 : ∀ x ∈ p0, x.block < W.heap.size := fun x hx => by simpa using hW'.lt x (by simp [hx])
  have hlt1 : ∀ x ∈ p1, x.block < W.heap.size := fun x hx => by simpa using hW'.lt x (by simp [hx])
  have fin : ∀ W' : World, Below W.heap.size W W' → Rows.fnExactCollidingLightsSpec.post enc Try.checked.prog Try.f7 false true false false W #[v0, v1] (.bool true) W' := by
    intro W' hb
    refine ⟨_, _, _, [] ++ [], (p0 ++ (p1 ++ [])), [], hW', ?_, ?_, rfl, hb.frame _, fun h => by cases h⟩
    · exact trodAll_mk1 (shut_bool Try.underlying4 true)
    · exact trodAll_cons_mk (Below.trod laidOut (by kernel_rfl) (of_decide_eq_true (by kernel_rfl)) h0 hb hlt0) (trodAll_cons_mk (Below.trod laidOut (by kernel_rfl) (of_decide_eq_true (by kernel_rfl)) h1 hb hlt1) (trodAll_mk0))
  clear hW' hV hA0
  obtain ⟨A0, n0, c0, s0, B0, m0, k0, z0, C0, o0, l0, x0, rfl, ⟨ha0, hb0, hc0, hd0⟩, ⟨he0, hf0, hg0, hh0⟩, ⟨hi0, hj0, hk0, hl0⟩⟩ := open_plan (hval 0 28 v0 rfl rfl) h0
  obtain ⟨p1_, s1_, A1, n1, c1, z1, f1_, k1_, rfl, ha1, hb1, hc1⟩ := open_light (hval 1 82 v1 rfl rfl) h1
  exact (walk A0 n0 c0 s0 B0 m0 k0 z0 C0 o0 l0 x0 p1_ s1_ A1 n1 c1 z1 f1_ k1_ W ha0 hb0 hc0 hd0 he0 hf0 hg0 hh0 hi0 hj0 hk0 hl0 ha1 hb1 hc1).mono fun e W' ⟨he, hb⟩ => ⟨_, he, fin W' hb⟩

theorem closed : joinedFacts Try.prog 7 Try.f7 Rows.fnExactCollidingLightsSpec Rows.fnExactCollidingLightsRow = true := by
  unfold joinedFacts
  rw [jn_mk, jn_li, jn_en]
  kernel_rfl
theorem over : Rows.fnExactCollidingLightsRow.holds Try.pinned (OpenSpec.ofChange Rows.fnExactCollidingLightsSpec) :=
  OpenClaim.holds_of_wide 7 Try.f7 rfl rfl rfl rfl rfl rfl rfl ⟨rfl, rfl, rfl, rfl, rfl⟩ rfl rfl rfl rfl rfl (by kernel_rfl) Try.func7 closed
    (of_decide_eq_true (by kernel_rfl)) (by unfold Func.isWrapper; first | (rw [if_pos (by decide +kernel)]; kernel_rfl) | (rw [if_neg (by decide +kernel)]; exact ⟨rfl, rfl⟩))
    (fun os started H enc _ => lifted os started H enc)

/-- THE STATEMENT -/
theorem proved : Rows.FnExactCollidingLightsSaid :=
  over
end Go.Proofs.Ytnbeomnlobfpfaa.fnExactCollidingLights
