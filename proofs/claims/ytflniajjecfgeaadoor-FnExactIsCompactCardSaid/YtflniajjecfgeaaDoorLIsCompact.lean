/- Proved: at every argument impl.IsCompact answers as spec.IsCompact does and leaves its arguments alone (the law FnExactIsCompact returns true). The table of math/bits as Go's text lays it. -/
import Derived.Test.YtflniajjecfgeaaDoorRows
import Derived.Test.YtflniajjecfgeaaDoorCards
import Derived.Test.YtflniajjecfgeaaDoorTie
import Derived.Test.YtflniajjecfgeaaDoorJn
import Derived.JoinedOf
import Derived.Test.YtflniajjecfgeaaDoorGC
import Derived.Test.YtflniajjecfgeaaDoorGB
import Derived.Test.YtflniajjecfgeaaDoorDfE
import Derived.WalkKit
import Derived.ProofKit
import Derived.OpenShut
import Derived.ShutString
import Derived.SizedLaws
import Derived.Carry
import Derived.LaidMore
import Derived.LaidHandle
import Derived.MakeChecks
import Derived.Stop.Joined
import Derived.SevenTiedAt
import Derived.SliceStrings
import Derived.DataBytes
import Derived.OpenVars
import Derived.ChangeVars
namespace Go.Proofs.YtflniajjecfgeaaDoor.fnExactIsCompact
open Go.ChangeShapes Go.WideShapes Go.ChangeAt Go.RowKit
open Go.ChangeMaps (open_string shut_string)

set_option maxRecDepth 100000 in
set_option maxHeartbeats 8000000 in
theorem walk (A1 : Option Addr) (n1 c1 : Nat) (ss : List ByteArray) (A2 : Option Addr) (n2 c2 : Nat) (fs : List Q4) (A3 : Option Addr) (n3 c3 : Nat) (ls : List Lt) (y : Bool) (w : World) (hn1 : ss.length = n1) (hm1 : n1 ≤ maxLen) (hr1 : Rd w w.heap.size A1 (ss.map Value.string)) (hws : ∀ s ∈ ss, s.size ≤ maxLen) (hn2 : fs.length = n2) (hm2 : n2 ≤ maxLen) (hr2 : Rd w w.heap.size A2 (fs.flatMap Q4.cells)) (_hwf : ∀ q ∈ fs, q.wf) (hn3 : ls.length = n3) (hm3 : n3 ≤ maxLen) (hr3 : Rd w w.heap.size A3 (ls.flatMap Lt.cells)) (hi3 : ∀ x ∈ ls, LtIn w x) (hpow : Tab w) :
    Calls Tryd.prog 3 #[.agg #[.slice A1 n1 c1, .slice A2 n2 c2, .slice A3 n3 c3], .bool y] w fun e w' => e = .returned (.bool true) ∧ Below w.heap.size w w' := by
  have HN1 := Lib.hid hn1; have HN2 := Lib.hid hn2; have HWS := Lib.hid hws; have HN3 := Lib.hid hn3; clear hn1 hn2 hws _hwf hn3
  obtain ⟨r1, hr1e⟩ : ∃ r, (pb (planP ss fs (ls.map Lt.d)) && (dsV ss fs (ls.map Lt.d) y == 0)) = r := ⟨_, rfl⟩
  obtain ⟨r2, hr2e⟩ : ∃ r, pb (planP ss fs (ls.map Lt.d)) = r := ⟨_, rfl⟩
  have HRV : Hid (icR ss fs (ls.map Lt.d) y = .tuple #[.bool r1, .bool r2]) := Lib.hid (by unfold icR; rw [hr1e, hr2e])
  clear hr1e hr2e
  go_enter Tryd.func3, Tryd.ntmps3
  go_wp2_with fail
  obtain ⟨W, hW⟩ : ∃ W, (w.alloc (Obj.cells #[.slice A1 n1 c1, .slice A2 n2 c2, .slice A3 n3 c3] 28)) = W := ⟨_, rfl⟩
  have hk0_0 : W.cell? ⟨w.heap.size, 0, none⟩ = some (.slice A1 n1 c1) := by rw [← hW]; simp [go_sem]
  have hk0_1 : W.cell? ⟨w.heap.size, 1, none⟩ = some (.slice A2 n2 c2) := by rw [← hW]; simp [go_sem]
  have hk0_2 : W.cell? ⟨w.heap.size, 2, none⟩ = some (.slice A3 n3 c3) := by rw [← hW]; simp [go_sem]
  have hz : w.heap.size < W.heap.size := by rw [← hW]; simp
  have hbw : Below w.heap.size w W := by rw [← hW]; exact ((Below.refl w.heap.size w).alloc (Nat.le_refl _) _)
  have HBW := Lib.hid hbw
  have HTAB : Hid (∀ V, Below W.heap.size W V → Tab V) := Lib.hid fun V hV => (hpow.over hbw).over hV
  clear hpow
  rw [hW]
  clear hW
  have HR1 : Hid (∀ V, Below W.heap.size W V → Rd V V.heap.size A1 (ss.map Value.string)) := Lib.hid fun V hV => (hr1.moved hbw).moved hV
  clear hr1
  have HR2 : Hid (∀ V, Below W.heap.size W V → Rd V V.heap.size A2 (fs.flatMap Q4.cells)) := Lib.hid fun V hV => (hr2.moved hbw).moved hV
  clear hr2
  have HR3 : Hid (∀ V, Below W.heap.size W V → Rd V V.heap.size A3 (ls.flatMap Lt.cells)) := Lib.hid fun V hV => (hr3.moved hbw).moved hV
  clear hr3
  have HK0_0 : Hid (∀ V, Below W.heap.size W V → V.cell? ⟨w.heap.size, 0, none⟩ = some (.slice A1 n1 c1)) := Lib.hid fun V hV => (hV.cell (p := ⟨_, _, none⟩) (by show w.heap.size < _; omega)).trans hk0_0
  have HK0_1 : Hid (∀ V, Below W.heap.size W V → V.cell? ⟨w.heap.size, 1, none⟩ = some (.slice A2 n2 c2)) := Lib.hid fun V hV => (hV.cell (p := ⟨_, _, none⟩) (by show w.heap.size < _; omega)).trans hk0_1
  have HK0_2 : Hid (∀ V, Below W.heap.size W V → V.cell? ⟨w.heap.size, 2, none⟩ = some (.slice A3 n3 c3)) := Lib.hid fun V hV => (hV.cell (p := ⟨_, _, none⟩) (by show w.heap.size < _; omega)).trans hk0_2
  have HI3 : Hid (∀ V, Below W.heap.size W V → ∀ x ∈ ls, LtIn V x) := Lib.hid fun V hV x hx => ((hi3 x hx).moved hbw).moved hV
  clear hi3
  clear hk0_0 hk0_1 hk0_2
  have HZ := Lib.hid hz
  clear hz hbw
  have B0 := Lib.hid (Below.refl W.heap.size W)
  refine (szPl A1 A2 A3 n1 c1 n2 c2 n3 c3 1048576 ss fs ls W HN1.out hm1 (HR1.out _ B0.out) HWS.out hm2 HN3.out hm3 (HR3.out _ B0.out) (HI3.out _ B0.out) (by omega) (by omega)).mono ?_
  rintro e w1 ⟨v0, rfl, hb1, hv00, hv10, hv20⟩
  have B1_W := Lib.hid (B0.out.trans (hb1.mono B0.out.size))
  have HLAST1 := Lib.hid hb1
  clear hb1
  by_cases hneg0 : v0 < 0
  · go_wp2
    go_ret
    exact ⟨rfl, HBW.out.trans (B1_W.out.mono HBW.out.size)⟩
  have hp0 : 0 ≤ v0 := by omega
  have hsm1 : n1 ≤ 1048576 := by have := hv20 hp0; omega
  have hsm2 : n2 ≤ 1048576 := by have := hv20 hp0; omega
  have hsm3 : n3 ≤ 1048576 := by have := hv20 hp0; omega
  have HSZ0 := Lib.hid (hv20 hp0)
  have HRI3 : Hid (∀ V, Below W.heap.size W V → ∀ x ∈ ls, LtAt V x) := Lib.hid fun V hV x hx => ⟨(HI3.out V hV x hx).1, by have h1 := hv20 hp0; have h2 := Lttot_le hx; omega, (HI3.out V hV x hx).2.2⟩
  clear HI3
  clear hneg0 hv20 hm1 hm2 hm3
  have ka0_0 := HK0_0.out _ B1_W.out
  have ka0_1 := HK0_1.out _ B1_W.out
  have ka0_2 := HK0_2.out _ B1_W.out
  go_wp2_with fail
  clear ka0_0 ka0_1 ka0_2
  refine (toPl A1 A2 A3 n1 c1 n2 c2 n3 c3 ss fs ls w1 HN1.out (HR1.out _ B1_W.out) hsm1 HN2.out (HR2.out _ B1_W.out) hsm2 HN3.out (HR3.out _ B1_W.out) (HRI3.out _ B1_W.out) hsm3).mono ?_
  rintro e w2 ⟨s01, s02, s03, yss0, rfl, hos01, hos02, hgs0, hds0, hTs0, hb2⟩
  have B2_W := Lib.hid (B1_W.out.trans (hb2.mono B1_W.out.size))
  have HLAST2 := Lib.hid hb2
  clear hb2
  have Os01 := Lib.hid hos01
  have Rs01 : Hid (∀ V, Below w2.heap.size w2 V → Rd V V.heap.size (some ⟨s01, 0, none⟩) (ss.map Value.string)) := Lib.hid fun V hV => (Rd.ofOwnK hos01).moved hV
  have Os02 := Lib.hid hos02
  have Rs02 : Hid (∀ V, Below w2.heap.size w2 V → Rd V V.heap.size (some ⟨s02, 0, none⟩) (fs.flatMap Q4.cells)) := Lib.hid fun V hV => (Rd.ofOwnK hos02).moved hV
  clear hos01 hos02
  have Ds0 := Lib.hid hds0
  have Ts0 : Hid (∀ V, Below w2.heap.size w2 V → Lts w1.heap.size s03 n3 yss0 V) := Lib.hid fun V hV => hTs0.moved hV
  clear hds0 hTs0 hgs0
  have Zw2 := Lib.hid (Below.refl w2.heap.size w2)
  go_wp2_with fail
  refine (specIC ⟨HN1.out, hsm1, Nat.le_refl _, Rs01.out _ Zw2.out, HWS.out, HN2.out, hsm2, Rs02.out _ Zw2.out⟩ (Ts0.out _ Zw2.out) Ds0.out hsm3 y).mono ?_
  rw [HRV.out]
  rintro e w3 ⟨rfl, hb3⟩
  have B3_W := Lib.hid (B2_W.out.trans (hb3.mono B2_W.out.size))
  have B3_w2 := Lib.hid (Zw2.out.trans (hb3.mono Zw2.out.size))
  have HLAST3 := Lib.hid hb3
  clear hb3
  have ka0_0 := HK0_0.out _ B3_W.out
  have ka0_1 := HK0_1.out _ B3_W.out
  have ka0_2 := HK0_2.out _ B3_W.out
  go_wp2_with fail
  clear ka0_0 ka0_1 ka0_2
  have ZPRE0 := Lib.hid (Nat.le_refl 0)
  refine (toPl A1 A2 A3 n1 c1 n2 c2 n3 c3 ss fs ls w3 HN1.out (HR1.out _ B3_W.out) hsm1 HN2.out (HR2.out _ B3_W.out) hsm2 HN3.out (HR3.out _ B3_W.out) (HRI3.out _ B3_W.out) hsm3).mono ?_
  rintro e w4 ⟨x01, x02, x03, ysx0, rfl, hox01, hox02, hgx0, hdx0, hTx0, hb4⟩
  have B4_W := Lib.hid (B3_W.out.trans (hb4.mono B3_W.out.size))
  have HLAST4 := Lib.hid hb4
  clear hb4
  have Ox01 := Lib.hid hox01
  have Rx01 : Hid (∀ V, Below w4.heap.size w4 V → Rd V V.heap.size (some ⟨x01, 0, none⟩) (ss.map Value.string)) := Lib.hid fun V hV => (Rd.ofOwnK hox01).moved hV
  have Ox02 := Lib.hid hox02
  have Rx02 : Hid (∀ V, Below w4.heap.size w4 V → Rd V V.heap.size (some ⟨x02, 0, none⟩) (fs.flatMap Q4.cells)) := Lib.hid fun V hV => (Rd.ofOwnK hox02).moved hV
  clear hox01 hox02
  have Dx0 := Lib.hid hdx0
  have Tx0 : Hid (∀ V, Below w4.heap.size w4 V → Lts w3.heap.size x03 n3 ysx0 V) := Lib.hid fun V hV => hTx0.moved hV
  clear hdx0 hTx0 hgx0
  have Zw4 := Lib.hid (Below.refl w4.heap.size w4)
  go_wp2_with fail
  obtain ⟨V0, hV0⟩ : ∃ V, (w4.alloc (Obj.cells #[.slice (some ⟨x01, 0, none⟩) n1 n1, .slice (some ⟨x02, 0, none⟩) n2 n2, .slice (some ⟨x03, 0, none⟩) n3 n3] 37)) = V := ⟨_, rfl⟩
  have hx0_0 : V0.cell? ⟨w4.heap.size, 0, none⟩ = some (.slice (some ⟨x01, 0, none⟩) n1 n1) := by rw [← hV0]; simp [go_sem]
  have hx0_1 : V0.cell? ⟨w4.heap.size, 1, none⟩ = some (.slice (some ⟨x02, 0, none⟩) n2 n2) := by rw [← hV0]; simp [go_sem]
  have hx0_2 : V0.cell? ⟨w4.heap.size, 2, none⟩ = some (.slice (some ⟨x03, 0, none⟩) n3 n3) := by rw [← hV0]; simp [go_sem]
  have hzV0 : w4.heap.size < V0.heap.size := by rw [← hV0]; simp
  have hbV0 : Below w4.heap.size w4 V0 := by rw [← hV0]; exact (Below.refl _ _).alloc (Nat.le_refl _) _
  rw [hV0]
  clear hV0
  have CV0_W := Lib.hid (B4_W.out.trans (hbV0.mono B4_W.out.size))
  have CV0_w4 := Lib.hid (Zw4.out.trans (hbV0.mono Zw4.out.size))
  have HX0_0 : Hid (∀ U, Below V0.heap.size V0 U → U.cell? ⟨w4.heap.size, 0, none⟩ = some (.slice (some ⟨x01, 0, none⟩) n1 n1)) := Lib.hid fun U hU => (hU.cell (p := ⟨_, _, none⟩) hzV0).trans hx0_0
  have HX0_1 : Hid (∀ U, Below V0.heap.size V0 U → U.cell? ⟨w4.heap.size, 1, none⟩ = some (.slice (some ⟨x02, 0, none⟩) n2 n2)) := Lib.hid fun U hU => (hU.cell (p := ⟨_, _, none⟩) hzV0).trans hx0_1
  have HX0_2 : Hid (∀ U, Below V0.heap.size V0 U → U.cell? ⟨w4.heap.size, 2, none⟩ = some (.slice (some ⟨x03, 0, none⟩) n3 n3)) := Lib.hid fun U hU => (hU.cell (p := ⟨_, _, none⟩) hzV0).trans hx0_2
  have HZV0 := Lib.hid hzV0
  clear hzV0 hbV0 hx0_0 hx0_1 hx0_2
  have ZV0 := Lib.hid (Below.refl V0.heap.size V0)
  refine (implIC ⟨HN1.out, hsm1, Nat.le_refl _, Rx01.out _ CV0_w4.out, HWS.out, HN2.out, hsm2, Rx02.out _ CV0_w4.out⟩ (Tx0.out _ CV0_w4.out) Dx0.out hsm3 y (HTAB.out _ CV0_W.out)).mono ?_
  rw [HRV.out]
  rintro e w5 ⟨rfl, hb5⟩
  have B5_W := Lib.hid (CV0_W.out.trans (hb5.mono CV0_W.out.size))
  have B5_w4 := Lib.hid (CV0_w4.out.trans (hb5.mono CV0_w4.out.size))
  have B5_V0 := Lib.hid (ZV0.out.trans (hb5.mono ZV0.out.size))
  have HLAST5 := Lib.hid hb5
  clear hb5
  have ka0_0 := HK0_0.out _ B5_W.out
  have ka0_1 := HK0_1.out _ B5_W.out
  have ka0_2 := HK0_2.out _ B5_W.out
  have kx0_0 := HX0_0.out _ B5_V0.out
  have kx0_1 := HX0_1.out _ B5_V0.out
  have kx0_2 := HX0_2.out _ B5_V0.out
  have hgx : w4.heap.size < w5.heap.size := Nat.lt_of_lt_of_le HZV0.out B5_V0.out.size
  have hgw : w.heap.size < w5.heap.size := Nat.lt_of_lt_of_le (by have := HZ.out; omega) B5_W.out.size
  have hbd : Bel w5 w5.drew := Bel.of (Below.refl _ _).drew
  go_upto_region 10 with fail
  go_cut [43] (fun s43 wx => s43 = .bool false ∧ Bel w5 wx)
  case first =>
    go_region_held3 (fun U => U.cell? ⟨w4.heap.size, 0, none⟩ = some (.slice (some ⟨x01, 0, none⟩) n1 n1) ∧ U.cell? ⟨w4.heap.size, 1, none⟩ = some (.slice (some ⟨x02, 0, none⟩) n2 n2) ∧ U.cell? ⟨w4.heap.size, 2, none⟩ = some (.slice (some ⟨x03, 0, none⟩) n3 n3) ∧ U.cell? ⟨w.heap.size, 0, none⟩ = some (.slice A1 n1 c1) ∧ U.cell? ⟨w.heap.size, 1, none⟩ = some (.slice A2 n2 c2) ∧ U.cell? ⟨w.heap.size, 2, none⟩ = some (.slice A3 n3 c3) ∧ Bel w5 U)
      (first | go_keep | (go_split_ands; (refine ⟨?_, ?_, ?_, ?_, ?_, ?_, ?_⟩ <;> first | assumption | exact Bel.step (by assumption) hbt6 | exact Bel.step (by assumption) hbt7 | exact (Bel.at_ (by assumption) hbt6 (by assumption)).trans (by assumption) | exact (Bel.at_ (by assumption) hbt7 (by assumption)).trans (by assumption))))
      (first
        | (go_at_call 6
           go_split_ands
           refine (toPl A1 A2 A3 n1 c1 n2 c2 n3 c3 ss fs ls _ HN1.out (HR1.out _ (Below.trans B5_W.out ((Bel.out (by assumption)).mono B5_W.out.size))) hsm1 HN2.out (HR2.out _ (Below.trans B5_W.out ((Bel.out (by assumption)).mono B5_W.out.size))) hsm2 HN3.out (HR3.out _ (Below.trans B5_W.out ((Bel.out (by assumption)).mono B5_W.out.size))) (HRI3.out _ (Below.trans B5_W.out ((Bel.out (by assumption)).mono B5_W.out.size))) hsm3).mono ?_
           rintro e t6 ⟨y71, y72, y73, ysy7, rfl, hoy71, hoy72, hgy7, hdy7, hTy7, hbt6⟩
           have Sy71 := Lib.hid (Rd.ofOwnK hoy71)
           have Sy72 := Lib.hid (Rd.ofOwnK hoy72)
           have Dy7 := Lib.hid hdy7; have STy7 := Lib.hid hTy7; clear hdy7 hTy7
           clear hoy71 hoy72 hgy7)
        | (go_at_call 8
           go_split_ands
           refine (eqPl x01 x02 x03 y71 y72 y73 n1 n2 n3 ss fs ysx0 ysy7 t6 HN1.out hsm1 HN2.out hsm2 (Rx01.out _ (Below.trans B5_w4.out ((Bel.out (by assumption)).mono B5_w4.out.size))) (Sy71.out) (Rx02.out _ (Below.trans B5_w4.out ((Bel.out (by assumption)).mono B5_w4.out.size))) (Sy72.out) (Tx0.out _ (Below.trans B5_w4.out ((Bel.out (by assumption)).mono B5_w4.out.size))) (STy7.out) (Dx0.out.trans Dy7.out.symm) hsm3).mono ?_
           rintro e t7 ⟨rfl, hbt7⟩))
    all_goals
      go_split_ands
      have hbl : Bel w5 t7 := by assumption
      go_wp2_with fail
      go_meet
      exact ⟨rfl, hbl⟩
  case rest =>
  clear hbd hgx hgw ka0_0 ka0_1 ka0_2 kx0_0 kx0_1 kx0_2
  revert hcut; generalize wc = wc1; intro hcut
  obtain ⟨hs_, hbl⟩ := hcut
  subst hs_
  have Ewc1_W := Lib.hid (B5_W.out.trans ((Bel.out hbl).mono B5_W.out.size))
  have Ewc1_w4 := Lib.hid (B5_w4.out.trans ((Bel.out hbl).mono B5_w4.out.size))
  have Ewc1_V0 := Lib.hid (B5_V0.out.trans ((Bel.out hbl).mono B5_V0.out.size))
  clear hbl
  go_wp2
  go_ret
  exact ⟨rfl, HBW.out.trans (Ewc1_W.out.mono HBW.out.size)⟩


theorem own : ownKnob Tryd.prog.godebug = none := by kernel_rfl
theorem laidOut : laidOutB Tryd.prog = true := by kernel_rfl

theorem tTab : (Tryd.prog.globals[1]?).map (·.type) = some 146 := by kernel_rfl
theorem cTab : Tryd.prog.cellsOf 146 = 64 := by kernel_rfl
theorem cU8 : Tryd.prog.cellsOf 5 = 1 := by kernel_rfl
theorem pow_of_laid {W : World} (h : laidMetH Tryd.prog Rows.fnExactIsCompactRow.laid W) : Tab W := by
  have h3 : laidMetH Tryd.prog (Rows.fnExactIsCompactRow.laid.filter fun x => x.1 == "math/bits.deBruijn64tab") W := h.filter _
  have e : (Rows.fnExactIsCompactRow.laid.filter fun x => x.1 == "math/bits.deBruijn64tab") = [("math/bits.deBruijn64tab", Lib.tabData .u8 tzTab)] := by kernel_rfl
  rw [e, MakeChecks.laidMetH_plain _ _ _ (by kernel_rfl)] at h3
  exact Lib.tabIs_of_head tabAt tTab Tryd.underlying146 Tryd.underlying5 cU8 cTab h3

theorem door_met (os : Os) (args : Array Value) : laidMetH Tryd.prog Rows.fnExactIsCompactRow.laid ((World.doorLaid Tryd.prog 19 os).forCall (fun _ _ => 0) ⟨#[], args, []⟩).memory :=
  laidMetH_of_parts3 (fuel := 8) (laidMet_of_run' 8 (by kernel_rfl) (by kernel_rfl)) (by kernel_rfl) (by kernel_rfl)

set_option maxRecDepth 100000 in
theorem lifted (os : Os) (started : os.Started) (H : Type) (enc : TypeId × Value → H) :
    ReturnsInHanded {} Tryd.checked os 3 .any (fun w args => (Rows.fnExactIsCompactSpec.pre enc Tryd.prog Tryd.f3 [] false w args ∧ laidMetH Tryd.prog Rows.fnExactIsCompactRow.laid w) ∧ sizedMet enc Tryd.prog Tryd.f3 (OpenSpec.ofChange Rows.fnExactIsCompactSpec) false w args)
      (Rows.fnExactIsCompactSpec.post enc Tryd.prog Tryd.f3 false true false false) := by
  refine returnsInHanded_of_change_and (C := Tryd.checked) (X := fun w _ => laidMetH Tryd.prog Rows.fnExactIsCompactRow.laid w) (fun _ _ _ hh h => h.of_heap hh) own started (by kernel_rfl) Tryd.func3
    (ChangeSpec.witness_shaped (enc := enc) (C := Tryd.checked) (os := os) (X := fun w _ => laidMetH Tryd.prog Rows.fnExactIsCompactRow.laid w) false (World.doorLaid Tryd.prog 19 os) #[.agg #[.slice none 0 0, .slice none 0 0, .slice none 0 0], .bool false] 8 rfl (World.shaped_of_RefB (by kernel_rfl) (by kernel_rfl)) (by kernel_rfl) (by kernel_rfl) (by kernel_rfl) (door_met os _)) ?_
  intro W base args ds gs before hval0 hW _ hsz0 hL _
  have hval : ∀ (j : Nat) t v, Tryd.f3.params[j]? = some t → args[j]? = some v → Value.okWide Tryd.prog W .any base t v := hval0
  have hsz : (DataW.weightsEach Tryd.prog (Tryd.f3.params.toList ++ Rows.fnExactIsCompactSpec.plain.varTypes Tryd.prog) (ds ++ gs)).all (· ≤ reachBytes) = true := hsz0
  have hpow := pow_of_laid hL
  have hW' := hW
  obtain ⟨p, q, hA0, hV, rfl, hfz, hnd⟩ := hW
  have hA : DataW.TrodAll enc Tryd.prog W 0 (fun _ => true) true Tryd.f3.params.toList args.toList ds p := hA0
  rw [Tryd.params3] at hA hval hsz
  obtain ⟨v0, vs0, d0, ds0, p0, q0, hargs, rfl, rfl, h0, r0⟩ := trodAll_cons hA
  obtain ⟨v1, vs1, d1, ds1, p1, q1, rfl, rfl, rfl, h1, r1⟩ := trodAll_cons r0
  obtain ⟨rfl, rfl, rfl⟩ := trodAll_nil r1
  obtain rfl : args = #[v0, v1] := by cases args; simp_all
  obtain ⟨rfl, rfl⟩ := trodVars_none hV
  simp only [List.append_nil] at hW'
  have hlt0 : ∀ x ∈ p0, x.block < W.heap.size := fun x hx => by simpa using hW'.lt x (by simp [hx])
  have hlt1 : ∀ x ∈ p1, x.block < W.heap.size := fun x hx => by simpa using hW'.lt x (by simp [hx])
  have fin : ∀ W' : World, Below W.heap.size W W' → Rows.fnExactIsCompactSpec.post enc Tryd.checked.prog Tryd.f3 false true false false W #[v0, v1] (.bool true) W' := by
    intro W' hb
    refine ⟨_, _, _, [] ++ [], (p0 ++ (p1 ++ [])), [], hW', ?_, ?_, rfl, hb.frame _, fun h => by cases h⟩
    · exact trodAll_mk1 (shut_bool Tryd.underlying4 true)
    · exact trodAll_cons_mk (Below.trod laidOut (by kernel_rfl) (of_decide_eq_true (by kernel_rfl)) h0 hb hlt0) (trodAll_cons_mk (Below.trod laidOut (by kernel_rfl) (of_decide_eq_true (by kernel_rfl)) h1 hb hlt1) (trodAll_mk0))
  clear hW' hV hA0
  obtain ⟨A0, n0, c0, s0, B0, m0, k0, z0, C0, o0, l0, x0, rfl, ⟨ha0, hb0, hc0, hd0⟩, ⟨he0, hf0, hg0, hh0⟩, ⟨hi0, hj0, hk0, hl0⟩⟩ := open_plan (hval 0 28 v0 rfl rfl) h0
  obtain ⟨a1, rfl, _, _⟩ := open_bool Tryd.underlying4 (hval 1 4 v1 rfl rfl) h1
  exact (walk A0 n0 c0 s0 B0 m0 k0 z0 C0 o0 l0 x0 a1 W ha0 hb0 hc0 hd0 he0 hf0 hg0 hh0 hi0 hj0 hk0 hl0 hpow).mono fun e W' ⟨he, hb⟩ => ⟨_, he, fin W' hb⟩

theorem closed : joinedFacts Tryd.prog 3 Tryd.f3 Rows.fnExactIsCompactSpec Rows.fnExactIsCompactRow = true := by
  unfold joinedFacts
  rw [jn_mk, jn_li, jn_en]
  kernel_rfl
theorem over : Rows.fnExactIsCompactRow.holds Tryd.pinned (OpenSpec.ofChange Rows.fnExactIsCompactSpec) :=
  OpenClaim.holds_of_wide 3 Tryd.f3 rfl rfl rfl rfl rfl rfl rfl ⟨rfl, rfl, rfl, rfl, rfl⟩ rfl rfl rfl rfl rfl (by kernel_rfl) Tryd.func3 closed
    (of_decide_eq_true (by kernel_rfl)) (by unfold Func.isWrapper; first | (rw [if_pos (by decide +kernel)]; kernel_rfl) | (rw [if_neg (by decide +kernel)]; exact ⟨rfl, rfl⟩))
    (fun os started H enc _ => lifted os started H enc)

/-- THE STATEMENT -/
theorem proved : Rows.FnExactIsCompactCardSaid :=
  Claim7.holds_tied_plain_at .later [] [.data, .data] true (true, "821e7a69ca7e188432005dc76847f95ae0c51877838348557f8853f485fd55cd") false
    over (fun _ h => by cases h) (by kernel_rfl) (fun _ h => by cases h) fnExactIsCompact_row_tie rfl ⟨rfl, rfl⟩ jn_main rfl
    (fun f fn hf hfn => by
      obtain rfl : f = 3 := Option.some.inj ((show Tryd.prog.funcNamed "loop.example/g00897/laws.FnExactIsCompact" = some 3 by kernel_rfl).symm.trans hf) |>.symm
      obtain rfl : fn = Tryd.f3 := (Option.some.inj (Tryd.func3.symm.trans hfn)).symm
      exact ⟨by kernel_rfl, fun j t ht => by
        rw [Tryd.params3] at ht
        have hm : t ∈ [28, 4] := by simpa using Array.mem_of_getElem? ht
        have hall : ([28, 4].all fun u => !Tryd.prog.wantsStandIn u) = true := by kernel_rfl
        exact (show Tryd.prog.wantsStandIn t = false by simpa using List.all_eq_true.1 hall t hm)⟩)
    (by kernel_rfl)
end Go.Proofs.YtflniajjecfgeaaDoor.fnExactIsCompact
