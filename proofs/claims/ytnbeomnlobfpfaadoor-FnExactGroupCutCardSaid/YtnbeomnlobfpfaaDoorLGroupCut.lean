/- Proved: at every argument impl.GroupCut answers as spec.GroupCut does, in memory of its own, and leaves its arguments alone (the law FnExactGroupCut returns true). The table of math/bits as Go's text lays it. -/
import Derived.Test.YtnbeomnlobfpfaaDoorRows
import Derived.Test.YtnbeomnlobfpfaaDoorCards
import Derived.Test.YtnbeomnlobfpfaaDoorTie
import Derived.Test.YtnbeomnlobfpfaaDoorJn
import Derived.JoinedOf
import Derived.Test.YtnbeomnlobfpfaaDoorGC
import Derived.Test.YtnbeomnlobfpfaaDoorGB
import Derived.Test.YtnbeomnlobfpfaaDoorGc
import Derived.WalkKit
import Derived.ProofKit
import Derived.OpenShut
import Derived.ShutString
import Derived.SizedLaws
import Derived.Carry
import Derived.LaidMore
import Derived.LaidHandle
import Derived.MakeChecks
import Derived.Stop.Joined
import Derived.SevenTiedAt
import Derived.SliceStrings
import Derived.DataBytes
import Derived.OpenVars
import Derived.ChangeVars
namespace Go.Proofs.YtnbeomnlobfpfaaDoor.fnExactGroupCut
open Go.ChangeShapes Go.WideShapes Go.ChangeAt Go.RowKit
open Go.ChangeMaps (open_string shut_string)

set_option maxRecDepth 100000 in
set_option maxHeartbeats 8000000 in
theorem walk (A1 : Option Addr) (n1 c1 : Nat) (ss : List ByteArray) (A2 : Option Addr) (n2 c2 : Nat) (fs : List Q4) (x : Int) (y : Int) (w : World) (hn1 : ss.length = n1) (hm1 : n1 ≤ maxLen) (hr1 : Rd w w.heap.size A1 (ss.map Value.string)) (hws : ∀ s ∈ ss, s.size ≤ maxLen) (hn2 : fs.length = n2) (hm2 : n2 ≤ maxLen) (hr2 : Rd w w.heap.size A2 (fs.flatMap Q4.cells)) (_hwf : ∀ q ∈ fs, q.wf) (_w1 : (Lit.int .i64 x).wf = true) (_w2 : (Lit.int .i64 y).wf = true) (hpow : Tab w) :
    Calls Tryd.prog 3 #[.agg #[.slice A1 n1 c1, .slice A2 n2 c2], .int .i64 x, .int .i64 y] w fun e w' => e = .returned (.bool true) ∧ Below w.heap.size w w' := by
  have HN1 := Lib.hid hn1; have HN2 := Lib.hid hn2; have HWS := Lib.hid hws; clear hn1 hn2 hws _hwf
  clear _w1
  clear _w2
  go_enter Tryd.func3, Tryd.ntmps3
  go_wp2_with fail
  obtain ⟨W, hW⟩ : ∃ W, (w.alloc (Obj.cells #[.slice A1 n1 c1, .slice A2 n2 c2] 25)) = W := ⟨_, rfl⟩
  have hk0_0 : W.cell? ⟨w.heap.size, 0, none⟩ = some (.slice A1 n1 c1) := by rw [← hW]; simp [go_sem]
  have hk0_1 : W.cell? ⟨w.heap.size, 1, none⟩ = some (.slice A2 n2 c2) := by rw [← hW]; simp [go_sem]
  have hz : w.heap.size < W.heap.size := by rw [← hW]; simp
  have hbw : Below w.heap.size w W := by rw [← hW]; exact ((Below.refl w.heap.size w).alloc (Nat.le_refl _) _)
  have HBW := Lib.hid hbw
  have HTAB : Hid (∀ V, Below W.heap.size W V → Tab V) := Lib.hid fun V hV => (hpow.over hbw).over hV
  clear hpow
  rw [hW]
  clear hW
  have HR1 : Hid (∀ V, Below W.heap.size W V → Rd V V.heap.size A1 (ss.map Value.string)) := Lib.hid fun V hV => (hr1.moved hbw).moved hV
  clear hr1
  have HR2 : Hid (∀ V, Below W.heap.size W V → Rd V V.heap.size A2 (fs.flatMap Q4.cells)) := Lib.hid fun V hV => (hr2.moved hbw).moved hV
  clear hr2
  have HK0_0 : Hid (∀ V, Below W.heap.size W V → V.cell? ⟨w.heap.size, 0, none⟩ = some (.slice A1 n1 c1)) := Lib.hid fun V hV => (hV.cell (p := ⟨_, _, none⟩) (by show w.heap.size < _; omega)).trans hk0_0
  have HK0_1 : Hid (∀ V, Below W.heap.size W V → V.cell? ⟨w.heap.size, 1, none⟩ = some (.slice A2 n2 c2)) := Lib.hid fun V hV => (hV.cell (p := ⟨_, _, none⟩) (by show w.heap.size < _; omega)).trans hk0_1
  clear hk0_0 hk0_1
  have HZ := Lib.hid hz
  clear hz hbw
  have B0 := Lib.hid (Below.refl W.heap.size W)
  refine (szNet A1 A2 n1 c1 n2 c2 1048576 ss fs W HN1.out hm1 (HR1.out _ B0.out) HWS.out hm2 (by omega) (by omega)).mono ?_
  rintro e w1 ⟨v0, rfl, hb1, hv00, hv10, hv20⟩
  have B1_W := Lib.hid (B0.out.trans (hb1.mono B0.out.size))
  have HLAST1 := Lib.hid hb1
  clear hb1
  by_cases hneg0 : v0 < 0
  · go_wp2
    go_ret
    exact ⟨rfl, HBW.out.trans (B1_W.out.mono HBW.out.size)⟩
  have hp0 : 0 ≤ v0 := by omega
  have hsm1 : n1 ≤ 1048576 := by have := hv20 hp0; omega
  have hsm2 : n2 ≤ 1048576 := by have := hv20 hp0; omega
  have HSZ0 := Lib.hid (hv20 hp0)
  clear hneg0 hv20 hm1 hm2
  have hLn : (gcL ss fs x y).length ≤ 1048576 := Nat.le_trans (gcL_len _ _ _ _) (by have := HN2.out; omega)
  obtain ⟨L, hL⟩ : ∃ L, gcL ss fs x y = L := ⟨_, rfl⟩
  obtain ⟨b, hb⟩ : ∃ b, pb (endP ss fs x y) = b := ⟨_, rfl⟩
  rw [hL] at hLn
  have HL := Lib.hid hL; have HB := Lib.hid hb; have HLN := Lib.hid hLn
  clear hL hb hLn
  have ka0_0 := HK0_0.out _ B1_W.out
  have ka0_1 := HK0_1.out _ B1_W.out
  go_wp2_with fail
  clear ka0_0 ka0_1
  refine (toNet A1 A2 n1 c1 n2 c2 ss fs w1 HN1.out (HR1.out _ B1_W.out) hsm1 HN2.out (HR2.out _ B1_W.out) hsm2).mono ?_
  rintro e w2 ⟨s01, s02, rfl, hos01, hos02, hb2⟩
  have B2_W := Lib.hid (B1_W.out.trans (hb2.mono B1_W.out.size))
  have HLAST2 := Lib.hid hb2
  clear hb2
  have Os01 := Lib.hid hos01
  have Rs01 : Hid (∀ V, Below w2.heap.size w2 V → Rd V V.heap.size (some ⟨s01, 0, none⟩) (ss.map Value.string)) := Lib.hid fun V hV => (Rd.ofOwnK hos01).moved hV
  have Os02 := Lib.hid hos02
  have Rs02 : Hid (∀ V, Below w2.heap.size w2 V → Rd V V.heap.size (some ⟨s02, 0, none⟩) (fs.flatMap Q4.cells)) := Lib.hid fun V hV => (Rd.ofOwnK hos02).moved hV
  clear hos01 hos02
  have Zw2 := Lib.hid (Below.refl w2.heap.size w2)
  go_wp2_with fail
  refine (specGC ⟨HN1.out, hsm1, Nat.le_refl _, Rs01.out _ Zw2.out, HWS.out, HN2.out, hsm2, Rs02.out _ Zw2.out⟩ x y).mono ?_
  rw [HL.out, HB.out]
  rintro e w3 ⟨As, Ns, cs, rfl, HNNs, hos, hb3⟩
  have B3_W := Lib.hid (B2_W.out.trans (hb3.mono B2_W.out.size))
  have B3_w2 := Lib.hid (Zw2.out.trans (hb3.mono Zw2.out.size))
  have HLAST3 := Lib.hid hb3
  clear hb3
  have HOs := Lib.hid hos; clear hos
  have hNs : Ns ≤ 1048576 := by have := HNNs.out; have := HLN.out; omega
  have HRRs : Hid (∀ V, Below w3.heap.size w3 V → Rd V V.heap.size As (L.map (Value.int .i64))) := Lib.hid fun V hV => (Rd.ofOwn HOs.out).moved hV
  have Zw3 := Lib.hid (Below.refl w3.heap.size w3)
  have WPW := Lib.hid B3_W.out.size
  have ka0_0 := HK0_0.out _ B3_W.out
  have ka0_1 := HK0_1.out _ B3_W.out
  go_wp2_with fail
  clear ka0_0 ka0_1
  have ZPRE0 := Lib.hid (Zw3.out.size)
  refine (toNet A1 A2 n1 c1 n2 c2 ss fs w3 HN1.out (HR1.out _ B3_W.out) hsm1 HN2.out (HR2.out _ B3_W.out) hsm2).mono ?_
  rintro e w4 ⟨x01, x02, rfl, hox01, hox02, hb4⟩
  have B4_W := Lib.hid (B3_W.out.trans (hb4.mono B3_W.out.size))
  have B4_w3 := Lib.hid (Zw3.out.trans (hb4.mono Zw3.out.size))
  have HLAST4 := Lib.hid hb4
  clear hb4
  have Ox01 := Lib.hid hox01
  have Rx01 : Hid (∀ V, Below w4.heap.size w4 V → Rd V V.heap.size (some ⟨x01, 0, none⟩) (ss.map Value.string)) := Lib.hid fun V hV => (Rd.ofOwnK hox01).moved hV
  have Ox02 := Lib.hid hox02
  have Rx02 : Hid (∀ V, Below w4.heap.size w4 V → Rd V V.heap.size (some ⟨x02, 0, none⟩) (fs.flatMap Q4.cells)) := Lib.hid fun V hV => (Rd.ofOwnK hox02).moved hV
  clear hox01 hox02
  have Zw4 := Lib.hid (Below.refl w4.heap.size w4)
  go_wp2_with fail
  obtain ⟨V0, hV0⟩ : ∃ V, (w4.alloc (Obj.cells #[.slice (some ⟨x01, 0, none⟩) n1 n1, .slice (some ⟨x02, 0, none⟩) n2 n2] 32)) = V := ⟨_, rfl⟩
  have hx0_0 : V0.cell? ⟨w4.heap.size, 0, none⟩ = some (.slice (some ⟨x01, 0, none⟩) n1 n1) := by rw [← hV0]; simp [go_sem]
  have hx0_1 : V0.cell? ⟨w4.heap.size, 1, none⟩ = some (.slice (some ⟨x02, 0, none⟩) n2 n2) := by rw [← hV0]; simp [go_sem]
  have hzV0 : w4.heap.size < V0.heap.size := by rw [← hV0]; simp
  have hbV0 : Below w4.heap.size w4 V0 := by rw [← hV0]; exact (Below.refl _ _).alloc (Nat.le_refl _) _
  rw [hV0]
  clear hV0
  have CV0_W := Lib.hid (B4_W.out.trans (hbV0.mono B4_W.out.size))
  have CV0_w3 := Lib.hid (B4_w3.out.trans (hbV0.mono B4_w3.out.size))
  have CV0_w4 := Lib.hid (Zw4.out.trans (hbV0.mono Zw4.out.size))
  have HX0_0 : Hid (∀ U, Below V0.heap.size V0 U → U.cell? ⟨w4.heap.size, 0, none⟩ = some (.slice (some ⟨x01, 0, none⟩) n1 n1)) := Lib.hid fun U hU => (hU.cell (p := ⟨_, _, none⟩) hzV0).trans hx0_0
  have HX0_1 : Hid (∀ U, Below V0.heap.size V0 U → U.cell? ⟨w4.heap.size, 1, none⟩ = some (.slice (some ⟨x02, 0, none⟩) n2 n2)) := Lib.hid fun U hU => (hU.cell (p := ⟨_, _, none⟩) hzV0).trans hx0_1
  have HZV0 := Lib.hid hzV0
  clear hzV0 hbV0 hx0_0 hx0_1
  have ZV0 := Lib.hid (Below.refl V0.heap.size V0)
  have PWV := Lib.hid CV0_w3.out.size
  have HQx01 : Hid (w3.heap.size ≤ x01 ∧ x01 < V0.heap.size) := Lib.hid ⟨Nat.le_trans ZPRE0.out (Ox01.out.lt x01 rfl).1, Nat.lt_of_lt_of_le (Ox01.out.lt x01 rfl).2 CV0_w4.out.size⟩
  have HQx02 : Hid (w3.heap.size ≤ x02 ∧ x02 < V0.heap.size) := Lib.hid ⟨Nat.le_trans ZPRE0.out (Ox02.out.lt x02 rfl).1, Nat.lt_of_lt_of_le (Ox02.out.lt x02 rfl).2 CV0_w4.out.size⟩
  refine (implGC ⟨HN1.out, hsm1, Nat.le_refl _, Rx01.out _ CV0_w4.out, HWS.out, HN2.out, hsm2, Rx02.out _ CV0_w4.out⟩ x y (HTAB.out _ CV0_W.out)).mono ?_
  rw [HL.out, HB.out]
  rintro e w5 ⟨Ax, Nx, cx, rfl, HNNx, hox, hb5⟩
  have B5_W := Lib.hid (CV0_W.out.trans (hb5.mono CV0_W.out.size))
  have B5_w3 := Lib.hid (CV0_w3.out.trans (hb5.mono CV0_w3.out.size))
  have B5_w4 := Lib.hid (CV0_w4.out.trans (hb5.mono CV0_w4.out.size))
  have B5_V0 := Lib.hid (ZV0.out.trans (hb5.mono ZV0.out.size))
  have HLAST5 := Lib.hid hb5
  clear hb5
  have HOx := Lib.hid hox; clear hox
  have hNx : Nx ≤ 1048576 := by have := HNNx.out; have := HLN.out; omega
  obtain rfl : Nx = Ns := HNNx.out.trans HNNs.out.symm
  have Zw5 := Lib.hid (Below.refl w5.heap.size w5)
  go_wp2_with fail
  refine (eqInts _ _ Nx _ _ L w5 HNNx.out.symm (Rd.ofOwn (ownB HOx.out Zw5.out)) (HRRs.out _ B5_w3.out) hNx).mono ?_
  rintro e w6 ⟨rfl, hb6⟩
  have B6_W := Lib.hid (B5_W.out.trans (hb6.mono B5_W.out.size))
  have B6_w3 := Lib.hid (B5_w3.out.trans (hb6.mono B5_w3.out.size))
  have B6_w4 := Lib.hid (B5_w4.out.trans (hb6.mono B5_w4.out.size))
  have B6_V0 := Lib.hid (B5_V0.out.trans (hb6.mono B5_V0.out.size))
  have B6_w5 := Lib.hid (Zw5.out.trans (hb6.mono Zw5.out.size))
  have HLAST6 := Lib.hid hb6
  clear hb6
  have ka0_0 := HK0_0.out _ B6_W.out
  have ka0_1 := HK0_1.out _ B6_W.out
  have kx0_0 := HX0_0.out _ B6_V0.out
  have kx0_1 := HX0_1.out _ B6_V0.out
  have hgx : w4.heap.size < w6.heap.size := Nat.lt_of_lt_of_le HZV0.out B6_V0.out.size
  have hgw : w.heap.size < w6.heap.size := Nat.lt_of_lt_of_le (by have := HZ.out; omega) B6_W.out.size
  have hbd : Bel w6 w6.drew := Bel.of (Below.refl _ _).drew
  go_upto_region 10 with fail
  go_cut [53] (fun s53 wx => s53 = .bool false ∧ Bel w6 wx)
  case first =>
    go_region_held3 (fun U => U.cell? ⟨w4.heap.size, 0, none⟩ = some (.slice (some ⟨x01, 0, none⟩) n1 n1) ∧ U.cell? ⟨w4.heap.size, 1, none⟩ = some (.slice (some ⟨x02, 0, none⟩) n2 n2) ∧ U.cell? ⟨w.heap.size, 0, none⟩ = some (.slice A1 n1 c1) ∧ U.cell? ⟨w.heap.size, 1, none⟩ = some (.slice A2 n2 c2) ∧ Bel w6 U)
      (first | go_keep | (go_split_ands; (refine ⟨?_, ?_, ?_, ?_, ?_⟩ <;> first | assumption | exact Bel.step (by assumption) hbt7 | exact Bel.step (by assumption) hbt8 | exact (Bel.at_ (by assumption) hbt7 (by assumption)).trans (by assumption) | exact (Bel.at_ (by assumption) hbt8 (by assumption)).trans (by assumption))))
      (first
        | (go_at_call 9
           go_split_ands
           refine (toNet A1 A2 n1 c1 n2 c2 ss fs _ HN1.out (HR1.out _ (Below.trans B6_W.out ((Bel.out (by assumption)).mono B6_W.out.size))) hsm1 HN2.out (HR2.out _ (Below.trans B6_W.out ((Bel.out (by assumption)).mono B6_W.out.size))) hsm2).mono ?_
           rintro e t7 ⟨y81, y82, rfl, hoy81, hoy82, hbt7⟩
           have Sy81 := Lib.hid (Rd.ofOwnK hoy81)
           have Sy82 := Lib.hid (Rd.ofOwnK hoy82)
           clear hoy81 hoy82)
        | (go_at_call 12
           go_split_ands
           refine (eqNet x01 x02 y81 y82 n1 n2 n1 n2 n1 n2 ss fs t7 HN1.out hsm1 HN2.out hsm2 (Rx01.out _ (Below.trans B6_w4.out ((Bel.out (by assumption)).mono B6_w4.out.size))) (Sy81.out) (Rx02.out _ (Below.trans B6_w4.out ((Bel.out (by assumption)).mono B6_w4.out.size))) (Sy82.out)).mono ?_
           rintro e t8 ⟨rfl, hbt8⟩))
    all_goals
      go_split_ands
      have hbl : Bel w6 t8 := by assumption
      go_wp2_with fail
      go_meet
      exact ⟨rfl, hbl⟩
  case rest =>
  clear hbd hgx hgw ka0_0 ka0_1 kx0_0 kx0_1
  revert hcut; generalize wc = wc1; intro hcut
  obtain ⟨hs_, hbl⟩ := hcut
  subst hs_
  have Ewc1_W := Lib.hid (B6_W.out.trans ((Bel.out hbl).mono B6_W.out.size))
  have Ewc1_w3 := Lib.hid (B6_w3.out.trans ((Bel.out hbl).mono B6_w3.out.size))
  have Ewc1_w4 := Lib.hid (B6_w4.out.trans ((Bel.out hbl).mono B6_w4.out.size))
  have Ewc1_V0 := Lib.hid (B6_V0.out.trans ((Bel.out hbl).mono B6_V0.out.size))
  have Ewc1_w5 := Lib.hid (B6_w5.out.trans ((Bel.out hbl).mono B6_w5.out.size))
  clear hbl
  have HG0 := Lib.hid (ownB HOx.out Ewc1_w5.out)
  have kx0_0 := HX0_0.out _ Ewc1_V0.out
  have kx0_1 := HX0_1.out _ Ewc1_V0.out
  go_wp2_with fail
  clear kx0_0 kx0_1
  refine (markNetB x01 x02 n1 n2 n1 n2 _ _ wc1 (own_base (ownB Ox01.out Ewc1_w4.out) (Nat.zero_le _)) hsm1 (own_base (ownB Ox02.out Ewc1_w4.out) (Nat.zero_le _)) hsm2 (rows_apart Ox01.out Ox02.out (by decide))).mono ?_
  rintro e w9 ⟨k0, rfl, hk0a, hk0b, hoff⟩
  have Fw9_W := Lib.hid (Ewc1_W.out.trans (hoff.below (B := W.heap.size) Ewc1_W.out.size (fun b h => by have hpw := WPW.out; have := HQx01.out; have := HQx02.out; rcases h with h | h <;> omega)))
  have Fw9_w3 := Lib.hid (Ewc1_w3.out.trans (hoff.below (B := w3.heap.size) Ewc1_w3.out.size (fun b h => by have hpw := Nat.le_refl w3.heap.size; have := HQx01.out; have := HQx02.out; rcases h with h | h <;> omega)))
  have HG1 := Lib.hid (own_off HG0.out hoff (fun b h => by have := HQx01.out; have := HQx02.out; rcases h with h | h <;> omega))
  have Zw9 := Lib.hid (Below.refl w9.heap.size w9)
  clear hoff
  have hkn : decide (k0 < 0) = false := decide_eq_false (by omega)
  go_wp2_with fail
  refine (eqInts _ _ Nx _ _ L w9 HNNx.out.symm (Rd.ofOwn HG1.out) (HRRs.out _ Fw9_w3.out) hNx).mono ?_
  rintro e w10 ⟨rfl, hb10⟩
  have B10_W := Lib.hid (Fw9_W.out.trans (hb10.mono Fw9_W.out.size))
  have B10_w3 := Lib.hid (Fw9_w3.out.trans (hb10.mono Fw9_w3.out.size))
  have B10_w9 := Lib.hid (Zw9.out.trans (hb10.mono Zw9.out.size))
  have HLAST10 := Lib.hid hb10
  clear hb10
  have HGA := Lib.hid (ownB HG1.out B10_w9.out)
  go_wp2_with fail
  refine (markIntsA Ax Nx cx L w10 HGA.out hNx).mono ?_
  rintro e w11 ⟨rfl, hoff9, ho9⟩
  have Gw11_W := Lib.hid (B10_W.out.trans (hoff9.below (B := W.heap.size) B10_W.out.size (fun b h => by have := WPW.out; have := PWV.out; have h2 : V0.heap.size ≤ b := h; omega)))
  have Gw11_w3 := Lib.hid (B10_w3.out.trans (hoff9.below (B := w3.heap.size) B10_w3.out.size (fun b h => by have := WPW.out; have := PWV.out; have h2 : V0.heap.size ≤ b := h; omega)))
  have HM := Lib.hid ho9
  clear hoff9 ho9
  have Zw11 := Lib.hid (Below.refl w11.heap.size w11)
  go_wp2_with fail
  refine (heldInts Ax Nx cx w11 (Rd.ofOwn HM.out) hNx).mono ?_
  rintro e w' ⟨rfl, rfl⟩
  have hN4 : 0 ≤ (Nx : Int) := Int.natCast_nonneg _
  have ka0_0 := HK0_0.out _ Gw11_W.out
  have ka0_1 := HK0_1.out _ Gw11_W.out
  go_wp2_with fail
  clear ka0_0 ka0_1
  refine (toNet A1 A2 n1 c1 n2 c2 ss fs w11 HN1.out (HR1.out _ Gw11_W.out) hsm1 HN2.out (HR2.out _ Gw11_W.out) hsm2).mono ?_
  rintro e w12 ⟨h01, h02, rfl, hoh01, hoh02, hb12⟩
  have B12_W := Lib.hid (Gw11_W.out.trans (hb12.mono Gw11_W.out.size))
  have B12_w3 := Lib.hid (Gw11_w3.out.trans (hb12.mono Gw11_w3.out.size))
  have B12_w11 := Lib.hid (Zw11.out.trans (hb12.mono Zw11.out.size))
  have HLAST12 := Lib.hid hb12
  clear hb12
  have Oh01 := Lib.hid hoh01
  have Rh01 : Hid (∀ V, Below w12.heap.size w12 V → Rd V V.heap.size (some ⟨h01, 0, none⟩) (ss.map Value.string)) := Lib.hid fun V hV => (Rd.ofOwnK hoh01).moved hV
  have Oh02 := Lib.hid hoh02
  have Rh02 : Hid (∀ V, Below w12.heap.size w12 V → Rd V V.heap.size (some ⟨h02, 0, none⟩) (fs.flatMap Q4.cells)) := Lib.hid fun V hV => (Rd.ofOwnK hoh02).moved hV
  clear hoh01 hoh02
  have Zw12 := Lib.hid (Below.refl w12.heap.size w12)
  go_wp2_with fail
  refine (implGC ⟨HN1.out, hsm1, Nat.le_refl _, Rh01.out _ Zw12.out, HWS.out, HN2.out, hsm2, Rh02.out _ Zw12.out⟩ x y (HTAB.out _ B12_W.out)).mono ?_
  rw [HL.out, HB.out]
  rintro e w13 ⟨Ah, Nh, ch, rfl, HNNh, hoh, hb13⟩
  have B13_W := Lib.hid (B12_W.out.trans (hb13.mono B12_W.out.size))
  have B13_w3 := Lib.hid (B12_w3.out.trans (hb13.mono B12_w3.out.size))
  have B13_w11 := Lib.hid (B12_w11.out.trans (hb13.mono B12_w11.out.size))
  have B13_w12 := Lib.hid (Zw12.out.trans (hb13.mono Zw12.out.size))
  have HLAST13 := Lib.hid hb13
  clear hb13
  have HOh := Lib.hid hoh; clear hoh
  have hNh : Nh ≤ 1048576 := by have := HNNh.out; have := HLN.out; omega
  have HRRh : Hid (∀ V, Below w13.heap.size w13 V → Rd V V.heap.size Ah (L.map (Value.int .i64))) := Lib.hid fun V hV => (Rd.ofOwn HOh.out).moved hV
  have Zw13 := Lib.hid (Below.refl w13.heap.size w13)
  obtain rfl : Nh = Nx := HNNh.out.trans HNNx.out.symm
  go_wp2_with fail
  refine (eqInts _ _ Nh _ _ L w13 HNNh.out.symm (HRRh.out _ Zw13.out) (HRRs.out _ B13_w3.out) hNh).mono ?_
  rintro e w14 ⟨rfl, hb14⟩
  have B14_W := Lib.hid (B13_W.out.trans (hb14.mono B13_W.out.size))
  have B14_w3 := Lib.hid (B13_w3.out.trans (hb14.mono B13_w3.out.size))
  have B14_w11 := Lib.hid (B13_w11.out.trans (hb14.mono B13_w11.out.size))
  have B14_w12 := Lib.hid (B13_w12.out.trans (hb14.mono B13_w12.out.size))
  have B14_w13 := Lib.hid (Zw13.out.trans (hb14.mono Zw13.out.size))
  have HLAST14 := Lib.hid hb14
  clear hb14
  have HMM := Lib.hid (ownB HM.out B14_w11.out)
  go_wp2_with fail
  refine (heldInts Ax Nh cx w14 (Rd.ofOwn HMM.out) hNh).mono ?_
  rintro e w' ⟨rfl, rfl⟩
  go_wp2
  go_ret
  exact ⟨rfl, HBW.out.trans (B14_W.out.mono HBW.out.size)⟩


theorem own : ownKnob Tryd.prog.godebug = none := by kernel_rfl
theorem laidOut : laidOutB Tryd.prog = true := by kernel_rfl

theorem tTab : (Tryd.prog.globals[1]?).map (·.type) = some 175 := by kernel_rfl
theorem cTab : Tryd.prog.cellsOf 175 = 64 := by kernel_rfl
theorem cU8 : Tryd.prog.cellsOf 5 = 1 := by kernel_rfl
theorem pow_of_laid {W : World} (h : laidMetH Tryd.prog Rows.fnExactGroupCutRow.laid W) : Tab W := by
  have h3 : laidMetH Tryd.prog (Rows.fnExactGroupCutRow.laid.filter fun x => x.1 == "math/bits.deBruijn64tab") W := h.filter _
  have e : (Rows.fnExactGroupCutRow.laid.filter fun x => x.1 == "math/bits.deBruijn64tab") = [("math/bits.deBruijn64tab", Lib.tabData .u8 tzTab)] := by kernel_rfl
  rw [e, MakeChecks.laidMetH_plain _ _ _ (by kernel_rfl)] at h3
  exact Lib.tabIs_of_head tabAt tTab Tryd.underlying175 Tryd.underlying5 cU8 cTab h3

theorem door_met (os : Os) (args : Array Value) : laidMetH Tryd.prog Rows.fnExactGroupCutRow.laid ((World.doorLaid Tryd.prog 19 os).forCall (fun _ _ => 0) ⟨#[], args, []⟩).memory :=
  laidMetH_of_parts3 (fuel := 8) (laidMet_of_run' 8 (by kernel_rfl) (by kernel_rfl)) (by kernel_rfl) (by kernel_rfl)

set_option maxRecDepth 100000 in
theorem lifted (os : Os) (started : os.Started) (H : Type) (enc : TypeId × Value → H) :
    ReturnsInHanded {} Tryd.checked os 3 .any (fun w args => (Rows.fnExactGroupCutSpec.pre enc Tryd.prog Tryd.f3 [] false w args ∧ laidMetH Tryd.prog Rows.fnExactGroupCutRow.laid w) ∧ sizedMet enc Tryd.prog Tryd.f3 (OpenSpec.ofChange Rows.fnExactGroupCutSpec) false w args)
      (Rows.fnExactGroupCutSpec.post enc Tryd.prog Tryd.f3 false true false false) := by
  refine returnsInHanded_of_change_and (C := Tryd.checked) (X := fun w _ => laidMetH Tryd.prog Rows.fnExactGroupCutRow.laid w) (fun _ _ _ hh h => h.of_heap hh) own started (by kernel_rfl) Tryd.func3
    (ChangeSpec.witness_shaped (enc := enc) (C := Tryd.checked) (os := os) (X := fun w _ => laidMetH Tryd.prog Rows.fnExactGroupCutRow.laid w) false (World.doorLaid Tryd.prog 19 os) #[.agg #[.slice none 0 0, .slice none 0 0], .int .i64 0, .int .i64 0] 8 rfl (World.shaped_of_RefB (by kernel_rfl) (by kernel_rfl)) (by kernel_rfl) (by kernel_rfl) (by kernel_rfl) (door_met os _)) ?_
  intro W base args ds gs before hval0 hW _ hsz0 hL _
  have hval : ∀ (j : Nat) t v, Tryd.f3.params[j]? = some t → args[j]? = some v → Value.okWide Tryd.prog W .any base t v := hval0
  have hsz : (DataW.weightsEach Tryd.prog (Tryd.f3.params.toList ++ Rows.fnExactGroupCutSpec.plain.varTypes Tryd.prog) (ds ++ gs)).all (· ≤ reachBytes) = true := hsz0
  have hpow := pow_of_laid hL
  have hW' := hW
  obtain ⟨p, q, hA0, hV, rfl, hfz, hnd⟩ := hW
  have hA : DataW.TrodAll enc Tryd.prog W 0 (fun _ => true) true Tryd.f3.params.toList args.toList ds p := hA0
  rw [Tryd.params3] at hA hval hsz
  obtain ⟨v0, vs0, d0, ds0, p0, q0, hargs, rfl, rfl, h0, r0⟩ := trodAll_cons hA
  obtain ⟨v1, vs1, d1, ds1, p1, q1, rfl, rfl, rfl, h1, r1⟩ := trodAll_cons r0
  obtain ⟨v2, vs2, d2, ds2, p2, q2, rfl, rfl, rfl, h2, r2⟩ := trodAll_cons r1
  obtain ⟨rfl, rfl, rfl⟩ := trodAll_nil r2
  obtain rfl : args = #[v0, v1, v2] := by cases args; simp_all
  obtain ⟨rfl, rfl⟩ := trodVars_none hV
  simp only [List.append_nil] at hW'
  have hlt0 : ∀ x ∈ p0, x.block < W.heap.size := fun x hx => by simpa using hW'.lt x (by simp [hx])
  have hlt1 : ∀ x ∈ p1, x.block < W.heap.size := fun x hx => by simpa using hW'.lt x (by simp [hx])
  have hlt2 : ∀ x ∈ p2, x.block < W.heap.size := fun x hx => by simpa using hW'.lt x (by simp [hx])
  have fin : ∀ W' : World, Below W.heap.size W W' → Rows.fnExactGroupCutSpec.post enc Tryd.checked.prog Tryd.f3 false true false false W #[v0, v1, v2] (.bool true) W' := by
    intro W' hb
    refine ⟨_, _, _, [] ++ [], (p0 ++ (p1 ++ (p2 ++ []))), [], hW', ?_, ?_, rfl, hb.frame _, fun h => by cases h⟩
    · exact trodAll_mk1 (shut_bool Tryd.underlying4 true)
    · exact trodAll_cons_mk (Below.trod laidOut (by kernel_rfl) (of_decide_eq_true (by kernel_rfl)) h0 hb hlt0) (trodAll_cons_mk (Below.trod laidOut (by kernel_rfl) (of_decide_eq_true (by kernel_rfl)) h1 hb hlt1) (trodAll_cons_mk (Below.trod laidOut (by kernel_rfl) (of_decide_eq_true (by kernel_rfl)) h2 hb hlt2) (trodAll_mk0)))
  clear hW' hV hA0
  obtain ⟨A0, n0, c0, s0, B0, m0, k0, z0, rfl, ⟨ha0, hb0, hc0, hd0⟩, ⟨he0, hf0, hg0, hh0⟩⟩ := open_net Tryd.underlying25 (by kernel_rfl) (by kernel_rfl) Tryd.underlying22 Tryd.underlying9 (by kernel_rfl) Tryd.underlying23 Tryd.underlying106 (by kernel_rfl) (by kernel_rfl) rfl (hint_of Tryd.underlying3 (by decide +kernel)) (hval 0 25 v0 rfl rfl) h0
  obtain ⟨a1, rfl, _, _, w1⟩ := open_int Tryd.underlying3 (hval 1 3 v1 rfl rfl) h1
  obtain ⟨a2, rfl, _, _, w2⟩ := open_int Tryd.underlying3 (hval 2 3 v2 rfl rfl) h2
  exact (walk A0 n0 c0 s0 B0 m0 k0 z0 a1 a2 W ha0 hb0 hc0 hd0 he0 hf0 hg0 hh0 w1 w2 hpow).mono fun e W' ⟨he, hb⟩ => ⟨_, he, fin W' hb⟩

theorem closed : joinedFacts Tryd.prog 3 Tryd.f3 Rows.fnExactGroupCutSpec Rows.fnExactGroupCutRow = true := by
  unfold joinedFacts
  rw [jn_mk, jn_li, jn_en]
  kernel_rfl
theorem over : Rows.fnExactGroupCutRow.holds Tryd.pinned (OpenSpec.ofChange Rows.fnExactGroupCutSpec) :=
  OpenClaim.holds_of_wide 3 Tryd.f3 rfl rfl rfl rfl rfl rfl rfl ⟨rfl, rfl, rfl, rfl, rfl⟩ rfl rfl rfl rfl rfl (by kernel_rfl) Tryd.func3 closed
    (of_decide_eq_true (by kernel_rfl)) (by unfold Func.isWrapper; first | (rw [if_pos (by decide +kernel)]; kernel_rfl) | (rw [if_neg (by decide +kernel)]; exact ⟨rfl, rfl⟩))
    (fun os started H enc _ => lifted os started H enc)

/-- THE STATEMENT -/
theorem proved : Rows.FnExactGroupCutCardSaid :=
  Claim7.holds_tied_plain_at .later [] [.data, .data] true (true, "a531ea00242c8893281bca9b69ebb262dcf39c65f6cda358062f3416c467aea2") false
    over (fun _ h => by cases h) (by kernel_rfl) (fun _ h => by cases h) fnExactGroupCut_row_tie rfl ⟨rfl, rfl⟩ jn_main rfl
    (fun f fn hf hfn => by
      obtain rfl : f = 3 := Option.some.inj ((show Tryd.prog.funcNamed "loop.example/g00897/laws.FnExactGroupCut" = some 3 by kernel_rfl).symm.trans hf) |>.symm
      obtain rfl : fn = Tryd.f3 := (Option.some.inj (Tryd.func3.symm.trans hfn)).symm
      exact ⟨by kernel_rfl, fun j t ht => by
        rw [Tryd.params3] at ht
        have hm : t ∈ [25, 3, 3] := by simpa using Array.mem_of_getElem? ht
        have hall : ([25, 3, 3].all fun u => !Tryd.prog.wantsStandIn u) = true := by kernel_rfl
        exact (show Tryd.prog.wantsStandIn t = false by simpa using List.all_eq_true.1 hall t hm)⟩)
    (by kernel_rfl)
end Go.Proofs.YtnbeomnlobfpfaaDoor.fnExactGroupCut
