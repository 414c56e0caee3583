/- Proved: at every argument impl.JoinRoutes answers as spec.JoinRoutes does, in memory of its own, and leaves its arguments alone (the law FnExactJoinRoutes returns true). No condition. -/
import Derived.Test.YtflniajjecfgeaaRows
import Derived.Test.YtflniajjecfgeaaJn
import Derived.JoinedOf
import Derived.Test.YtflniajjecfgeaaGC
import Derived.Test.YtflniajjecfgeaaRtA
import Derived.Test.YtflniajjecfgeaaGB
import Derived.Test.YtflniajjecfgeaaJrS
import Derived.Test.YtflniajjecfgeaaJrP
import Derived.Test.YtflniajjecfgeaaGA
import Derived.WalkKit
import Derived.ProofKit
import Derived.OpenShut
import Derived.ShutString
import Derived.SizedLaws
import Derived.Carry
namespace Go.Proofs.Ytflniajjecfgeaa.fnExactJoinRoutes
open Go.ChangeShapes Go.WideShapes Go.ChangeAt Go.RowKit
open Go.ChangeMaps (open_string shut_string)

set_option maxRecDepth 100000 in
set_option maxHeartbeats 8000000 in
theorem walk (A1 : Option Addr) (n1 c1 : Nat) (ss : List ByteArray) (A2 : Option Addr) (n2 c2 : Nat) (fs : List Q4) (st1 : Int) (Azs : Option Addr) (nzs czs : Nat) (zs : List Int) (st2 : Int) (Ays : Option Addr) (nys cys : Nat) (ys : List Int) (w : World) (hn1 : ss.length = n1) (hm1 : n1 ≤ maxLen) (hr1 : Rd w w.heap.size A1 (ss.map Value.string)) (hws : ∀ s ∈ ss, s.size ≤ maxLen) (hn2 : fs.length = n2) (hm2 : n2 ≤ maxLen) (hr2 : Rd w w.heap.size A2 (fs.flatMap Q4.cells)) (_hwf : ∀ q ∈ fs, q.wf) (_wst1 : (Lit.int .i64 st1).wf = true) (hnzs : zs.length = nzs) (hmzs : nzs ≤ maxLen) (hrzs : Rd w w.heap.size Azs (zs.map (Value.int .i64))) (_hwfzs : ∀ z ∈ zs, (Lit.int .i64 z).wf = true) (_wst2 : (Lit.int .i64 st2).wf = true) (hnys : ys.length = nys) (hmys : nys ≤ maxLen) (hrys : Rd w w.heap.size Ays (ys.map (Value.int .i64))) (_hwfys : ∀ z ∈ ys, (Lit.int .i64 z).wf = true) :
    Calls Try.prog 3 #[.agg #[.slice A1 n1 c1, .slice A2 n2 c2], .agg #[.int .i64 st1, .slice Azs nzs czs], .agg #[.int .i64 st2, .slice Ays nys cys]] w fun e w' => e = .returned (.bool true) ∧ Below w.heap.size w w' := by
  have HN1 := Lib.hid hn1; have HN2 := Lib.hid hn2; have HWS := Lib.hid hws; clear hn1 hn2 hws _hwf
  have HNzs := Lib.hid hnzs; clear hnzs _hwfzs _wst1
  have HNys := Lib.hid hnys; clear hnys _hwfys _wst2
  go_enter Try.func3, Try.ntmps3
  go_wp2_with fail
  obtain ⟨W, hW⟩ : ∃ W, (((w.alloc (Obj.cells #[.slice A1 n1 c1, .slice A2 n2 c2] 25)).alloc (Obj.cells #[.int .i64 st1, .slice Azs nzs czs] 28)).alloc (Obj.cells #[.int .i64 st2, .slice Ays nys cys] 28)) = W := ⟨_, rfl⟩
  have hk0_0 : W.cell? ⟨w.heap.size, 0, none⟩ = some (.slice A1 n1 c1) := by rw [← hW]; simp [go_sem]
  have hk0_1 : W.cell? ⟨w.heap.size, 1, none⟩ = some (.slice A2 n2 c2) := by rw [← hW]; simp [go_sem]
  have hk1_0 : W.cell? ⟨w.heap.size + 1, 0, none⟩ = some (.int .i64 st1) := by rw [← hW]; simp [go_sem]
  have hk1_1 : W.cell? ⟨w.heap.size + 1, 1, none⟩ = some (.slice Azs nzs czs) := by rw [← hW]; simp [go_sem]
  have hk2_0 : W.cell? ⟨w.heap.size + 1 + 1, 0, none⟩ = some (.int .i64 st2) := by rw [← hW]; simp [go_sem]
  have hk2_1 : W.cell? ⟨w.heap.size + 1 + 1, 1, none⟩ = some (.slice Ays nys cys) := by rw [← hW]; simp [go_sem]
  have hz : w.heap.size + 1 + 1 < W.heap.size := by rw [← hW]; simp
  have hbw : Below w.heap.size w W := by rw [← hW]; exact ((((Below.refl w.heap.size w).alloc (Nat.le_refl _) _).alloc (by simp) _).alloc (by simp; omega) _)
  have HBW := Lib.hid hbw
  rw [hW]
  clear hW
  have HR1 : Hid (∀ V, Below W.heap.size W V → Rd V V.heap.size A1 (ss.map Value.string)) := Lib.hid fun V hV => (hr1.moved hbw).moved hV
  clear hr1
  have HR2 : Hid (∀ V, Below W.heap.size W V → Rd V V.heap.size A2 (fs.flatMap Q4.cells)) := Lib.hid fun V hV => (hr2.moved hbw).moved hV
  clear hr2
  have HK0_0 : Hid (∀ V, Below W.heap.size W V → V.cell? ⟨w.heap.size, 0, none⟩ = some (.slice A1 n1 c1)) := Lib.hid fun V hV => (hV.cell (p := ⟨_, _, none⟩) (by show w.heap.size < _; omega)).trans hk0_0
  have HK0_1 : Hid (∀ V, Below W.heap.size W V → V.cell? ⟨w.heap.size, 1, none⟩ = some (.slice A2 n2 c2)) := Lib.hid fun V hV => (hV.cell (p := ⟨_, _, none⟩) (by show w.heap.size < _; omega)).trans hk0_1
  have HRzs : Hid (∀ V, Below W.heap.size W V → Rd V V.heap.size Azs (zs.map (Value.int .i64))) := Lib.hid fun V hV => (hrzs.moved hbw).moved hV
  clear hrzs
  have HK1_0 : Hid (∀ V, Below W.heap.size W V → V.cell? ⟨w.heap.size + 1, 0, none⟩ = some (.int .i64 st1)) := Lib.hid fun V hV => (hV.cell (p := ⟨_, _, none⟩) (by show w.heap.size + 1 < _; omega)).trans hk1_0
  have HK1_1 : Hid (∀ V, Below W.heap.size W V → V.cell? ⟨w.heap.size + 1, 1, none⟩ = some (.slice Azs nzs czs)) := Lib.hid fun V hV => (hV.cell (p := ⟨_, _, none⟩) (by show w.heap.size + 1 < _; omega)).trans hk1_1
  have HRys : Hid (∀ V, Below W.heap.size W V → Rd V V.heap.size Ays (ys.map (Value.int .i64))) := Lib.hid fun V hV => (hrys.moved hbw).moved hV
  clear hrys
  have HK2_0 : Hid (∀ V, Below W.heap.size W V → V.cell? ⟨w.heap.size + 1 + 1, 0, none⟩ = some (.int .i64 st2)) := Lib.hid fun V hV => (hV.cell (p := ⟨_, _, none⟩) (by show w.heap.size + 1 + 1 < _; omega)).trans hk2_0
  have HK2_1 : Hid (∀ V, Below W.heap.size W V → V.cell? ⟨w.heap.size + 1 + 1, 1, none⟩ = some (.slice Ays nys cys)) := Lib.hid fun V hV => (hV.cell (p := ⟨_, _, none⟩) (by show w.heap.size + 1 + 1 < _; omega)).trans hk2_1
  clear hk0_0 hk0_1
  clear hk1_0 hk1_1
  clear hk2_0 hk2_1
  have HZ := Lib.hid hz
  clear hz hbw
  have B0 := Lib.hid (Below.refl W.heap.size W)
  refine (szNet A1 A2 n1 c1 n2 c2 1048576 ss fs W HN1.out hm1 (HR1.out _ B0.out) HWS.out hm2 (by omega) (by omega)).mono ?_
  rintro e w1 ⟨v0, rfl, hb1, hv00, hv10, hv20⟩
  have B1_W := Lib.hid (B0.out.trans (hb1.mono B0.out.size))
  have HLAST1 := Lib.hid hb1
  clear hb1
  by_cases hneg0 : v0 < 0
  · go_wp2
    go_ret
    exact ⟨rfl, HBW.out.trans (B1_W.out.mono HBW.out.size)⟩
  have hp0 : 0 ≤ v0 := by omega
  have hsm1 : n1 ≤ 1048576 := by have := hv20 hp0; omega
  have hsm2 : n2 ≤ 1048576 := by have := hv20 hp0; omega
  have HSZ0 := Lib.hid (hv20 hp0)
  clear hneg0 hv20 hm1 hm2
  have ka1_0 := HK1_0.out _ B1_W.out
  have ka1_1 := HK1_1.out _ B1_W.out
  go_wp2_with fail
  clear ka1_0 ka1_1
  refine (szRt _ Azs nzs czs v0 w1 hmzs (by omega) (by omega)).mono ?_
  rintro e w2 ⟨v1, rfl, hb2, hv01, hv11, hv21⟩
  have B2_W := Lib.hid (B1_W.out.trans (hb2.mono B1_W.out.size))
  have HLAST2 := Lib.hid hb2
  clear hb2
  by_cases hneg1 : v1 < 0
  · go_wp2
    go_ret
    exact ⟨rfl, HBW.out.trans (B2_W.out.mono HBW.out.size)⟩
  have hp1 : 0 ≤ v1 := by omega
  have hsmzs : nzs ≤ 1048576 := by have := hv21 hp1; omega
  have HSZ1 := Lib.hid (hv21 hp1)
  clear hneg1 hv21 hmzs
  have ka2_0 := HK2_0.out _ B2_W.out
  have ka2_1 := HK2_1.out _ B2_W.out
  go_wp2_with fail
  clear ka2_0 ka2_1
  refine (szRt _ Ays nys cys v1 w2 hmys (by omega) (by omega)).mono ?_
  rintro e w3 ⟨v2, rfl, hb3, hv02, hv12, hv22⟩
  have B3_W := Lib.hid (B2_W.out.trans (hb3.mono B2_W.out.size))
  have HLAST3 := Lib.hid hb3
  clear hb3
  by_cases hneg2 : v2 < 0
  · go_wp2
    go_ret
    exact ⟨rfl, HBW.out.trans (B3_W.out.mono HBW.out.size)⟩
  have hp2 : 0 ≤ v2 := by omega
  have hsmys : nys ≤ 1048576 := by have := hv22 hp2; omega
  have HSZ2 := Lib.hid (hv22 hp2)
  clear hneg2 hv22 hmys
  have hLn : (jrL ss fs st1 zs st2 ys).length ≤ 1048576 := jrL_short _ _ _ _ _ _
  obtain ⟨L, hL⟩ : ∃ L, jrL ss fs st1 zs st2 ys = L := ⟨_, rfl⟩
  obtain ⟨b, hb⟩ : ∃ b, pb (jrP ss fs st1 zs st2 ys) = b := ⟨_, rfl⟩
  obtain ⟨Sv, hSv⟩ : ∃ Sv, jrS ss fs st1 zs st2 ys = Sv := ⟨_, rfl⟩
  have HSV := Lib.hid hSv; clear hSv
  rw [hL] at hLn
  have HL := Lib.hid hL; have HB := Lib.hid hb; have HLN := Lib.hid hLn
  clear hL hb hLn
  have ka0_0 := HK0_0.out _ B3_W.out
  have ka0_1 := HK0_1.out _ B3_W.out
  have ka1_0 := HK1_0.out _ B3_W.out
  have ka1_1 := HK1_1.out _ B3_W.out
  have ka2_0 := HK2_0.out _ B3_W.out
  have ka2_1 := HK2_1.out _ B3_W.out
  have hbd : Bel w3 w3.drew := Bel.of (Below.refl _ _).drew
  have hgw0 : w.heap.size < w3.heap.size := Nat.lt_of_lt_of_le (by have := HZ.out; omega) B3_W.out.size
  have hgw1 : w.heap.size + 1 < w3.heap.size := Nat.lt_of_lt_of_le (by have := HZ.out; omega) B3_W.out.size
  have hgw2 : w.heap.size + 1 + 1 < w3.heap.size := Nat.lt_of_lt_of_le (by have := HZ.out; omega) B3_W.out.size
  go_upto_region 11 with fail
  go_cut [8, 9] (fun s8 s9 wx => ∃ (A : Option Addr), ∃ (N c gb : Nat), s8 = .pointer (some ⟨gb, 0, none⟩) ∧ s9 = .bool b ∧ Hid (N = L.length) ∧ Hid (Rd wx wx.heap.size A (L.map (Value.int .i64))) ∧ Hid (wx.cell? ⟨gb, 0, none⟩ = some (.int .i64 Sv) ∧ wx.cell? ⟨gb, 1, none⟩ = some (.slice A N c) ∧ gb < wx.heap.size) ∧ Bel w3 wx)
  case first =>
    go_region_held3 (fun U => U.cell? ⟨w.heap.size, 0, none⟩ = some (.slice A1 n1 c1) ∧ U.cell? ⟨w.heap.size, 1, none⟩ = some (.slice A2 n2 c2) ∧ U.cell? ⟨w.heap.size + 1, 0, none⟩ = some (.int .i64 st1) ∧ U.cell? ⟨w.heap.size + 1, 1, none⟩ = some (.slice Azs nzs czs) ∧ U.cell? ⟨w.heap.size + 1 + 1, 0, none⟩ = some (.int .i64 st2) ∧ U.cell? ⟨w.heap.size + 1 + 1, 1, none⟩ = some (.slice Ays nys cys) ∧ Bel w3 U)
      (first | (go_split_ands; (refine ⟨?_, ?_, ?_, ?_, ?_, ?_, ?_⟩ <;> first | assumption | exact belStart _ _ | with_reducible exact belStartCell _ (by assumption) (by assumption) | with_reducible exact belSetCell (w := w3) (by first | exact Nat.le_refl _ | assumption) (by assumption) (by assumption) _ _ | with_reducible exact belSet (by assumption) (by first | exact Nat.le_refl _ | assumption) _ _ | exact Bel.step (by assumption) hbc1a | exact (Bel.at_ (by assumption) hbc1a (by assumption)).trans (by assumption) | exact Bel.step (by assumption) hbc1b | exact (Bel.at_ (by assumption) hbc1b (by assumption)).trans (by assumption) | exact Bel.step (by assumption) hbc1c | exact (Bel.at_ (by assumption) hbc1c (by assumption)).trans (by assumption) | exact Bel.step (by assumption) hbc1z | exact (Bel.at_ (by assumption) hbc1z (by assumption)).trans (by assumption) | exact belAlloc (by assumption) _ | exact belCell (by assumption) _ (by assumption) (by assumption) | exact belAlloc (Bel.step (by assumption) hbc1z) _ | exact belCell (Bel.step (by assumption) hbc1z) _ (by assumption) ((Bel.at_ (by assumption) hbc1z (by assumption)).trans (by assumption)))) | go_keep)
      (first
        | (go_at_call 17
           go_split_ands
           refine (toNet A1 A2 n1 c1 n2 c2 ss fs _ HN1.out (HR1.out _ (Below.trans B3_W.out ((Bel.out (by assumption)).mono B3_W.out.size))) hsm1 HN2.out (HR2.out _ (Below.trans B3_W.out ((Bel.out (by assumption)).mono B3_W.out.size))) hsm2).mono ?_
           rintro e u1a ⟨c1a1, c1a2, rfl, hoc1a1, hoc1a2, hbc1a⟩
           have Rc1a1 : Hid (∀ V, Below u1a.heap.size u1a V → Rd V V.heap.size (some ⟨c1a1, 0, none⟩) (ss.map Value.string)) := Lib.hid fun V hV => (Rd.ofOwnK hoc1a1).moved hV
           have Rc1a2 : Hid (∀ V, Below u1a.heap.size u1a V → Rd V V.heap.size (some ⟨c1a2, 0, none⟩) (fs.flatMap Q4.cells)) := Lib.hid fun V hV => (Rd.ofOwnK hoc1a2).moved hV
           clear hoc1a1 hoc1a2
           have SZu1a := (Bel.out (Bel.step (by assumption) hbc1a)).size
           first | (have hbx := boxNewD (b := w3.heap.size) rfl hbc1a; obtain ⟨_, _, _, _, _⟩ := hbx) | skip
           first | (have hbx := boxNew (b := w3.heap.size) rfl hbc1a; obtain ⟨_, _, _, _, _⟩ := hbx) | skip
           first | (have hbx := boxKept (b := w3.heap.size) (by assumption) (by assumption) (by assumption) (by assumption) (by assumption) hbc1a; obtain ⟨_, _, _, _, _⟩ := hbx) | skip
           first | (have hbx := boxNew (b := u1b.heap.size) rfl hbc1a; obtain ⟨_, _, _, _, _⟩ := hbx) | skip
           first | (have hbx := boxKept (b := u1b.heap.size) (by assumption) (by assumption) (by assumption) (by assumption) (by assumption) hbc1a; obtain ⟨_, _, _, _, _⟩ := hbx) | skip
           first | (have hbx := boxNew (b := u1c.heap.size) rfl hbc1a; obtain ⟨_, _, _, _, _⟩ := hbx) | skip
           first | (have hbx := boxKept (b := u1c.heap.size) (by assumption) (by assumption) (by assumption) (by assumption) (by assumption) hbc1a; obtain ⟨_, _, _, _, _⟩ := hbx) | skip
           skip)
        | (go_at_call 18
           go_split_ands
           with_reducible refine (toRt st1 Azs nzs czs zs _ HNzs.out (HRzs.out _ (Below.trans B3_W.out ((Bel.out (by assumption)).mono B3_W.out.size))) hsmzs).mono ?_
           rintro e u1b ⟨c1b, rfl, hgc1b, hoc1b, hbc1b⟩
           have Rc1b : Hid (∀ V, Below u1b.heap.size u1b V → Rd V V.heap.size (some ⟨c1b, 0, none⟩) (zs.map (Value.int .i64))) := Lib.hid fun V hV => (Rd.ofOwnK hoc1b).moved hV
           clear hoc1b hgc1b
           have SZu1b := (Bel.out (Bel.step (by assumption) hbc1b)).size
           first | (have hbx := boxNewD (b := w3.heap.size) rfl hbc1b; obtain ⟨_, _, _, _, _⟩ := hbx) | skip
           first | (have hbx := boxNew (b := w3.heap.size) rfl hbc1b; obtain ⟨_, _, _, _, _⟩ := hbx) | skip
           first | (have hbx := boxKept (b := w3.heap.size) (by assumption) (by assumption) (by assumption) (by assumption) (by assumption) hbc1b; obtain ⟨_, _, _, _, _⟩ := hbx) | skip
           first | (have hbx := boxNew (b := u1a.heap.size) rfl hbc1b; obtain ⟨_, _, _, _, _⟩ := hbx) | skip
           first | (have hbx := boxKept (b := u1a.heap.size) (by assumption) (by assumption) (by assumption) (by assumption) (by assumption) hbc1b; obtain ⟨_, _, _, _, _⟩ := hbx) | skip
           first | (have hbx := boxNew (b := u1c.heap.size) rfl hbc1b; obtain ⟨_, _, _, _, _⟩ := hbx) | skip
           first | (have hbx := boxKept (b := u1c.heap.size) (by assumption) (by assumption) (by assumption) (by assumption) (by assumption) hbc1b; obtain ⟨_, _, _, _, _⟩ := hbx) | skip
           skip)
        | (go_at_call 18
           go_split_ands
           with_reducible refine (toRt st2 Ays nys cys ys _ HNys.out (HRys.out _ (Below.trans B3_W.out ((Bel.out (by assumption)).mono B3_W.out.size))) hsmys).mono ?_
           rintro e u1c ⟨c1c, rfl, hgc1c, hoc1c, hbc1c⟩
           have Rc1c : Hid (∀ V, Below u1c.heap.size u1c V → Rd V V.heap.size (some ⟨c1c, 0, none⟩) (ys.map (Value.int .i64))) := Lib.hid fun V hV => (Rd.ofOwnK hoc1c).moved hV
           clear hoc1c hgc1c
           have SZu1c := (Bel.out (Bel.step (by assumption) hbc1c)).size
           first | (have hbx := boxNewD (b := w3.heap.size) rfl hbc1c; obtain ⟨_, _, _, _, _⟩ := hbx) | skip
           first | (have hbx := boxNew (b := w3.heap.size) rfl hbc1c; obtain ⟨_, _, _, _, _⟩ := hbx) | skip
           first | (have hbx := boxKept (b := w3.heap.size) (by assumption) (by assumption) (by assumption) (by assumption) (by assumption) hbc1c; obtain ⟨_, _, _, _, _⟩ := hbx) | skip
           first | (have hbx := boxNew (b := u1a.heap.size) rfl hbc1c; obtain ⟨_, _, _, _, _⟩ := hbx) | skip
           first | (have hbx := boxKept (b := u1a.heap.size) (by assumption) (by assumption) (by assumption) (by assumption) (by assumption) hbc1c; obtain ⟨_, _, _, _, _⟩ := hbx) | skip
           first | (have hbx := boxNew (b := u1b.heap.size) rfl hbc1c; obtain ⟨_, _, _, _, _⟩ := hbx) | skip
           first | (have hbx := boxKept (b := u1b.heap.size) (by assumption) (by assumption) (by assumption) (by assumption) (by assumption) hbc1c; obtain ⟨_, _, _, _, _⟩ := hbx) | skip
           skip)
        | (go_at_call 16
           go_split_ands
           refine (specJR ⟨HN1.out, hsm1, Nat.le_refl _, Rc1a1.out _ (by first | exact Below.refl _ _ | assumption | (apply belT; assumption; assumption) | exact belowAlloc (Below.refl _ _) _ | exact belowAlloc (by assumption) _ | exact belowAlloc (by apply belT <;> assumption) _ | exact belowAlloc (by apply belT; assumption; assumption) _ | (apply belT; assumption; exact belowAlloc (by assumption) _) | (apply belT; exact belowOver (by assumption); assumption) | (apply belT; assumption; exact belowOver (by assumption)) | exact belowOver (by assumption)), HWS.out, HN2.out, hsm2, Rc1a2.out _ (by first | exact Below.refl _ _ | assumption | (apply belT; assumption; assumption) | exact belowAlloc (Below.refl _ _) _ | exact belowAlloc (by assumption) _ | exact belowAlloc (by apply belT <;> assumption) _ | exact belowAlloc (by apply belT; assumption; assumption) _ | (apply belT; assumption; exact belowAlloc (by assumption) _) | (apply belT; exact belowOver (by assumption); assumption) | (apply belT; assumption; exact belowOver (by assumption)) | exact belowOver (by assumption))⟩ st1 (c := nzs) HNzs.out (Rc1b.out _ (by first | exact Below.refl _ _ | assumption | (apply belT; assumption; assumption) | exact belowAlloc (Below.refl _ _) _ | exact belowAlloc (by assumption) _ | exact belowAlloc (by apply belT <;> assumption) _ | exact belowAlloc (by apply belT; assumption; assumption) _ | (apply belT; assumption; exact belowAlloc (by assumption) _) | (apply belT; exact belowOver (by assumption); assumption) | (apply belT; assumption; exact belowOver (by assumption)) | exact belowOver (by assumption))) hsmzs st2 (c3 := nys) HNys.out (Rc1c.out _ (by first | exact Below.refl _ _ | assumption | (apply belT; assumption; assumption) | exact belowAlloc (Below.refl _ _) _ | exact belowAlloc (by assumption) _ | exact belowAlloc (by apply belT <;> assumption) _ | exact belowAlloc (by apply belT; assumption; assumption) _ | (apply belT; assumption; exact belowAlloc (by assumption) _) | (apply belT; exact belowOver (by assumption); assumption) | (apply belT; assumption; exact belowOver (by assumption)) | exact belowOver (by assumption))) hsmys).mono ?_
           rw [HSV.out, HL.out, HB.out]
           rintro e u1z ⟨As, Ns, cs, rfl, HNNs, hos, hbc1z⟩
           have HBL := Bel.step (by assumption) hbc1z
           have SZu1z := (Bel.out HBL).size
           first | (have hbx := boxNew (b := w3.heap.size) rfl hbc1z; obtain ⟨_, _, _, _, _⟩ := hbx) | skip
           first | (have hbx := boxKept (b := w3.heap.size) (by assumption) (by assumption) (by assumption) (by assumption) (by assumption) hbc1z; obtain ⟨_, _, _, _, _⟩ := hbx) | skip
           first | (have hbx := boxNew (b := u1a.heap.size) rfl hbc1z; obtain ⟨_, _, _, _, _⟩ := hbx) | skip
           first | (have hbx := boxKept (b := u1a.heap.size) (by assumption) (by assumption) (by assumption) (by assumption) (by assumption) hbc1z; obtain ⟨_, _, _, _, _⟩ := hbx) | skip
           first | (have hbx := boxNew (b := u1b.heap.size) rfl hbc1z; obtain ⟨_, _, _, _, _⟩ := hbx) | skip
           first | (have hbx := boxKept (b := u1b.heap.size) (by assumption) (by assumption) (by assumption) (by assumption) (by assumption) hbc1z; obtain ⟨_, _, _, _, _⟩ := hbx) | skip
           first | (have hbx := boxNew (b := u1c.heap.size) rfl hbc1z; obtain ⟨_, _, _, _, _⟩ := hbx) | skip
           first | (have hbx := boxKept (b := u1c.heap.size) (by assumption) (by assumption) (by assumption) (by assumption) (by assumption) hbc1z; obtain ⟨_, _, _, _, _⟩ := hbx) | skip
           skip))
    all_goals
      go_split_ands
      have hbl : Bel w3 u1z := HBL
      clear ka0_0 ka0_1 ka1_0 ka1_1 ka2_0 ka2_1
      go_wp2_with fail
      go_meet
      first | exact ⟨As, Ns, cs, _, rfl, rfl, HNNs, Lib.hid ((Rd.ofOwn hos).moved ((Below.refl _ _).alloc (Nat.le_refl _) _)), Lib.hid ⟨by simp [go_sem], by simp [go_sem], by simp⟩, Bel.of ((Bel.out hbl).alloc (Bel.out hbl).size _)⟩ | exact ⟨As, Ns, cs, _, rfl, rfl, HNNs, Lib.hid (Rd.ofOwn (ownsRow_setCell_below (ownsRow_setCell_below hos (a := ⟨_, 0, none⟩) (by first | assumption | simp) _) (a := ⟨_, 1, none⟩) (by first | assumption | simp) _)), Lib.hid (boxSet (by assumption) (by assumption) (by assumption)), belSet hbl (by first | exact Nat.le_refl _ | assumption) _ _⟩
  case rest =>
  clear hbd hgw0 hgw1 hgw2 ka0_0 ka0_1 ka1_0 ka1_1 ka2_0 ka2_1
  revert hcut; generalize wc = wc1; intro hcut
  obtain ⟨As, Ns, cs, gbs, h0_, h1_, HNNs, HAs, HBXs, hbl⟩ := hcut
  subst h0_ h1_
  have hNs : Ns ≤ 1048576 := by have := HNNs.out; have := HLN.out; omega
  have HRRs : Hid (∀ V, Below wc1.heap.size wc1 V → Rd V V.heap.size As (L.map (Value.int .i64))) := Lib.hid fun V hV => HAs.out.moved hV
  have HKWs : Hid (∀ V, Below wc1.heap.size wc1 V → V.cell? ⟨gbs, 0, none⟩ = some (.int .i64 Sv) ∧ V.cell? ⟨gbs, 1, none⟩ = some (.slice As Ns cs) ∧ gbs < V.heap.size) := Lib.hid fun V hV => ⟨(hV.cell (p := ⟨gbs, 0, none⟩) HBXs.out.2.2).trans HBXs.out.1, (hV.cell (p := ⟨gbs, 1, none⟩) HBXs.out.2.2).trans HBXs.out.2.1, Nat.lt_of_lt_of_le HBXs.out.2.2 hV.size⟩
  have Ewc1_W := Lib.hid (B3_W.out.trans ((Bel.out hbl).mono B3_W.out.size))
  clear hbl
  have Zwc1 := Lib.hid (Below.refl wc1.heap.size wc1)
  have WPW := Lib.hid Ewc1_W.out.size
  have ka0_0 := HK0_0.out _ Ewc1_W.out
  have ka0_1 := HK0_1.out _ Ewc1_W.out
  go_wp2_with fail
  clear ka0_0 ka0_1
  have ZPRE0 := Lib.hid (Zwc1.out.size)
  refine (toNet A1 A2 n1 c1 n2 c2 ss fs wc1 HN1.out (HR1.out _ Ewc1_W.out) hsm1 HN2.out (HR2.out _ Ewc1_W.out) hsm2).mono ?_
  rintro e w4 ⟨x01, x02, rfl, hox01, hox02, hb4⟩
  have B4_W := Lib.hid (Ewc1_W.out.trans (hb4.mono Ewc1_W.out.size))
  have B4_wc1 := Lib.hid (Zwc1.out.trans (hb4.mono Zwc1.out.size))
  have HLAST4 := Lib.hid hb4
  clear hb4
  have Ox01 := Lib.hid hox01
  have Rx01 : Hid (∀ V, Below w4.heap.size w4 V → Rd V V.heap.size (some ⟨x01, 0, none⟩) (ss.map Value.string)) := Lib.hid fun V hV => (Rd.ofOwnK hox01).moved hV
  have Ox02 := Lib.hid hox02
  have Rx02 : Hid (∀ V, Below w4.heap.size w4 V → Rd V V.heap.size (some ⟨x02, 0, none⟩) (fs.flatMap Q4.cells)) := Lib.hid fun V hV => (Rd.ofOwnK hox02).moved hV
  clear hox01 hox02
  have Zw4 := Lib.hid (Below.refl w4.heap.size w4)
  have ka1_0 := HK1_0.out _ B4_W.out
  have ka1_1 := HK1_1.out _ B4_W.out
  have hgn : w.heap.size + 1 < w4.heap.size := Nat.lt_of_lt_of_le (by have := HZ.out; omega) B4_W.out.size
  go_wp2_with fail
  clear ka1_0 ka1_1 hgn
  obtain ⟨V0, hV0⟩ : ∃ V, (w4.alloc (Obj.cells #[.slice (some ⟨x01, 0, none⟩) n1 n1, .slice (some ⟨x02, 0, none⟩) n2 n2] 36)) = V := ⟨_, rfl⟩
  have hx0_0 : V0.cell? ⟨w4.heap.size, 0, none⟩ = some (.slice (some ⟨x01, 0, none⟩) n1 n1) := by rw [← hV0]; simp [go_sem]
  have hx0_1 : V0.cell? ⟨w4.heap.size, 1, none⟩ = some (.slice (some ⟨x02, 0, none⟩) n2 n2) := by rw [← hV0]; simp [go_sem]
  have hzV0 : w4.heap.size < V0.heap.size := by rw [← hV0]; simp
  have hbV0 : Below w4.heap.size w4 V0 := by rw [← hV0]; exact (Below.refl _ _).alloc (Nat.le_refl _) _
  rw [hV0]
  clear hV0
  have CV0_W := Lib.hid (B4_W.out.trans (hbV0.mono B4_W.out.size))
  have CV0_wc1 := Lib.hid (B4_wc1.out.trans (hbV0.mono B4_wc1.out.size))
  have CV0_w4 := Lib.hid (Zw4.out.trans (hbV0.mono Zw4.out.size))
  have HX0_0 : Hid (∀ U, Below V0.heap.size V0 U → U.cell? ⟨w4.heap.size, 0, none⟩ = some (.slice (some ⟨x01, 0, none⟩) n1 n1)) := Lib.hid fun U hU => (hU.cell (p := ⟨_, _, none⟩) hzV0).trans hx0_0
  have HX0_1 : Hid (∀ U, Below V0.heap.size V0 U → U.cell? ⟨w4.heap.size, 1, none⟩ = some (.slice (some ⟨x02, 0, none⟩) n2 n2)) := Lib.hid fun U hU => (hU.cell (p := ⟨_, _, none⟩) hzV0).trans hx0_1
  have HZV0 := Lib.hid hzV0
  clear hzV0 hbV0 hx0_0 hx0_1
  have ZV0 := Lib.hid (Below.refl V0.heap.size V0)
  have ZPRE1 := Lib.hid (CV0_wc1.out.size)
  refine (toRt st1 Azs nzs czs zs V0 HNzs.out (HRzs.out _ CV0_W.out) hsmzs).mono ?_
  rintro e w5 ⟨x1, rfl, hgx1, hox1, hb5⟩
  have B5_W := Lib.hid (CV0_W.out.trans (hb5.mono CV0_W.out.size))
  have B5_wc1 := Lib.hid (CV0_wc1.out.trans (hb5.mono CV0_wc1.out.size))
  have B5_w4 := Lib.hid (CV0_w4.out.trans (hb5.mono CV0_w4.out.size))
  have B5_V0 := Lib.hid (ZV0.out.trans (hb5.mono ZV0.out.size))
  have HLAST5 := Lib.hid hb5
  clear hb5
  have Ox1 := Lib.hid hox1
  have Rx1 : Hid (∀ V, Below w5.heap.size w5 V → Rd V V.heap.size (some ⟨x1, 0, none⟩) (zs.map (Value.int .i64))) := Lib.hid fun V hV => (Rd.ofOwnK hox1).moved hV
  clear hox1
  have SEPx01_x1 := Lib.hid (Nat.lt_of_lt_of_le (Ox01.out.lt x01 rfl).2 (Nat.le_trans CV0_w4.out.size (Ox1.out.lt x1 rfl).1))
  have SEPBx01_1 := Lib.hid (Nat.lt_of_lt_of_le (Ox01.out.lt x01 rfl).2 B5_w4.out.size)
  have SEPx02_x1 := Lib.hid (Nat.lt_of_lt_of_le (Ox02.out.lt x02 rfl).2 (Nat.le_trans CV0_w4.out.size (Ox1.out.lt x1 rfl).1))
  have SEPBx02_1 := Lib.hid (Nat.lt_of_lt_of_le (Ox02.out.lt x02 rfl).2 B5_w4.out.size)
  have Zw5 := Lib.hid (Below.refl w5.heap.size w5)
  have ka2_0 := HK2_0.out _ B5_W.out
  have ka2_1 := HK2_1.out _ B5_W.out
  have hgn : w.heap.size + 1 + 1 < w5.heap.size := Nat.lt_of_lt_of_le (by have := HZ.out; omega) B5_W.out.size
  go_wp2_with fail
  clear ka2_0 ka2_1 hgn
  obtain ⟨V1, hV1⟩ : ∃ V, (w5.alloc (Obj.cells #[.int .i64 st1, .slice (some ⟨x1, 0, none⟩) nzs nzs] 31)) = V := ⟨_, rfl⟩
  have hx1_0 : V1.cell? ⟨w5.heap.size, 0, none⟩ = some (.int .i64 st1) := by rw [← hV1]; simp [go_sem]
  have hx1_1 : V1.cell? ⟨w5.heap.size, 1, none⟩ = some (.slice (some ⟨x1, 0, none⟩) nzs nzs) := by rw [← hV1]; simp [go_sem]
  have hzV1 : w5.heap.size < V1.heap.size := by rw [← hV1]; simp
  have hbV1 : Below w5.heap.size w5 V1 := by rw [← hV1]; exact (Below.refl _ _).alloc (Nat.le_refl _) _
  rw [hV1]
  clear hV1
  have CV1_W := Lib.hid (B5_W.out.trans (hbV1.mono B5_W.out.size))
  have CV1_wc1 := Lib.hid (B5_wc1.out.trans (hbV1.mono B5_wc1.out.size))
  have CV1_w4 := Lib.hid (B5_w4.out.trans (hbV1.mono B5_w4.out.size))
  have CV1_V0 := Lib.hid (B5_V0.out.trans (hbV1.mono B5_V0.out.size))
  have CV1_w5 := Lib.hid (Zw5.out.trans (hbV1.mono Zw5.out.size))
  have HX1_0 : Hid (∀ U, Below V1.heap.size V1 U → U.cell? ⟨w5.heap.size, 0, none⟩ = some (.int .i64 st1)) := Lib.hid fun U hU => (hU.cell (p := ⟨_, _, none⟩) hzV1).trans hx1_0
  have HX1_1 : Hid (∀ U, Below V1.heap.size V1 U → U.cell? ⟨w5.heap.size, 1, none⟩ = some (.slice (some ⟨x1, 0, none⟩) nzs nzs)) := Lib.hid fun U hU => (hU.cell (p := ⟨_, _, none⟩) hzV1).trans hx1_1
  have HZV1 := Lib.hid hzV1
  clear hzV1 hbV1 hx1_0 hx1_1
  have ZV1 := Lib.hid (Below.refl V1.heap.size V1)
  have ZPRE2 := Lib.hid (CV1_wc1.out.size)
  refine (toRt st2 Ays nys cys ys V1 HNys.out (HRys.out _ CV1_W.out) hsmys).mono ?_
  rintro e w6 ⟨x2, rfl, hgx2, hox2, hb6⟩
  have B6_W := Lib.hid (CV1_W.out.trans (hb6.mono CV1_W.out.size))
  have B6_wc1 := Lib.hid (CV1_wc1.out.trans (hb6.mono CV1_wc1.out.size))
  have B6_w4 := Lib.hid (CV1_w4.out.trans (hb6.mono CV1_w4.out.size))
  have B6_V0 := Lib.hid (CV1_V0.out.trans (hb6.mono CV1_V0.out.size))
  have B6_w5 := Lib.hid (CV1_w5.out.trans (hb6.mono CV1_w5.out.size))
  have B6_V1 := Lib.hid (ZV1.out.trans (hb6.mono ZV1.out.size))
  have HLAST6 := Lib.hid hb6
  clear hb6
  have Ox2 := Lib.hid hox2
  have Rx2 : Hid (∀ V, Below w6.heap.size w6 V → Rd V V.heap.size (some ⟨x2, 0, none⟩) (ys.map (Value.int .i64))) := Lib.hid fun V hV => (Rd.ofOwnK hox2).moved hV
  clear hox2
  have SEPx01_x2 := Lib.hid (Nat.lt_of_lt_of_le (Ox01.out.lt x01 rfl).2 (Nat.le_trans CV1_w4.out.size (Ox2.out.lt x2 rfl).1))
  have SEPBx01_2 := Lib.hid (Nat.lt_of_lt_of_le (Ox01.out.lt x01 rfl).2 B6_w4.out.size)
  have SEPx02_x2 := Lib.hid (Nat.lt_of_lt_of_le (Ox02.out.lt x02 rfl).2 (Nat.le_trans CV1_w4.out.size (Ox2.out.lt x2 rfl).1))
  have SEPBx02_2 := Lib.hid (Nat.lt_of_lt_of_le (Ox02.out.lt x02 rfl).2 B6_w4.out.size)
  have SEPx1_x2 := Lib.hid (Nat.lt_of_lt_of_le (Ox1.out.lt x1 rfl).2 (Nat.le_trans CV1_w5.out.size (Ox2.out.lt x2 rfl).1))
  have SEPBx1_2 := Lib.hid (Nat.lt_of_lt_of_le (Ox1.out.lt x1 rfl).2 B6_w5.out.size)
  have Zw6 := Lib.hid (Below.refl w6.heap.size w6)
  have kz0_0 := HX0_0.out _ B6_V0.out
  have kz0_1 := HX0_1.out _ B6_V0.out
  have hgz0 : w4.heap.size < w6.heap.size := Nat.lt_of_lt_of_le HZV0.out B6_V0.out.size
  have kz1_0 := HX1_0.out _ B6_V1.out
  have kz1_1 := HX1_1.out _ B6_V1.out
  have hgz1 : w5.heap.size < w6.heap.size := Nat.lt_of_lt_of_le HZV1.out B6_V1.out.size
  go_wp2_with fail
  clear kz0_0 kz0_1 hgz0 kz1_0 kz1_1 hgz1
  obtain ⟨V2, hV2⟩ : ∃ V, (w6.alloc (Obj.cells #[.int .i64 st2, .slice (some ⟨x2, 0, none⟩) nys nys] 31)) = V := ⟨_, rfl⟩
  have hx2_0 : V2.cell? ⟨w6.heap.size, 0, none⟩ = some (.int .i64 st2) := by rw [← hV2]; simp [go_sem]
  have hx2_1 : V2.cell? ⟨w6.heap.size, 1, none⟩ = some (.slice (some ⟨x2, 0, none⟩) nys nys) := by rw [← hV2]; simp [go_sem]
  have hzV2 : w6.heap.size < V2.heap.size := by rw [← hV2]; simp
  have hbV2 : Below w6.heap.size w6 V2 := by rw [← hV2]; exact (Below.refl _ _).alloc (Nat.le_refl _) _
  rw [hV2]
  clear hV2
  have CV2_W := Lib.hid (B6_W.out.trans (hbV2.mono B6_W.out.size))
  have CV2_wc1 := Lib.hid (B6_wc1.out.trans (hbV2.mono B6_wc1.out.size))
  have CV2_w4 := Lib.hid (B6_w4.out.trans (hbV2.mono B6_w4.out.size))
  have CV2_V0 := Lib.hid (B6_V0.out.trans (hbV2.mono B6_V0.out.size))
  have CV2_w5 := Lib.hid (B6_w5.out.trans (hbV2.mono B6_w5.out.size))
  have CV2_V1 := Lib.hid (B6_V1.out.trans (hbV2.mono B6_V1.out.size))
  have CV2_w6 := Lib.hid (Zw6.out.trans (hbV2.mono Zw6.out.size))
  have HX2_0 : Hid (∀ U, Below V2.heap.size V2 U → U.cell? ⟨w6.heap.size, 0, none⟩ = some (.int .i64 st2)) := Lib.hid fun U hU => (hU.cell (p := ⟨_, _, none⟩) hzV2).trans hx2_0
  have HX2_1 : Hid (∀ U, Below V2.heap.size V2 U → U.cell? ⟨w6.heap.size, 1, none⟩ = some (.slice (some ⟨x2, 0, none⟩) nys nys)) := Lib.hid fun U hU => (hU.cell (p := ⟨_, _, none⟩) hzV2).trans hx2_1
  have HZV2 := Lib.hid hzV2
  clear hzV2 hbV2 hx2_0 hx2_1
  have ZV2 := Lib.hid (Below.refl V2.heap.size V2)
  have PWV := Lib.hid CV2_wc1.out.size
  have HQx01 : Hid (wc1.heap.size ≤ x01 ∧ x01 < V2.heap.size) := Lib.hid ⟨Nat.le_trans ZPRE0.out (Ox01.out.lt x01 rfl).1, Nat.lt_of_lt_of_le (Ox01.out.lt x01 rfl).2 CV2_w4.out.size⟩
  have HQx02 : Hid (wc1.heap.size ≤ x02 ∧ x02 < V2.heap.size) := Lib.hid ⟨Nat.le_trans ZPRE0.out (Ox02.out.lt x02 rfl).1, Nat.lt_of_lt_of_le (Ox02.out.lt x02 rfl).2 CV2_w4.out.size⟩
  have HQx1 : Hid (wc1.heap.size ≤ x1 ∧ x1 < V2.heap.size) := Lib.hid ⟨Nat.le_trans ZPRE1.out (Ox1.out.lt x1 rfl).1, Nat.lt_of_lt_of_le (Ox1.out.lt x1 rfl).2 CV2_w5.out.size⟩
  have HQx2 : Hid (wc1.heap.size ≤ x2 ∧ x2 < V2.heap.size) := Lib.hid ⟨Nat.le_trans ZPRE2.out (Ox2.out.lt x2 rfl).1, Nat.lt_of_lt_of_le (Ox2.out.lt x2 rfl).2 CV2_w6.out.size⟩
  refine (implJR ⟨HN1.out, hsm1, Nat.le_refl _, Rx01.out _ CV2_w4.out, HWS.out, HN2.out, hsm2, Rx02.out _ CV2_w4.out⟩ st1 (c := nzs) HNzs.out (Rx1.out _ CV2_w5.out) hsmzs st2 (c3 := nys) HNys.out (Rx2.out _ CV2_w6.out) hsmys).mono ?_
  rw [HSV.out, HL.out, HB.out]
  rintro e w7 ⟨Ax, Nx, cx, rfl, HNNx, hox, hb7⟩
  have B7_W := Lib.hid (CV2_W.out.trans (hb7.mono CV2_W.out.size))
  have B7_wc1 := Lib.hid (CV2_wc1.out.trans (hb7.mono CV2_wc1.out.size))
  have B7_w4 := Lib.hid (CV2_w4.out.trans (hb7.mono CV2_w4.out.size))
  have B7_V0 := Lib.hid (CV2_V0.out.trans (hb7.mono CV2_V0.out.size))
  have B7_w5 := Lib.hid (CV2_w5.out.trans (hb7.mono CV2_w5.out.size))
  have B7_V1 := Lib.hid (CV2_V1.out.trans (hb7.mono CV2_V1.out.size))
  have B7_w6 := Lib.hid (CV2_w6.out.trans (hb7.mono CV2_w6.out.size))
  have B7_V2 := Lib.hid (ZV2.out.trans (hb7.mono ZV2.out.size))
  have HLAST7 := Lib.hid hb7
  clear hb7
  have HOx := Lib.hid hox; clear hox
  have hNx : Nx ≤ 1048576 := by have := HNNx.out; have := HLN.out; omega
  obtain rfl : Nx = Ns := HNNx.out.trans HNNs.out.symm
  have Zw7 := Lib.hid (Below.refl w7.heap.size w7)
  obtain ⟨sx0, sx1, sx2⟩ := HKWs.out _ B7_wc1.out
  go_wp2_with fail
  clear sx0 sx1 sx2
  obtain ⟨VG, hVG⟩ : ∃ V, (w7.alloc (Obj.cells #[.int .i64 Sv, .slice Ax Nx cx] 31)) = V := ⟨_, rfl⟩
  have hgb : VG.ownsRow V2.heap.size 31 2 (.slice (some ⟨w7.heap.size, 0, none⟩) 1 1) 1 [.int .i64 Sv, .slice Ax Nx cx] := by rw [← hVG]; exact one_rowR w7 _ _ rfl rfl HLAST7.out.size
  have hbG : Below w7.heap.size w7 VG := by rw [← hVG]; exact (Below.refl _ _).alloc (Nat.le_refl _) _
  rw [hVG]
  clear hVG
  have CG_W := Lib.hid (B7_W.out.trans (hbG.mono B7_W.out.size))
  have CG_wc1 := Lib.hid (B7_wc1.out.trans (hbG.mono B7_wc1.out.size))
  have CG_w4 := Lib.hid (B7_w4.out.trans (hbG.mono B7_w4.out.size))
  have CG_V0 := Lib.hid (B7_V0.out.trans (hbG.mono B7_V0.out.size))
  have CG_w5 := Lib.hid (B7_w5.out.trans (hbG.mono B7_w5.out.size))
  have CG_V1 := Lib.hid (B7_V1.out.trans (hbG.mono B7_V1.out.size))
  have CG_w6 := Lib.hid (B7_w6.out.trans (hbG.mono B7_w6.out.size))
  have CG_V2 := Lib.hid (B7_V2.out.trans (hbG.mono B7_V2.out.size))
  have CG_w7 := Lib.hid (Zw7.out.trans (hbG.mono Zw7.out.size))
  have HGB := Lib.hid hgb; clear hgb hbG
  have HNEG : Hid ((Value.slice Ax Nx cx).ownBlock ≠ some w7.heap.size) := Lib.hid fun e => by have := (HOx.out.lt _ e).2; omega
  have ZVG := Lib.hid (Below.refl VG.heap.size VG)
  refine (eqRtA Sv _ _ Nx _ _ L VG HNNx.out.symm hNx (Rd.ofOwn (ownB HOx.out CG_w7.out)) (HRRs.out _ CG_wc1.out)).mono ?_
  rintro e w8 ⟨rfl, hb8⟩
  have B8_W := Lib.hid (CG_W.out.trans (hb8.mono CG_W.out.size))
  have B8_wc1 := Lib.hid (CG_wc1.out.trans (hb8.mono CG_wc1.out.size))
  have B8_w4 := Lib.hid (CG_w4.out.trans (hb8.mono CG_w4.out.size))
  have B8_V0 := Lib.hid (CG_V0.out.trans (hb8.mono CG_V0.out.size))
  have B8_w5 := Lib.hid (CG_w5.out.trans (hb8.mono CG_w5.out.size))
  have B8_V1 := Lib.hid (CG_V1.out.trans (hb8.mono CG_V1.out.size))
  have B8_w6 := Lib.hid (CG_w6.out.trans (hb8.mono CG_w6.out.size))
  have B8_V2 := Lib.hid (CG_V2.out.trans (hb8.mono CG_V2.out.size))
  have B8_w7 := Lib.hid (CG_w7.out.trans (hb8.mono CG_w7.out.size))
  have B8_VG := Lib.hid (ZVG.out.trans (hb8.mono ZVG.out.size))
  have HLAST8 := Lib.hid hb8
  clear hb8
  have ka0_0 := HK0_0.out _ B8_W.out
  have ka0_1 := HK0_1.out _ B8_W.out
  have kx0_0 := HX0_0.out _ B8_V0.out
  have kx0_1 := HX0_1.out _ B8_V0.out
  have hgx : w4.heap.size < w8.heap.size := Nat.lt_of_lt_of_le HZV0.out B8_V0.out.size
  have hgw : w.heap.size < w8.heap.size := Nat.lt_of_lt_of_le (by have := HZ.out; omega) B8_W.out.size
  have hbd : Bel w8 w8.drew := Bel.of (Below.refl _ _).drew
  go_upto_region 18 with fail
  go_cut [71] (fun s71 wx => s71 = .bool false ∧ Bel w8 wx)
  case first =>
    go_region_held3 (fun U => U.cell? ⟨w4.heap.size, 0, none⟩ = some (.slice (some ⟨x01, 0, none⟩) n1 n1) ∧ U.cell? ⟨w4.heap.size, 1, none⟩ = some (.slice (some ⟨x02, 0, none⟩) n2 n2) ∧ U.cell? ⟨w.heap.size, 0, none⟩ = some (.slice A1 n1 c1) ∧ U.cell? ⟨w.heap.size, 1, none⟩ = some (.slice A2 n2 c2) ∧ Bel w8 U)
      (first | go_keep | (go_split_ands; (refine ⟨?_, ?_, ?_, ?_, ?_⟩ <;> first | assumption | exact Bel.step (by assumption) hbt9 | exact Bel.step (by assumption) hbt10 | exact (Bel.at_ (by assumption) hbt9 (by assumption)).trans (by assumption) | exact (Bel.at_ (by assumption) hbt10 (by assumption)).trans (by assumption))))
      (first
        | (go_at_call 17
           go_split_ands
           refine (toNet A1 A2 n1 c1 n2 c2 ss fs _ HN1.out (HR1.out _ (Below.trans B8_W.out ((Bel.out (by assumption)).mono B8_W.out.size))) hsm1 HN2.out (HR2.out _ (Below.trans B8_W.out ((Bel.out (by assumption)).mono B8_W.out.size))) hsm2).mono ?_
           rintro e t9 ⟨y101, y102, rfl, hoy101, hoy102, hbt9⟩
           have Sy101 := Lib.hid (Rd.ofOwnK hoy101)
           have Sy102 := Lib.hid (Rd.ofOwnK hoy102)
           clear hoy101 hoy102)
        | (go_at_call 21
           go_split_ands
           refine (eqNet x01 x02 y101 y102 n1 n2 n1 n2 n1 n2 ss fs t9 HN1.out hsm1 HN2.out hsm2 (Rx01.out _ (Below.trans B8_w4.out ((Bel.out (by assumption)).mono B8_w4.out.size))) (Sy101.out) (Rx02.out _ (Below.trans B8_w4.out ((Bel.out (by assumption)).mono B8_w4.out.size))) (Sy102.out)).mono ?_
           rintro e t10 ⟨rfl, hbt10⟩))
    all_goals
      go_split_ands
      have hbl : Bel w8 t10 := by assumption
      go_wp2_with fail
      go_meet
      exact ⟨rfl, hbl⟩
  case rest =>
  clear hbd hgx hgw ka0_0 ka0_1 kx0_0 kx0_1
  revert hcut; generalize wc = wc2; intro hcut
  obtain ⟨hs_, hbl⟩ := hcut
  subst hs_
  have Ewc2_W := Lib.hid (B8_W.out.trans ((Bel.out hbl).mono B8_W.out.size))
  have Ewc2_wc1 := Lib.hid (B8_wc1.out.trans ((Bel.out hbl).mono B8_wc1.out.size))
  have Ewc2_w4 := Lib.hid (B8_w4.out.trans ((Bel.out hbl).mono B8_w4.out.size))
  have Ewc2_V0 := Lib.hid (B8_V0.out.trans ((Bel.out hbl).mono B8_V0.out.size))
  have Ewc2_w5 := Lib.hid (B8_w5.out.trans ((Bel.out hbl).mono B8_w5.out.size))
  have Ewc2_V1 := Lib.hid (B8_V1.out.trans ((Bel.out hbl).mono B8_V1.out.size))
  have Ewc2_w6 := Lib.hid (B8_w6.out.trans ((Bel.out hbl).mono B8_w6.out.size))
  have Ewc2_V2 := Lib.hid (B8_V2.out.trans ((Bel.out hbl).mono B8_V2.out.size))
  have Ewc2_w7 := Lib.hid (B8_w7.out.trans ((Bel.out hbl).mono B8_w7.out.size))
  have Ewc2_VG := Lib.hid (B8_VG.out.trans ((Bel.out hbl).mono B8_VG.out.size))
  clear hbl
  have ka1_0 := HK1_0.out _ Ewc2_W.out
  have ka1_1 := HK1_1.out _ Ewc2_W.out
  have kx1_0 := HX1_0.out _ Ewc2_V1.out
  have kx1_1 := HX1_1.out _ Ewc2_V1.out
  have hgx : w5.heap.size < wc2.heap.size := Nat.lt_of_lt_of_le HZV1.out Ewc2_V1.out.size
  have hgw : w.heap.size + 1 < wc2.heap.size := Nat.lt_of_lt_of_le (by have := HZ.out; omega) Ewc2_W.out.size
  have hbd : Bel wc2 wc2.drew := Bel.of (Below.refl _ _).drew
  go_upto_region 20 with fail
  go_cut [76] (fun s76 wx => s76 = .bool false ∧ Bel wc2 wx)
  case first =>
    go_region_held3 (fun U => U.cell? ⟨w5.heap.size, 0, none⟩ = some (.int .i64 st1) ∧ U.cell? ⟨w5.heap.size, 1, none⟩ = some (.slice (some ⟨x1, 0, none⟩) nzs nzs) ∧ U.cell? ⟨w.heap.size + 1, 0, none⟩ = some (.int .i64 st1) ∧ U.cell? ⟨w.heap.size + 1, 1, none⟩ = some (.slice Azs nzs czs) ∧ Bel wc2 U)
      (first | go_keep | (go_split_ands; (refine ⟨?_, ?_, ?_, ?_, ?_⟩ <;> first | assumption | exact Bel.step (by assumption) hbt11 | exact Bel.step (by assumption) hbt12 | exact (Bel.at_ (by assumption) hbt11 (by assumption)).trans (by assumption) | exact (Bel.at_ (by assumption) hbt12 (by assumption)).trans (by assumption))))
      (first
        | (go_at_call 18
           go_split_ands
           refine (toRt st1 Azs nzs czs zs _ HNzs.out (HRzs.out _ (Below.trans Ewc2_W.out ((Bel.out (by assumption)).mono Ewc2_W.out.size))) hsmzs).mono ?_
           rintro e t11 ⟨y12, rfl, hgy12, hoy12, hbt11⟩
           have Sy12 := Lib.hid (Rd.ofOwnK hoy12)
           clear hoy12 hgy12)
        | (go_at_call 20
           go_split_ands
           refine (eqRt st1 x1 y12 nzs nzs nzs zs t11 HNzs.out hsmzs (Rx1.out _ (Below.trans Ewc2_w5.out ((Bel.out (by assumption)).mono Ewc2_w5.out.size))) (Sy12.out)).mono ?_
           rintro e t12 ⟨rfl, hbt12⟩))
    all_goals
      go_split_ands
      have hbl : Bel wc2 t12 := by assumption
      go_wp2_with fail
      go_meet
      exact ⟨rfl, hbl⟩
  case rest =>
  clear hbd hgx hgw ka1_0 ka1_1 kx1_0 kx1_1
  revert hcut; generalize wc = wc3; intro hcut
  obtain ⟨hs_, hbl⟩ := hcut
  subst hs_
  have Ewc3_W := Lib.hid (Ewc2_W.out.trans ((Bel.out hbl).mono Ewc2_W.out.size))
  have Ewc3_wc1 := Lib.hid (Ewc2_wc1.out.trans ((Bel.out hbl).mono Ewc2_wc1.out.size))
  have Ewc3_w4 := Lib.hid (Ewc2_w4.out.trans ((Bel.out hbl).mono Ewc2_w4.out.size))
  have Ewc3_V0 := Lib.hid (Ewc2_V0.out.trans ((Bel.out hbl).mono Ewc2_V0.out.size))
  have Ewc3_w5 := Lib.hid (Ewc2_w5.out.trans ((Bel.out hbl).mono Ewc2_w5.out.size))
  have Ewc3_V1 := Lib.hid (Ewc2_V1.out.trans ((Bel.out hbl).mono Ewc2_V1.out.size))
  have Ewc3_w6 := Lib.hid (Ewc2_w6.out.trans ((Bel.out hbl).mono Ewc2_w6.out.size))
  have Ewc3_V2 := Lib.hid (Ewc2_V2.out.trans ((Bel.out hbl).mono Ewc2_V2.out.size))
  have Ewc3_w7 := Lib.hid (Ewc2_w7.out.trans ((Bel.out hbl).mono Ewc2_w7.out.size))
  have Ewc3_VG := Lib.hid (Ewc2_VG.out.trans ((Bel.out hbl).mono Ewc2_VG.out.size))
  clear hbl
  have ka2_0 := HK2_0.out _ Ewc3_W.out
  have ka2_1 := HK2_1.out _ Ewc3_W.out
  have kx2_0 := HX2_0.out _ Ewc3_V2.out
  have kx2_1 := HX2_1.out _ Ewc3_V2.out
  have hgx : w6.heap.size < wc3.heap.size := Nat.lt_of_lt_of_le HZV2.out Ewc3_V2.out.size
  have hgw : w.heap.size + 1 + 1 < wc3.heap.size := Nat.lt_of_lt_of_le (by have := HZ.out; omega) Ewc3_W.out.size
  have hbd : Bel wc3 wc3.drew := Bel.of (Below.refl _ _).drew
  go_upto_region 22 with fail
  go_cut [81] (fun s81 wx => s81 = .bool false ∧ Bel wc3 wx)
  case first =>
    go_region_held3 (fun U => U.cell? ⟨w6.heap.size, 0, none⟩ = some (.int .i64 st2) ∧ U.cell? ⟨w6.heap.size, 1, none⟩ = some (.slice (some ⟨x2, 0, none⟩) nys nys) ∧ U.cell? ⟨w.heap.size + 1 + 1, 0, none⟩ = some (.int .i64 st2) ∧ U.cell? ⟨w.heap.size + 1 + 1, 1, none⟩ = some (.slice Ays nys cys) ∧ Bel wc3 U)
      (first | go_keep | (go_split_ands; (refine ⟨?_, ?_, ?_, ?_, ?_⟩ <;> first | assumption | exact Bel.step (by assumption) hbt13 | exact Bel.step (by assumption) hbt14 | exact (Bel.at_ (by assumption) hbt13 (by assumption)).trans (by assumption) | exact (Bel.at_ (by assumption) hbt14 (by assumption)).trans (by assumption))))
      (first
        | (go_at_call 18
           go_split_ands
           refine (toRt st2 Ays nys cys ys _ HNys.out (HRys.out _ (Below.trans Ewc3_W.out ((Bel.out (by assumption)).mono Ewc3_W.out.size))) hsmys).mono ?_
           rintro e t13 ⟨y14, rfl, hgy14, hoy14, hbt13⟩
           have Sy14 := Lib.hid (Rd.ofOwnK hoy14)
           clear hoy14 hgy14)
        | (go_at_call 20
           go_split_ands
           refine (eqRt st2 x2 y14 nys nys nys ys t13 HNys.out hsmys (Rx2.out _ (Below.trans Ewc3_w6.out ((Bel.out (by assumption)).mono Ewc3_w6.out.size))) (Sy14.out)).mono ?_
           rintro e t14 ⟨rfl, hbt14⟩))
    all_goals
      go_split_ands
      have hbl : Bel wc3 t14 := by assumption
      go_wp2_with fail
      go_meet
      exact ⟨rfl, hbl⟩
  case rest =>
  clear hbd hgx hgw ka2_0 ka2_1 kx2_0 kx2_1
  revert hcut; generalize wc = wc4; intro hcut
  obtain ⟨hs_, hbl⟩ := hcut
  subst hs_
  have Ewc4_W := Lib.hid (Ewc3_W.out.trans ((Bel.out hbl).mono Ewc3_W.out.size))
  have Ewc4_wc1 := Lib.hid (Ewc3_wc1.out.trans ((Bel.out hbl).mono Ewc3_wc1.out.size))
  have Ewc4_w4 := Lib.hid (Ewc3_w4.out.trans ((Bel.out hbl).mono Ewc3_w4.out.size))
  have Ewc4_V0 := Lib.hid (Ewc3_V0.out.trans ((Bel.out hbl).mono Ewc3_V0.out.size))
  have Ewc4_w5 := Lib.hid (Ewc3_w5.out.trans ((Bel.out hbl).mono Ewc3_w5.out.size))
  have Ewc4_V1 := Lib.hid (Ewc3_V1.out.trans ((Bel.out hbl).mono Ewc3_V1.out.size))
  have Ewc4_w6 := Lib.hid (Ewc3_w6.out.trans ((Bel.out hbl).mono Ewc3_w6.out.size))
  have Ewc4_V2 := Lib.hid (Ewc3_V2.out.trans ((Bel.out hbl).mono Ewc3_V2.out.size))
  have Ewc4_w7 := Lib.hid (Ewc3_w7.out.trans ((Bel.out hbl).mono Ewc3_w7.out.size))
  have Ewc4_VG := Lib.hid (Ewc3_VG.out.trans ((Bel.out hbl).mono Ewc3_VG.out.size))
  clear hbl
  have HGB0 := Lib.hid (ownB HGB.out Ewc4_VG.out)
  have HG0 := Lib.hid (ownB HOx.out Ewc4_w7.out)
  have kx0_0 := HX0_0.out _ Ewc4_V0.out
  have kx0_1 := HX0_1.out _ Ewc4_V0.out
  go_wp2_with fail
  clear kx0_0 kx0_1
  refine (markNetB x01 x02 n1 n2 n1 n2 _ _ wc4 (own_base (ownB Ox01.out Ewc4_w4.out) (Nat.zero_le _)) hsm1 (own_base (ownB Ox02.out Ewc4_w4.out) (Nat.zero_le _)) hsm2 (rows_apart Ox01.out Ox02.out (by decide))).mono ?_
  rintro e w15 ⟨k0, rfl, hk0a, hk0b, hoff⟩
  have Fw15_W := Lib.hid (Ewc4_W.out.trans (hoff.below (B := W.heap.size) Ewc4_W.out.size (fun b h => by have hpw := WPW.out; have := HQx01.out; have := HQx02.out; rcases h with h | h <;> omega)))
  have Fw15_wc1 := Lib.hid (Ewc4_wc1.out.trans (hoff.below (B := wc1.heap.size) Ewc4_wc1.out.size (fun b h => by have hpw := Nat.le_refl wc1.heap.size; have := HQx01.out; have := HQx02.out; rcases h with h | h <;> omega)))
  have HG1 := Lib.hid (own_off HG0.out hoff (fun b h => by have := HQx01.out; have := HQx02.out; rcases h with h | h <;> omega))
  have HGB1 := Lib.hid (own_off HGB0.out hoff (fun b h => by have := HQx01.out; have := HQx02.out; rcases h with h | h <;> omega))
  have Ox1_ := Lib.hid (Off.own hoff (ownB Ox1.out Ewc4_w5.out) (fun h => by have := SEPx01_x1.out; have := SEPx02_x1.out; rcases h with h | h <;> omega))
  clear Ox1; have Ox1 := Ox1_; clear Ox1_
  have kk1_0 := (hoff.cell (p := ⟨w5.heap.size, 0, none⟩) (Nat.lt_of_lt_of_le HZV1.out Ewc4_V1.out.size) (fun h => by have := SEPBx01_1.out; have := SEPBx02_1.out; have h2 : w5.heap.size = x01 ∨ w5.heap.size = x02 := h; omega)).trans (HX1_0.out _ Ewc4_V1.out)
  have HX1_0 : Hid (∀ U, Below w15.heap.size w15 U → U.cell? ⟨w5.heap.size, 0, none⟩ = some (.int .i64 st1)) := Lib.hid fun U hU => (hU.cell (p := ⟨_, _, none⟩) (Nat.lt_of_lt_of_le HZV1.out (Nat.le_trans Ewc4_V1.out.size hoff.size))).trans kk1_0
  clear kk1_0
  have kk1_1 := (hoff.cell (p := ⟨w5.heap.size, 1, none⟩) (Nat.lt_of_lt_of_le HZV1.out Ewc4_V1.out.size) (fun h => by have := SEPBx01_1.out; have := SEPBx02_1.out; have h2 : w5.heap.size = x01 ∨ w5.heap.size = x02 := h; omega)).trans (HX1_1.out _ Ewc4_V1.out)
  have HX1_1 : Hid (∀ U, Below w15.heap.size w15 U → U.cell? ⟨w5.heap.size, 1, none⟩ = some (.slice (some ⟨x1, 0, none⟩) nzs nzs)) := Lib.hid fun U hU => (hU.cell (p := ⟨_, _, none⟩) (Nat.lt_of_lt_of_le HZV1.out (Nat.le_trans Ewc4_V1.out.size hoff.size))).trans kk1_1
  clear kk1_1
  have HZV1_ : Hid (w5.heap.size < w15.heap.size) := Lib.hid (Nat.lt_of_lt_of_le HZV1.out (Nat.le_trans Ewc4_V1.out.size hoff.size))
  clear HZV1; have HZV1 := HZV1_; clear HZV1_
  have Ox2_ := Lib.hid (Off.own hoff (ownB Ox2.out Ewc4_w6.out) (fun h => by have := SEPx01_x2.out; have := SEPx02_x2.out; rcases h with h | h <;> omega))
  clear Ox2; have Ox2 := Ox2_; clear Ox2_
  have kk2_0 := (hoff.cell (p := ⟨w6.heap.size, 0, none⟩) (Nat.lt_of_lt_of_le HZV2.out Ewc4_V2.out.size) (fun h => by have := SEPBx01_2.out; have := SEPBx02_2.out; have h2 : w6.heap.size = x01 ∨ w6.heap.size = x02 := h; omega)).trans (HX2_0.out _ Ewc4_V2.out)
  have HX2_0 : Hid (∀ U, Below w15.heap.size w15 U → U.cell? ⟨w6.heap.size, 0, none⟩ = some (.int .i64 st2)) := Lib.hid fun U hU => (hU.cell (p := ⟨_, _, none⟩) (Nat.lt_of_lt_of_le HZV2.out (Nat.le_trans Ewc4_V2.out.size hoff.size))).trans kk2_0
  clear kk2_0
  have kk2_1 := (hoff.cell (p := ⟨w6.heap.size, 1, none⟩) (Nat.lt_of_lt_of_le HZV2.out Ewc4_V2.out.size) (fun h => by have := SEPBx01_2.out; have := SEPBx02_2.out; have h2 : w6.heap.size = x01 ∨ w6.heap.size = x02 := h; omega)).trans (HX2_1.out _ Ewc4_V2.out)
  have HX2_1 : Hid (∀ U, Below w15.heap.size w15 U → U.cell? ⟨w6.heap.size, 1, none⟩ = some (.slice (some ⟨x2, 0, none⟩) nys nys)) := Lib.hid fun U hU => (hU.cell (p := ⟨_, _, none⟩) (Nat.lt_of_lt_of_le HZV2.out (Nat.le_trans Ewc4_V2.out.size hoff.size))).trans kk2_1
  clear kk2_1
  have HZV2_ : Hid (w6.heap.size < w15.heap.size) := Lib.hid (Nat.lt_of_lt_of_le HZV2.out (Nat.le_trans Ewc4_V2.out.size hoff.size))
  clear HZV2; have HZV2 := HZV2_; clear HZV2_
  have Zw15 := Lib.hid (Below.refl w15.heap.size w15)
  clear hoff
  have kx1_0 := HX1_0.out _ Zw15.out
  have kx1_1 := HX1_1.out _ Zw15.out
  go_wp2_with fail
  clear kx1_0 kx1_1
  refine (markRt _ x1 nzs nzs k0 _ w15 (ownB Ox1.out Zw15.out) hsmzs (by omega) (by omega)).mono ?_
  rintro e w16 ⟨rfl, hoff⟩
  obtain ⟨k1, hk1⟩ : ∃ k, k0 + (nzs : Int) = k := ⟨_, rfl⟩
  have hk1a : 0 ≤ k1 := by omega
  have hk1b : k1 ≤ 92000000 := by omega
  rw [hk1]
  clear hk1
  have Fw16_W := Lib.hid (Fw15_W.out.trans (hoff.below (B := W.heap.size) Fw15_W.out.size (fun b h => by have hpw := WPW.out; have := HQx1.out; have h2 : b = x1 := h; omega)))
  have Fw16_wc1 := Lib.hid (Fw15_wc1.out.trans (hoff.below (B := wc1.heap.size) Fw15_wc1.out.size (fun b h => by have hpw := Nat.le_refl wc1.heap.size; have := HQx1.out; have h2 : b = x1 := h; omega)))
  have HG2 := Lib.hid (own_off HG1.out hoff (fun b h => by have := HQx1.out; have h2 : b = x1 := h; omega))
  have HGB2 := Lib.hid (own_off HGB1.out hoff (fun b h => by have := HQx1.out; have h2 : b = x1 := h; omega))
  have Ox2_ := Lib.hid (Off.own hoff (ownB Ox2.out Zw15.out) (fun h => by have := SEPx1_x2.out; have h2 : x2 = x1 := h; omega))
  clear Ox2; have Ox2 := Ox2_; clear Ox2_
  have kk2_0 := (hoff.cell (p := ⟨w6.heap.size, 0, none⟩) (Nat.lt_of_lt_of_le HZV2.out Zw15.out.size) (fun h => by have := SEPBx1_2.out; have h2 : w6.heap.size = x1 := h; omega)).trans (HX2_0.out _ Zw15.out)
  have HX2_0 : Hid (∀ U, Below w16.heap.size w16 U → U.cell? ⟨w6.heap.size, 0, none⟩ = some (.int .i64 st2)) := Lib.hid fun U hU => (hU.cell (p := ⟨_, _, none⟩) (Nat.lt_of_lt_of_le HZV2.out (Nat.le_trans Zw15.out.size hoff.size))).trans kk2_0
  clear kk2_0
  have kk2_1 := (hoff.cell (p := ⟨w6.heap.size, 1, none⟩) (Nat.lt_of_lt_of_le HZV2.out Zw15.out.size) (fun h => by have := SEPBx1_2.out; have h2 : w6.heap.size = x1 := h; omega)).trans (HX2_1.out _ Zw15.out)
  have HX2_1 : Hid (∀ U, Below w16.heap.size w16 U → U.cell? ⟨w6.heap.size, 1, none⟩ = some (.slice (some ⟨x2, 0, none⟩) nys nys)) := Lib.hid fun U hU => (hU.cell (p := ⟨_, _, none⟩) (Nat.lt_of_lt_of_le HZV2.out (Nat.le_trans Zw15.out.size hoff.size))).trans kk2_1
  clear kk2_1
  have HZV2_ : Hid (w6.heap.size < w16.heap.size) := Lib.hid (Nat.lt_of_lt_of_le HZV2.out (Nat.le_trans Zw15.out.size hoff.size))
  clear HZV2; have HZV2 := HZV2_; clear HZV2_
  have Zw16 := Lib.hid (Below.refl w16.heap.size w16)
  clear hoff
  have kx2_0 := HX2_0.out _ Zw16.out
  have kx2_1 := HX2_1.out _ Zw16.out
  go_wp2_with fail
  clear kx2_0 kx2_1
  refine (markRt _ x2 nys nys k1 _ w16 (ownB Ox2.out Zw16.out) hsmys (by omega) (by omega)).mono ?_
  rintro e w17 ⟨rfl, hoff⟩
  obtain ⟨k2, hk2⟩ : ∃ k, k1 + (nys : Int) = k := ⟨_, rfl⟩
  have hk2a : 0 ≤ k2 := by omega
  have hk2b : k2 ≤ 94000000 := by omega
  rw [hk2]
  clear hk2
  have Fw17_W := Lib.hid (Fw16_W.out.trans (hoff.below (B := W.heap.size) Fw16_W.out.size (fun b h => by have hpw := WPW.out; have := HQx2.out; have h2 : b = x2 := h; omega)))
  have Fw17_wc1 := Lib.hid (Fw16_wc1.out.trans (hoff.below (B := wc1.heap.size) Fw16_wc1.out.size (fun b h => by have hpw := Nat.le_refl wc1.heap.size; have := HQx2.out; have h2 : b = x2 := h; omega)))
  have HG3 := Lib.hid (own_off HG2.out hoff (fun b h => by have := HQx2.out; have h2 : b = x2 := h; omega))
  have HGB3 := Lib.hid (own_off HGB2.out hoff (fun b h => by have := HQx2.out; have h2 : b = x2 := h; omega))
  have Zw17 := Lib.hid (Below.refl w17.heap.size w17)
  clear hoff
  have hkn : decide (k2 < 0) = false := decide_eq_false (by omega)
  obtain ⟨sx0, sx1, sx2⟩ := HKWs.out _ Fw17_wc1.out
  have gx0 := HGB3.out.cellAt 0 (by omega)
  have gx1 := HGB3.out.cellAt 1 (by omega)
  simp only [List.getElem?_cons_zero, List.getElem?_cons_succ] at gx0 gx1
  go_wp2_with fail
  clear sx0 sx1 sx2 gx0 gx1
  refine (eqRtA Sv _ _ Nx _ _ L w17 HNNx.out.symm hNx (Rd.ofOwn HG3.out) (HRRs.out _ Fw17_wc1.out)).mono ?_
  rintro e w18 ⟨rfl, hb18⟩
  have B18_W := Lib.hid (Fw17_W.out.trans (hb18.mono Fw17_W.out.size))
  have B18_wc1 := Lib.hid (Fw17_wc1.out.trans (hb18.mono Fw17_wc1.out.size))
  have B18_w17 := Lib.hid (Zw17.out.trans (hb18.mono Zw17.out.size))
  have HLAST18 := Lib.hid hb18
  clear hb18
  have HGA := Lib.hid (ownB HG3.out B18_w17.out)
  have HGBA := Lib.hid (ownB HGB3.out B18_w17.out)
  have gx0 := HGBA.out.cellAt 0 (by omega)
  have gx1 := HGBA.out.cellAt 1 (by omega)
  simp only [List.getElem?_cons_zero, List.getElem?_cons_succ] at gx0 gx1
  go_wp2_with fail
  clear gx0 gx1
  refine (markRtA Sv Ax Nx cx L w18 HGA.out hNx).mono ?_
  rintro e w19 ⟨rfl, hoff9, ho9⟩
  have Gw19_W := Lib.hid (B18_W.out.trans (hoff9.below (B := W.heap.size) B18_W.out.size (fun b h => by have := WPW.out; have := PWV.out; have h2 : V2.heap.size ≤ b := (HGA.out.lt b h).1; omega)))
  have Gw19_wc1 := Lib.hid (B18_wc1.out.trans (hoff9.below (B := wc1.heap.size) B18_wc1.out.size (fun b h => by have := WPW.out; have := PWV.out; have h2 : V2.heap.size ≤ b := (HGA.out.lt b h).1; omega)))
  have HM := Lib.hid ho9
  have HMB := Lib.hid (Off.own hoff9 HGBA.out HNEG.out)
  clear hoff9 ho9
  have Zw19 := Lib.hid (Below.refl w19.heap.size w19)
  have gx0 := HMB.out.cellAt 0 (by omega)
  have gx1 := HMB.out.cellAt 1 (by omega)
  simp only [List.getElem?_cons_zero, List.getElem?_cons_succ] at gx0 gx1
  go_wp2_with fail
  clear gx0 gx1
  refine (heldRtA Sv Ax Nx cx w19 (Rd.ofOwn HM.out) hNx).mono ?_
  rintro e w20 ⟨rfl, hb20⟩
  have B20_W := Lib.hid (Gw19_W.out.trans (hb20.mono Gw19_W.out.size))
  have B20_wc1 := Lib.hid (Gw19_wc1.out.trans (hb20.mono Gw19_wc1.out.size))
  have B20_w19 := Lib.hid (Zw19.out.trans (hb20.mono Zw19.out.size))
  have HLAST20 := Lib.hid hb20
  clear hb20
  have hN4 : 0 ≤ (Nx : Int) := Int.natCast_nonneg _
  have ka0_0 := HK0_0.out _ B20_W.out
  have ka0_1 := HK0_1.out _ B20_W.out
  have ka1_0 := HK1_0.out _ B20_W.out
  have ka1_1 := HK1_1.out _ B20_W.out
  have ka2_0 := HK2_0.out _ B20_W.out
  have ka2_1 := HK2_1.out _ B20_W.out
  have hbd : Bel w20 w20.drew := Bel.of (Below.refl _ _).drew
  have hgw0 : w.heap.size < w20.heap.size := Nat.lt_of_lt_of_le (by have := HZ.out; omega) B20_W.out.size
  have hgw1 : w.heap.size + 1 < w20.heap.size := Nat.lt_of_lt_of_le (by have := HZ.out; omega) B20_W.out.size
  have hgw2 : w.heap.size + 1 + 1 < w20.heap.size := Nat.lt_of_lt_of_le (by have := HZ.out; omega) B20_W.out.size
  go_upto_region 38 with fail
  go_cut [18, 19] (fun s18 s19 wx => ∃ (A : Option Addr), ∃ (N c gb : Nat), s18 = .pointer (some ⟨gb, 0, none⟩) ∧ s19 = .bool b ∧ Hid (N = L.length) ∧ Hid (Rd wx wx.heap.size A (L.map (Value.int .i64))) ∧ Hid (wx.cell? ⟨gb, 0, none⟩ = some (.int .i64 Sv) ∧ wx.cell? ⟨gb, 1, none⟩ = some (.slice A N c) ∧ gb < wx.heap.size) ∧ Bel w20 wx)
  case first =>
    go_region_held3 (fun U => U.cell? ⟨w.heap.size, 0, none⟩ = some (.slice A1 n1 c1) ∧ U.cell? ⟨w.heap.size, 1, none⟩ = some (.slice A2 n2 c2) ∧ U.cell? ⟨w.heap.size + 1, 0, none⟩ = some (.int .i64 st1) ∧ U.cell? ⟨w.heap.size + 1, 1, none⟩ = some (.slice Azs nzs czs) ∧ U.cell? ⟨w.heap.size + 1 + 1, 0, none⟩ = some (.int .i64 st2) ∧ U.cell? ⟨w.heap.size + 1 + 1, 1, none⟩ = some (.slice Ays nys cys) ∧ Bel w20 U)
      (first | (go_split_ands; (refine ⟨?_, ?_, ?_, ?_, ?_, ?_, ?_⟩ <;> first | assumption | exact belStart _ _ | with_reducible exact belStartCell _ (by assumption) (by assumption) | with_reducible exact belSetCell (w := w20) (by first | exact Nat.le_refl _ | assumption) (by assumption) (by assumption) _ _ | with_reducible exact belSet (by assumption) (by first | exact Nat.le_refl _ | assumption) _ _ | exact Bel.step (by assumption) hbc5a | exact (Bel.at_ (by assumption) hbc5a (by assumption)).trans (by assumption) | exact Bel.step (by assumption) hbc5b | exact (Bel.at_ (by assumption) hbc5b (by assumption)).trans (by assumption) | exact Bel.step (by assumption) hbc5c | exact (Bel.at_ (by assumption) hbc5c (by assumption)).trans (by assumption) | exact Bel.step (by assumption) hbc5z | exact (Bel.at_ (by assumption) hbc5z (by assumption)).trans (by assumption) | exact belAlloc (by assumption) _ | exact belCell (by assumption) _ (by assumption) (by assumption) | exact belAlloc (Bel.step (by assumption) hbc5z) _ | exact belCell (Bel.step (by assumption) hbc5z) _ (by assumption) ((Bel.at_ (by assumption) hbc5z (by assumption)).trans (by assumption)))) | go_keep)
      (first
        | (go_at_call 17
           go_split_ands
           refine (toNet A1 A2 n1 c1 n2 c2 ss fs _ HN1.out (HR1.out _ (Below.trans B20_W.out ((Bel.out (by assumption)).mono B20_W.out.size))) hsm1 HN2.out (HR2.out _ (Below.trans B20_W.out ((Bel.out (by assumption)).mono B20_W.out.size))) hsm2).mono ?_
           rintro e u5a ⟨c5a1, c5a2, rfl, hoc5a1, hoc5a2, hbc5a⟩
           have Rc5a1 : Hid (∀ V, Below u5a.heap.size u5a V → Rd V V.heap.size (some ⟨c5a1, 0, none⟩) (ss.map Value.string)) := Lib.hid fun V hV => (Rd.ofOwnK hoc5a1).moved hV
           have Rc5a2 : Hid (∀ V, Below u5a.heap.size u5a V → Rd V V.heap.size (some ⟨c5a2, 0, none⟩) (fs.flatMap Q4.cells)) := Lib.hid fun V hV => (Rd.ofOwnK hoc5a2).moved hV
           clear hoc5a1 hoc5a2
           have SZu5a := (Bel.out (Bel.step (by assumption) hbc5a)).size
           first | (have hbx := boxNewD (b := w20.heap.size) rfl hbc5a; obtain ⟨_, _, _, _, _⟩ := hbx) | skip
           first | (have hbx := boxNew (b := w20.heap.size) rfl hbc5a; obtain ⟨_, _, _, _, _⟩ := hbx) | skip
           first | (have hbx := boxKept (b := w20.heap.size) (by assumption) (by assumption) (by assumption) (by assumption) (by assumption) hbc5a; obtain ⟨_, _, _, _, _⟩ := hbx) | skip
           first | (have hbx := boxNew (b := u5b.heap.size) rfl hbc5a; obtain ⟨_, _, _, _, _⟩ := hbx) | skip
           first | (have hbx := boxKept (b := u5b.heap.size) (by assumption) (by assumption) (by assumption) (by assumption) (by assumption) hbc5a; obtain ⟨_, _, _, _, _⟩ := hbx) | skip
           first | (have hbx := boxNew (b := u5c.heap.size) rfl hbc5a; obtain ⟨_, _, _, _, _⟩ := hbx) | skip
           first | (have hbx := boxKept (b := u5c.heap.size) (by assumption) (by assumption) (by assumption) (by assumption) (by assumption) hbc5a; obtain ⟨_, _, _, _, _⟩ := hbx) | skip
           skip)
        | (go_at_call 18
           go_split_ands
           with_reducible refine (toRt st1 Azs nzs czs zs _ HNzs.out (HRzs.out _ (Below.trans B20_W.out ((Bel.out (by assumption)).mono B20_W.out.size))) hsmzs).mono ?_
           rintro e u5b ⟨c5b, rfl, hgc5b, hoc5b, hbc5b⟩
           have Rc5b : Hid (∀ V, Below u5b.heap.size u5b V → Rd V V.heap.size (some ⟨c5b, 0, none⟩) (zs.map (Value.int .i64))) := Lib.hid fun V hV => (Rd.ofOwnK hoc5b).moved hV
           clear hoc5b hgc5b
           have SZu5b := (Bel.out (Bel.step (by assumption) hbc5b)).size
           first | (have hbx := boxNewD (b := w20.heap.size) rfl hbc5b; obtain ⟨_, _, _, _, _⟩ := hbx) | skip
           first | (have hbx := boxNew (b := w20.heap.size) rfl hbc5b; obtain ⟨_, _, _, _, _⟩ := hbx) | skip
           first | (have hbx := boxKept (b := w20.heap.size) (by assumption) (by assumption) (by assumption) (by assumption) (by assumption) hbc5b; obtain ⟨_, _, _, _, _⟩ := hbx) | skip
           first | (have hbx := boxNew (b := u5a.heap.size) rfl hbc5b; obtain ⟨_, _, _, _, _⟩ := hbx) | skip
           first | (have hbx := boxKept (b := u5a.heap.size) (by assumption) (by assumption) (by assumption) (by assumption) (by assumption) hbc5b; obtain ⟨_, _, _, _, _⟩ := hbx) | skip
           first | (have hbx := boxNew (b := u5c.heap.size) rfl hbc5b; obtain ⟨_, _, _, _, _⟩ := hbx) | skip
           first | (have hbx := boxKept (b := u5c.heap.size) (by assumption) (by assumption) (by assumption) (by assumption) (by assumption) hbc5b; obtain ⟨_, _, _, _, _⟩ := hbx) | skip
           skip)
        | (go_at_call 18
           go_split_ands
           with_reducible refine (toRt st2 Ays nys cys ys _ HNys.out (HRys.out _ (Below.trans B20_W.out ((Bel.out (by assumption)).mono B20_W.out.size))) hsmys).mono ?_
           rintro e u5c ⟨c5c, rfl, hgc5c, hoc5c, hbc5c⟩
           have Rc5c : Hid (∀ V, Below u5c.heap.size u5c V → Rd V V.heap.size (some ⟨c5c, 0, none⟩) (ys.map (Value.int .i64))) := Lib.hid fun V hV => (Rd.ofOwnK hoc5c).moved hV
           clear hoc5c hgc5c
           have SZu5c := (Bel.out (Bel.step (by assumption) hbc5c)).size
           first | (have hbx := boxNewD (b := w20.heap.size) rfl hbc5c; obtain ⟨_, _, _, _, _⟩ := hbx) | skip
           first | (have hbx := boxNew (b := w20.heap.size) rfl hbc5c; obtain ⟨_, _, _, _, _⟩ := hbx) | skip
           first | (have hbx := boxKept (b := w20.heap.size) (by assumption) (by assumption) (by assumption) (by assumption) (by assumption) hbc5c; obtain ⟨_, _, _, _, _⟩ := hbx) | skip
           first | (have hbx := boxNew (b := u5a.heap.size) rfl hbc5c; obtain ⟨_, _, _, _, _⟩ := hbx) | skip
           first | (have hbx := boxKept (b := u5a.heap.size) (by assumption) (by assumption) (by assumption) (by assumption) (by assumption) hbc5c; obtain ⟨_, _, _, _, _⟩ := hbx) | skip
           first | (have hbx := boxNew (b := u5b.heap.size) rfl hbc5c; obtain ⟨_, _, _, _, _⟩ := hbx) | skip
           first | (have hbx := boxKept (b := u5b.heap.size) (by assumption) (by assumption) (by assumption) (by assumption) (by assumption) hbc5c; obtain ⟨_, _, _, _, _⟩ := hbx) | skip
           skip)
        | (go_at_call 19
           go_split_ands
           refine (implJR ⟨HN1.out, hsm1, Nat.le_refl _, Rc5a1.out _ (by first | exact Below.refl _ _ | assumption | (apply belT; assumption; assumption) | exact belowAlloc (Below.refl _ _) _ | exact belowAlloc (by assumption) _ | exact belowAlloc (by apply belT <;> assumption) _ | exact belowAlloc (by apply belT; assumption; assumption) _ | (apply belT; assumption; exact belowAlloc (by assumption) _) | (apply belT; exact belowOver (by assumption); assumption) | (apply belT; assumption; exact belowOver (by assumption)) | exact belowOver (by assumption)), HWS.out, HN2.out, hsm2, Rc5a2.out _ (by first | exact Below.refl _ _ | assumption | (apply belT; assumption; assumption) | exact belowAlloc (Below.refl _ _) _ | exact belowAlloc (by assumption) _ | exact belowAlloc (by apply belT <;> assumption) _ | exact belowAlloc (by apply belT; assumption; assumption) _ | (apply belT; assumption; exact belowAlloc (by assumption) _) | (apply belT; exact belowOver (by assumption); assumption) | (apply belT; assumption; exact belowOver (by assumption)) | exact belowOver (by assumption))⟩ st1 (c := nzs) HNzs.out (Rc5b.out _ (by first | exact Below.refl _ _ | assumption | (apply belT; assumption; assumption) | exact belowAlloc (Below.refl _ _) _ | exact belowAlloc (by assumption) _ | exact belowAlloc (by apply belT <;> assumption) _ | exact belowAlloc (by apply belT; assumption; assumption) _ | (apply belT; assumption; exact belowAlloc (by assumption) _) | (apply belT; exact belowOver (by assumption); assumption) | (apply belT; assumption; exact belowOver (by assumption)) | exact belowOver (by assumption))) hsmzs st2 (c3 := nys) HNys.out (Rc5c.out _ (by first | exact Below.refl _ _ | assumption | (apply belT; assumption; assumption) | exact belowAlloc (Below.refl _ _) _ | exact belowAlloc (by assumption) _ | exact belowAlloc (by apply belT <;> assumption) _ | exact belowAlloc (by apply belT; assumption; assumption) _ | (apply belT; assumption; exact belowAlloc (by assumption) _) | (apply belT; exact belowOver (by assumption); assumption) | (apply belT; assumption; exact belowOver (by assumption)) | exact belowOver (by assumption))) hsmys).mono ?_
           rw [HSV.out, HL.out, HB.out]
           rintro e u5z ⟨Ah, Nh, ch, rfl, HNNh, hoh, hbc5z⟩
           have HBL := Bel.step (by assumption) hbc5z
           have SZu5z := (Bel.out HBL).size
           first | (have hbx := boxNew (b := w20.heap.size) rfl hbc5z; obtain ⟨_, _, _, _, _⟩ := hbx) | skip
           first | (have hbx := boxKept (b := w20.heap.size) (by assumption) (by assumption) (by assumption) (by assumption) (by assumption) hbc5z; obtain ⟨_, _, _, _, _⟩ := hbx) | skip
           first | (have hbx := boxNew (b := u5a.heap.size) rfl hbc5z; obtain ⟨_, _, _, _, _⟩ := hbx) | skip
           first | (have hbx := boxKept (b := u5a.heap.size) (by assumption) (by assumption) (by assumption) (by assumption) (by assumption) hbc5z; obtain ⟨_, _, _, _, _⟩ := hbx) | skip
           first | (have hbx := boxNew (b := u5b.heap.size) rfl hbc5z; obtain ⟨_, _, _, _, _⟩ := hbx) | skip
           first | (have hbx := boxKept (b := u5b.heap.size) (by assumption) (by assumption) (by assumption) (by assumption) (by assumption) hbc5z; obtain ⟨_, _, _, _, _⟩ := hbx) | skip
           first | (have hbx := boxNew (b := u5c.heap.size) rfl hbc5z; obtain ⟨_, _, _, _, _⟩ := hbx) | skip
           first | (have hbx := boxKept (b := u5c.heap.size) (by assumption) (by assumption) (by assumption) (by assumption) (by assumption) hbc5z; obtain ⟨_, _, _, _, _⟩ := hbx) | skip
           skip))
    all_goals
      go_split_ands
      have hbl : Bel w20 u5z := HBL
      clear ka0_0 ka0_1 ka1_0 ka1_1 ka2_0 ka2_1
      go_wp2_with fail
      go_meet
      first | exact ⟨Ah, Nh, ch, _, rfl, rfl, HNNh, Lib.hid ((Rd.ofOwn hoh).moved ((Below.refl _ _).alloc (Nat.le_refl _) _)), Lib.hid ⟨by simp [go_sem], by simp [go_sem], by simp⟩, Bel.of ((Bel.out hbl).alloc (Bel.out hbl).size _)⟩ | exact ⟨Ah, Nh, ch, _, rfl, rfl, HNNh, Lib.hid (Rd.ofOwn (ownsRow_setCell_below (ownsRow_setCell_below hoh (a := ⟨_, 0, none⟩) (by first | assumption | simp) _) (a := ⟨_, 1, none⟩) (by first | assumption | simp) _)), Lib.hid (boxSet (by assumption) (by assumption) (by assumption)), belSet hbl (by first | exact Nat.le_refl _ | assumption) _ _⟩
  case rest =>
  clear hbd hgw0 hgw1 hgw2 ka0_0 ka0_1 ka1_0 ka1_1 ka2_0 ka2_1
  revert hcut; generalize wc = wc5; intro hcut
  obtain ⟨Ah, Nh, ch, gbh, h0_, h1_, HNNh, HAh, HBXh, hbl⟩ := hcut
  subst h0_ h1_
  have hNh : Nh ≤ 1048576 := by have := HNNh.out; have := HLN.out; omega
  have HRRh : Hid (∀ V, Below wc5.heap.size wc5 V → Rd V V.heap.size Ah (L.map (Value.int .i64))) := Lib.hid fun V hV => HAh.out.moved hV
  have HKWh : Hid (∀ V, Below wc5.heap.size wc5 V → V.cell? ⟨gbh, 0, none⟩ = some (.int .i64 Sv) ∧ V.cell? ⟨gbh, 1, none⟩ = some (.slice Ah Nh ch) ∧ gbh < V.heap.size) := Lib.hid fun V hV => ⟨(hV.cell (p := ⟨gbh, 0, none⟩) HBXh.out.2.2).trans HBXh.out.1, (hV.cell (p := ⟨gbh, 1, none⟩) HBXh.out.2.2).trans HBXh.out.2.1, Nat.lt_of_lt_of_le HBXh.out.2.2 hV.size⟩
  have Ewc5_W := Lib.hid (B20_W.out.trans ((Bel.out hbl).mono B20_W.out.size))
  have Ewc5_wc1 := Lib.hid (B20_wc1.out.trans ((Bel.out hbl).mono B20_wc1.out.size))
  have Ewc5_w19 := Lib.hid (B20_w19.out.trans ((Bel.out hbl).mono B20_w19.out.size))
  clear hbl
  have Zwc5 := Lib.hid (Below.refl wc5.heap.size wc5)
  obtain rfl : Nh = Nx := HNNh.out.trans HNNx.out.symm
  obtain ⟨hx0, hx1, hx2⟩ := HKWh.out _ Zwc5.out
  obtain ⟨sx0, sx1, sx2⟩ := HKWs.out _ Ewc5_wc1.out
  go_wp2_with fail
  clear sx0 sx1 sx2 hx0 hx1 hx2
  refine (eqRtA Sv _ _ Nh _ _ L wc5 HNNh.out.symm hNh (HRRh.out _ Zwc5.out) (HRRs.out _ Ewc5_wc1.out)).mono ?_
  rintro e w21 ⟨rfl, hb21⟩
  have B21_W := Lib.hid (Ewc5_W.out.trans (hb21.mono Ewc5_W.out.size))
  have B21_wc1 := Lib.hid (Ewc5_wc1.out.trans (hb21.mono Ewc5_wc1.out.size))
  have B21_w19 := Lib.hid (Ewc5_w19.out.trans (hb21.mono Ewc5_w19.out.size))
  have B21_wc5 := Lib.hid (Zwc5.out.trans (hb21.mono Zwc5.out.size))
  have HLAST21 := Lib.hid hb21
  clear hb21
  have HMM := Lib.hid (ownB HM.out B21_w19.out)
  have HMMB := Lib.hid (ownB HMB.out B21_w19.out)
  have gx0 := HMMB.out.cellAt 0 (by omega)
  have gx1 := HMMB.out.cellAt 1 (by omega)
  simp only [List.getElem?_cons_zero, List.getElem?_cons_succ] at gx0 gx1
  go_wp2_with fail
  clear gx0 gx1
  refine (heldRtA Sv Ax Nh cx w21 (Rd.ofOwn HMM.out) hNh).mono ?_
  rintro e w22 ⟨rfl, hb22⟩
  have B22_W := Lib.hid (B21_W.out.trans (hb22.mono B21_W.out.size))
  have B22_wc1 := Lib.hid (B21_wc1.out.trans (hb22.mono B21_wc1.out.size))
  have B22_w19 := Lib.hid (B21_w19.out.trans (hb22.mono B21_w19.out.size))
  have B22_wc5 := Lib.hid (B21_wc5.out.trans (hb22.mono B21_wc5.out.size))
  have HLAST22 := Lib.hid hb22
  clear hb22
  go_wp2
  go_ret
  exact ⟨rfl, HBW.out.trans (B22_W.out.mono HBW.out.size)⟩


theorem own : ownKnob Try.prog.godebug = none := by kernel_rfl
theorem laidOut : laidOutB Try.prog = true := by kernel_rfl
set_option maxRecDepth 100000 in
theorem lifted (os : Os) (started : os.Started) (H : Type) (enc : TypeId × Value → H) :
    ReturnsInHanded {} Try.checked os 3 .any (Rows.fnExactJoinRoutesSpec.pre6 enc Try.prog Try.f3 Rows.fnExactJoinRoutesRow.domain false) (Rows.fnExactJoinRoutesSpec.post enc Try.prog Try.f3 false true false false) := by
  refine returnsInHanded_of_change_sized (C := Try.checked) own started (by kernel_rfl) Try.func3
    (ChangeSpec.witness6 (enc := enc) (C := Try.checked) false ⟨#[], #[.agg #[.slice none 0 0, .slice none 0 0], .agg #[.int .i64 0, .slice none 0 0], .agg #[.int .i64 0, .slice none 0 0]], []⟩ 8 (by kernel_rfl) (by kernel_rfl) (by kernel_rfl) (by kernel_rfl)) ?_
  intro W base args ds gs before hval0 hW _ hsz0 _
  clear hsz0
  have hval : ∀ (j : Nat) t v, Try.f3.params[j]? = some t → args[j]? = some v → Value.okWide Try.prog W .any base t v := hval0
  have hW' := hW
  obtain ⟨p, q, hA0, hV, rfl, _, _⟩ := hW
  have hA : DataW.TrodAll enc Try.prog W 0 (fun _ => true) true Try.f3.params.toList args.toList ds p := hA0
  rw [Try.params3] at hA hval
  obtain ⟨v0, vs0, d0, ds0, p0, q0, hargs, rfl, rfl, h0, r0⟩ := trodAll_cons hA
  obtain ⟨v1, vs1, d1, ds1, p1, q1, rfl, rfl, rfl, h1, r1⟩ := trodAll_cons r0
  obtain ⟨v2, vs2, d2, ds2, p2, q2, rfl, rfl, rfl, h2, r2⟩ := trodAll_cons r1
  obtain ⟨rfl, rfl, rfl⟩ := trodAll_nil r2
  obtain rfl : args = #[v0, v1, v2] := by cases args; simp_all
  obtain ⟨rfl, rfl⟩ := trodVars_none hV
  simp only [List.append_nil] at hW'
  have hlt0 : ∀ x ∈ p0, x.block < W.heap.size := fun x hx => by simpa using hW'.lt x (by simp [hx])
  have hlt1 : ∀ x ∈ p1, x.block < W.heap.size := fun x hx => by simpa using hW'.lt x (by simp [hx])
  have hlt2 : ∀ x ∈ p2, x.block < W.heap.size := fun x hx => by simpa using hW'.lt x (by simp [hx])
  have fin : ∀ W' : World, Below W.heap.size W W' → Rows.fnExactJoinRoutesSpec.post enc Try.checked.prog Try.f3 false true false false W #[v0, v1, v2] (.bool true) W' := by
    intro W' hb
    refine ⟨_, _, _, [] ++ [], (p0 ++ (p1 ++ (p2 ++ []))), [], hW', ?_, ?_, rfl, hb.frame _, fun h => by cases h⟩
    · exact trodAll_mk1 (shut_bool Try.underlying4 true)
    · exact trodAll_cons_mk (Below.trod laidOut (by kernel_rfl) (of_decide_eq_true (by kernel_rfl)) h0 hb hlt0) (trodAll_cons_mk (Below.trod laidOut (by kernel_rfl) (of_decide_eq_true (by kernel_rfl)) h1 hb hlt1) (trodAll_cons_mk (Below.trod laidOut (by kernel_rfl) (of_decide_eq_true (by kernel_rfl)) h2 hb hlt2) (trodAll_mk0)))
  clear hW' hV hA0
  obtain ⟨A0, n0, c0, s0, B0, m0, k0, z0, rfl, ⟨ha0, hb0, hc0, hd0⟩, ⟨he0, hf0, hg0, hh0⟩⟩ := open_net Try.underlying25 (by kernel_rfl) (by kernel_rfl) Try.underlying22 Try.underlying9 (by kernel_rfl) Try.underlying23 Try.underlying55 (by kernel_rfl) (by kernel_rfl) rfl (hint_of Try.underlying3 (by decide +kernel)) (hval 0 25 v0 rfl rfl) h0
  obtain ⟨t1, A1, n1, c1, z1, rfl, ht1, ha1, hb1, hc1, hd1⟩ := open_rt Try.underlying28 (by kernel_rfl) (by kernel_rfl) Try.underlying3 Try.underlying26 Try.underlying3 (by kernel_rfl) (hval 1 28 v1 rfl rfl) h1
  obtain ⟨t2, A2, n2, c2, z2, rfl, ht2, ha2, hb2, hc2, hd2⟩ := open_rt Try.underlying28 (by kernel_rfl) (by kernel_rfl) Try.underlying3 Try.underlying26 Try.underlying3 (by kernel_rfl) (hval 2 28 v2 rfl rfl) h2
  exact (walk A0 n0 c0 s0 B0 m0 k0 z0 t1 A1 n1 c1 z1 t2 A2 n2 c2 z2 W ha0 hb0 hc0 hd0 he0 hf0 hg0 hh0 ht1 ha1 hb1 hc1 hd1 ht2 ha2 hb2 hc2 hd2).mono fun e W' ⟨he, hb⟩ => ⟨_, he, fin W' hb⟩

theorem closed : joinedFacts Try.prog 3 Try.f3 Rows.fnExactJoinRoutesSpec Rows.fnExactJoinRoutesRow = true := by
  unfold joinedFacts
  rw [jn_mk, jn_li, jn_en]
  kernel_rfl
theorem over : Rows.fnExactJoinRoutesRow.holds Try.pinned (OpenSpec.ofChange Rows.fnExactJoinRoutesSpec) :=
  OpenClaim.holds_of_wide 3 Try.f3 rfl rfl rfl rfl rfl rfl rfl ⟨rfl, rfl, rfl, rfl, rfl⟩ rfl rfl rfl rfl rfl (by kernel_rfl) Try.func3 closed
    (of_decide_eq_true (by kernel_rfl)) (by unfold Func.isWrapper; first | (rw [if_pos (by decide +kernel)]; kernel_rfl) | (rw [if_neg (by decide +kernel)]; exact ⟨rfl, rfl⟩))
    (fun os started H enc _ => lifted os started H enc)

/-- THE STATEMENT -/
theorem proved : Rows.FnExactJoinRoutesSaid :=
  over
end Go.Proofs.Ytflniajjecfgeaa.fnExactJoinRoutes
