/- Proved: at every argument impl.FewestUnits answers as spec.FewestUnits does and leaves its arguments alone (the law FnExactFewestUnits returns true). The table of math/bits as Go's text lays it. -/
import Derived.Test.YtlgkjidginibdaaDoorRows
import Derived.Test.YtlgkjidginibdaaDoorCards
import Derived.Test.YtlgkjidginibdaaDoorTie
import Derived.Test.YtlgkjidginibdaaDoorJn
import Derived.JoinedOf
import Derived.Test.YtlgkjidginibdaaDoorGC
import Derived.Test.YtlgkjidginibdaaDoorGB
import Derived.Test.YtlgkjidginibdaaDoorFuJ
import Derived.WalkKit
import Derived.ProofKit
import Derived.OpenShut
import Derived.ShutString
import Derived.SizedLaws
import Derived.Carry
import Derived.LaidMore
import Derived.LaidHandle
import Derived.MakeChecks
import Derived.Stop.Joined
import Derived.SevenTiedAt
import Derived.SliceStrings
import Derived.DataBytes
import Derived.OpenVars
import Derived.ChangeVars
namespace Go.Proofs.YtlgkjidginibdaaDoor.fnExactFewestUnits
open Go.ChangeShapes Go.WideShapes Go.ChangeAt Go.RowKit
open Go.ChangeMaps (open_string shut_string)

set_option maxRecDepth 100000 in
set_option maxHeartbeats 8000000 in
theorem walk (Ars : Option Addr) (nrs crs : Nat) (rs : List Int) (x : Int) (w : World) (hnrs : rs.length = nrs) (_hmrs : nrs ≤ maxLen) (hrrs : Rd w w.heap.size Ars (rs.map (Value.int .i64))) (_hwfrs : ∀ z ∈ rs, (Lit.int .i64 z).wf = true) (_w1 : (Lit.int .i64 x).wf = true) (hpow : Tab w) :
    Calls Tryd.prog 5 #[.slice Ars nrs crs, .int .i64 x] w fun e w' => e = .returned (.bool true) ∧ Below w.heap.size w w' := by
  have HNrs := Lib.hid hnrs; clear hnrs _hwfrs _hmrs
  clear _w1
  obtain ⟨r1, hr1e⟩ : ∃ r, fuV x rs = r := ⟨_, rfl⟩
  obtain ⟨r2, hr2e⟩ : ∃ r, pb (ratesT x rs) = r := ⟨_, rfl⟩
  have HRV : Hid (fuR x rs = .tuple #[.int .i64 r1, .bool r2]) := Lib.hid (by unfold fuR; rw [hr1e, hr2e])
  clear hr1e hr2e
  by_cases hsmrs : nrs ≤ 1048576
  case neg =>
    have qrs : 1048576 < (nrs : Int) := by omega
    clear hsmrs
    go_enter Tryd.func5, Tryd.ntmps5
    go_wp2
    go_ret
    exact ⟨rfl, (Below.refl w.heap.size w)⟩
  case pos =>
  go_enter Tryd.func5, Tryd.ntmps5
  go_wp2_with fail
  obtain ⟨W, hW⟩ : ∃ W, w = W := ⟨_, rfl⟩
  have hz : True := trivial
  have hbw : Below w.heap.size w W := by rw [← hW]; exact (Below.refl w.heap.size w)
  have HBW := Lib.hid hbw
  have HTAB : Hid (∀ V, Below W.heap.size W V → Tab V) := Lib.hid fun V hV => (hpow.over hbw).over hV
  clear hpow
  rw [hW]
  clear hW
  have HRrs : Hid (∀ V, Below W.heap.size W V → Rd V V.heap.size Ars (rs.map (Value.int .i64))) := Lib.hid fun V hV => (hrrs.moved hbw).moved hV
  clear hrrs
  have HZ := Lib.hid hz
  clear hz hbw
  have B0 := Lib.hid (Below.refl W.heap.size W)
  go_wp2_with fail
  refine (toIntS Ars nrs crs rs W HNrs.out (HRrs.out _ B0.out) hsmrs).mono ?_
  rintro e w1 ⟨s0, hgs0, rfl, hos0, hb1⟩
  have B1_W := Lib.hid (B0.out.trans (hb1.mono B0.out.size))
  have HLAST1 := Lib.hid hb1
  clear hb1
  have Os0 := Lib.hid hos0
  have Rs0 : Hid (∀ V, Below w1.heap.size w1 V → Rd V V.heap.size (some ⟨s0, 0, none⟩) (rs.map (Value.int .i64))) := Lib.hid fun V hV => (Rd.ofOwnK hos0).moved hV
  clear hos0
  have Zw1 := Lib.hid (Below.refl w1.heap.size w1)
  go_wp2_with fail
  refine (specFU x (c := nrs) HNrs.out (Rs0.out _ Zw1.out) hsmrs).mono ?_
  rw [HRV.out]
  rintro e w2 ⟨rfl, hb2⟩
  have B2_W := Lib.hid (B1_W.out.trans (hb2.mono B1_W.out.size))
  have B2_w1 := Lib.hid (Zw1.out.trans (hb2.mono Zw1.out.size))
  have HLAST2 := Lib.hid hb2
  clear hb2
  go_wp2_with fail
  have ZPRE0 := Lib.hid (Nat.le_refl 0)
  refine (toIntS Ars nrs crs rs w2 HNrs.out (HRrs.out _ B2_W.out) hsmrs).mono ?_
  rintro e w3 ⟨x0, hgx0, rfl, hox0, hb3⟩
  have B3_W := Lib.hid (B2_W.out.trans (hb3.mono B2_W.out.size))
  have HLAST3 := Lib.hid hb3
  clear hb3
  have Ox0 := Lib.hid hox0
  have Rx0 : Hid (∀ V, Below w3.heap.size w3 V → Rd V V.heap.size (some ⟨x0, 0, none⟩) (rs.map (Value.int .i64))) := Lib.hid fun V hV => (Rd.ofOwnK hox0).moved hV
  clear hox0
  have Zw3 := Lib.hid (Below.refl w3.heap.size w3)
  go_wp2_with fail
  refine (implFU x (c := nrs) HNrs.out (Rx0.out _ Zw3.out) hsmrs (HTAB.out _ B3_W.out)).mono ?_
  rw [HRV.out]
  rintro e w4 ⟨rfl, hb4⟩
  have B4_W := Lib.hid (B3_W.out.trans (hb4.mono B3_W.out.size))
  have B4_w3 := Lib.hid (Zw3.out.trans (hb4.mono Zw3.out.size))
  have HLAST4 := Lib.hid hb4
  clear hb4
  go_wp2_with fail
  refine (toIntS Ars nrs crs rs w4 HNrs.out (HRrs.out _ B4_W.out) hsmrs).mono ?_
  rintro e w6 ⟨y5, hgy5, rfl, hoy5, hb6⟩
  have B6_W := Lib.hid (B4_W.out.trans (hb6.mono B4_W.out.size))
  have B6_w3 := Lib.hid (B4_w3.out.trans (hb6.mono B4_w3.out.size))
  have HLAST6 := Lib.hid hb6
  clear hb6
  have Sy5 := Lib.hid (Rd.ofOwnK hoy5)
  clear hoy5 hgy5
  go_wp2_with fail
  refine (eqIntS x0 y5 nrs nrs nrs rs w6 HNrs.out (Rx0.out _ B6_w3.out) (Sy5.out) hsmrs).mono ?_
  rintro e w7 ⟨rfl, hb7⟩
  have B7_W := Lib.hid (B6_W.out.trans (hb7.mono B6_W.out.size))
  have B7_w3 := Lib.hid (B6_w3.out.trans (hb7.mono B6_w3.out.size))
  have HLAST7 := Lib.hid hb7
  clear hb7
  go_wp2
  go_ret
  exact ⟨rfl, HBW.out.trans (B7_W.out.mono HBW.out.size)⟩


theorem own : ownKnob Tryd.prog.godebug = none := by kernel_rfl
theorem laidOut : laidOutB Tryd.prog = true := by kernel_rfl

theorem tTab : (Tryd.prog.globals[1]?).map (·.type) = some 149 := by kernel_rfl
theorem cTab : Tryd.prog.cellsOf 149 = 64 := by kernel_rfl
theorem cU8 : Tryd.prog.cellsOf 5 = 1 := by kernel_rfl
theorem pow_of_laid {W : World} (h : laidMetH Tryd.prog Rows.fnExactFewestUnitsRow.laid W) : Tab W := by
  have h3 : laidMetH Tryd.prog (Rows.fnExactFewestUnitsRow.laid.filter fun x => x.1 == "math/bits.deBruijn64tab") W := h.filter _
  have e : (Rows.fnExactFewestUnitsRow.laid.filter fun x => x.1 == "math/bits.deBruijn64tab") = [("math/bits.deBruijn64tab", Lib.tabData .u8 tzTab)] := by kernel_rfl
  rw [e, MakeChecks.laidMetH_plain _ _ _ (by kernel_rfl)] at h3
  exact Lib.tabIs_of_head tabAt tTab Tryd.underlying149 Tryd.underlying5 cU8 cTab h3

theorem door_met (os : Os) (args : Array Value) : laidMetH Tryd.prog Rows.fnExactFewestUnitsRow.laid ((World.doorLaid Tryd.prog 19 os).forCall (fun _ _ => 0) ⟨#[], args, []⟩).memory :=
  laidMetH_of_parts3 (fuel := 8) (laidMet_of_run' 8 (by kernel_rfl) (by kernel_rfl)) (by kernel_rfl) (by kernel_rfl)

set_option maxRecDepth 100000 in
theorem lifted (os : Os) (started : os.Started) (H : Type) (enc : TypeId × Value → H) :
    ReturnsInHanded {} Tryd.checked os 5 .any (fun w args => (Rows.fnExactFewestUnitsSpec.pre enc Tryd.prog Tryd.f5 [] false w args ∧ laidMetH Tryd.prog Rows.fnExactFewestUnitsRow.laid w) ∧ sizedMet enc Tryd.prog Tryd.f5 (OpenSpec.ofChange Rows.fnExactFewestUnitsSpec) false w args)
      (Rows.fnExactFewestUnitsSpec.post enc Tryd.prog Tryd.f5 false true false false) := by
  refine returnsInHanded_of_change_and (C := Tryd.checked) (X := fun w _ => laidMetH Tryd.prog Rows.fnExactFewestUnitsRow.laid w) (fun _ _ _ hh h => h.of_heap hh) own started (by kernel_rfl) Tryd.func5
    (ChangeSpec.witness_shaped (enc := enc) (C := Tryd.checked) (os := os) (X := fun w _ => laidMetH Tryd.prog Rows.fnExactFewestUnitsRow.laid w) false (World.doorLaid Tryd.prog 19 os) #[.slice none 0 0, .int .i64 0] 8 rfl (World.shaped_of_RefB (by kernel_rfl) (by kernel_rfl)) (by kernel_rfl) (by kernel_rfl) (by kernel_rfl) (door_met os _)) ?_
  intro W base args ds gs before hval0 hW _ hsz0 hL _
  have hval : ∀ (j : Nat) t v, Tryd.f5.params[j]? = some t → args[j]? = some v → Value.okWide Tryd.prog W .any base t v := hval0
  have hsz : (DataW.weightsEach Tryd.prog (Tryd.f5.params.toList ++ Rows.fnExactFewestUnitsSpec.plain.varTypes Tryd.prog) (ds ++ gs)).all (· ≤ reachBytes) = true := hsz0
  have hpow := pow_of_laid hL
  have hW' := hW
  obtain ⟨p, q, hA0, hV, rfl, hfz, hnd⟩ := hW
  have hA : DataW.TrodAll enc Tryd.prog W 0 (fun _ => true) true Tryd.f5.params.toList args.toList ds p := hA0
  rw [Tryd.params5] at hA hval hsz
  obtain ⟨v0, vs0, d0, ds0, p0, q0, hargs, rfl, rfl, h0, r0⟩ := trodAll_cons hA
  obtain ⟨v1, vs1, d1, ds1, p1, q1, rfl, rfl, rfl, h1, r1⟩ := trodAll_cons r0
  obtain ⟨rfl, rfl, rfl⟩ := trodAll_nil r1
  obtain rfl : args = #[v0, v1] := by cases args; simp_all
  obtain ⟨rfl, rfl⟩ := trodVars_none hV
  simp only [List.append_nil] at hW'
  have hlt0 : ∀ x ∈ p0, x.block < W.heap.size := fun x hx => by simpa using hW'.lt x (by simp [hx])
  have hlt1 : ∀ x ∈ p1, x.block < W.heap.size := fun x hx => by simpa using hW'.lt x (by simp [hx])
  have fin : ∀ W' : World, Below W.heap.size W W' → Rows.fnExactFewestUnitsSpec.post enc Tryd.checked.prog Tryd.f5 false true false false W #[v0, v1] (.bool true) W' := by
    intro W' hb
    refine ⟨_, _, _, [] ++ [], (p0 ++ (p1 ++ [])), [], hW', ?_, ?_, rfl, hb.frame _, fun h => by cases h⟩
    · exact trodAll_mk1 (shut_bool Tryd.underlying4 true)
    · exact trodAll_cons_mk (Below.trod laidOut (by kernel_rfl) (of_decide_eq_true (by kernel_rfl)) h0 hb hlt0) (trodAll_cons_mk (Below.trod laidOut (by kernel_rfl) (of_decide_eq_true (by kernel_rfl)) h1 hb hlt1) (trodAll_mk0))
  clear hW' hV hA0
  obtain ⟨b0, len0, cap0, rfl⟩ := okWide_slice Tryd.underlying29 (hval 0 29 v0 rfl rfl)
  obtain ⟨fuel0, hf0⟩ := h0
  obtain ⟨A0, n0, c0, z0, e0, ha0, hb0, hc0, hd0⟩ := rd_ints Tryd.underlying29 Tryd.underlying3 (by kernel_rfl) hf0
  simp only [Value.cells, List.cons.injEq, Value.slice.injEq, and_true] at e0
  obtain ⟨rfl, rfl, rfl⟩ := e0
  obtain ⟨a1, rfl, _, _, w1⟩ := open_int Tryd.underlying3 (hval 1 3 v1 rfl rfl) h1
  exact (walk b0 len0 cap0 z0 a1 W ha0 hb0 hc0 hd0 w1 hpow).mono fun e W' ⟨he, hb⟩ => ⟨_, he, fin W' hb⟩

theorem closed : joinedFacts Tryd.prog 5 Tryd.f5 Rows.fnExactFewestUnitsSpec Rows.fnExactFewestUnitsRow = true := by
  unfold joinedFacts
  rw [jn_mk, jn_li, jn_en]
  kernel_rfl
theorem over : Rows.fnExactFewestUnitsRow.holds Tryd.pinned (OpenSpec.ofChange Rows.fnExactFewestUnitsSpec) :=
  OpenClaim.holds_of_wide 5 Tryd.f5 rfl rfl rfl rfl rfl rfl rfl ⟨rfl, rfl, rfl, rfl, rfl⟩ rfl rfl rfl rfl rfl (by kernel_rfl) Tryd.func5 closed
    (of_decide_eq_true (by kernel_rfl)) (by unfold Func.isWrapper; first | (rw [if_pos (by decide +kernel)]; kernel_rfl) | (rw [if_neg (by decide +kernel)]; exact ⟨rfl, rfl⟩))
    (fun os started H enc _ => lifted os started H enc)

/-- THE STATEMENT -/
theorem proved : Rows.FnExactFewestUnitsCardSaid :=
  Claim7.holds_tied_plain_at .later [] [.data, .data] true (true, "b7d65082545e8e3cac7370942148a438eb1da38865f1aa27ba379da9eb509816") false
    over (fun _ h => by cases h) (by kernel_rfl) (fun _ h => by cases h) fnExactFewestUnits_row_tie rfl ⟨rfl, rfl⟩ jn_main rfl
    (fun f fn hf hfn => by
      obtain rfl : f = 5 := Option.some.inj ((show Tryd.prog.funcNamed "loop.example/g00897/laws.FnExactFewestUnits" = some 5 by kernel_rfl).symm.trans hf) |>.symm
      obtain rfl : fn = Tryd.f5 := (Option.some.inj (Tryd.func5.symm.trans hfn)).symm
      exact ⟨by kernel_rfl, fun j t ht => by
        rw [Tryd.params5] at ht
        have hm : t ∈ [29, 3] := by simpa using Array.mem_of_getElem? ht
        have hall : ([29, 3].all fun u => !Tryd.prog.wantsStandIn u) = true := by kernel_rfl
        exact (show Tryd.prog.wantsStandIn t = false by simpa using List.all_eq_true.1 hall t hm)⟩)
    (by kernel_rfl)
end Go.Proofs.YtlgkjidginibdaaDoor.fnExactFewestUnits
