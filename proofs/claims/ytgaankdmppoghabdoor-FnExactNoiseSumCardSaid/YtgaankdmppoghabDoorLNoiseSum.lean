/- Proved: at every argument impl.NoiseSum answers as spec.NoiseSum does and leaves its arguments alone (the law FnExactNoiseSum returns true). The table of linear values as Go's text lays it. -/
import Derived.Test.YtgaankdmppoghabDoorRows
import Derived.Test.YtgaankdmppoghabDoorCards
import Derived.Test.YtgaankdmppoghabDoorTie
import Derived.Test.YtgaankdmppoghabDoorNoi
import Derived.WalkKit
import Derived.ProofKit
import Derived.OpenShut
import Derived.ShutString
import Derived.SizedLaws
import Derived.Carry
import Derived.LaidMore
import Derived.LaidHandle
import Derived.MakeChecks
import Derived.Stop.Joined
import Derived.SevenTiedAt
import Derived.SliceStrings
import Derived.DataBytes
import Derived.OpenVars
import Derived.ChangeVars
namespace Go.Proofs.YtgaankdmppoghabDoor.fnExactNoiseSum
open Go.ChangeShapes Go.WideShapes Go.ChangeAt Go.RowKit
open Go.ChangeMaps (open_string shut_string)

set_option maxRecDepth 100000 in
set_option maxHeartbeats 8000000 in
theorem walk (A0 : Option Addr) (n0 c0 : Nat) (am : List Q4) (w : World) (hn0 : am.length = n0) (hm0 : n0 ≤ maxLen) (hr0 : Rd w w.heap.size A0 (am.flatMap Q4.cells)) (hwf0 : ∀ q ∈ am, q.wf) (hp : LinT w) :
    Calls Tryd.prog 5 #[.slice A0 n0 c0] w fun e w' => e = .returned (.bool true) ∧ Below w.heap.size w w' := by
  have HTAB := Lib.hid hp; clear hp
  unfold maxLen at hm0
  have HWF0 := Lib.hid hwf0; clear hwf0
  have HN0 := Lib.hid hn0; clear hn0
  have HR0 := Lib.hid hr0; clear hr0
  obtain ⟨r0_, hr0_⟩ : ∃ r, noiI am = r := ⟨_, rfl⟩
  have HE0 := Lib.hid hr0_; clear hr0_
  obtain ⟨r1_, hr1_⟩ : ∃ r, noiB am = r := ⟨_, rfl⟩
  have HE1 := Lib.hid hr1_; clear hr1_
  go_enter Tryd.func5, Tryd.ntmps5
  go_wp2_with fail
  refine (szAmS A0 n0 c0 1048576 w (by unfold maxLen; omega) (by omega) (by omega)).mono ?_
  rintro e w' ⟨v0, rfl, rfl, hv00, hv10, hv20⟩
  by_cases hneg0 : v0 < 0
  · go_wp2
    go_ret
    exact ⟨rfl, Below.refl _ _⟩
  have hp0 : 0 ≤ v0 := by omega
  have hsm0 : n0 ≤ 1048576 := by have := hv20 hp0; omega
  clear hneg0 hv20
  clear hm0
  have hB0 := Lib.hid (Below.refl w.heap.size w)
  go_wp2_with fail
  refine (toAmS A0 n0 c0 am w HN0.out (HR0.out.moved hB0.out) hsm0).mono ?_
  rintro e w1 ⟨rfl, hos0, hb1⟩
  have hB1 := Lib.hid (hB0.out.trans (hb1.mono hB0.out.size))
  have Z1_ : Hid (w.heap.size ≤ w1.heap.size) := Lib.hid hb1.size
  have M2_ := Lib.hid (Rd.ofOwnK hos0)
  clear hos0
  clear hb1
  go_wp2_with fail
  refine (sNoi _ n0 n0 am w1 HN0.out hsm0 M2_.out).mono ?_
  rw [HE0.out, HE1.out]
  rintro e w2 ⟨rfl, hb2⟩
  have hB2 := Lib.hid (hB1.out.trans (hb2.mono hB1.out.size))
  have Z3_ : Hid (w1.heap.size ≤ w2.heap.size) := Lib.hid hb2.size
  have M4_ := Lib.hid (M2_.out.moved hb2)
  clear M2_
  clear hb2
  go_wp2_with fail
  refine (toAmS A0 n0 c0 am w2 HN0.out (HR0.out.moved hB2.out) hsm0).mono ?_
  rintro e w3 ⟨rfl, hox0, hb3⟩
  have hB3 := Lib.hid (hB2.out.trans (hb3.mono hB2.out.size))
  have Z5_ : Hid (w2.heap.size ≤ w3.heap.size) := Lib.hid hb3.size
  have M6_ := Lib.hid (Rd.ofOwnK hox0)
  clear hox0
  clear hb3
  go_wp2_with fail
  refine (iNoi _ n0 n0 am w3 (HTAB.out.over hB3.out) HN0.out hsm0 M6_.out).mono ?_
  rw [HE0.out, HE1.out]
  rintro e w4 ⟨rfl, hb4⟩
  have hB4 := Lib.hid (hB3.out.trans (hb4.mono hB3.out.size))
  have Z7_ : Hid (w3.heap.size ≤ w4.heap.size) := Lib.hid hb4.size
  have M8_ := Lib.hid (M6_.out.moved hb4)
  clear M6_
  clear hb4
  go_wp2_with fail
  refine (toAmS A0 n0 c0 am w4 HN0.out (HR0.out.moved hB4.out) hsm0).mono ?_
  rintro e w5 ⟨rfl, hoe0, hb5⟩
  have hB5 := Lib.hid (hB4.out.trans (hb5.mono hB4.out.size))
  have Z9_ : Hid (w4.heap.size ≤ w5.heap.size) := Lib.hid hb5.size
  have M10_ := Lib.hid (M8_.out.moved hb5)
  clear M8_
  have M11_ := Lib.hid (Rd.ofOwnK hoe0)
  clear hoe0
  clear hb5
  go_wp2_with fail
  refine (eqAmS _ _ n0 n0 n0 am w5 HN0.out M10_.out M11_.out hsm0).mono ?_
  rintro e w6 ⟨rfl, hb6⟩
  have hB6 := Lib.hid (hB5.out.trans (hb6.mono hB5.out.size))
  have Z12_ : Hid (w5.heap.size ≤ w6.heap.size) := Lib.hid hb6.size
  have M13_ := Lib.hid (M10_.out.moved hb6)
  clear M10_
  have M14_ := Lib.hid (M11_.out.moved hb6)
  clear M11_
  clear hb6
  go_wp2
  go_ret
  exact ⟨rfl, hB6.out⟩


theorem own : ownKnob Tryd.prog.godebug = none := by kernel_rfl
theorem laidOut : laidOutB Tryd.prog = true := by kernel_rfl

theorem tLin : (Tryd.prog.globals[0]?).map (·.type) = some 46 := by kernel_rfl
theorem cLin : Tryd.prog.cellsOf 46 = 10 := by kernel_rfl
theorem cI64 : Tryd.prog.cellsOf 3 = 1 := by kernel_rfl
theorem pow_of_laid {W : World} (h : laidMetH Tryd.prog Rows.fnExactNoiseSumRow.laid W) : LinT W := by
  have h3 : laidMetH Tryd.prog (Rows.fnExactNoiseSumRow.laid.filter fun x => x.1 == "loop.example/g00897/impl.linearValues") W := h.filter _
  have e : (Rows.fnExactNoiseSumRow.laid.filter fun x => x.1 == "loop.example/g00897/impl.linearValues") = [("loop.example/g00897/impl.linearValues", Lib.tabData .i64 tabL)] := by kernel_rfl
  rw [e, MakeChecks.laidMetH_plain _ _ _ (by kernel_rfl)] at h3
  exact Lib.tabIs_of_head linAt tLin Tryd.underlying46 Tryd.underlying3 cI64 cLin h3

theorem door_met (os : Os) (args : Array Value) : laidMetH Tryd.prog Rows.fnExactNoiseSumRow.laid ((World.doorLaid Tryd.prog 33 os).forCall (fun _ _ => 0) ⟨#[], args, []⟩).memory :=
  laidMetH_of_parts3 (fuel := 8) (laidMet_of_run' 8 (by kernel_rfl) (by kernel_rfl)) (by kernel_rfl) (by kernel_rfl)

set_option maxRecDepth 100000 in
theorem lifted (os : Os) (started : os.Started) (H : Type) (enc : TypeId × Value → H) :
    ReturnsInHanded {} Tryd.checked os 5 .any (fun w args => (Rows.fnExactNoiseSumSpec.pre enc Tryd.prog Tryd.f5 [] false w args ∧ laidMetH Tryd.prog Rows.fnExactNoiseSumRow.laid w) ∧ sizedMet enc Tryd.prog Tryd.f5 (OpenSpec.ofChange Rows.fnExactNoiseSumSpec) false w args)
      (Rows.fnExactNoiseSumSpec.post enc Tryd.prog Tryd.f5 false true false false) := by
  refine returnsInHanded_of_change_and (C := Tryd.checked) (X := fun w _ => laidMetH Tryd.prog Rows.fnExactNoiseSumRow.laid w) (fun _ _ _ hh h => h.of_heap hh) own started (by kernel_rfl) Tryd.func5
    (ChangeSpec.witness_shaped (enc := enc) (C := Tryd.checked) (os := os) (X := fun w _ => laidMetH Tryd.prog Rows.fnExactNoiseSumRow.laid w) false (World.doorLaid Tryd.prog 33 os) #[.slice none 0 0] 8 rfl (World.shaped_of_RefB (by kernel_rfl) (by kernel_rfl)) (by kernel_rfl) (by kernel_rfl) (by kernel_rfl) (door_met os _)) ?_
  intro W base args ds gs before hval0 hW _ hsz0 hL _
  have hval : ∀ (j : Nat) t v, Tryd.f5.params[j]? = some t → args[j]? = some v → Value.okWide Tryd.prog W .any base t v := hval0
  have hsz : (DataW.weightsEach Tryd.prog (Tryd.f5.params.toList ++ Rows.fnExactNoiseSumSpec.plain.varTypes Tryd.prog) (ds ++ gs)).all (· ≤ reachBytes) = true := hsz0
  have hpow := pow_of_laid hL
  have hW' := hW
  obtain ⟨p, q, hA0, hV, rfl, hfz, hnd⟩ := hW
  have hA : DataW.TrodAll enc Tryd.prog W 0 (fun _ => true) true Tryd.f5.params.toList args.toList ds p := hA0
  rw [Tryd.params5] at hA hval hsz
  obtain ⟨v0, vs0, d0, ds0, p0, q0, hargs, rfl, rfl, h0, r0⟩ := trodAll_cons hA
  obtain ⟨rfl, rfl, rfl⟩ := trodAll_nil r0
  obtain rfl : args = #[v0] := by cases args; simp_all
  have hV2 := hV
  obtain ⟨gv, tv, cv, fv, dv, pv, rfl, _, _, _, _, rfl⟩ := trodVars_one hV
  simp only [List.append_nil] at hW'
  have hlt0 : ∀ x ∈ p0, x.block < W.heap.size := fun x hx => by simpa using hW'.lt x (by simp [hx])
  have fin : ∀ W' : World, Below W.heap.size W W' → Rows.fnExactNoiseSumSpec.post enc Tryd.checked.prog Tryd.f5 false true false false W #[v0] (.bool true) W' := by
    intro W' hb
    refine ⟨_, _, _, [] ++ [], (p0 ++ []), _, hW', ?_, ?_, hb.trodVars laidOut (by kernel_rfl) hV2, hb.frame _, fun h => by cases h⟩
    · exact trodAll_mk1 (shut_bool Tryd.underlying4 true)
    · exact trodAll_cons_mk (Below.trod laidOut (by kernel_rfl) (of_decide_eq_true (by kernel_rfl)) h0 hb hlt0) (trodAll_mk0)
  clear hW' hV hA0
  obtain ⟨b0, len0, cap0, rfl⟩ := okWide_slice Tryd.underlying25 (hval 0 25 v0 rfl rfl)
  obtain ⟨fuel0, hf0⟩ := h0
  obtain ⟨A0, n0, c0, z0, e0, ha0, hb0, hc0, hd0⟩ := rd_q4s Tryd.underlying25 Tryd.underlying52 (by kernel_rfl) (by kernel_rfl) rfl (hint_of Tryd.underlying3 (by decide +kernel)) hf0
  simp only [Value.cells, List.cons.injEq, Value.slice.injEq, and_true] at e0
  obtain ⟨rfl, rfl, rfl⟩ := e0
  exact (walk b0 len0 cap0 z0 W ha0 hb0 hc0 hd0 hpow).mono fun e W' ⟨he, hb⟩ => ⟨_, he, fin W' hb⟩

theorem over : Rows.fnExactNoiseSumRow.holds Tryd.pinned (OpenSpec.ofChange Rows.fnExactNoiseSumSpec) :=
  OpenClaim.holds_of_wide 5 Tryd.f5 rfl rfl rfl rfl rfl rfl rfl ⟨rfl, rfl, rfl, rfl, rfl⟩ rfl rfl rfl rfl rfl (by kernel_rfl) Tryd.func5 (by kernel_rfl)
    (of_decide_eq_true (by kernel_rfl)) (by unfold Func.isWrapper; first | (rw [if_pos (by decide +kernel)]; kernel_rfl) | (rw [if_neg (by decide +kernel)]; exact ⟨rfl, rfl⟩))
    (fun os started H enc _ => lifted os started H enc)

/-- THE STATEMENT -/
theorem proved : Rows.FnExactNoiseSumCardSaid :=
  Claim7.holds_tied_plain_at .later [] [.data] true (true, "8b2fe88fc3eef6b166ff25f5f80d5d0f2eeaeca80c66acca911cacc7e51eef91") false
    over (fun _ h => by cases h) (by kernel_rfl) (fun _ h => by cases h) fnExactNoiseSum_row_tie rfl ⟨rfl, rfl⟩ (by kernel_rfl) rfl
    (fun f fn hf hfn => by
      obtain rfl : f = 5 := Option.some.inj ((show Tryd.prog.funcNamed "loop.example/g00897/laws.FnExactNoiseSum" = some 5 by kernel_rfl).symm.trans hf) |>.symm
      obtain rfl : fn = Tryd.f5 := (Option.some.inj (Tryd.func5.symm.trans hfn)).symm
      exact ⟨by kernel_rfl, fun j t ht => by
        rw [Tryd.params5] at ht
        have hm : t ∈ [25] := by simpa using Array.mem_of_getElem? ht
        have hall : ([25].all fun u => !Tryd.prog.wantsStandIn u) = true := by kernel_rfl
        exact (show Tryd.prog.wantsStandIn t = false by simpa using List.all_eq_true.1 hall t hm)⟩)
    (by kernel_rfl)
end Go.Proofs.YtgaankdmppoghabDoor.fnExactNoiseSum
