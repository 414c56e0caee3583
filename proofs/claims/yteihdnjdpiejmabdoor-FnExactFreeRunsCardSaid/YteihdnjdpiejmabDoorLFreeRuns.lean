/- Proved: at every mask impl.FreeRuns answers as spec.FreeRuns does, in memory of its own (the law FnExactFreeRuns returns true). The table of math/bits as Go's text lays it. -/
import Derived.Test.YteihdnjdpiejmabDoorRows
import Derived.Test.YteihdnjdpiejmabDoorCards
import Derived.Test.YteihdnjdpiejmabDoorTie
import Derived.Test.YteihdnjdpiejmabDoorFree2
import Derived.WalkKit
import Derived.ProofKit
import Derived.OpenShut
import Derived.ShutString
import Derived.SizedLaws
import Derived.Carry
import Derived.LaidMore
import Derived.LaidHandle
import Derived.MakeChecks
import Derived.Stop.Joined
import Derived.SevenTiedAt
import Derived.SliceStrings
import Derived.DataBytes
namespace Go.Proofs.YteihdnjdpiejmabDoor.fnExactFreeRuns
open Go.ChangeShapes Go.WideShapes Go.ChangeAt Go.RowKit
open Go.ChangeMaps (open_string shut_string)

set_option maxHeartbeats 2000000 in
theorem walk (m : Int) (_w1 : (Lit.int .i64 m).wf = true) (w : World) (hp : Tab w) :
    Calls Tryd.prog 3 #[.int .i64 m] w fun e w' => e = .returned (.bool true) ∧ Below w.heap.size w w' := by
  clear _w1
  have HP := Lib.hid hp; clear hp
  have hLn := freeL_len m
  obtain ⟨L, hL⟩ : ∃ L, freeL m = L := ⟨_, rfl⟩
  obtain ⟨b, hb⟩ : ∃ b, freeB m = b := ⟨_, rfl⟩
  rw [hL] at hLn
  have HL := Lib.hid hL; have HB := Lib.hid hb; have HLN := Lib.hid hLn
  clear hL hb hLn
  go_enter Tryd.func3, Tryd.ntmps3
  go_wp2_with fail
  refine (specFree m w).mono ?_
  rw [HL.out, HB.out]
  rintro e w2 ⟨A0, N0, c0, rfl, HNN0, ho0, hb2⟩
  have hB2 := Lib.hid hb2
  have hN0 : N0 ≤ 1048576 := by have := HNN0.out; have := HLN.out; omega
  have HA0 := Lib.hid ho0
  clear hb2 ho0
  go_wp2_with fail
  refine (implFree m w2 (HP.out.over hB2.out)).mono ?_
  rw [HL.out, HB.out]
  rintro e w4 ⟨A4, N4, c4, rfl, HNN4, ho4, hb4⟩
  obtain rfl : N4 = N0 := HNN4.out.trans HNN0.out.symm
  have HA4 := Lib.hid ho4
  have HB24 := Lib.hid hb4
  have hB4 := Lib.hid (hB2.out.trans (hb4.mono hB2.out.size))
  clear ho4 hb4
  go_wp2_with fail
  refine (eqBkA L w4 HNN4.out.symm HA4.out (ownB HA0.out HB24.out) hN0).mono ?_
  rintro e w8 ⟨rfl, hb8⟩
  have HA8 := Lib.hid (ownB HA4.out hb8)
  have HB28 := Lib.hid (HB24.out.trans (hb8.mono HB24.out.size))
  have hB8 := Lib.hid (hB4.out.trans (hb8.mono hB4.out.size))
  clear hb8
  go_wp2_with fail
  obtain ⟨zs, hzs, _⟩ := bcells_ints L
  have HA8z := HA8.out
  rw [hzs] at HA8z
  refine (markBkA A4 N4 c4 zs w8 HA8z hN0).mono ?_
  rintro e w9 ⟨rfl, hoff9, ho9⟩
  have HB29 := Lib.hid (HB28.out.trans (hoff9.below HB28.out.size (fun b h => h)))
  have hB9 := Lib.hid (hB8.out.trans (hoff9.below hB8.out.size (fun b h => by have h2 := hB2.out.size; have h3 : w2.heap.size ≤ b := h; omega)))
  have HA9 := Lib.hid ho9
  clear hoff9 ho9
  go_wp2_with fail
  refine (heldBk A4 N4 c4 w9 (Rd.ofOwnK HA9.out) hN0).mono ?_
  rintro e w' ⟨rfl, rfl⟩
  have hN4 : 0 ≤ (N4 : Int) := Int.natCast_nonneg _
  go_wp2_with fail
  refine (implFree m w9 (HP.out.over hB9.out)).mono ?_
  rw [HL.out, HB.out]
  rintro e w11 ⟨A11, N11, c11, rfl, HNN11, ho11, hb11⟩
  obtain rfl : N11 = N4 := HNN11.out.trans HNN4.out.symm
  have HA11 := Lib.hid ho11
  have HM11 := Lib.hid (ownB HA9.out hb11)
  have hB11 := Lib.hid (hB9.out.trans (hb11.mono hB9.out.size))
  have HB211 := Lib.hid (HB29.out.trans (hb11.mono HB29.out.size))
  clear ho11 hb11
  go_wp2_with fail
  refine (eqBkA L w11 HNN11.out.symm HA11.out (ownB HA0.out HB211.out) hN0).mono ?_
  rintro e w12 ⟨rfl, hb12⟩
  have HM12 := Lib.hid (ownB HM11.out hb12)
  have hB12 := Lib.hid (hB11.out.trans (hb12.mono hB11.out.size))
  clear hb12
  go_wp2_with fail
  refine (heldBk A4 N11 c4 w12 (Rd.ofOwnK HM12.out) hN0).mono ?_
  rintro e w' ⟨rfl, rfl⟩
  go_wp2
  go_ret
  exact ⟨rfl, hB12.out⟩


theorem own : ownKnob Tryd.prog.godebug = none := by kernel_rfl
theorem laidOut : laidOutB Tryd.prog = true := by kernel_rfl

theorem tTab : (Tryd.prog.globals[1]?).map (·.type) = some 75 := by kernel_rfl
theorem cTab : Tryd.prog.cellsOf 75 = 64 := by kernel_rfl
theorem cU8 : Tryd.prog.cellsOf 5 = 1 := by kernel_rfl
theorem pow_of_laid {W : World} (h : laidMetH Tryd.prog Rows.fnExactFreeRunsRow.laid W) : Tab W := by
  have h3 : laidMetH Tryd.prog (Rows.fnExactFreeRunsRow.laid.filter fun x => x.1 == "math/bits.deBruijn64tab") W := h.filter _
  have e : (Rows.fnExactFreeRunsRow.laid.filter fun x => x.1 == "math/bits.deBruijn64tab") = [("math/bits.deBruijn64tab", Lib.tabData .u8 tzTab)] := by kernel_rfl
  rw [e, MakeChecks.laidMetH_plain _ _ _ (by kernel_rfl)] at h3
  exact Lib.tabIs_of_head tabAt tTab Tryd.underlying75 Tryd.underlying5 cU8 cTab h3

theorem door_met (os : Os) (args : Array Value) : laidMetH Tryd.prog Rows.fnExactFreeRunsRow.laid ((World.doorLaid Tryd.prog 24 os).forCall (fun _ _ => 0) ⟨#[], args, []⟩).memory :=
  laidMetH_of_parts3 (fuel := 8) (laidMet_of_run' 8 (by kernel_rfl) (by kernel_rfl)) (by kernel_rfl) (by kernel_rfl)

set_option maxRecDepth 100000 in
theorem lifted (os : Os) (started : os.Started) (H : Type) (enc : TypeId × Value → H) :
    ReturnsInHanded {} Tryd.checked os 3 .any (fun w args => (Rows.fnExactFreeRunsSpec.pre enc Tryd.prog Tryd.f3 [] false w args ∧ laidMetH Tryd.prog Rows.fnExactFreeRunsRow.laid w) ∧ sizedMet enc Tryd.prog Tryd.f3 (OpenSpec.ofChange Rows.fnExactFreeRunsSpec) false w args)
      (Rows.fnExactFreeRunsSpec.post enc Tryd.prog Tryd.f3 false true false false) := by
  refine returnsInHanded_of_change_and (C := Tryd.checked) (X := fun w _ => laidMetH Tryd.prog Rows.fnExactFreeRunsRow.laid w) (fun _ _ _ hh h => h.of_heap hh) own started (by kernel_rfl) Tryd.func3
    (ChangeSpec.witness_shaped (enc := enc) (C := Tryd.checked) (os := os) (X := fun w _ => laidMetH Tryd.prog Rows.fnExactFreeRunsRow.laid w) false (World.doorLaid Tryd.prog 24 os) #[.int .i64 0] 8 rfl (World.shaped_of_RefB (by kernel_rfl) (by kernel_rfl)) (by kernel_rfl) (by kernel_rfl) (by kernel_rfl) (door_met os _)) ?_
  intro W base args ds gs before hval0 hW _ hsz0 hL _
  have hval : ∀ (j : Nat) t v, Tryd.f3.params[j]? = some t → args[j]? = some v → Value.okWide Tryd.prog W .any base t v := hval0
  have hsz : (DataW.weightsEach Tryd.prog (Tryd.f3.params.toList ++ Rows.fnExactFreeRunsSpec.plain.varTypes Tryd.prog) (ds ++ gs)).all (· ≤ reachBytes) = true := hsz0
  have hpow := pow_of_laid hL
  have hW' := hW
  obtain ⟨p, q, hA0, hV, rfl, hfz, hnd⟩ := hW
  have hA : DataW.TrodAll enc Tryd.prog W 0 (fun _ => true) true Tryd.f3.params.toList args.toList ds p := hA0
  rw [Tryd.params3] at hA hval hsz
  obtain ⟨v0, vs0, d0, ds0, p0, q0, hargs, rfl, rfl, h0, r0⟩ := trodAll_cons hA
  obtain ⟨rfl, rfl, rfl⟩ := trodAll_nil r0
  obtain rfl : args = #[v0] := by cases args; simp_all
  obtain ⟨rfl, rfl⟩ := trodVars_none hV
  obtain ⟨a0, rfl, rfl, rfl, w0⟩ := open_int Tryd.underlying3 (hval 0 3 v0 rfl rfl) h0
  clear hA0 hval0
  simp only [List.append_nil] at hW'
  have fin : ∀ W' : World, Below W.heap.size W W' → Rows.fnExactFreeRunsSpec.post enc Tryd.checked.prog Tryd.f3 false true false false W #[.int .i64 a0] (.bool true) W' := by
    intro W' hb
    refine ⟨_, _, _, [] ++ [], [], [], hW', ?_, ?_, rfl, hb.frame _, fun h => by cases h⟩
    · exact trodAll_mk1 (shut_bool Tryd.underlying4 true)
    · exact trodAll_mk1 (shut_int Tryd.underlying3 w0)
  exact (walk a0 w0 W hpow).mono fun e W' ⟨he, hb⟩ => ⟨_, he, fin W' hb⟩

theorem over : Rows.fnExactFreeRunsRow.holds Tryd.pinned (OpenSpec.ofChange Rows.fnExactFreeRunsSpec) :=
  OpenClaim.holds_of_wide 3 Tryd.f3 rfl rfl rfl rfl rfl rfl rfl ⟨rfl, rfl, rfl, rfl, rfl⟩ rfl rfl rfl rfl rfl (by kernel_rfl) Tryd.func3 (by kernel_rfl)
    (of_decide_eq_true (by kernel_rfl)) (by unfold Func.isWrapper; first | (rw [if_pos (by decide +kernel)]; kernel_rfl) | (rw [if_neg (by decide +kernel)]; exact ⟨rfl, rfl⟩))
    (fun os started H enc _ => lifted os started H enc)

/-- THE STATEMENT -/
theorem proved : Rows.FnExactFreeRunsCardSaid :=
  Claim7.holds_tied_plain_at .later [] [.data, .data] true (true, "1da8ab22abd7c3407cf91de8285694d7120926e31f89040d732e98223b3fb587") false
    over (fun _ h => by cases h) (by kernel_rfl) (fun _ h => by cases h) fnExactFreeRuns_row_tie rfl ⟨rfl, rfl⟩ (by kernel_rfl) rfl
    (fun f fn hf hfn => by
      obtain rfl : f = 3 := Option.some.inj ((show Tryd.prog.funcNamed "loop.example/g00897/laws.FnExactFreeRuns" = some 3 by kernel_rfl).symm.trans hf) |>.symm
      obtain rfl : fn = Tryd.f3 := (Option.some.inj (Tryd.func3.symm.trans hfn)).symm
      exact ⟨by kernel_rfl, fun j t ht => by
        rw [Tryd.params3] at ht
        have hm : t ∈ [3] := by simpa using Array.mem_of_getElem? ht
        have hall : ([3].all fun u => !Tryd.prog.wantsStandIn u) = true := by kernel_rfl
        exact (show Tryd.prog.wantsStandIn t = false by simpa using List.all_eq_true.1 hall t hm)⟩)
    (by kernel_rfl)
end Go.Proofs.YteihdnjdpiejmabDoor.fnExactFreeRuns
