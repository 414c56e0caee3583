/- Proved: at every mask and every count impl.FitPositions answers as spec.FitPositions does, in memory of its own (the law FnExactFitPositions returns true). The table of math/bits as Go's text lays it. -/
import Derived.Test.YthmmhhoaplbfgabDoorRows
import Derived.Test.YthmmhhoaplbfgabDoorCards
import Derived.Test.YthmmhhoaplbfgabDoorTie
import Derived.Test.YthmmhhoaplbfgabDoorPosC
import Derived.WalkKit
import Derived.ProofKit
import Derived.OpenShut
import Derived.ShutString
import Derived.SizedLaws
import Derived.Carry
import Derived.LaidMore
import Derived.LaidHandle
import Derived.MakeChecks
import Derived.Stop.Joined
import Derived.SevenTiedAt
import Derived.SliceStrings
import Derived.DataBytes
namespace Go.Proofs.YthmmhhoaplbfgabDoor.fnExactFitPositions
open Go.ChangeShapes Go.WideShapes Go.ChangeAt Go.RowKit
open Go.ChangeMaps (open_string shut_string)

set_option maxHeartbeats 2000000 in
theorem walk (m c : Int) (_w1 : (Lit.int .i64 m).wf = true) (_w2 : (Lit.int .i64 c).wf = true) (w : World) (hp : Tab w) :
    Calls Tryd.prog 7 #[.int .i64 m, .int .i64 c] w fun e w' => e = .returned (.bool true) ∧ Below w.heap.size w w' := by
  clear _w1 _w2
  have HP := Lib.hid hp; clear hp
  have hLn := posL_len m c
  obtain ⟨L, hL⟩ : ∃ L, posL m c = L := ⟨_, rfl⟩
  obtain ⟨b, hb⟩ : ∃ b, posB m c = b := ⟨_, rfl⟩
  rw [hL] at hLn
  have HL := Lib.hid hL; have HB := Lib.hid hb; have HLN := Lib.hid hLn
  clear hL hb hLn
  go_enter Tryd.func7, Tryd.ntmps7
  go_wp2_with fail
  refine (specPos m c w).mono ?_
  rw [HL.out, HB.out]
  rintro e w2 ⟨A0, N0, c0, rfl, HNN0, ho0, hb2⟩
  have hB2 := Lib.hid hb2
  have hN0 : N0 ≤ 1048576 := by have := HNN0.out; have := HLN.out; omega
  have HA0 := Lib.hid (Rd.ofOwn ho0)
  clear hb2 ho0
  go_wp2_with fail
  refine (implPos m c w2 (HP.out.over hB2.out)).mono ?_
  rw [HL.out, HB.out]
  rintro e w4 ⟨A4, N4, c4, rfl, HNN4, ho4, hb4⟩
  obtain rfl : N4 = N0 := HNN4.out.trans HNN0.out.symm
  have HA4 := Lib.hid ho4
  have HB24 := Lib.hid hb4
  have hB4 := Lib.hid (hB2.out.trans (hb4.mono hB2.out.size))
  clear ho4 hb4
  go_wp2_with fail
  refine (eqInts _ _ N4 _ _ L w4 HNN4.out.symm (Rd.ofOwn HA4.out) ((HA0.out.over HB24.out).wider HB24.out.size) hN0).mono ?_
  rintro e w8 ⟨rfl, hb8⟩
  have HA8 := Lib.hid (ownB HA4.out hb8)
  have HB28 := Lib.hid (HB24.out.trans (hb8.mono HB24.out.size))
  have hB8 := Lib.hid (hB4.out.trans (hb8.mono hB4.out.size))
  clear hb8
  go_wp2_with fail
  refine (markIntsA A4 N4 c4 L w8 HA8.out hN0).mono ?_
  rintro e w9 ⟨rfl, hoff9, ho9⟩
  have HB29 := Lib.hid (HB28.out.trans (hoff9.below HB28.out.size (fun b h => h)))
  have hB9 := Lib.hid (hB8.out.trans (hoff9.below hB8.out.size (fun b h => by have h2 := hB2.out.size; have h3 : w2.heap.size ≤ b := h; omega)))
  have HA9 := Lib.hid ho9
  clear hoff9 ho9
  go_wp2_with fail
  refine (heldInts A4 N4 c4 w9 (Rd.ofOwn HA9.out) hN0).mono ?_
  rintro e w' ⟨rfl, rfl⟩
  have hN4 : 0 ≤ (N4 : Int) := Int.natCast_nonneg _
  go_wp2_with fail
  refine (implPos m c w9 (HP.out.over hB9.out)).mono ?_
  rw [HL.out, HB.out]
  rintro e w11 ⟨A11, N11, c11, rfl, HNN11, ho11, hb11⟩
  obtain rfl : N11 = N4 := HNN11.out.trans HNN4.out.symm
  have HA11 := Lib.hid (Rd.ofOwn ho11)
  have HM11 := Lib.hid (ownB HA9.out hb11)
  have hB11 := Lib.hid (hB9.out.trans (hb11.mono hB9.out.size))
  have HB211 := Lib.hid (HB29.out.trans (hb11.mono HB29.out.size))
  clear ho11 hb11
  go_wp2_with fail
  refine (eqInts _ _ N11 _ _ L w11 HNN11.out.symm HA11.out ((HA0.out.over HB211.out).wider HB211.out.size) hN0).mono ?_
  rintro e w12 ⟨rfl, hb12⟩
  have HM12 := Lib.hid (ownB HM11.out hb12)
  have hB12 := Lib.hid (hB11.out.trans (hb12.mono hB11.out.size))
  clear hb12
  go_wp2_with fail
  refine (heldInts A4 N11 c4 w12 (Rd.ofOwn HM12.out) hN0).mono ?_
  rintro e w' ⟨rfl, rfl⟩
  go_wp2
  go_ret
  exact ⟨rfl, hB12.out⟩


theorem own : ownKnob Tryd.prog.godebug = none := by kernel_rfl
theorem laidOut : laidOutB Tryd.prog = true := by kernel_rfl

theorem tTab : (Tryd.prog.globals[1]?).map (·.type) = some 121 := by kernel_rfl
theorem cTab : Tryd.prog.cellsOf 121 = 64 := by kernel_rfl
theorem cU8 : Tryd.prog.cellsOf 5 = 1 := by kernel_rfl
theorem pow_of_laid {W : World} (h : laidMetH Tryd.prog Rows.fnExactFitPositionsRow.laid W) : Tab W := by
  have h3 : laidMetH Tryd.prog (Rows.fnExactFitPositionsRow.laid.filter fun x => x.1 == "math/bits.deBruijn64tab") W := h.filter _
  have e : (Rows.fnExactFitPositionsRow.laid.filter fun x => x.1 == "math/bits.deBruijn64tab") = [("math/bits.deBruijn64tab", Lib.tabData .u8 tzTab)] := by kernel_rfl
  rw [e, MakeChecks.laidMetH_plain _ _ _ (by kernel_rfl)] at h3
  exact Lib.tabIs_of_head tabAt tTab Tryd.underlying121 Tryd.underlying5 cU8 cTab h3

theorem door_met (os : Os) (args : Array Value) : laidMetH Tryd.prog Rows.fnExactFitPositionsRow.laid ((World.doorLaid Tryd.prog 19 os).forCall (fun _ _ => 0) ⟨#[], args, []⟩).memory :=
  laidMetH_of_parts3 (fuel := 8) (laidMet_of_run' 8 (by kernel_rfl) (by kernel_rfl)) (by kernel_rfl) (by kernel_rfl)

set_option maxRecDepth 100000 in
theorem lifted (os : Os) (started : os.Started) (H : Type) (enc : TypeId × Value → H) :
    ReturnsInHanded {} Tryd.checked os 7 .any (fun w args => (Rows.fnExactFitPositionsSpec.pre enc Tryd.prog Tryd.f7 [] false w args ∧ laidMetH Tryd.prog Rows.fnExactFitPositionsRow.laid w) ∧ sizedMet enc Tryd.prog Tryd.f7 (OpenSpec.ofChange Rows.fnExactFitPositionsSpec) false w args)
      (Rows.fnExactFitPositionsSpec.post enc Tryd.prog Tryd.f7 false true false false) := by
  refine returnsInHanded_of_change_and (C := Tryd.checked) (X := fun w _ => laidMetH Tryd.prog Rows.fnExactFitPositionsRow.laid w) (fun _ _ _ hh h => h.of_heap hh) own started (by kernel_rfl) Tryd.func7
    (ChangeSpec.witness_shaped (enc := enc) (C := Tryd.checked) (os := os) (X := fun w _ => laidMetH Tryd.prog Rows.fnExactFitPositionsRow.laid w) false (World.doorLaid Tryd.prog 19 os) #[.int .i64 0, .int .i64 0] 8 rfl (World.shaped_of_RefB (by kernel_rfl) (by kernel_rfl)) (by kernel_rfl) (by kernel_rfl) (by kernel_rfl) (door_met os _)) ?_
  intro W base args ds gs before hval0 hW _ hsz0 hL _
  have hval : ∀ (j : Nat) t v, Tryd.f7.params[j]? = some t → args[j]? = some v → Value.okWide Tryd.prog W .any base t v := hval0
  have hsz : (DataW.weightsEach Tryd.prog (Tryd.f7.params.toList ++ Rows.fnExactFitPositionsSpec.plain.varTypes Tryd.prog) (ds ++ gs)).all (· ≤ reachBytes) = true := hsz0
  have hpow := pow_of_laid hL
  have hW' := hW
  obtain ⟨p, q, hA0, hV, rfl, hfz, hnd⟩ := hW
  have hA : DataW.TrodAll enc Tryd.prog W 0 (fun _ => true) true Tryd.f7.params.toList args.toList ds p := hA0
  rw [Tryd.params7] at hA hval hsz
  obtain ⟨v0, vs0, d0, ds0, p0, q0, hargs, rfl, rfl, h0, r0⟩ := trodAll_cons hA
  obtain ⟨v1, vs1, d1, ds1, p1, q1, rfl, rfl, rfl, h1, r1⟩ := trodAll_cons r0
  obtain ⟨rfl, rfl, rfl⟩ := trodAll_nil r1
  obtain rfl : args = #[v0, v1] := by cases args; simp_all
  obtain ⟨rfl, rfl⟩ := trodVars_none hV
  obtain ⟨a0, rfl, rfl, rfl, w0⟩ := open_int Tryd.underlying3 (hval 0 3 v0 rfl rfl) h0
  obtain ⟨a1, rfl, rfl, rfl, w1⟩ := open_int Tryd.underlying3 (hval 1 3 v1 rfl rfl) h1
  clear hA0 hval0
  simp only [List.append_nil] at hW'
  have fin : ∀ W' : World, Below W.heap.size W W' → Rows.fnExactFitPositionsSpec.post enc Tryd.checked.prog Tryd.f7 false true false false W #[.int .i64 a0, .int .i64 a1] (.bool true) W' := by
    intro W' hb
    refine ⟨_, _, _, [] ++ [], [], [], hW', ?_, ?_, rfl, hb.frame _, fun h => by cases h⟩
    · exact trodAll_mk1 (shut_bool Tryd.underlying4 true)
    · exact trodAll_cons_mk (shut_int Tryd.underlying3 w0) (trodAll_mk1 (shut_int Tryd.underlying3 w1))
  exact (walk a0 a1 w0 w1 W hpow).mono fun e W' ⟨he, hb⟩ => ⟨_, he, fin W' hb⟩

theorem over : Rows.fnExactFitPositionsRow.holds Tryd.pinned (OpenSpec.ofChange Rows.fnExactFitPositionsSpec) :=
  OpenClaim.holds_of_wide 7 Tryd.f7 rfl rfl rfl rfl rfl rfl rfl ⟨rfl, rfl, rfl, rfl, rfl⟩ rfl rfl rfl rfl rfl (by kernel_rfl) Tryd.func7 (by kernel_rfl)
    (of_decide_eq_true (by kernel_rfl)) (by unfold Func.isWrapper; first | (rw [if_pos (by decide +kernel)]; kernel_rfl) | (rw [if_neg (by decide +kernel)]; exact ⟨rfl, rfl⟩))
    (fun os started H enc _ => lifted os started H enc)

/-- THE STATEMENT -/
theorem proved : Rows.FnExactFitPositionsCardSaid :=
  Claim7.holds_tied_plain_at .later [] [.data, .data] true (true, "c40fed3b5af96f14bbd75f6bcc5927b7bcaedd9487d0b9fe721d9c675153b663") false
    over (fun _ h => by cases h) (by kernel_rfl) (fun _ h => by cases h) fnExactFitPositions_row_tie rfl ⟨rfl, rfl⟩ (by kernel_rfl) rfl
    (fun f fn hf hfn => by
      obtain rfl : f = 7 := Option.some.inj ((show Tryd.prog.funcNamed "loop.example/g00897/laws.FnExactFitPositions" = some 7 by kernel_rfl).symm.trans hf) |>.symm
      obtain rfl : fn = Tryd.f7 := (Option.some.inj (Tryd.func7.symm.trans hfn)).symm
      exact ⟨by kernel_rfl, fun j t ht => by
        rw [Tryd.params7] at ht
        have hm : t ∈ [3, 3] := by simpa using Array.mem_of_getElem? ht
        have hall : ([3, 3].all fun u => !Tryd.prog.wantsStandIn u) = true := by kernel_rfl
        exact (show Tryd.prog.wantsStandIn t = false by simpa using List.all_eq_true.1 hall t hm)⟩)
    (by kernel_rfl)
end Go.Proofs.YthmmhhoaplbfgabDoor.fnExactFitPositions
