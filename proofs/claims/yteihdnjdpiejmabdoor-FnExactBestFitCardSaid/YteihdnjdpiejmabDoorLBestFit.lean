/- Proved: at every mask and every count impl.BestFit answers as spec.BestFit does (the law FnExactBestFit returns true). The table of math/bits as Go's text lays it. -/
import Derived.Test.YteihdnjdpiejmabDoorRows
import Derived.Test.YteihdnjdpiejmabDoorCards
import Derived.Test.YteihdnjdpiejmabDoorTie
import Derived.Test.YteihdnjdpiejmabDoorBest3
import Derived.WalkKit
import Derived.ProofKit
import Derived.OpenShut
import Derived.ShutString
import Derived.SizedLaws
import Derived.Carry
import Derived.LaidMore
import Derived.LaidHandle
import Derived.MakeChecks
import Derived.Stop.Joined
import Derived.SevenTiedAt
import Derived.SliceStrings
import Derived.DataBytes
namespace Go.Proofs.YteihdnjdpiejmabDoor.fnExactBestFit
open Go.ChangeShapes Go.WideShapes Go.ChangeAt Go.RowKit
open Go.ChangeMaps (open_string shut_string)

set_option maxHeartbeats 1000000 in
theorem walk (m c : Int) (_w1 : (Lit.int .i64 m).wf = true) (_w2 : (Lit.int .i64 c).wf = true) (w : World) (hp : Tab w) :
    Calls Tryd.prog 4 #[.int .i64 m, .int .i64 c] w fun e w' => e = .returned (.bool true) ∧ Below w.heap.size w w' := by
  clear _w1 _w2
  have HP := Lib.hid hp; clear hp
  obtain ⟨r1, h1⟩ : ∃ r, bestF m c = r := ⟨_, rfl⟩
  obtain ⟨r2, h2⟩ : ∃ r, firstC m c = r := ⟨_, rfl⟩
  obtain ⟨r3, h3⟩ : ∃ r, firstB m c = r := ⟨_, rfl⟩
  have HR : Hid (bestR m c = .tuple #[.agg #[.int .i64 r1, .int .i64 r2], .bool r3]) := Lib.hid (by unfold bestR; rw [h1, h2, h3])
  clear h1 h2 h3
  go_enter Tryd.func4, Tryd.ntmps4
  go_wp2_with fail
  refine (specBestFit m c w).mono ?_
  rintro e w1 ⟨rfl, hb1⟩
  have HB1 := Lib.hid hb1; clear hb1
  rw [HR.out]
  go_wp2_with fail
  have hb1 := HB1.out
  have HC1 := Lib.hid (hb1.alloc hb1.size (Obj.cells #[.int .i64 r1, .int .i64 r2] 29))
  obtain ⟨W1, hW1⟩ : ∃ W1, (w1.alloc (Obj.cells #[.int .i64 r1, .int .i64 r2] 29)) = W1 := ⟨_, rfl⟩
  have hg1 : W1.heap[w1.heap.size]? = some (.cells #[.int .i64 r1, .int .i64 r2] 29 (0, 0)) := by rw [← hW1]; exact heap_alloc_new w1 _
  have hs1 : w1.heap.size < W1.heap.size := by rw [← hW1]; simp
  rw [hW1] at HC1 ⊢
  clear hW1 hb1
  refine (implBestFit m c W1 (HP.out.over HC1.out)).mono ?_
  rintro e w2 ⟨rfl, hb2⟩
  obtain ⟨k0, k1, _, _⟩ := two_cells ((hb2.block _ hs1).trans hg1)
  have hs2 := Nat.lt_of_lt_of_le hs1 hb2.size
  have HC2 := Lib.hid (HC1.out.trans (hb2.mono HC1.out.size)); clear hb2 hg1 hs1
  rw [HR.out]
  go_wp2_with fail
  have hb2 := HC2.out
  have HC3 := Lib.hid (hb2.alloc hb2.size (Obj.cells #[.int .i64 r1, .int .i64 r2] 29))
  refine (eqBlk r1 r2 _).mono ?_
  rintro e w3 ⟨rfl, hb3⟩
  have HB3 := Lib.hid (HC3.out.trans (hb3.mono HC3.out.size)); clear hb3
  go_wp2
  go_ret
  exact ⟨rfl, HB3.out⟩


theorem own : ownKnob Tryd.prog.godebug = none := by kernel_rfl
theorem laidOut : laidOutB Tryd.prog = true := by kernel_rfl

theorem tTab : (Tryd.prog.globals[1]?).map (·.type) = some 75 := by kernel_rfl
theorem cTab : Tryd.prog.cellsOf 75 = 64 := by kernel_rfl
theorem cU8 : Tryd.prog.cellsOf 5 = 1 := by kernel_rfl
theorem pow_of_laid {W : World} (h : laidMetH Tryd.prog Rows.fnExactBestFitRow.laid W) : Tab W := by
  have h3 : laidMetH Tryd.prog (Rows.fnExactBestFitRow.laid.filter fun x => x.1 == "math/bits.deBruijn64tab") W := h.filter _
  have e : (Rows.fnExactBestFitRow.laid.filter fun x => x.1 == "math/bits.deBruijn64tab") = [("math/bits.deBruijn64tab", Lib.tabData .u8 tzTab)] := by kernel_rfl
  rw [e, MakeChecks.laidMetH_plain _ _ _ (by kernel_rfl)] at h3
  exact Lib.tabIs_of_head tabAt tTab Tryd.underlying75 Tryd.underlying5 cU8 cTab h3

theorem door_met (os : Os) (args : Array Value) : laidMetH Tryd.prog Rows.fnExactBestFitRow.laid ((World.doorLaid Tryd.prog 24 os).forCall (fun _ _ => 0) ⟨#[], args, []⟩).memory :=
  laidMetH_of_parts3 (fuel := 8) (laidMet_of_run' 8 (by kernel_rfl) (by kernel_rfl)) (by kernel_rfl) (by kernel_rfl)

set_option maxRecDepth 100000 in
theorem lifted (os : Os) (started : os.Started) (H : Type) (enc : TypeId × Value → H) :
    ReturnsInHanded {} Tryd.checked os 4 .any (fun w args => (Rows.fnExactBestFitSpec.pre enc Tryd.prog Tryd.f4 [] false w args ∧ laidMetH Tryd.prog Rows.fnExactBestFitRow.laid w) ∧ sizedMet enc Tryd.prog Tryd.f4 (OpenSpec.ofChange Rows.fnExactBestFitSpec) false w args)
      (Rows.fnExactBestFitSpec.post enc Tryd.prog Tryd.f4 false true false false) := by
  refine returnsInHanded_of_change_and (C := Tryd.checked) (X := fun w _ => laidMetH Tryd.prog Rows.fnExactBestFitRow.laid w) (fun _ _ _ hh h => h.of_heap hh) own started (by kernel_rfl) Tryd.func4
    (ChangeSpec.witness_shaped (enc := enc) (C := Tryd.checked) (os := os) (X := fun w _ => laidMetH Tryd.prog Rows.fnExactBestFitRow.laid w) false (World.doorLaid Tryd.prog 24 os) #[.int .i64 0, .int .i64 0] 8 rfl (World.shaped_of_RefB (by kernel_rfl) (by kernel_rfl)) (by kernel_rfl) (by kernel_rfl) (by kernel_rfl) (door_met os _)) ?_
  intro W base args ds gs before hval0 hW _ hsz0 hL _
  have hval : ∀ (j : Nat) t v, Tryd.f4.params[j]? = some t → args[j]? = some v → Value.okWide Tryd.prog W .any base t v := hval0
  have hsz : (DataW.weightsEach Tryd.prog (Tryd.f4.params.toList ++ Rows.fnExactBestFitSpec.plain.varTypes Tryd.prog) (ds ++ gs)).all (· ≤ reachBytes) = true := hsz0
  have hpow := pow_of_laid hL
  have hW' := hW
  obtain ⟨p, q, hA0, hV, rfl, hfz, hnd⟩ := hW
  have hA : DataW.TrodAll enc Tryd.prog W 0 (fun _ => true) true Tryd.f4.params.toList args.toList ds p := hA0
  rw [Tryd.params4] at hA hval hsz
  obtain ⟨v0, vs0, d0, ds0, p0, q0, hargs, rfl, rfl, h0, r0⟩ := trodAll_cons hA
  obtain ⟨v1, vs1, d1, ds1, p1, q1, rfl, rfl, rfl, h1, r1⟩ := trodAll_cons r0
  obtain ⟨rfl, rfl, rfl⟩ := trodAll_nil r1
  obtain rfl : args = #[v0, v1] := by cases args; simp_all
  obtain ⟨rfl, rfl⟩ := trodVars_none hV
  obtain ⟨a0, rfl, rfl, rfl, w0⟩ := open_int Tryd.underlying3 (hval 0 3 v0 rfl rfl) h0
  obtain ⟨a1, rfl, rfl, rfl, w1⟩ := open_int Tryd.underlying3 (hval 1 3 v1 rfl rfl) h1
  clear hA0 hval0
  simp only [List.append_nil] at hW'
  have fin : ∀ W' : World, Below W.heap.size W W' → Rows.fnExactBestFitSpec.post enc Tryd.checked.prog Tryd.f4 false true false false W #[.int .i64 a0, .int .i64 a1] (.bool true) W' := by
    intro W' hb
    refine ⟨_, _, _, [] ++ [], [], [], hW', ?_, ?_, rfl, hb.frame _, fun h => by cases h⟩
    · exact trodAll_mk1 (shut_bool Tryd.underlying4 true)
    · exact trodAll_cons_mk (shut_int Tryd.underlying3 w0) (trodAll_mk1 (shut_int Tryd.underlying3 w1))
  exact (walk a0 a1 w0 w1 W hpow).mono fun e W' ⟨he, hb⟩ => ⟨_, he, fin W' hb⟩

theorem over : Rows.fnExactBestFitRow.holds Tryd.pinned (OpenSpec.ofChange Rows.fnExactBestFitSpec) :=
  OpenClaim.holds_of_wide 4 Tryd.f4 rfl rfl rfl rfl rfl rfl rfl ⟨rfl, rfl, rfl, rfl, rfl⟩ rfl rfl rfl rfl rfl (by kernel_rfl) Tryd.func4 (by kernel_rfl)
    (of_decide_eq_true (by kernel_rfl)) (by unfold Func.isWrapper; first | (rw [if_pos (by decide +kernel)]; kernel_rfl) | (rw [if_neg (by decide +kernel)]; exact ⟨rfl, rfl⟩))
    (fun os started H enc _ => lifted os started H enc)

/-- THE STATEMENT -/
theorem proved : Rows.FnExactBestFitCardSaid :=
  Claim7.holds_tied_plain_at .later [] [.data, .data] true (true, "1da8ab22abd7c3407cf91de8285694d7120926e31f89040d732e98223b3fb587") false
    over (fun _ h => by cases h) (by kernel_rfl) (fun _ h => by cases h) fnExactBestFit_row_tie rfl ⟨rfl, rfl⟩ (by kernel_rfl) rfl
    (fun f fn hf hfn => by
      obtain rfl : f = 4 := Option.some.inj ((show Tryd.prog.funcNamed "loop.example/g00897/laws.FnExactBestFit" = some 4 by kernel_rfl).symm.trans hf) |>.symm
      obtain rfl : fn = Tryd.f4 := (Option.some.inj (Tryd.func4.symm.trans hfn)).symm
      exact ⟨by kernel_rfl, fun j t ht => by
        rw [Tryd.params4] at ht
        have hm : t ∈ [3, 3] := by simpa using Array.mem_of_getElem? ht
        have hall : ([3, 3].all fun u => !Tryd.prog.wantsStandIn u) = true := by kernel_rfl
        exact (show Tryd.prog.wantsStandIn t = false by simpa using List.all_eq_true.1 hall t hm)⟩)
    (by kernel_rfl)
end Go.Proofs.YteihdnjdpiejmabDoor.fnExactBestFit
