/- Proved: whatever bytes the arguments are drawn from, FormatInt and ParseInt answer as the model and are inverse, AppendChecksum answers as the model, VerifyChecksum recovers the text, and one byte changed is detected (the law FnStrings returns true). Condition: strconv's table of powers of ten holds what Go's text lays; the card ties it. -/
import Derived.Test.YtbfbkedndnekpaaDoorRows
import Derived.Test.YtbfbkedndnekpaaDoorCards
import Derived.Test.YtbfbkedndnekpaaDoorTie
import Derived.Test.YtbfbkedndnekpaaDoorDet
import Derived.Test.YtbfbkedndnekpaaDoorDraw1
import Derived.Test.YtbfbkedndnekpaaDoorRead
import Derived.WalkKit
import Derived.ProofKit
import Derived.OpenShut
import Derived.ShutString
import Derived.SizedLaws
import Derived.Carry
import Derived.LaidMore
import Derived.LaidHandle
import Derived.MakeChecks
import Derived.Stop.Joined
import Derived.SevenTiedAt
import Derived.SliceStrings
import Derived.DataBytes
import Derived.StillTailTactics
import Derived.Lib.ConvBytes
import Derived.ChangeSlices
namespace Go.Proofs.YtbfbkedndnekpaaDoor.fnStrings
open Go.ChangeShapes Go.WideShapes Go.ChangeAt Go.RowKit
open Go.ChangeMaps (open_string shut_string)

open Go.Lib (decDigits itoa)
theorem fmt_parse {n : Int} {r : Int} {b : Bool} (hB : fmtB n = true) (h : PR (fmtS n) r b) : r = n ∧ b = true := by
  have hr : -999999 ≤ n ∧ n ≤ 999999 := by simpa [fmtB] using hB
  have hS : fmtS n = ⟨(itoa n).toArray⟩ := by unfold fmtS; rw [hB]; rfl
  rw [hS] at h
  obtain ⟨a, b⟩ := PR_one h (PR_yes hr.1 hr.2 (by simp))
  exact ⟨a, b⟩
theorem fmt_size (n : Int) : (fmtS n).size ≤ 20 := by
  unfold fmtS
  by_cases hB : fmtB n = true
  · rw [if_pos hB]
    have hr : -999999 ≤ n ∧ n ≤ 999999 := by simpa [fmtB] using hB
    have e : (⟨(itoa n).toArray⟩ : ByteArray).size = (itoa n).length := rfl
    rw [e]
    by_cases hn : 0 ≤ n
    · have := itoa_len19 n hn (by omega); omega
    · rw [itoa_neg n (by omega)]
      have := itoa_len19 (-n) (by omega) (by omega)
      simp only [List.length_cons]; omega
  · rw [if_neg hB]; decide

theorem set_string {P : Program} (w W : World) (g cp k : Nat) (y : ByteArray) (vb : UInt8) (src dst e : TypeId) (hs : P.underlying src = some (.slice e)) (he : P.underlying e = some (.int .u8)) (hd : P.underlying dst = some .string)
    (hc : ∀ j, j < y.size → w.cell? ⟨g, j, none⟩ = some (.int .u8 (y.data.toList.getD j 0).toNat)) (hk : k < y.size) (hW : W.heap = (w.setCell ⟨g, k, none⟩ (.int .u8 vb.toNat)).heap) :
    (convert src dst (.slice (some ⟨g, 0, none⟩) y.size cp)).run P W = .ok (.string ⟨(y.data.toList.set k vb).toArray⟩) W := by
  have hl : (y.data.toList.set k vb).length = y.size := by rw [List.length_set]; exact Array.length_toList
  have h := run_convert_bytes_back (P := P) W src dst e ⟨g, 0, none⟩ cp (y.data.toList.set k vb) hs he hd (fun j hj => by
    rw [hl] at hj
    rw [add_plain, Nat.zero_add, World.cell?_of_block (w := w.setCell ⟨g, k, none⟩ (.int .u8 vb.toNat)) (by rw [hW])]
    by_cases e : k = j
    · subst e
      rw [World.cell?_setCell_same w ⟨g, k, none⟩ _ (hc k hk), List.getElem_set_self]
    · rw [World.cell?_setCell_other w ⟨g, k, none⟩ ⟨g, j, none⟩ _ (by intro h; injection h with _ h; exact e h), hc j hj]
      rw [List.getElem_set_ne e, List.getD_eq_getElem?_getD, List.getElem?_eq_getElem (by simpa using hj)]
      rfl)
  rw [hl] at h
  exact h

set_option maxRecDepth 100000 in
set_option maxHeartbeats 4000000 in
theorem walk (A : Option Addr) (n c : Nat) (w : World) (hn : n ≤ 140737488355328) (hr : RdB w w.heap.size A n) (hp : Pow w) :
    Calls Tryd.prog 3 #[.slice A n c] w fun e w' => e = .returned (.bool true) ∧ Below w.heap.size w w' := by
  have HP := Lib.hid hp; have HR := Lib.hid hr; clear hp hr
  by_cases hbig : 65536 < (n : Int)
  · have hd : decide (65536 < (n : Int)) = true := by simpa using hbig
    have hv := vBig_any A n c w hn
    rw [hd] at hv
    have HV := Lib.hid hv; clear hv hd
    go_enter Tryd.func3, Tryd.ntmps3
    go_wp2_with (go_at_call 10; refine HV.out.mono ?_; rintro e w' ⟨rfl, rfl⟩)
    go_ret
    exact ⟨rfl, Below.refl _ _⟩
  have hd : decide (65536 < (n : Int)) = false := by simpa using hbig
  have hv := vBig_any A n c w hn
  rw [hd] at hv
  have HV := Lib.hid hv; clear hv hd
  have hn2 : (n : Int) ≤ 65536 := by omega
  clear hbig
  go_enter Tryd.func3, Tryd.ntmps3
  go_wp2_with fail
  refine HV.out.mono ?_
  rintro e w' ⟨rfl, rfl⟩
  go_wp2_with fail
  refine (drawFmt A n c w hn HR.out).mono ?_
  rintro e w1 ⟨v, rfl, hb1⟩
  obtain ⟨fS, hfS⟩ : ∃ x, fmtS v = x := ⟨_, rfl⟩
  obtain ⟨fB, hfB⟩ : ∃ x, fmtB v = x := ⟨_, rfl⟩
  have HFS := Lib.hid hfS; have HFB := Lib.hid hfB; clear hfS hfB
  go_wp2_with fail
  refine (implFmt v w1 (HP.out.over hb1)).mono ?_
  rintro e w2 ⟨rfl, hb2⟩
  rw [HFS.out, HFB.out]
  have hb02 := hb1.trans (hb2.mono hb1.size)
  go_wp2_with fail
  refine (specFmt v w2).mono ?_
  rintro e w3 ⟨rfl, hb3⟩
  rw [HFS.out, HFB.out]
  have hb03 := hb02.trans (hb3.mono hb02.size)
  clear hb1 hb2 hb3
  go_wp2_with fail
  refine (drawParse A n c w3 hn ((HR.out.grown hb03).more hb03.size)).mono ?_
  rintro e w4 ⟨t, rfl, hts, hb4⟩
  have hb04 := hb03.trans (hb4.mono hb03.size)
  have htm : t.size ≤ maxLen := by unfold maxLen; omega
  have HTM := Lib.hid htm; clear htm
  go_wp2_with fail
  refine (implParse t w4 HTM.out (HP.out.over hb04)).mono ?_
  rintro e w5 ⟨m, fine, rfl, hpr, hb5⟩
  have HPR := Lib.hid hpr; clear hpr
  have hb05 := hb04.trans (hb5.mono hb04.size)
  go_wp2_with fail
  refine (specParse t w5 HTM.out).mono ?_
  rintro e w6 ⟨m', fine', rfl, hpr', hb6⟩
  obtain ⟨rfl, rfl⟩ := PR_one HPR.out hpr'
  clear hpr'
  have hb06 := hb05.trans (hb6.mono hb05.size)
  clear hb02 hb03 hb04 hb4 hb5 hb6 hb05
  go_wp2_with fail
  refine (drawApp A n c w6 hn ((HR.out.grown hb06).more hb06.size)).mono ?_
  rintro e w7 ⟨x, rfl, hxs, hb7⟩
  have hb07 := hb06.trans (hb7.mono hb06.size)
  obtain ⟨y, hy⟩ : ∃ y, sealS x = y := ⟨_, rfl⟩
  obtain ⟨sl, hsl⟩ : ∃ b, sealB x = b := ⟨_, rfl⟩
  have HY := Lib.hid hy; have HSL := Lib.hid hsl; clear hy hsl
  go_wp2_with fail
  refine (implApp x w7 (by omega) (HP.out.over hb07)).mono ?_
  rintro e w8 ⟨rfl, hb8⟩
  rw [HY.out, HSL.out]
  have hb08 := hb07.trans (hb8.mono hb07.size)
  go_wp2_with fail
  refine (specApp x w8 (by unfold maxLen; omega)).mono ?_
  rintro e w9 ⟨rfl, hb9⟩
  rw [HY.out, HSL.out]
  have hb09 := hb08.trans (hb9.mono hb08.size)
  clear hb06 hb7 hb07 hb8 hb08 hb9
  have hfsz := fmt_size v
  rw [HFS.out] at hfsz
  go_wp2_with fail
  refine (implParse fS w9 (by unfold maxLen; omega) (HP.out.over hb09)).mono ?_
  rintro e w10 ⟨bk, th, rfl, hpr2, hb10⟩
  have hfp : fB = true → bk = v ∧ th = true := fun h => fmt_parse (n := v) (HFB.out.trans h) (by rw [HFS.out]; exact hpr2)
  have HFP := Lib.hid hfp; clear hfp hpr2
  have hb010 := hb09.trans (hb10.mono hb09.size)
  clear hb10 hb09 hfsz
  have hy0 : sl = false → y = ByteArray.empty := fun h => by rw [← HY.out]; unfold sealS; rw [HSL.out, h]; rfl
  have hy1 : sl = true → verB y = true ∧ verS y = x ∧ 2 ≤ y.size ∧ y.size ≤ 4000 ∧ y = sumd x ∧ standsB x 35 = false := fun h => by
    have hsx : sealB x = true := HSL.out.trans h
    have e : y = sumd x := by rw [← HY.out]; unfold sealS; rw [hsx]; rfl
    obtain ⟨v1, v2⟩ := ver_sumd x hsx
    have hd := digs_facts x
    have hsz := seal_size x
    unfold sealB at hsx
    simp only [Bool.and_eq_true, decide_eq_true_eq, Bool.not_eq_true'] at hsx
    rw [e]
    exact ⟨v1, v2, by omega, by omega, rfl, hsx.1.2⟩
  have HY0 := Lib.hid hy0; have HY1 := Lib.hid hy1; clear hy0 hy1
  have hfin : ∀ W, Below w.heap.size w W → True := fun _ _ => trivial
  clear hfin
  cases fB
  all_goals
    first | (obtain ⟨rfl, rfl⟩ := HFP.out rfl; clear HFP) | clear HFP
    cases sl
    · obtain rfl := HY0.out rfl
      go_wp2_with fail
      go_ret
      exact ⟨rfl, hb010⟩
    · obtain ⟨v1, v2, y3, y4, ye, yn⟩ := HY1.out rfl
      have HV1 := Lib.hid v1; have HV2 := Lib.hid v2; have HYE := Lib.hid ye; have HYN := Lib.hid yn
      clear v1 v2 ye yn HY0 HY1
      go_wp2_with fail
      refine (implVer y w10 (by omega) (HP.out.over hb010)).mono ?_
      rintro e w11 ⟨rfl, hb11⟩
      rw [HV1.out, HV2.out]
      have hb011 := hb010.trans (hb11.mono hb010.size)
      clear hb11
      have hcb := Lib.run_convert_string_bytes (P := Tryd.prog) w11 9 22 5 y Tryd.underlying9 Tryd.underlying22 Tryd.underlying5
      go_wp2_with fail
      have hcells : ∀ j, j < y.size → (Lib.bytesWorld w11 5 y).cell? ⟨w11.heap.size, j, none⟩ = some (.int .u8 (y.data.toList.getD j 0).toNat) := fun j hj => Lib.bytesWorld_cell w11 5 y j hj
      have hfz : ∀ j, j < y.size → (Lib.bytesWorld w11 5 y).frozen? ⟨w11.heap.size, j, none⟩ = false := fun j hj => by
        have : y.size ≤ (Lib.bytesCells w11 5 y).size := by
          have h0 : y.size = y.data.size := rfl
          simp only [Lib.bytesCells, Array.size_append, Array.size_map]; omega
        simp [World.frozen?, Lib.bytesWorld_at_new]; omega
      have hbw : Below w11.heap.size w11 (Lib.bytesWorld w11 5 y) := ⟨rfl, rfl, rfl, by rw [Lib.bytesWorld_size]; omega, fun j hj => Lib.bytesWorld_at_old w11 5 y j hj⟩
      have hgs : (Lib.bytesWorld w11 5 y).heap.size = w11.heap.size + 1 := Lib.bytesWorld_size w11 5 y
      generalize Lib.bytesWorld w11 5 y = W12 at *
      generalize grownCap w11 y.size 0 5 = cp at *
      have hb012 := hb011.trans (hbw.mono hb011.size)
      have HC := Lib.hid hcells; have HF := Lib.hid hfz
      clear hcells hfz hcb
      refine (vAt_any A n c 9 W12 (by omega) (by omega) hn ((HR.out.grown hb012).more hb012.size)).mono ?_
      rintro e w' ⟨v9, rfl, h90, h91, rfl⟩
      have hz0 : 0 ≤ v9 % (y.size : Int) := Int.emod_nonneg _ (by omega)
      have hz1 : v9 % (y.size : Int) < y.size := Int.emod_lt_of_pos _ (by omega)
      obtain ⟨v10, h100, h101, hcall⟩ := vAt_fix A n c 10 W12 (by omega) (by omega) hn ((HR.out.grown hb012).more hb012.size)
      have HCALL := Lib.hid hcall; clear hcall
      have hm1 : v10.tmod 255 = v10 % 255 := Int.tmod_eq_emod_of_nonneg h100
      have hd0 : 0 ≤ v10 % 255 := Int.emod_nonneg _ (by omega)
      have hd1 : v10 % 255 < 255 := Int.emod_lt_of_pos _ (by omega)
      go_wp2_with fail
      generalize v9 % (y.size : Int) = z at *
      obtain ⟨k, rfl⟩ := Int.eq_ofNat_of_zero_le hz0
      obtain ⟨d, hdd⟩ : ∃ d, v10 % 255 = d := ⟨_, rfl⟩
      rw [hdd] at hm1 hd0 hd1
      obtain ⟨vb, hvb, hvne⟩ := xor_byte (y.data.toList.getD k 0) (1 + d) (by omega) (by omega)
      have HNE := Lib.hid hvne; clear hvne
      have hcell := HC.out k (by omega)
      have hfzk := HF.out k (by omega)
      generalize hbk : (y.data.toList.getD k 0) = bk0 at hcell hvb HNE
      have HBK := Lib.hid hbk; clear hbk
      have hw1 : IntKind.i64.wrap (1 + d) = 1 + d := IntWalk.i64_in _ (by omega)
      have hw2 : IntKind.u8.wrap (1 + d) = 1 + d := by rw [IntKind.wrap_u8]; omega
      have hkk : (k : Int) < y.size := hz1
      go_still_tail 13, (by kernel_rfl)
      still_call (HCALL.out _ rfl)
      repeat still_step
      refine wpStill_nil ?_
      change wpList _ _ _ _ _ W12.drew
      have hcell2 : W12.drew.cell? ⟨w11.heap.size, k, none⟩ = some (.int .u8 bk0.toNat) := hcell
      have hfzk2 : W12.drew.frozen? ⟨w11.heap.size, k, none⟩ = false := hfzk
      have hcv := set_string (P := Tryd.prog) W12 ((W12.setCell ⟨w11.heap.size, k, none⟩ (.int .u8 vb.toNat)).drew) w11.heap.size cp k y vb 22 9 5 Tryd.underlying22 Tryd.underlying5 Tryd.underlying9 HC.out (by omega) rfl
      have hy2l : (⟨(y.data.toList.set k vb).toArray⟩ : ByteArray).data.toList = y.data.toList.set k vb := rfl
      have hy2s : (⟨(y.data.toList.set k vb).toArray⟩ : ByteArray).size = y.size := by
        show (y.data.toList.set k vb).toArray.size = _
        rw [List.size_toArray, List.length_set]; exact Array.length_toList
      obtain ⟨Y2, hY2⟩ : ∃ Y2 : ByteArray, ⟨(y.data.toList.set k vb).toArray⟩ = Y2 := ⟨_, rfl⟩
      rw [hY2] at hcv hy2l hy2s
      clear hY2
      have hver : verB Y2 = false := by
        have hkl : k < y.data.toList.length := by rw [Array.length_toList]; show k < y.size; omega
        refine detect x HYN.out k vb (by rw [← HYE.out]; exact hkl) ?_ Y2 (by rw [← HYE.out]; exact hy2l)
        have hne := HNE.out
        rw [← HBK.out, List.getD_eq_getElem?_getD, List.getElem?_eq_getElem hkl] at hne
        intro hh; apply hne; rw [hh]
        simp only [← HYE.out]; rfl
      have hverS : verS Y2 = ByteArray.empty := by unfold verS; rw [hver]; rfl
      have HVB := Lib.hid hver; have HVS := Lib.hid hverS; have HY2S := Lib.hid hy2s
      clear hver hverS hy2s hy2l
      have hb013 : Below w.heap.size w ((W12.setCell ⟨w11.heap.size, k, none⟩ (.int .u8 vb.toNat)).drew) := (hb012.setCell (p := ⟨w11.heap.size, k, none⟩) hb011.size _).drew
      go_wp2_with fail
      refine (implVer Y2 _ (by rw [HY2S.out]; omega) (HP.out.over hb013)).mono ?_
      rintro e w14 ⟨rfl, hb14⟩
      rw [HVB.out, HVS.out]
      have hb014 := hb013.trans (hb14.mono hb013.size)
      go_wp2_with fail
      go_ret
      exact ⟨rfl, hb014⟩


theorem own : ownKnob Tryd.prog.godebug = none := by kernel_rfl
theorem laidOut : laidOutB Tryd.prog = true := by kernel_rfl

theorem tPow : (Tryd.prog.globals[1]?).map (·.type) = some 80 := by kernel_rfl
theorem uPow : Tryd.prog.underlying 80 = some (.array 20 46) := Tryd.underlying80
theorem cPow : Tryd.prog.cellsOf 80 = 20 := by kernel_rfl
theorem cU64 : Tryd.prog.cellsOf 46 = 1 := by kernel_rfl
theorem pow_of_laid {W : World} (h : laidMetH Tryd.prog Rows.fnStringsRow.laid W) : Pow W := by
  have h3 : laidMetH Tryd.prog (Rows.fnStringsRow.laid.filter fun x => x.1 == "internal/strconv.uint64pow10") W := h.filter _
  have e : (Rows.fnStringsRow.laid.filter fun x => x.1 == "internal/strconv.uint64pow10") = [("internal/strconv.uint64pow10", Lib.tabData .u64 Lib.pow10Tab)] := by kernel_rfl
  rw [e, MakeChecks.laidMetH_plain _ _ _ (by kernel_rfl)] at h3
  exact Lib.tabIs_of_head powAt tPow uPow Tryd.underlying46 cU64 cPow h3

theorem door_met (os : Os) (args : Array Value) : laidMetH Tryd.prog Rows.fnStringsRow.laid ((World.doorLaid Tryd.prog 34 os).forCall (fun _ _ => 0) ⟨#[], args, []⟩).memory :=
  laidMetH_of_parts3 (fuel := 8) (laidMet_of_run' 8 (by kernel_rfl) (by kernel_rfl)) (by kernel_rfl) (by kernel_rfl)

set_option maxRecDepth 100000 in
theorem lifted (os : Os) (started : os.Started) (H : Type) (enc : TypeId × Value → H) :
    ReturnsInHanded {} Tryd.checked os 3 .any (fun w args => (Rows.fnStringsSpec.pre enc Tryd.prog Tryd.f3 [] false w args ∧ laidMetH Tryd.prog Rows.fnStringsRow.laid w) ∧ sizedMet enc Tryd.prog Tryd.f3 (OpenSpec.ofChange Rows.fnStringsSpec) false w args)
      (Rows.fnStringsSpec.post enc Tryd.prog Tryd.f3 false true false false) := by
  refine returnsInHanded_of_change_and (C := Tryd.checked) (X := fun w _ => laidMetH Tryd.prog Rows.fnStringsRow.laid w) (fun _ _ _ hh h => h.of_heap hh) own started (by kernel_rfl) Tryd.func3
    (ChangeSpec.witness_shaped (enc := enc) (C := Tryd.checked) (os := os) (X := fun w _ => laidMetH Tryd.prog Rows.fnStringsRow.laid w) false (World.doorLaid Tryd.prog 34 os) #[.slice none 0 0] 8 rfl (World.shaped_of_RefB (by kernel_rfl) (by kernel_rfl)) (by kernel_rfl) (by kernel_rfl) (by kernel_rfl) (door_met os _)) ?_
  intro W base args ds gs before hval0 hW _ hsz0 hL _
  have hval : ∀ (j : Nat) t v, Tryd.f3.params[j]? = some t → args[j]? = some v → Value.okWide Tryd.prog W .any base t v := hval0
  have hsz : (DataW.weightsEach Tryd.prog (Tryd.f3.params.toList ++ Rows.fnStringsSpec.plain.varTypes Tryd.prog) (ds ++ gs)).all (· ≤ reachBytes) = true := hsz0
  have hpow := pow_of_laid hL
  have hW' := hW
  obtain ⟨p, q, hA0, hV, rfl, hfz, hnd⟩ := hW
  have hA : DataW.TrodAll enc Tryd.prog W 0 (fun _ => true) true Tryd.f3.params.toList args.toList ds p := hA0
  rw [Tryd.params3] at hA hval hsz
  obtain ⟨v0, vs0, d0, ds0, p0, q0, hargs, rfl, rfl, h0, r0⟩ := trodAll_cons hA
  obtain ⟨rfl, rfl, rfl⟩ := trodAll_nil r0
  obtain rfl : args = #[v0] := by cases args; simp_all
  obtain ⟨rfl, rfl⟩ := trodVars_none hV
  obtain ⟨b0, len0, cap0, rfl⟩ := okWide_slice Tryd.underlying22 (hval 0 22 v0 rfl rfl)
  clear hA0 hval0
  simp only [List.append_nil] at hW'
  have hlt0 : ∀ x ∈ p0, x.block < W.heap.size := fun x hx => by simpa using hW'.lt x (by simp [hx])
  have fin : ∀ W' : World, Below W.heap.size W W' → Rows.fnStringsSpec.post enc Tryd.checked.prog Tryd.f3 false true false false W #[.slice b0 len0 cap0] (.bool true) W' := by
    intro W' hb
    refine ⟨_, _, _, [] ++ [], p0, [], hW', ?_, ?_, rfl, hb.frame _, fun h => by cases h⟩
    · exact trodAll_mk1 (shut_bool Tryd.underlying4 true)
    · exact trodAll_mk1 (Below.trod laidOut (by kernel_rfl) (of_decide_eq_true (by kernel_rfl)) h0 hb hlt0)
  have h0k := h0
  obtain ⟨fuel, hf⟩ := h0k
  have cu8 : Tryd.prog.cellsOf 5 = 1 := by kernel_rfl
  have bu8 : Tryd.prog.bytesOf 5 = 1 := by kernel_rfl
  rcases open_ints Tryd.underlying22 Tryd.underlying5 cu8 hf with ⟨hcs, hx⟩ | ⟨a, len', cap', zs, hcs, _, hl, hm, hz, hx, hcell, hwz⟩
  · simp [Value.cells] at hcs
    obtain ⟨rfl, rfl, rfl⟩ := hcs
    exact (walk none 0 0 W (by omega) (fun k hk => absurd hk (by omega)) hpow).mono fun e W' ⟨he, hb⟩ => ⟨_, he, fin W' hb⟩
  · simp [Value.cells] at hcs
    obtain ⟨rfl, rfl, rfl⟩ := hcs
    simp only [Prod.mk.injEq] at hx
    obtain ⟨rfl, rfl⟩ := hx
    simp only [if_true] at hz
    have hreach : len0 ≤ 140737488355328 := by
      have := sized_slice hsz (j := 0) (t := 22) (e := 5) rfl rfl Tryd.underlying22
      rw [bu8] at this
      simp only [lits, List.length_map, List.length_take, List.length_drop, reachBytes] at this
      omega
    refine (walk (some a) len0 cap0 W hreach ?_ hpow).mono fun e W' ⟨he, hb⟩ => ⟨_, he, fin W' hb⟩
    intro k hk
    have hc := hcell k (by omega)
    have hmem : zs.getD k 0 ∈ zs := by
      rw [List.getD_eq_getElem?_getD, List.getElem?_eq_getElem (by omega)]; exact List.getElem_mem _
    have hw := hwz _ hmem
    have h1 : IntKind.u8.min = 0 := rfl
    have h2 : IntKind.u8.max = 255 := rfl
    simp only [Lit.wf, Bool.and_eq_true, decide_eq_true_eq] at hw
    exact ⟨a, _, rfl, by rw [← addBlock a k]; exact World.block_lt_of_cell? W _ hc, by omega, by omega, hc⟩


theorem over : Rows.fnStringsRow.holds Tryd.pinned (OpenSpec.ofChange Rows.fnStringsSpec) :=
  OpenClaim.holds_of_wide 3 Tryd.f3 rfl rfl rfl rfl rfl rfl rfl ⟨rfl, rfl, rfl, rfl, rfl⟩ rfl rfl rfl rfl rfl (by kernel_rfl) Tryd.func3 (by kernel_rfl)
    (of_decide_eq_true (by kernel_rfl)) (by unfold Func.isWrapper; first | (rw [if_pos (by decide +kernel)]; kernel_rfl) | (rw [if_neg (by decide +kernel)]; exact ⟨rfl, rfl⟩))
    (fun os started H enc _ => lifted os started H enc)

/-- THE STATEMENT -/
theorem proved : Rows.FnStringsCardSaid :=
  Claim7.holds_tied_plain_at .later [] [.data, .data, .data] true (true, "3cfa70335d27c2298dbe141d7717382b1ef01643aa29c897c48f6ce02ccebb9b") false
    over (fun _ h => by cases h) (by kernel_rfl) (fun _ h => by cases h) fnStrings_row_tie rfl ⟨rfl, rfl⟩ (by kernel_rfl) rfl
    (fun f fn hf hfn => by
      obtain rfl : f = 3 := Option.some.inj ((show Tryd.prog.funcNamed "loop.example/g00897/laws.FnStrings" = some 3 by kernel_rfl).symm.trans hf) |>.symm
      obtain rfl : fn = Tryd.f3 := (Option.some.inj (Tryd.func3.symm.trans hfn)).symm
      exact ⟨by kernel_rfl, fun j t ht => by
        rw [Tryd.params3] at ht
        have hm : t ∈ [22] := by simpa using Array.mem_of_getElem? ht
        have hall : ([22].all fun u => !Tryd.prog.wantsStandIn u) = true := by kernel_rfl
        exact (show Tryd.prog.wantsStandIn t = false by simpa using List.all_eq_true.1 hall t hm)⟩)
    (by kernel_rfl)
end Go.Proofs.YtbfbkedndnekpaaDoor.fnStrings
