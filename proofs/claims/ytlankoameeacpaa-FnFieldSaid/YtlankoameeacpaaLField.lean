/- Proved: whatever bytes the arguments are drawn from, products of symbols commute and distribute over sums, an inverse gives 1, and MultiplySymbols and InverseSymbol answer as the model (the law FnField returns true). No condition. -/
import Derived.Test.YtlankoameeacpaaRows
import Derived.Test.YtlankoameeacpaaFld
import Derived.Test.YtlankoameeacpaaArg
import Derived.WalkKit
import Derived.ProofKit
import Derived.OpenShut
import Derived.ShutString
import Derived.SizedLaws
import Derived.Carry
namespace Go.Proofs.Ytlankoameeacpaa.fnField
open Go.ChangeShapes Go.WideShapes Go.ChangeAt Go.RowKit
open Go.ChangeMaps (open_string shut_string)

set_option maxRecDepth 100000 in
set_option maxHeartbeats 4000000 in
theorem walk (A : Option Addr) (n c : Nat) (zs : List Int) (w : World) (hn : zs.length = n) (hm : n ≤ maxLen) (hr : Rd w w.heap.size A (zs.map (Value.int .u8))) (hwf : ∀ z ∈ zs, (Lit.int .u8 z).wf = true) :
    Calls Try.prog 3 #[.slice A n c] w fun e w' => e = .returned (.bool true) ∧ Below w.heap.size w w' := by
  have HR := Lib.hid (rdB_of hn hr hwf)
  have HV := Lib.hid (vBigM A n c w hm)
  clear hn hr hwf
  unfold maxLen at hm
  by_cases hbig : 65536 < (n : Int)
  · rw [decide_eq_true hbig] at HV
    go_enter Try.func3, Try.ntmps3
    go_wp2_with fail
    refine HV.out.mono ?_
    rintro e w' ⟨rfl, rfl⟩
    go_wp2
    go_ret
    exact ⟨rfl, Below.refl _ _⟩
  rw [decide_eq_false hbig] at HV
  have hn2 : n ≤ 65536 := by omega
  clear hbig hm
  go_enter Try.func3, Try.ntmps3
  go_wp2_with fail
  refine HV.out.mono ?_
  rintro e w' ⟨rfl, rfl⟩
  go_wp2_with fail
  refine (drawMul A n c w hn2 HR.out).mono ?_
  rintro e w1 ⟨a, b, rfl, a0, a1, b0, b1, hb1⟩
  have B1 := Lib.hid hb1; clear hb1
  have HC := Lib.hid (mulS_comm a b)
  have CAB := Lib.hid (fun W => iMulS a b W)
  have CBA := Lib.hid (fun W => iMulS b a W)
  have SAB := Lib.hid (fun W => sMulS a b W)
  have CIA := Lib.hid (fun W => iInvS a W)
  have SIA := Lib.hid (fun W => sInvS a W)
  rw [HC.out.1, HC.out.2] at CBA
  cases hok : mulB a b
  case false =>
    rw [mul_no hok, hok] at CAB CBA SAB
    clear hok HC
    go_wp2_with fail
    refine (CAB.out _).mono ?_
    rintro e w2 ⟨rfl, hb2⟩
    have B2 := Lib.hid (B1.out.trans (hb2.mono B1.out.size)); clear hb2
    go_wp2_with fail
    refine (CBA.out _).mono ?_
    rintro e w3 ⟨rfl, hb3⟩
    have B3 := Lib.hid (B2.out.trans (hb3.mono B2.out.size)); clear hb3
    go_wp2_with fail
    refine (SAB.out _).mono ?_
    rintro e w4 ⟨rfl, hb4⟩
    have B4 := Lib.hid (B3.out.trans (hb4.mono B3.out.size)); clear hb4
    go_wp2_with fail
    refine (vAt_any A n c 5 w4 (by omega) (by omega) (by omega) ((HR.out.grown B4.out).more B4.out.size)).mono ?_
    rintro e w' ⟨v, rfl, v0, v1, rfl⟩
    cases hi : invB a
    case false =>
      rw [inv_no hi, hi] at CIA SIA
      clear hi
      go_wp2_with fail
      refine (CIA.out _).mono ?_
      rintro e w5 ⟨rfl, hb5⟩
      have B5 := Lib.hid (B4.out.trans (hb5.mono B4.out.size)); clear hb5
      go_wp2_with fail
      refine (SIA.out _).mono ?_
      rintro e w6 ⟨rfl, hb6⟩
      have B6 := Lib.hid (B5.out.trans (hb6.mono B5.out.size)); clear hb6
      go_wp2
      go_ret
      exact ⟨rfl, B6.out⟩
    case true =>
      have CAI := Lib.hid (fun W => iMulS a (invI a) W)
      rw [(inv_facts hi).1, (inv_facts hi).2] at CAI
      rw [hi] at CIA SIA
      obtain ⟨r, hr⟩ : ∃ r, invI a = r := ⟨_, rfl⟩
      rw [hr] at CIA SIA CAI
      clear hi hr
      go_wp2_with fail
      refine (CIA.out _).mono ?_
      rintro e w5 ⟨rfl, hb5⟩
      have B5 := Lib.hid (B4.out.trans (hb5.mono B4.out.size)); clear hb5
      go_wp2_with fail
      refine (SIA.out _).mono ?_
      rintro e w6 ⟨rfl, hb6⟩
      have B6 := Lib.hid (B5.out.trans (hb6.mono B5.out.size)); clear hb6
      go_wp2_with fail
      refine (CAI.out _).mono ?_
      rintro e w7 ⟨rfl, hb7⟩
      have B7 := Lib.hid (B6.out.trans (hb7.mono B6.out.size)); clear hb7
      go_wp2
      go_ret
      exact ⟨rfl, B7.out⟩
  case true =>
    have hh := hok
    unfold mulB at hh
    simp only [Bool.and_eq_true] at hh
    obtain ⟨x, hxa, hx⟩ := symB_nat hh.1
    obtain ⟨y, rfl, hy⟩ := symB_nat hh.2
    have HM : Hid (mulI a y = (mulN x y : Nat)) := Lib.hid (by rw [hxa]; exact (mul_yes hx hy).2)
    have HD := Lib.hid (mul_xor_ x hx y hy)
    have HS := Lib.hid (fun z (hz : z < 16) => xor_i64_ y z (by omega) (by omega))
    have HL := Lib.hid (fun z (hz : z < 16) => xor_lt16 hy hz)
    have M1 := Lib.hid (mulN_lt x hx y hy)
    have CZ : Hid (∀ z : Nat, z < 16 → ∀ W, Calls Try.prog 11 #[.int .i64 a, .int .i64 z] W (RetV (.tuple #[.int .i64 (mulN x z : Nat), .bool true]) W)) := Lib.hid fun z hz W => by
      have := iMulS a z W
      rw [hxa, (mul_yes hx hz).1, (mul_yes hx hz).2] at this
      rw [hxa]; exact this
    have M2 := Lib.hid (fun z (hz : z < 16) => mulN_lt x hx z hz)
    rw [HM.out, hok] at CAB CBA SAB
    obtain ⟨m, hm⟩ : ∃ m, mulN x y = m := ⟨_, rfl⟩
    rw [hm] at CAB CBA SAB HD M1
    clear hok hh HC HM hm hxa hy
    go_wp2_with fail
    refine (CAB.out _).mono ?_
    rintro e w2 ⟨rfl, hb2⟩
    have B2 := Lib.hid (B1.out.trans (hb2.mono B1.out.size)); clear hb2
    go_wp2_with fail
    refine (CBA.out _).mono ?_
    rintro e w3 ⟨rfl, hb3⟩
    have B3 := Lib.hid (B2.out.trans (hb3.mono B2.out.size)); clear hb3
    go_wp2_with fail
    refine (SAB.out _).mono ?_
    rintro e w4 ⟨rfl, hb4⟩
    have B4 := Lib.hid (B3.out.trans (hb4.mono B3.out.size)); clear hb4
    go_wp2_with fail
    refine (vAt_any A n c 5 w4 (by omega) (by omega) (by omega) ((HR.out.grown B4.out).more B4.out.size)).mono ?_
    rintro e w' ⟨v, rfl, v0, v1, rfl⟩
    go_wp2_with fail
    have hv : v % 16 = ((v % 16).toNat : Nat) := by omega
    have hz : (v % 16).toNat < 16 := by omega
    generalize (v % 16).toNat = z at hv hz
    rw [hv]
    clear hv v0 v1
    have CA := Lib.hid (CZ.out z hz)
    have HX := Lib.hid (HS.out z hz)
    have CB := Lib.hid (CZ.out _ (HL.out z hz))
    rw [HD.out z hz] at CB
    have M3 := Lib.hid (M2.out z hz)
    clear HD HS HL M2 CZ
    obtain ⟨m2, hm2⟩ : ∃ m, mulN x z = m := ⟨_, rfl⟩
    rw [hm2] at CA CB M3
    have HQ : Hid (bits .xor .i64 (m : Int) (m2 : Int) = ((m ^^^ m2 : Nat) : Int)) := Lib.hid (xor_i64_ m m2 (by have := M1.out; omega) (by have := M3.out; omega))
    clear hm2 M1 M3 hz hx
    refine (CA.out _).mono ?_
    rintro e w5 ⟨rfl, hb5⟩
    have B5 := Lib.hid (B4.out.trans (hb5.mono B4.out.size)); clear hb5
    go_wp2_with fail
    rw [HX.out]
    refine (CB.out _).mono ?_
    rintro e w6 ⟨rfl, hb6⟩
    have B6 := Lib.hid (B5.out.trans (hb6.mono B5.out.size)); clear hb6
    have q1 : (((m ^^^ m2 : Nat) : Int) != bits .xor .i64 (m : Int) (m2 : Int)) = false := by rw [HQ.out]; simp
    clear HX CA CB CAB CBA SAB
    cases hi : invB a
    case false =>
      rw [inv_no hi, hi] at CIA SIA
      clear hi
      go_wp2_with fail
      refine (CIA.out _).mono ?_
      rintro e w7 ⟨rfl, hb7⟩
      have B7 := Lib.hid (B6.out.trans (hb7.mono B6.out.size)); clear hb7
      go_wp2_with fail
      refine (SIA.out _).mono ?_
      rintro e w8 ⟨rfl, hb8⟩
      have B8 := Lib.hid (B7.out.trans (hb8.mono B7.out.size)); clear hb8
      go_wp2
      go_ret
      exact ⟨rfl, B8.out⟩
    case true =>
      have CAI := Lib.hid (fun W => iMulS a (invI a) W)
      rw [(inv_facts hi).1, (inv_facts hi).2] at CAI
      rw [hi] at CIA SIA
      obtain ⟨r, hr⟩ : ∃ r, invI a = r := ⟨_, rfl⟩
      rw [hr] at CIA SIA CAI
      clear hi hr
      go_wp2_with fail
      refine (CIA.out _).mono ?_
      rintro e w7 ⟨rfl, hb7⟩
      have B7 := Lib.hid (B6.out.trans (hb7.mono B6.out.size)); clear hb7
      go_wp2_with fail
      refine (SIA.out _).mono ?_
      rintro e w8 ⟨rfl, hb8⟩
      have B8 := Lib.hid (B7.out.trans (hb8.mono B7.out.size)); clear hb8
      go_wp2_with fail
      refine (CAI.out _).mono ?_
      rintro e w9 ⟨rfl, hb9⟩
      have B9 := Lib.hid (B8.out.trans (hb9.mono B8.out.size)); clear hb9
      go_wp2
      go_ret
      exact ⟨rfl, B9.out⟩


theorem own : ownKnob Try.prog.godebug = none := by kernel_rfl
theorem laidOut : laidOutB Try.prog = true := by kernel_rfl
set_option maxRecDepth 100000 in
theorem lifted (os : Os) (started : os.Started) (H : Type) (enc : TypeId × Value → H) :
    ReturnsInHanded {} Try.checked os 3 .any (Rows.fnFieldSpec.pre6 enc Try.prog Try.f3 Rows.fnFieldRow.domain false) (Rows.fnFieldSpec.post enc Try.prog Try.f3 false true false false) := by
  refine returnsInHanded_of_change_sized (C := Try.checked) own started (by kernel_rfl) Try.func3
    (ChangeSpec.witness6 (enc := enc) (C := Try.checked) false ⟨#[], #[.slice none 0 0], []⟩ 8 (by kernel_rfl) (by kernel_rfl) (by kernel_rfl) (by kernel_rfl)) ?_
  intro W base args ds gs before hval0 hW _ hsz0 _
  clear hsz0
  have hval : ∀ (j : Nat) t v, Try.f3.params[j]? = some t → args[j]? = some v → Value.okWide Try.prog W .any base t v := hval0
  have hW' := hW
  obtain ⟨p, q, hA0, hV, rfl, _, _⟩ := hW
  have hA : DataW.TrodAll enc Try.prog W 0 (fun _ => true) true Try.f3.params.toList args.toList ds p := hA0
  rw [Try.params3] at hA hval
  obtain ⟨v0, vs0, d0, ds0, p0, q0, hargs, rfl, rfl, h0, r0⟩ := trodAll_cons hA
  obtain ⟨rfl, rfl, rfl⟩ := trodAll_nil r0
  obtain rfl : args = #[v0] := by cases args; simp_all
  obtain ⟨rfl, rfl⟩ := trodVars_none hV
  simp only [List.append_nil] at hW'
  have hlt0 : ∀ x ∈ p0, x.block < W.heap.size := fun x hx => by simpa using hW'.lt x (by simp [hx])
  have fin : ∀ W' : World, Below W.heap.size W W' → Rows.fnFieldSpec.post enc Try.checked.prog Try.f3 false true false false W #[v0] (.bool true) W' := by
    intro W' hb
    refine ⟨_, _, _, [] ++ [], (p0 ++ []), [], hW', ?_, ?_, rfl, hb.frame _, fun h => by cases h⟩
    · exact trodAll_mk1 (shut_bool Try.underlying4 true)
    · exact trodAll_cons_mk (Below.trod laidOut (by kernel_rfl) (of_decide_eq_true (by kernel_rfl)) h0 hb hlt0) (trodAll_mk0)
  clear hW' hV hA0
  obtain ⟨b0, len0, cap0, rfl⟩ := okWide_slice Try.underlying22 (hval 0 22 v0 rfl rfl)
  obtain ⟨fuel0, hf0⟩ := h0
  obtain ⟨A0, n0, c0, z0, e0, ha0, hb0, hc0, hd0⟩ := rd_ints Try.underlying22 Try.underlying5 (by kernel_rfl) hf0
  simp only [Value.cells, List.cons.injEq, Value.slice.injEq, and_true] at e0
  obtain ⟨rfl, rfl, rfl⟩ := e0
  exact (walk b0 len0 cap0 z0 W ha0 hb0 hc0 hd0).mono fun e W' ⟨he, hb⟩ => ⟨_, he, fin W' hb⟩

theorem over : Rows.fnFieldRow.holds Try.pinned (OpenSpec.ofChange Rows.fnFieldSpec) :=
  OpenClaim.holds_of_wide 3 Try.f3 rfl rfl rfl rfl rfl rfl rfl ⟨rfl, rfl, rfl, rfl, rfl⟩ rfl rfl rfl rfl rfl (by kernel_rfl) Try.func3 (by kernel_rfl)
    (of_decide_eq_true (by kernel_rfl)) (by unfold Func.isWrapper; first | (rw [if_pos (by decide +kernel)]; kernel_rfl) | (rw [if_neg (by decide +kernel)]; exact ⟨rfl, rfl⟩))
    (fun os started H enc _ => lifted os started H enc)

/-- THE STATEMENT -/
theorem proved : Rows.FnFieldSaid :=
  over
end Go.Proofs.Ytlankoameeacpaa.fnField
