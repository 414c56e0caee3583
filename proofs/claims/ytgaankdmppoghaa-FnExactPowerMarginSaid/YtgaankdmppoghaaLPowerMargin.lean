/- Proved: at every argument impl.PowerMargin answers as spec.PowerMargin does and leaves its arguments alone (the law FnExactPowerMargin returns true). No condition. -/
import Derived.Test.YtgaankdmppoghaaRows
import Derived.Test.YtgaankdmppoghaaLevD
import Derived.Test.YtgaankdmppoghaaArg
import Derived.WalkKit
import Derived.ProofKit
import Derived.OpenShut
import Derived.ShutString
import Derived.SizedLaws
import Derived.Carry
namespace Go.Proofs.Ytgaankdmppoghaa.fnExactPowerMargin
open Go.ChangeShapes Go.WideShapes Go.ChangeAt Go.RowKit
open Go.ChangeMaps (open_string shut_string)

set_option maxRecDepth 100000 in
set_option maxHeartbeats 8000000 in
theorem walk (A0 : Option Addr) (n0 c0 : Nat) (qs : List Q3) (A1 : Option Addr) (n1 c1 : Nat) (am : List Q4) (l : Int) (d : Int) (w : World) (hn0 : qs.length = n0) (hm0 : n0 ≤ maxLen) (hr0 : Rd w w.heap.size A0 (qs.flatMap Q3.cells)) (hwf0 : ∀ q ∈ qs, q.wf) (hn1 : am.length = n1) (hm1 : n1 ≤ maxLen) (hr1 : Rd w w.heap.size A1 (am.flatMap Q4.cells)) (hwf1 : ∀ q ∈ am, q.wf) (_w2 : (Lit.int .i64 l).wf = true) (_w3 : (Lit.int .i64 d).wf = true) :
    Calls Try.prog 7 #[.slice A0 n0 c0, .slice A1 n1 c1, .int .i64 l, .int .i64 d] w fun e w' => e = .returned (.bool true) ∧ Below w.heap.size w w' := by
  unfold maxLen at hm0
  unfold maxLen at hm1
  have HWF0 := Lib.hid hwf0; clear hwf0
  have HWF1 := Lib.hid hwf1; clear hwf1
  have HN0 := Lib.hid hn0; clear hn0
  have HR0 := Lib.hid hr0; clear hr0
  have HN1 := Lib.hid hn1; clear hn1
  have HR1 := Lib.hid hr1; clear hr1
  have W2_ := Lib.hid _w2; clear _w2
  have W3_ := Lib.hid _w3; clear _w3
  obtain ⟨r0_, hr0_⟩ : ∃ r, marI qs am l d = r := ⟨_, rfl⟩
  have HE0 := Lib.hid hr0_; clear hr0_
  obtain ⟨r1_, hr1_⟩ : ∃ r, marB qs am l d = r := ⟨_, rfl⟩
  have HE1 := Lib.hid hr1_; clear hr1_
  go_enter Try.func7, Try.ntmps7
  go_wp2_with fail
  refine (szSpS A0 n0 c0 1048576 w (by unfold maxLen; omega) (by omega) (by omega)).mono ?_
  rintro e w' ⟨v0, rfl, rfl, hv00, hv10, hv20⟩
  by_cases hneg0 : v0 < 0
  · go_wp2
    go_ret
    exact ⟨rfl, Below.refl _ _⟩
  have hp0 : 0 ≤ v0 := by omega
  have hsm0 : n0 ≤ 1048576 := by have := hv20 hp0; omega
  clear hneg0 hv20
  go_wp2_with fail
  refine (szAmS A1 n1 c1 v0 w (by unfold maxLen; omega) (by omega) (by omega)).mono ?_
  rintro e w' ⟨v1, rfl, rfl, hv01, hv11, hv21⟩
  by_cases hneg1 : v1 < 0
  · go_wp2
    go_ret
    exact ⟨rfl, Below.refl _ _⟩
  have hp1 : 0 ≤ v1 := by omega
  have hsm1 : n1 ≤ 1048576 := by have := hv21 hp1; omega
  clear hneg1 hv21
  clear hm0
  clear hm1
  have hB0 := Lib.hid (Below.refl w.heap.size w)
  go_wp2_with fail
  refine (toSpS A0 n0 c0 qs w HN0.out (HR0.out.moved hB0.out) hsm0).mono ?_
  rintro e w1 ⟨rfl, hos0, hb1⟩
  have hB1 := Lib.hid (hB0.out.trans (hb1.mono hB0.out.size))
  have Z1_ : Hid (w.heap.size ≤ w1.heap.size) := Lib.hid hb1.size
  have M2_ := Lib.hid (Rd.ofOwnK hos0)
  clear hos0
  clear hb1
  go_wp2_with fail
  refine (toAmS A1 n1 c1 am w1 HN1.out (HR1.out.moved hB1.out) hsm1).mono ?_
  rintro e w2 ⟨rfl, hos1, hb2⟩
  have hB2 := Lib.hid (hB1.out.trans (hb2.mono hB1.out.size))
  have Z3_ : Hid (w1.heap.size ≤ w2.heap.size) := Lib.hid hb2.size
  have M4_ := Lib.hid (M2_.out.moved hb2)
  clear M2_
  have M5_ := Lib.hid (Rd.ofOwnK hos1)
  clear hos1
  clear hb2
  go_wp2_with fail
  refine (sMar _ n0 n0 _ n1 n1 qs am l d w2 W3_.out HN0.out hsm0 M4_.out HN1.out hsm1 M5_.out).mono ?_
  rw [HE0.out, HE1.out]
  rintro e w3 ⟨rfl, hb3⟩
  have hB3 := Lib.hid (hB2.out.trans (hb3.mono hB2.out.size))
  have Z6_ : Hid (w2.heap.size ≤ w3.heap.size) := Lib.hid hb3.size
  have M7_ := Lib.hid (M4_.out.moved hb3)
  clear M4_
  have M8_ := Lib.hid (M5_.out.moved hb3)
  clear M5_
  clear hb3
  go_wp2_with fail
  refine (toSpS A0 n0 c0 qs w3 HN0.out (HR0.out.moved hB3.out) hsm0).mono ?_
  rintro e w4 ⟨rfl, hox0, hb4⟩
  have hB4 := Lib.hid (hB3.out.trans (hb4.mono hB3.out.size))
  have Z9_ : Hid (w3.heap.size ≤ w4.heap.size) := Lib.hid hb4.size
  have M10_ := Lib.hid (Rd.ofOwnK hox0)
  clear hox0
  clear hb4
  go_wp2_with fail
  refine (toAmS A1 n1 c1 am w4 HN1.out (HR1.out.moved hB4.out) hsm1).mono ?_
  rintro e w5 ⟨rfl, hox1, hb5⟩
  have hB5 := Lib.hid (hB4.out.trans (hb5.mono hB4.out.size))
  have Z11_ : Hid (w4.heap.size ≤ w5.heap.size) := Lib.hid hb5.size
  have M12_ := Lib.hid (M10_.out.moved hb5)
  clear M10_
  have M13_ := Lib.hid (Rd.ofOwnK hox1)
  clear hox1
  clear hb5
  go_wp2_with fail
  refine (iMar _ n0 n0 _ n1 qs am l d w5 W3_.out HN0.out hsm0 M12_.out HN1.out hsm1 M13_.out).mono ?_
  rw [HE0.out, HE1.out]
  rintro e w6 ⟨rfl, hb6⟩
  have hB6 := Lib.hid (hB5.out.trans (hb6.mono hB5.out.size))
  have Z14_ : Hid (w5.heap.size ≤ w6.heap.size) := Lib.hid hb6.size
  have M15_ := Lib.hid (M12_.out.moved hb6)
  clear M12_
  have M16_ := Lib.hid (M13_.out.moved hb6)
  clear M13_
  clear hb6
  go_wp2_with fail
  refine (toSpS A0 n0 c0 qs w6 HN0.out (HR0.out.moved hB6.out) hsm0).mono ?_
  rintro e w7 ⟨rfl, hoe0, hb7⟩
  have hB7 := Lib.hid (hB6.out.trans (hb7.mono hB6.out.size))
  have Z17_ : Hid (w6.heap.size ≤ w7.heap.size) := Lib.hid hb7.size
  have M18_ := Lib.hid (M15_.out.moved hb7)
  clear M15_
  have M19_ := Lib.hid (M16_.out.moved hb7)
  clear M16_
  have M20_ := Lib.hid (Rd.ofOwnK hoe0)
  clear hoe0
  clear hb7
  go_wp2_with fail
  refine (eqSpS _ _ n0 n0 n0 qs w7 HN0.out M18_.out M20_.out hsm0).mono ?_
  rintro e w8 ⟨rfl, hb8⟩
  have hB8 := Lib.hid (hB7.out.trans (hb8.mono hB7.out.size))
  have Z21_ : Hid (w7.heap.size ≤ w8.heap.size) := Lib.hid hb8.size
  have M22_ := Lib.hid (M18_.out.moved hb8)
  clear M18_
  have M23_ := Lib.hid (M19_.out.moved hb8)
  clear M19_
  have M24_ := Lib.hid (M20_.out.moved hb8)
  clear M20_
  clear hb8
  go_wp2_with fail
  refine (toAmS A1 n1 c1 am w8 HN1.out (HR1.out.moved hB8.out) hsm1).mono ?_
  rintro e w9 ⟨rfl, hoe1, hb9⟩
  have hB9 := Lib.hid (hB8.out.trans (hb9.mono hB8.out.size))
  have Z25_ : Hid (w8.heap.size ≤ w9.heap.size) := Lib.hid hb9.size
  have M26_ := Lib.hid (M22_.out.moved hb9)
  clear M22_
  have M27_ := Lib.hid (M23_.out.moved hb9)
  clear M23_
  have M28_ := Lib.hid (Rd.ofOwnK hoe1)
  clear hoe1
  clear hb9
  go_wp2_with fail
  refine (eqAmS _ _ n1 n1 n1 am w9 HN1.out M27_.out M28_.out hsm1).mono ?_
  rintro e w10 ⟨rfl, hb10⟩
  have hB10 := Lib.hid (hB9.out.trans (hb10.mono hB9.out.size))
  have Z29_ : Hid (w9.heap.size ≤ w10.heap.size) := Lib.hid hb10.size
  have M30_ := Lib.hid (M26_.out.moved hb10)
  clear M26_
  have M31_ := Lib.hid (M27_.out.moved hb10)
  clear M27_
  have M32_ := Lib.hid (M28_.out.moved hb10)
  clear M28_
  clear hb10
  go_wp2
  go_ret
  exact ⟨rfl, hB10.out⟩


theorem own : ownKnob Try.prog.godebug = none := by kernel_rfl
theorem laidOut : laidOutB Try.prog = true := by kernel_rfl
set_option maxRecDepth 100000 in
theorem lifted (os : Os) (started : os.Started) (H : Type) (enc : TypeId × Value → H) :
    ReturnsInHanded {} Try.checked os 7 .any (Rows.fnExactPowerMarginSpec.pre6 enc Try.prog Try.f7 Rows.fnExactPowerMarginRow.domain false) (Rows.fnExactPowerMarginSpec.post enc Try.prog Try.f7 false true false false) := by
  refine returnsInHanded_of_change_sized (C := Try.checked) own started (by kernel_rfl) Try.func7
    (ChangeSpec.witness6 (enc := enc) (C := Try.checked) false ⟨#[], #[.slice none 0 0, .slice none 0 0, .int .i64 0, .int .i64 0], []⟩ 8 (by kernel_rfl) (by kernel_rfl) (by kernel_rfl) (by kernel_rfl)) ?_
  intro W base args ds gs before hval0 hW _ hsz0 _
  clear hsz0
  have hval : ∀ (j : Nat) t v, Try.f7.params[j]? = some t → args[j]? = some v → Value.okWide Try.prog W .any base t v := hval0
  have hW' := hW
  obtain ⟨p, q, hA0, hV, rfl, _, _⟩ := hW
  have hA : DataW.TrodAll enc Try.prog W 0 (fun _ => true) true Try.f7.params.toList args.toList ds p := hA0
  rw [Try.params7] at hA hval
  obtain ⟨v0, vs0, d0, ds0, p0, q0, hargs, rfl, rfl, h0, r0⟩ := trodAll_cons hA
  obtain ⟨v1, vs1, d1, ds1, p1, q1, rfl, rfl, rfl, h1, r1⟩ := trodAll_cons r0
  obtain ⟨v2, vs2, d2, ds2, p2, q2, rfl, rfl, rfl, h2, r2⟩ := trodAll_cons r1
  obtain ⟨v3, vs3, d3, ds3, p3, q3, rfl, rfl, rfl, h3, r3⟩ := trodAll_cons r2
  obtain ⟨rfl, rfl, rfl⟩ := trodAll_nil r3
  obtain rfl : args = #[v0, v1, v2, v3] := by cases args; simp_all
  obtain ⟨rfl, rfl⟩ := trodVars_none hV
  simp only [List.append_nil] at hW'
  have hlt0 : ∀ x ∈ p0, x.block < W.heap.size := fun x hx => by simpa using hW'.lt x (by simp [hx])
  have hlt1 : ∀ x ∈ p1, x.block < W.heap.size := fun x hx => by simpa using hW'.lt x (by simp [hx])
  have hlt2 : ∀ x ∈ p2, x.block < W.heap.size := fun x hx => by simpa using hW'.lt x (by simp [hx])
  have hlt3 : ∀ x ∈ p3, x.block < W.heap.size := fun x hx => by simpa using hW'.lt x (by simp [hx])
  have fin : ∀ W' : World, Below W.heap.size W W' → Rows.fnExactPowerMarginSpec.post enc Try.checked.prog Try.f7 false true false false W #[v0, v1, v2, v3] (.bool true) W' := by
    intro W' hb
    refine ⟨_, _, _, [] ++ [], (p0 ++ (p1 ++ (p2 ++ (p3 ++ [])))), [], hW', ?_, ?_, rfl, hb.frame _, fun h => by cases h⟩
    · exact trodAll_mk1 (shut_bool Try.underlying4 true)
    · exact trodAll_cons_mk (Below.trod laidOut (by kernel_rfl) (of_decide_eq_true (by kernel_rfl)) h0 hb hlt0) (trodAll_cons_mk (Below.trod laidOut (by kernel_rfl) (of_decide_eq_true (by kernel_rfl)) h1 hb hlt1) (trodAll_cons_mk (Below.trod laidOut (by kernel_rfl) (of_decide_eq_true (by kernel_rfl)) h2 hb hlt2) (trodAll_cons_mk (Below.trod laidOut (by kernel_rfl) (of_decide_eq_true (by kernel_rfl)) h3 hb hlt3) (trodAll_mk0))))
  clear hW' hV hA0
  obtain ⟨b0, len0, cap0, rfl⟩ := okWide_slice Try.underlying31 (hval 0 31 v0 rfl rfl)
  obtain ⟨fuel0, hf0⟩ := h0
  obtain ⟨A0, n0, c0, z0, e0, ha0, hb0, hc0, hd0⟩ := rd_q3s Try.underlying31 Try.underlying23 (by kernel_rfl) (by kernel_rfl) rfl (hint_of Try.underlying3 (by decide +kernel)) hf0
  simp only [Value.cells, List.cons.injEq, Value.slice.injEq, and_true] at e0
  obtain ⟨rfl, rfl, rfl⟩ := e0
  obtain ⟨b1, len1, cap1, rfl⟩ := okWide_slice Try.underlying32 (hval 1 32 v1 rfl rfl)
  obtain ⟨fuel1, hf1⟩ := h1
  obtain ⟨A1, n1, c1, z1, e1, ha1, hb1, hc1, hd1⟩ := rd_q4s Try.underlying32 Try.underlying54 (by kernel_rfl) (by kernel_rfl) rfl (hint_of Try.underlying3 (by decide +kernel)) hf1
  simp only [Value.cells, List.cons.injEq, Value.slice.injEq, and_true] at e1
  obtain ⟨rfl, rfl, rfl⟩ := e1
  obtain ⟨a2, rfl, _, _, w2⟩ := open_int Try.underlying3 (hval 2 3 v2 rfl rfl) h2
  obtain ⟨a3, rfl, _, _, w3⟩ := open_int Try.underlying3 (hval 3 3 v3 rfl rfl) h3
  exact (walk b0 len0 cap0 z0 b1 len1 cap1 z1 a2 a3 W ha0 hb0 hc0 hd0 ha1 hb1 hc1 hd1 w2 w3).mono fun e W' ⟨he, hb⟩ => ⟨_, he, fin W' hb⟩

theorem over : Rows.fnExactPowerMarginRow.holds Try.pinned (OpenSpec.ofChange Rows.fnExactPowerMarginSpec) :=
  OpenClaim.holds_of_wide 7 Try.f7 rfl rfl rfl rfl rfl rfl rfl ⟨rfl, rfl, rfl, rfl, rfl⟩ rfl rfl rfl rfl rfl (by kernel_rfl) Try.func7 (by kernel_rfl)
    (of_decide_eq_true (by kernel_rfl)) (by unfold Func.isWrapper; first | (rw [if_pos (by decide +kernel)]; kernel_rfl) | (rw [if_neg (by decide +kernel)]; exact ⟨rfl, rfl⟩))
    (fun os started H enc _ => lifted os started H enc)

/-- THE STATEMENT -/
theorem proved : Rows.FnExactPowerMarginSaid :=
  over
end Go.Proofs.Ytgaankdmppoghaa.fnExactPowerMargin
