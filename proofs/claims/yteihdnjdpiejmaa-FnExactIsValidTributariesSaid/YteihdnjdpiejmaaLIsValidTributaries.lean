/- Proved: at every list of tributaries and every number of nodes impl.IsValidTributaries answers as spec.IsValidTributaries does and leaves its arguments alone (the law FnExactIsValidTributaries returns true). No condition. -/
import Derived.Test.YteihdnjdpiejmaaRows
import Derived.Test.YteihdnjdpiejmaaTriS
import Derived.Test.YteihdnjdpiejmaaTri
import Derived.Test.YteihdnjdpiejmaaArg
import Derived.WalkKit
import Derived.ProofKit
import Derived.OpenShut
import Derived.ShutString
import Derived.SizedLaws
import Derived.Carry
namespace Go.Proofs.Yteihdnjdpiejmaa.fnExactIsValidTributaries
open Go.ChangeShapes Go.WideShapes Go.ChangeAt Go.RowKit
open Go.ChangeMaps (open_string shut_string)

set_option maxRecDepth 100000 in
set_option maxHeartbeats 4000000 in
theorem walk (A0 : Option Addr) (n0 c0 : Nat) (qs : List Q3) (d : Int) (w : World) (hn0 : qs.length = n0) (hm0 : n0 ≤ maxLen) (hr0 : Rd w w.heap.size A0 (qs.flatMap Q3.cells)) (_hwf0 : ∀ q ∈ qs, q.wf) (_w1 : (Lit.int .i64 d).wf = true) :
    Calls Try.prog 3 #[.slice A0 n0 c0, .int .i64 d] w fun e w' => e = .returned (.bool true) ∧ Below w.heap.size w w' := by
  unfold maxLen at hm0
  clear _hwf0
  have HN0 := Lib.hid hn0; clear hn0
  have HR0 := Lib.hid hr0; clear hr0
  have hd := bounds_i64 _w1; clear _w1
  obtain ⟨r, hre⟩ : ∃ r, triB qs d = r := ⟨_, rfl⟩
  have HRV := Lib.hid hre; clear hre
  go_enter Try.func3, Try.ntmps3
  go_wp2_with fail
  refine (szTriS A0 n0 c0 1048576 w (by unfold maxLen; omega) (by omega) (by omega)).mono ?_
  rintro e w' ⟨v0, rfl, rfl, hv00, hv10, hv20⟩
  by_cases hneg0 : v0 < 0
  · go_wp2
    go_ret
    exact ⟨rfl, Below.refl _ _⟩
  have hp0 : 0 ≤ v0 := by omega
  have hsm0 : n0 ≤ 1048576 := by have := hv20 hp0; omega
  clear hneg0 hv20
  clear hm0
  have hB0 := Lib.hid (Below.refl w.heap.size w)
  go_wp2_with fail
  refine (toTriS A0 n0 c0 qs w HN0.out (HR0.out.moved hB0.out) hsm0).mono ?_
  rintro e w1 ⟨rfl, hos0, hb1⟩
  have hB1 := Lib.hid (hB0.out.trans (hb1.mono hB0.out.size))
  have Rs0 := Lib.hid (Rd.ofOwnK hos0)
  clear hos0
  clear hb1
  go_wp2_with fail
  refine (specTriV _ n0 n0 qs d w1 hd.1 hd.2 HN0.out hsm0 Rs0.out).mono ?_
  rw [HRV.out]
  rintro e w2 ⟨rfl, hb2⟩
  have hB2 := Lib.hid (hB1.out.trans (hb2.mono hB1.out.size))
  have M1 := Lib.hid (Rs0.out.moved hb2)
  clear hb2
  go_wp2_with fail
  refine (toTriS A0 n0 c0 qs w2 HN0.out (HR0.out.moved hB2.out) hsm0).mono ?_
  rintro e w3 ⟨rfl, hox0, hb3⟩
  have hB3 := Lib.hid (hB2.out.trans (hb3.mono hB2.out.size))
  have Rx0 := Lib.hid (Rd.ofOwnK hox0)
  clear hox0
  clear hb3
  go_wp2_with fail
  refine (implTri _ n0 n0 qs d w3 HN0.out hsm0 Rx0.out).mono ?_
  rw [HRV.out]
  rintro e w4 ⟨rfl, hb4⟩
  have hB4 := Lib.hid (hB3.out.trans (hb4.mono hB3.out.size))
  have M2 := Lib.hid (Rx0.out.moved hb4)
  clear hb4
  go_wp2_with fail
  refine (toTriS A0 n0 c0 qs w4 HN0.out (HR0.out.moved hB4.out) hsm0).mono ?_
  rintro e w5 ⟨rfl, hoe0, hb5⟩
  have hB5 := Lib.hid (hB4.out.trans (hb5.mono hB4.out.size))
  have M3 := Lib.hid (M2.out.moved hb5)
  have Re0 := Lib.hid (Rd.ofOwnK hoe0)
  clear hoe0
  clear hb5
  go_wp2_with fail
  refine (eqTriS _ _ n0 n0 n0 qs w5 HN0.out M3.out Re0.out hsm0).mono ?_
  rintro e w6 ⟨rfl, hb6⟩
  have hB6 := Lib.hid (hB5.out.trans (hb6.mono hB5.out.size))
  have M4 := Lib.hid (M3.out.moved hb6)
  clear hb6
  go_wp2
  go_ret
  exact ⟨rfl, hB6.out⟩


theorem own : ownKnob Try.prog.godebug = none := by kernel_rfl
theorem laidOut : laidOutB Try.prog = true := by kernel_rfl
set_option maxRecDepth 100000 in
theorem lifted (os : Os) (started : os.Started) (H : Type) (enc : TypeId × Value → H) :
    ReturnsInHanded {} Try.checked os 3 .any (Rows.fnExactIsValidTributariesSpec.pre6 enc Try.prog Try.f3 Rows.fnExactIsValidTributariesRow.domain false) (Rows.fnExactIsValidTributariesSpec.post enc Try.prog Try.f3 false true false false) := by
  refine returnsInHanded_of_change_sized (C := Try.checked) own started (by kernel_rfl) Try.func3
    (ChangeSpec.witness6 (enc := enc) (C := Try.checked) false ⟨#[], #[.slice none 0 0, .int .i64 0], []⟩ 8 (by kernel_rfl) (by kernel_rfl) (by kernel_rfl) (by kernel_rfl)) ?_
  intro W base args ds gs before hval0 hW _ hsz0 _
  clear hsz0
  have hval : ∀ (j : Nat) t v, Try.f3.params[j]? = some t → args[j]? = some v → Value.okWide Try.prog W .any base t v := hval0
  have hW' := hW
  obtain ⟨p, q, hA0, hV, rfl, _, _⟩ := hW
  have hA : DataW.TrodAll enc Try.prog W 0 (fun _ => true) true Try.f3.params.toList args.toList ds p := hA0
  rw [Try.params3] at hA hval
  obtain ⟨v0, vs0, d0, ds0, p0, q0, hargs, rfl, rfl, h0, r0⟩ := trodAll_cons hA
  obtain ⟨v1, vs1, d1, ds1, p1, q1, rfl, rfl, rfl, h1, r1⟩ := trodAll_cons r0
  obtain ⟨rfl, rfl, rfl⟩ := trodAll_nil r1
  obtain rfl : args = #[v0, v1] := by cases args; simp_all
  obtain ⟨rfl, rfl⟩ := trodVars_none hV
  simp only [List.append_nil] at hW'
  have hlt0 : ∀ x ∈ p0, x.block < W.heap.size := fun x hx => by simpa using hW'.lt x (by simp [hx])
  have hlt1 : ∀ x ∈ p1, x.block < W.heap.size := fun x hx => by simpa using hW'.lt x (by simp [hx])
  have fin : ∀ W' : World, Below W.heap.size W W' → Rows.fnExactIsValidTributariesSpec.post enc Try.checked.prog Try.f3 false true false false W #[v0, v1] (.bool true) W' := by
    intro W' hb
    refine ⟨_, _, _, [] ++ [], (p0 ++ (p1 ++ [])), [], hW', ?_, ?_, rfl, hb.frame _, fun h => by cases h⟩
    · exact trodAll_mk1 (shut_bool Try.underlying4 true)
    · exact trodAll_cons_mk (Below.trod laidOut (by kernel_rfl) (of_decide_eq_true (by kernel_rfl)) h0 hb hlt0) (trodAll_cons_mk (Below.trod laidOut (by kernel_rfl) (of_decide_eq_true (by kernel_rfl)) h1 hb hlt1) (trodAll_mk0))
  clear hW' hV hA0
  obtain ⟨b0, len0, cap0, rfl⟩ := okWide_slice Try.underlying22 (hval 0 22 v0 rfl rfl)
  obtain ⟨fuel0, hf0⟩ := h0
  obtain ⟨A0, n0, c0, z0, e0, ha0, hb0, hc0, hd0⟩ := rd_q3s Try.underlying22 Try.underlying105 (by kernel_rfl) (by kernel_rfl) rfl (hint_of Try.underlying3 (by decide +kernel)) hf0
  simp only [Value.cells, List.cons.injEq, Value.slice.injEq, and_true] at e0
  obtain ⟨rfl, rfl, rfl⟩ := e0
  obtain ⟨a1, rfl, _, _, w1⟩ := open_int Try.underlying3 (hval 1 3 v1 rfl rfl) h1
  exact (walk b0 len0 cap0 z0 a1 W ha0 hb0 hc0 hd0 w1).mono fun e W' ⟨he, hb⟩ => ⟨_, he, fin W' hb⟩

theorem over : Rows.fnExactIsValidTributariesRow.holds Try.pinned (OpenSpec.ofChange Rows.fnExactIsValidTributariesSpec) :=
  OpenClaim.holds_of_wide 3 Try.f3 rfl rfl rfl rfl rfl rfl rfl ⟨rfl, rfl, rfl, rfl, rfl⟩ rfl rfl rfl rfl rfl (by kernel_rfl) Try.func3 (by kernel_rfl)
    (of_decide_eq_true (by kernel_rfl)) (by unfold Func.isWrapper; first | (rw [if_pos (by decide +kernel)]; kernel_rfl) | (rw [if_neg (by decide +kernel)]; exact ⟨rfl, rfl⟩))
    (fun os started H enc _ => lifted os started H enc)

/-- THE STATEMENT -/
theorem proved : Rows.FnExactIsValidTributariesSaid :=
  over
end Go.Proofs.Yteihdnjdpiejmaa.fnExactIsValidTributaries
