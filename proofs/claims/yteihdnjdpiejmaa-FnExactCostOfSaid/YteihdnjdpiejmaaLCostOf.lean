/- Proved: at every bill and all prices impl.CostOf answers as spec.CostOf does and leaves its arguments alone (the law FnExactCostOf returns true). No condition. -/
import Derived.Test.YteihdnjdpiejmaaRows
import Derived.Test.YteihdnjdpiejmaaItS
import Derived.Test.YteihdnjdpiejmaaCostI
import Derived.Test.YteihdnjdpiejmaaArg
import Derived.WalkKit
import Derived.ProofKit
import Derived.OpenShut
import Derived.ShutString
import Derived.SizedLaws
import Derived.Carry
namespace Go.Proofs.Yteihdnjdpiejmaa.fnExactCostOf
open Go.ChangeShapes Go.WideShapes Go.ChangeAt Go.RowKit
open Go.ChangeMaps (open_string shut_string)

set_option maxRecDepth 100000 in
set_option maxHeartbeats 4000000 in
theorem walk (A0 : Option Addr) (n0 c0 : Nat) (qs : List Q3) (A1 : Option Addr) (n1 c1 : Nat) (ps : List Int) (w : World) (hn0 : qs.length = n0) (hm0 : n0 ≤ maxLen) (hr0 : Rd w w.heap.size A0 (qs.flatMap Q3.cells)) (_hwf0 : ∀ q ∈ qs, q.wf) (hn1 : ps.length = n1) (hm1 : n1 ≤ maxLen) (hr1 : Rd w w.heap.size A1 (ps.map (Value.int .i64))) (_hwf1 : ∀ z ∈ ps, (Lit.int .i64 z).wf = true) :
    Calls Try.prog 4 #[.slice A0 n0 c0, .slice A1 n1 c1] w fun e w' => e = .returned (.bool true) ∧ Below w.heap.size w w' := by
  unfold maxLen at hm0
  clear _hwf0
  unfold maxLen at hm1
  clear _hwf1
  have HN0 := Lib.hid hn0; clear hn0
  have HR0 := Lib.hid hr0; clear hr0
  have HN1 := Lib.hid hn1; clear hn1
  have HR1 := Lib.hid hr1; clear hr1
  obtain ⟨r1, hr1e⟩ : ∃ r, cosI qs ps = r := ⟨_, rfl⟩
  obtain ⟨r2, hr2e⟩ : ∃ r, pq (cosP qs ps) = r := ⟨_, rfl⟩
  have HRV : Hid (cosR qs ps = .tuple #[.int .i64 r1, .bool r2]) := Lib.hid (by unfold cosR; rw [hr1e, hr2e])
  clear hr1e hr2e
  by_cases hsm1 : n1 ≤ 1048576
  case neg =>
    have q1 : 1048576 < (n1 : Int) := by omega
    clear hsm1
    go_enter Try.func4, Try.ntmps4
    go_wp2
    go_ret
    exact ⟨rfl, Below.refl _ _⟩
  case pos =>
  have q1 : (n1 : Int) ≤ 1048576 := by omega
  go_enter Try.func4, Try.ntmps4
  go_wp2_with fail
  refine (szItemS A0 n0 c0 1048576 w (by unfold maxLen; omega) (by omega) (by omega)).mono ?_
  rintro e w' ⟨v0, rfl, rfl, hv00, hv10, hv20⟩
  by_cases hneg0 : v0 < 0
  · go_wp2
    go_ret
    exact ⟨rfl, Below.refl _ _⟩
  have hp0 : 0 ≤ v0 := by omega
  have hsm0 : n0 ≤ 1048576 := by have := hv20 hp0; omega
  clear hneg0 hv20
  clear hm0
  clear hm1
  have hB0 := Lib.hid (Below.refl w.heap.size w)
  go_wp2_with fail
  refine (toItemS A0 n0 c0 qs w HN0.out (HR0.out.moved hB0.out) hsm0).mono ?_
  rintro e w1 ⟨rfl, hos0, hb1⟩
  have hB1 := Lib.hid (hB0.out.trans (hb1.mono hB0.out.size))
  have Rs0 := Lib.hid (Rd.ofOwnK hos0)
  clear hos0
  clear hb1
  go_wp2_with fail
  refine (toIntS A1 n1 c1 ps w1 HN1.out (HR1.out.moved hB1.out) hsm1).mono ?_
  rintro e w2 ⟨gs1, hgs1, rfl, hos1, hb2⟩
  have hB2 := Lib.hid (hB1.out.trans (hb2.mono hB1.out.size))
  have M1 := Lib.hid (Rs0.out.moved hb2)
  have Rs1 := Lib.hid (Rd.ofOwnK hos1)
  clear hgs1 hos1
  clear hb2
  go_wp2_with fail
  refine (specCost _ n0 n0 qs _ n1 n1 ps w2 HN0.out hsm0 M1.out HN1.out hsm1 Rs1.out).mono ?_
  rw [HRV.out]
  rintro e w3 ⟨rfl, hb3⟩
  have hB3 := Lib.hid (hB2.out.trans (hb3.mono hB2.out.size))
  have M2 := Lib.hid (M1.out.moved hb3)
  have M3 := Lib.hid (Rs1.out.moved hb3)
  clear hb3
  go_wp2_with fail
  refine (toItemS A0 n0 c0 qs w3 HN0.out (HR0.out.moved hB3.out) hsm0).mono ?_
  rintro e w4 ⟨rfl, hox0, hb4⟩
  have hB4 := Lib.hid (hB3.out.trans (hb4.mono hB3.out.size))
  have Rx0 := Lib.hid (Rd.ofOwnK hox0)
  clear hox0
  clear hb4
  go_wp2_with fail
  refine (toIntS A1 n1 c1 ps w4 HN1.out (HR1.out.moved hB4.out) hsm1).mono ?_
  rintro e w5 ⟨gx1, hgx1, rfl, hox1, hb5⟩
  have hB5 := Lib.hid (hB4.out.trans (hb5.mono hB4.out.size))
  have M4 := Lib.hid (Rx0.out.moved hb5)
  have Rx1 := Lib.hid (Rd.ofOwnK hox1)
  clear hgx1 hox1
  clear hb5
  go_wp2_with fail
  refine (implCost _ n0 n0 qs _ n1 n1 ps w5 HN0.out hsm0 M4.out HN1.out hsm1 Rx1.out).mono ?_
  rw [HRV.out]
  rintro e w6 ⟨rfl, hb6⟩
  have hB6 := Lib.hid (hB5.out.trans (hb6.mono hB5.out.size))
  have M5 := Lib.hid (M4.out.moved hb6)
  have M6 := Lib.hid (Rx1.out.moved hb6)
  clear hb6
  go_wp2_with fail
  refine (toItemS A0 n0 c0 qs w6 HN0.out (HR0.out.moved hB6.out) hsm0).mono ?_
  rintro e w7 ⟨rfl, hoe0, hb7⟩
  have hB7 := Lib.hid (hB6.out.trans (hb7.mono hB6.out.size))
  have M7 := Lib.hid (M5.out.moved hb7)
  have M8 := Lib.hid (M6.out.moved hb7)
  have Re0 := Lib.hid (Rd.ofOwnK hoe0)
  clear hoe0
  clear hb7
  go_wp2_with fail
  refine (eqItemS _ _ n0 n0 n0 qs w7 HN0.out M7.out Re0.out hsm0).mono ?_
  rintro e w8 ⟨rfl, hb8⟩
  have hB8 := Lib.hid (hB7.out.trans (hb8.mono hB7.out.size))
  have M9 := Lib.hid (M7.out.moved hb8)
  have M10 := Lib.hid (M8.out.moved hb8)
  clear hb8
  go_wp2_with fail
  refine (toIntS A1 n1 c1 ps w8 HN1.out (HR1.out.moved hB8.out) hsm1).mono ?_
  rintro e w9 ⟨ge1, hge1, rfl, hoe1, hb9⟩
  have hB9 := Lib.hid (hB8.out.trans (hb9.mono hB8.out.size))
  have M11 := Lib.hid (M9.out.moved hb9)
  have M12 := Lib.hid (M10.out.moved hb9)
  have Re1 := Lib.hid (Rd.ofOwnK hoe1)
  clear hge1 hoe1
  clear hb9
  go_wp2_with fail
  refine (eqIntS _ _ n1 n1 n1 ps w9 HN1.out M12.out Re1.out hsm1).mono ?_
  rintro e w10 ⟨rfl, hb10⟩
  have hB10 := Lib.hid (hB9.out.trans (hb10.mono hB9.out.size))
  have M13 := Lib.hid (M11.out.moved hb10)
  have M14 := Lib.hid (M12.out.moved hb10)
  clear hb10
  go_wp2
  go_ret
  exact ⟨rfl, hB10.out⟩


theorem own : ownKnob Try.prog.godebug = none := by kernel_rfl
theorem laidOut : laidOutB Try.prog = true := by kernel_rfl
set_option maxRecDepth 100000 in
theorem lifted (os : Os) (started : os.Started) (H : Type) (enc : TypeId × Value → H) :
    ReturnsInHanded {} Try.checked os 4 .any (Rows.fnExactCostOfSpec.pre6 enc Try.prog Try.f4 Rows.fnExactCostOfRow.domain false) (Rows.fnExactCostOfSpec.post enc Try.prog Try.f4 false true false false) := by
  refine returnsInHanded_of_change_sized (C := Try.checked) own started (by kernel_rfl) Try.func4
    (ChangeSpec.witness6 (enc := enc) (C := Try.checked) false ⟨#[], #[.slice none 0 0, .slice none 0 0], []⟩ 8 (by kernel_rfl) (by kernel_rfl) (by kernel_rfl) (by kernel_rfl)) ?_
  intro W base args ds gs before hval0 hW _ hsz0 _
  clear hsz0
  have hval : ∀ (j : Nat) t v, Try.f4.params[j]? = some t → args[j]? = some v → Value.okWide Try.prog W .any base t v := hval0
  have hW' := hW
  obtain ⟨p, q, hA0, hV, rfl, _, _⟩ := hW
  have hA : DataW.TrodAll enc Try.prog W 0 (fun _ => true) true Try.f4.params.toList args.toList ds p := hA0
  rw [Try.params4] at hA hval
  obtain ⟨v0, vs0, d0, ds0, p0, q0, hargs, rfl, rfl, h0, r0⟩ := trodAll_cons hA
  obtain ⟨v1, vs1, d1, ds1, p1, q1, rfl, rfl, rfl, h1, r1⟩ := trodAll_cons r0
  obtain ⟨rfl, rfl, rfl⟩ := trodAll_nil r1
  obtain rfl : args = #[v0, v1] := by cases args; simp_all
  obtain ⟨rfl, rfl⟩ := trodVars_none hV
  simp only [List.append_nil] at hW'
  have hlt0 : ∀ x ∈ p0, x.block < W.heap.size := fun x hx => by simpa using hW'.lt x (by simp [hx])
  have hlt1 : ∀ x ∈ p1, x.block < W.heap.size := fun x hx => by simpa using hW'.lt x (by simp [hx])
  have fin : ∀ W' : World, Below W.heap.size W W' → Rows.fnExactCostOfSpec.post enc Try.checked.prog Try.f4 false true false false W #[v0, v1] (.bool true) W' := by
    intro W' hb
    refine ⟨_, _, _, [] ++ [], (p0 ++ (p1 ++ [])), [], hW', ?_, ?_, rfl, hb.frame _, fun h => by cases h⟩
    · exact trodAll_mk1 (shut_bool Try.underlying4 true)
    · exact trodAll_cons_mk (Below.trod laidOut (by kernel_rfl) (of_decide_eq_true (by kernel_rfl)) h0 hb hlt0) (trodAll_cons_mk (Below.trod laidOut (by kernel_rfl) (of_decide_eq_true (by kernel_rfl)) h1 hb hlt1) (trodAll_mk0))
  clear hW' hV hA0
  obtain ⟨b0, len0, cap0, rfl⟩ := okWide_slice Try.underlying29 (hval 0 29 v0 rfl rfl)
  obtain ⟨fuel0, hf0⟩ := h0
  obtain ⟨A0, n0, c0, z0, e0, ha0, hb0, hc0, hd0⟩ := rd_q3s Try.underlying29 Try.underlying113 (by kernel_rfl) (by kernel_rfl) rfl (hint_of Try.underlying3 (by decide +kernel)) hf0
  simp only [Value.cells, List.cons.injEq, Value.slice.injEq, and_true] at e0
  obtain ⟨rfl, rfl, rfl⟩ := e0
  obtain ⟨b1, len1, cap1, rfl⟩ := okWide_slice Try.underlying30 (hval 1 30 v1 rfl rfl)
  obtain ⟨fuel1, hf1⟩ := h1
  obtain ⟨A1, n1, c1, z1, e1, ha1, hb1, hc1, hd1⟩ := rd_ints Try.underlying30 Try.underlying3 (by kernel_rfl) hf1
  simp only [Value.cells, List.cons.injEq, Value.slice.injEq, and_true] at e1
  obtain ⟨rfl, rfl, rfl⟩ := e1
  exact (walk b0 len0 cap0 z0 b1 len1 cap1 z1 W ha0 hb0 hc0 hd0 ha1 hb1 hc1 hd1).mono fun e W' ⟨he, hb⟩ => ⟨_, he, fin W' hb⟩

theorem over : Rows.fnExactCostOfRow.holds Try.pinned (OpenSpec.ofChange Rows.fnExactCostOfSpec) :=
  OpenClaim.holds_of_wide 4 Try.f4 rfl rfl rfl rfl rfl rfl rfl ⟨rfl, rfl, rfl, rfl, rfl⟩ rfl rfl rfl rfl rfl (by kernel_rfl) Try.func4 (by kernel_rfl)
    (of_decide_eq_true (by kernel_rfl)) (by unfold Func.isWrapper; first | (rw [if_pos (by decide +kernel)]; kernel_rfl) | (rw [if_neg (by decide +kernel)]; exact ⟨rfl, rfl⟩))
    (fun os started H enc _ => lifted os started H enc)

/-- THE STATEMENT -/
theorem proved : Rows.FnExactCostOfSaid :=
  over
end Go.Proofs.Yteihdnjdpiejmaa.fnExactCostOf
