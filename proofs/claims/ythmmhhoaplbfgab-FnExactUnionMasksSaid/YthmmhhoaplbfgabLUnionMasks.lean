/- Proved: at every list of masks impl.UnionMasks answers as spec.UnionMasks does and leaves its argument alone (the law FnExactUnionMasks returns true). No condition. -/
import Derived.Test.YthmmhhoaplbfgabRows
import Derived.Test.YthmmhhoaplbfgabUnion
import Derived.Test.YthmmhhoaplbfgabArg
import Derived.WalkKit
import Derived.ProofKit
import Derived.OpenShut
import Derived.ShutString
import Derived.SizedLaws
import Derived.Carry
namespace Go.Proofs.Ythmmhhoaplbfgab.fnExactUnionMasks
open Go.ChangeShapes Go.WideShapes Go.ChangeAt Go.RowKit
open Go.ChangeMaps (open_string shut_string)

set_option maxHeartbeats 1000000 in
theorem walk (A : Option Addr) (n c : Nat) (zs : List Int) (w : World) (hn : zs.length = n) (hm : n ≤ maxLen) (hr : Rd w w.heap.size A (zs.map (Value.int .i64))) (_hwf : ∀ z ∈ zs, (Lit.int .i64 z).wf = true) :
    Calls Try.prog 7 #[.slice A n c] w fun e w' => e = .returned (.bool true) ∧ Below w.heap.size w w' := by
  clear _hwf
  unfold maxLen at hm
  obtain ⟨r1, hr1e⟩ : ∃ r, uniI zs = r := ⟨_, rfl⟩
  obtain ⟨r2, hr2e⟩ : ∃ r, uniB zs = r := ⟨_, rfl⟩
  have HRV : Hid (uniR zs = .tuple #[.int .i64 r1, .bool r2]) := Lib.hid (by unfold uniR; rw [hr1e, hr2e])
  clear hr1e hr2e
  have HN := Lib.hid hn; clear hn
  by_cases hsm : n ≤ 1048576
  case neg =>
    have q : 1048576 < (n : Int) := by omega
    clear hsm
    go_enter Try.func7, Try.ntmps7
    go_wp2
    go_ret
    exact ⟨rfl, Below.refl _ _⟩
  case pos =>
  have q : (n : Int) ≤ 1048576 := by omega
  go_enter Try.func7, Try.ntmps7
  go_wp2_with fail
  refine (toIntS A n c zs w HN.out hr hsm).mono ?_
  rintro e w1 ⟨g1, hg1, rfl, hown1, hb1⟩
  have hS1 := Lib.hid (Rd.ofOwnK hown1)
  have hB1 := Lib.hid hb1
  clear hown1 hb1 hg1
  go_wp2_with fail
  refine (specUni _ n n zs w1 HN.out hS1.out hsm).mono ?_
  rintro e w2 ⟨rfl, hb2⟩
  rw [HRV.out]
  have hB2 := Lib.hid (hB1.out.trans (hb2.mono hB1.out.size))
  clear hb2
  go_wp2_with fail
  refine (toIntS A n c zs w2 HN.out (hr.moved hB2.out) hsm).mono ?_
  rintro e w3 ⟨g3, hg3, rfl, hown3, hb3⟩
  have hS3 := Lib.hid (Rd.ofOwnK hown3)
  have hB3 := Lib.hid (hB2.out.trans (hb3.mono hB2.out.size))
  clear hown3 hb3 hg3
  go_wp2_with fail
  refine (implUni _ n n zs w3 HN.out hS3.out hsm).mono ?_
  rintro e w4 ⟨rfl, hb4⟩
  rw [HRV.out]
  have hB4 := Lib.hid (hB3.out.trans (hb4.mono hB3.out.size))
  have hT3 := Lib.hid (hS3.out.moved hb4)
  clear hb4
  go_wp2_with fail
  refine (toIntS A n c zs w4 HN.out (hr.moved hB4.out) hsm).mono ?_
  rintro e w5 ⟨g5, hg5, rfl, hown5, hb5⟩
  have hS5 := Lib.hid (Rd.ofOwnK hown5)
  have hB5 := Lib.hid (hB4.out.trans (hb5.mono hB4.out.size))
  have hU3 := Lib.hid (hT3.out.moved hb5)
  clear hown5 hb5 hg5
  go_wp2_with fail
  refine (eqIntS _ _ n n n zs w5 HN.out hU3.out hS5.out hsm).mono ?_
  rintro e w6 ⟨rfl, hb6⟩
  have hB6 := Lib.hid (hB5.out.trans (hb6.mono hB5.out.size))
  clear hb6
  go_wp2
  go_ret
  exact ⟨rfl, hB6.out⟩


theorem own : ownKnob Try.prog.godebug = none := by kernel_rfl
theorem laidOut : laidOutB Try.prog = true := by kernel_rfl
set_option maxRecDepth 100000 in
theorem lifted (os : Os) (started : os.Started) (H : Type) (enc : TypeId × Value → H) :
    ReturnsInHanded {} Try.checked os 7 .any (Rows.fnExactUnionMasksSpec.pre6 enc Try.prog Try.f7 Rows.fnExactUnionMasksRow.domain false) (Rows.fnExactUnionMasksSpec.post enc Try.prog Try.f7 false true false false) := by
  refine returnsInHanded_of_change_sized (C := Try.checked) own started (by kernel_rfl) Try.func7
    (ChangeSpec.witness6 (enc := enc) (C := Try.checked) false ⟨#[], #[.slice none 0 0], []⟩ 8 (by kernel_rfl) (by kernel_rfl) (by kernel_rfl) (by kernel_rfl)) ?_
  intro W base args ds gs before hval0 hW _ hsz0 _
  clear hsz0
  have hval : ∀ (j : Nat) t v, Try.f7.params[j]? = some t → args[j]? = some v → Value.okWide Try.prog W .any base t v := hval0
  have hW' := hW
  obtain ⟨p, q, hA0, hV, rfl, _, _⟩ := hW
  have hA : DataW.TrodAll enc Try.prog W 0 (fun _ => true) true Try.f7.params.toList args.toList ds p := hA0
  rw [Try.params7] at hA hval
  obtain ⟨v0, vs0, d0, ds0, p0, q0, hargs, rfl, rfl, h0, r0⟩ := trodAll_cons hA
  obtain ⟨rfl, rfl, rfl⟩ := trodAll_nil r0
  obtain rfl : args = #[v0] := by cases args; simp_all
  obtain ⟨rfl, rfl⟩ := trodVars_none hV
  simp only [List.append_nil] at hW'
  have hlt0 : ∀ x ∈ p0, x.block < W.heap.size := fun x hx => by simpa using hW'.lt x (by simp [hx])
  have fin : ∀ W' : World, Below W.heap.size W W' → Rows.fnExactUnionMasksSpec.post enc Try.checked.prog Try.f7 false true false false W #[v0] (.bool true) W' := by
    intro W' hb
    refine ⟨_, _, _, [] ++ [], (p0 ++ []), [], hW', ?_, ?_, rfl, hb.frame _, fun h => by cases h⟩
    · exact trodAll_mk1 (shut_bool Try.underlying4 true)
    · exact trodAll_cons_mk (Below.trod laidOut (by kernel_rfl) (of_decide_eq_true (by kernel_rfl)) h0 hb hlt0) (trodAll_mk0)
  clear hW' hV hA0
  obtain ⟨b0, len0, cap0, rfl⟩ := okWide_slice Try.underlying46 (hval 0 46 v0 rfl rfl)
  obtain ⟨fuel0, hf0⟩ := h0
  obtain ⟨A0, n0, c0, z0, e0, ha0, hb0, hc0, hd0⟩ := rd_ints Try.underlying46 Try.underlying3 (by kernel_rfl) hf0
  simp only [Value.cells, List.cons.injEq, Value.slice.injEq, and_true] at e0
  obtain ⟨rfl, rfl, rfl⟩ := e0
  exact (walk b0 len0 cap0 z0 W ha0 hb0 hc0 hd0).mono fun e W' ⟨he, hb⟩ => ⟨_, he, fin W' hb⟩

theorem over : Rows.fnExactUnionMasksRow.holds Try.pinned (OpenSpec.ofChange Rows.fnExactUnionMasksSpec) :=
  OpenClaim.holds_of_wide 7 Try.f7 rfl rfl rfl rfl rfl rfl rfl ⟨rfl, rfl, rfl, rfl, rfl⟩ rfl rfl rfl rfl rfl (by kernel_rfl) Try.func7 (by kernel_rfl)
    (of_decide_eq_true (by kernel_rfl)) (by unfold Func.isWrapper; first | (rw [if_pos (by decide +kernel)]; kernel_rfl) | (rw [if_neg (by decide +kernel)]; exact ⟨rfl, rfl⟩))
    (fun os started H enc _ => lifted os started H enc)

/-- THE STATEMENT -/
theorem proved : Rows.FnExactUnionMasksSaid :=
  over
end Go.Proofs.Ythmmhhoaplbfgab.fnExactUnionMasks
