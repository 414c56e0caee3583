/- Proved: at every block impl.BlockMask answers as spec.BlockMask does (the law FnExactBlockMask returns true). No condition. -/
import Derived.Test.YthmmhhoaplbfgabRows
import Derived.Test.YthmmhhoaplbfgabBlk
import Derived.Test.YthmmhhoaplbfgabArg
import Derived.WalkKit
import Derived.ProofKit
import Derived.OpenShut
import Derived.ShutString
import Derived.SizedLaws
import Derived.Carry
namespace Go.Proofs.Ythmmhhoaplbfgab.fnExactBlockMask
open Go.ChangeShapes Go.WideShapes Go.ChangeAt Go.RowKit
open Go.ChangeMaps (open_string shut_string)

set_option maxHeartbeats 1000000 in
theorem walk (q : Q2) (w : World) (_hq : q.wf) :
    Calls Try.prog 5 #[.agg #[.int .i64 q.a, .int .i64 q.b]] w fun e w' => e = .returned (.bool true) ∧ Below w.heap.size w w' := by
  clear _hq
  obtain ⟨a, b⟩ := q
  simp only
  have HV := Lib.hid ((Below.refl w.heap.size w).alloc (Nat.le_refl _) (Obj.cells #[.int .i64 a, .int .i64 b] 36))
  obtain ⟨r1, hr1⟩ : ∃ r, maskI a b = r := ⟨_, rfl⟩
  obtain ⟨r2, hr2⟩ : ∃ r, maskB a b = r := ⟨_, rfl⟩
  have HR : Hid (maskR a b = .tuple #[.int .i64 r1, .bool r2]) := Lib.hid (by unfold maskR; rw [hr1, hr2])
  clear hr1 hr2
  go_enter Try.func5, Try.ntmps5
  go_wp2_with fail
  obtain ⟨W, hW⟩ : ∃ W, (w.alloc (Obj.cells #[.int .i64 a, .int .i64 b] 36)) = W := ⟨_, rfl⟩
  have hk0 : W.cell? ⟨w.heap.size, 0, none⟩ = some (.int .i64 a) := by rw [← hW]; simp [go_sem]
  have hk1 : W.cell? ⟨w.heap.size, 1, none⟩ = some (.int .i64 b) := by rw [← hW]; simp [go_sem]
  have hz : w.heap.size < W.heap.size := by rw [← hW]; simp
  rw [hW] at HV ⊢
  clear hW
  have HK0 : Hid (∀ V, Below W.heap.size W V → V.cell? ⟨w.heap.size, 0, none⟩ = some (.int .i64 a)) := Lib.hid fun V hV => (hV.cell (p := ⟨_, _, none⟩) hz).trans hk0
  have HK1 : Hid (∀ V, Below W.heap.size W V → V.cell? ⟨w.heap.size, 1, none⟩ = some (.int .i64 b)) := Lib.hid fun V hV => (hV.cell (p := ⟨_, _, none⟩) hz).trans hk1
  clear hk0 hk1 hz
  refine (toBlk a b W).mono ?_
  rintro e w1 ⟨rfl, hb1⟩
  have HB1 := Lib.hid hb1; clear hb1
  go_wp2_with fail
  refine (specMask a b w1).mono ?_
  rintro e w2 ⟨rfl, hb2⟩
  have HB2 := Lib.hid (HB1.out.trans (hb2.mono HB1.out.size)); clear hb2
  rw [HR.out]
  have ka := HK0.out _ HB2.out; have kb := HK1.out _ HB2.out
  go_wp2_with fail
  clear ka kb
  refine (toBlk a b w2).mono ?_
  rintro e w3 ⟨rfl, hb3⟩
  have HB3 := Lib.hid (HB2.out.trans (hb3.mono HB2.out.size)); clear hb3
  go_wp2_with fail
  refine (implMask a b w3).mono ?_
  rintro e w4 ⟨rfl, hb4⟩
  have HB4 := Lib.hid (HB3.out.trans (hb4.mono HB3.out.size)); clear hb4
  rw [HR.out]
  go_wp2
  go_ret
  exact ⟨rfl, HV.out.trans (HB4.out.mono HV.out.size)⟩


theorem own : ownKnob Try.prog.godebug = none := by kernel_rfl
theorem laidOut : laidOutB Try.prog = true := by kernel_rfl
set_option maxRecDepth 100000 in
theorem lifted (os : Os) (started : os.Started) (H : Type) (enc : TypeId × Value → H) :
    ReturnsInHanded {} Try.checked os 5 .any (Rows.fnExactBlockMaskSpec.pre6 enc Try.prog Try.f5 Rows.fnExactBlockMaskRow.domain false) (Rows.fnExactBlockMaskSpec.post enc Try.prog Try.f5 false true false false) := by
  refine returnsInHanded_of_change_sized (C := Try.checked) own started (by kernel_rfl) Try.func5
    (ChangeSpec.witness6 (enc := enc) (C := Try.checked) false ⟨#[], #[.agg #[.int .i64 0, .int .i64 0]], []⟩ 8 (by kernel_rfl) (by kernel_rfl) (by kernel_rfl) (by kernel_rfl)) ?_
  intro W base args ds gs before hval0 hW _ hsz0 _
  clear hsz0
  have hval : ∀ (j : Nat) t v, Try.f5.params[j]? = some t → args[j]? = some v → Value.okWide Try.prog W .any base t v := hval0
  have hW' := hW
  obtain ⟨p, q, hA0, hV, rfl, _, _⟩ := hW
  have hA : DataW.TrodAll enc Try.prog W 0 (fun _ => true) true Try.f5.params.toList args.toList ds p := hA0
  rw [Try.params5] at hA hval
  obtain ⟨v0, vs0, d0, ds0, p0, q0, hargs, rfl, rfl, h0, r0⟩ := trodAll_cons hA
  obtain ⟨rfl, rfl, rfl⟩ := trodAll_nil r0
  obtain rfl : args = #[v0] := by cases args; simp_all
  obtain ⟨rfl, rfl⟩ := trodVars_none hV
  simp only [List.append_nil] at hW'
  have hlt0 : ∀ x ∈ p0, x.block < W.heap.size := fun x hx => by simpa using hW'.lt x (by simp [hx])
  have fin : ∀ W' : World, Below W.heap.size W W' → Rows.fnExactBlockMaskSpec.post enc Try.checked.prog Try.f5 false true false false W #[v0] (.bool true) W' := by
    intro W' hb
    refine ⟨_, _, _, [] ++ [], (p0 ++ []), [], hW', ?_, ?_, rfl, hb.frame _, fun h => by cases h⟩
    · exact trodAll_mk1 (shut_bool Try.underlying4 true)
    · exact trodAll_cons_mk (Below.trod laidOut (by kernel_rfl) (of_decide_eq_true (by kernel_rfl)) h0 hb hlt0) (trodAll_mk0)
  clear hW' hV hA0
  obtain ⟨q0_, rfl, w0⟩ := open_q2 Try.underlying36 (by kernel_rfl) (by kernel_rfl) rfl (hint_of Try.underlying3 (by decide +kernel)) (hval 0 36 v0 rfl rfl) h0
  exact (walk q0_ W w0).mono fun e W' ⟨he, hb⟩ => ⟨_, he, fin W' hb⟩

theorem over : Rows.fnExactBlockMaskRow.holds Try.pinned (OpenSpec.ofChange Rows.fnExactBlockMaskSpec) :=
  OpenClaim.holds_of_wide 5 Try.f5 rfl rfl rfl rfl rfl rfl rfl ⟨rfl, rfl, rfl, rfl, rfl⟩ rfl rfl rfl rfl rfl (by kernel_rfl) Try.func5 (by kernel_rfl)
    (of_decide_eq_true (by kernel_rfl)) (by unfold Func.isWrapper; first | (rw [if_pos (by decide +kernel)]; kernel_rfl) | (rw [if_neg (by decide +kernel)]; exact ⟨rfl, rfl⟩))
    (fun os started H enc _ => lifted os started H enc)

/-- THE STATEMENT -/
theorem proved : Rows.FnExactBlockMaskSaid :=
  over
end Go.Proofs.Ythmmhhoaplbfgab.fnExactBlockMask
