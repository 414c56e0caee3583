/- Proved: at every argument impl.SpanLoss answers as spec.SpanLoss does (the law FnExactSpanLoss returns true). No condition. -/
import Derived.Test.YtgaankdmppoghaaRows
import Derived.Test.YtgaankdmppoghaaSpS
import Derived.Test.YtgaankdmppoghaaLevF
import Derived.Test.YtgaankdmppoghaaArg
import Derived.WalkKit
import Derived.ProofKit
import Derived.OpenShut
import Derived.ShutString
import Derived.SizedLaws
import Derived.Carry
namespace Go.Proofs.Ytgaankdmppoghaa.fnExactSpanLoss
open Go.ChangeShapes Go.WideShapes Go.ChangeAt Go.RowKit
open Go.ChangeMaps (open_string shut_string)

set_option maxRecDepth 100000 in
set_option maxHeartbeats 8000000 in
theorem walk (s : Q3) (w : World) (_w0 : s.wf) :
    Calls Try.prog 3 #[.agg #[.int .i64 s.a, .int .i64 s.b, .int .i64 s.c]] w fun e w' => e = .returned (.bool true) ∧ Below w.heap.size w w' := by
  have W0_ := Lib.hid _w0; clear _w0
  obtain ⟨r0_, hr0_⟩ : ∃ r, slI s = r := ⟨_, rfl⟩
  have HE0 := Lib.hid hr0_; clear hr0_
  obtain ⟨r1_, hr1_⟩ : ∃ r, spB s = r := ⟨_, rfl⟩
  have HE1 := Lib.hid hr1_; clear hr1_
  go_enter Try.func3, Try.ntmps3
  go_wp2_with fail
  obtain ⟨W0, hW0⟩ : ∃ W0, (w.alloc (Obj.cells #[.int .i64 s.a, .int .i64 s.b, .int .i64 s.c] 23)) = W0 := ⟨_, rfl⟩
  have KQ0_0 : Hid (W0.cell? ⟨w.heap.size, 0, none⟩ = some (.int .i64 s.a)) := Lib.hid (by rw [← hW0]; simp [go_sem])
  have KQ0_1 : Hid (W0.cell? ⟨w.heap.size, 1, none⟩ = some (.int .i64 s.b)) := Lib.hid (by rw [← hW0]; simp [go_sem])
  have KQ0_2 : Hid (W0.cell? ⟨w.heap.size, 2, none⟩ = some (.int .i64 s.c)) := Lib.hid (by rw [← hW0]; simp [go_sem])
  have HZQ0 : Hid (w.heap.size < W0.heap.size) := Lib.hid (by rw [← hW0]; simp; try omega)
  have HW0_ : Hid (Below w.heap.size w W0) := Lib.hid (by rw [← hW0]; exact ((Below.refl w.heap.size w).alloc (by simp; try omega) _))
  rw [hW0]
  clear hW0
  have hB0 := Lib.hid (Below.refl W0.heap.size W0)
  have kq0_ : W0.cell? ⟨w.heap.size, 0, none⟩ = some (.int .i64 s.a) := (hB0.out.cell (p := ⟨_, _, none⟩) HZQ0.out).trans KQ0_0.out
  have kq1_ : W0.cell? ⟨w.heap.size, 1, none⟩ = some (.int .i64 s.b) := (hB0.out.cell (p := ⟨_, _, none⟩) HZQ0.out).trans KQ0_1.out
  have kq2_ : W0.cell? ⟨w.heap.size, 2, none⟩ = some (.int .i64 s.c) := (hB0.out.cell (p := ⟨_, _, none⟩) HZQ0.out).trans KQ0_2.out
  go_wp2_with fail
  refine (toSp _ _ _ W0).mono ?_
  rintro e w1 ⟨rfl, hb1⟩
  have hB1 := Lib.hid (hB0.out.trans (hb1.mono hB0.out.size))
  have Z1_ : Hid (W0.heap.size ≤ w1.heap.size) := Lib.hid hb1.size
  clear hb1
  clear kq0_ kq1_ kq2_
  go_wp2_with fail
  refine (sSL s w1).mono ?_
  rw [HE0.out, HE1.out]
  rintro e w2 ⟨rfl, hb2⟩
  have hB2 := Lib.hid (hB1.out.trans (hb2.mono hB1.out.size))
  have Z2_ : Hid (w1.heap.size ≤ w2.heap.size) := Lib.hid hb2.size
  clear hb2
  have kq0_ : w2.cell? ⟨w.heap.size, 0, none⟩ = some (.int .i64 s.a) := (hB2.out.cell (p := ⟨_, _, none⟩) HZQ0.out).trans KQ0_0.out
  have kq1_ : w2.cell? ⟨w.heap.size, 1, none⟩ = some (.int .i64 s.b) := (hB2.out.cell (p := ⟨_, _, none⟩) HZQ0.out).trans KQ0_1.out
  have kq2_ : w2.cell? ⟨w.heap.size, 2, none⟩ = some (.int .i64 s.c) := (hB2.out.cell (p := ⟨_, _, none⟩) HZQ0.out).trans KQ0_2.out
  go_wp2_with fail
  refine (toSp _ _ _ w2).mono ?_
  rintro e w3 ⟨rfl, hb3⟩
  have hB3 := Lib.hid (hB2.out.trans (hb3.mono hB2.out.size))
  have Z3_ : Hid (w2.heap.size ≤ w3.heap.size) := Lib.hid hb3.size
  clear hb3
  clear kq0_ kq1_ kq2_
  go_wp2_with fail
  refine (iSL s w3).mono ?_
  rw [HE0.out, HE1.out]
  rintro e w4 ⟨rfl, hb4⟩
  have hB4 := Lib.hid (hB3.out.trans (hb4.mono hB3.out.size))
  have Z4_ : Hid (w3.heap.size ≤ w4.heap.size) := Lib.hid hb4.size
  clear hb4
  go_wp2
  go_ret
  exact ⟨rfl, HW0_.out.trans (hB4.out.mono HW0_.out.size)⟩


theorem own : ownKnob Try.prog.godebug = none := by kernel_rfl
theorem laidOut : laidOutB Try.prog = true := by kernel_rfl
set_option maxRecDepth 100000 in
theorem lifted (os : Os) (started : os.Started) (H : Type) (enc : TypeId × Value → H) :
    ReturnsInHanded {} Try.checked os 3 .any (Rows.fnExactSpanLossSpec.pre6 enc Try.prog Try.f3 Rows.fnExactSpanLossRow.domain false) (Rows.fnExactSpanLossSpec.post enc Try.prog Try.f3 false true false false) := by
  refine returnsInHanded_of_change_sized (C := Try.checked) own started (by kernel_rfl) Try.func3
    (ChangeSpec.witness6 (enc := enc) (C := Try.checked) false ⟨#[], #[.agg #[.int .i64 0, .int .i64 0, .int .i64 0]], []⟩ 8 (by kernel_rfl) (by kernel_rfl) (by kernel_rfl) (by kernel_rfl)) ?_
  intro W base args ds gs before hval0 hW _ hsz0 _
  clear hsz0
  have hval : ∀ (j : Nat) t v, Try.f3.params[j]? = some t → args[j]? = some v → Value.okWide Try.prog W .any base t v := hval0
  have hW' := hW
  obtain ⟨p, q, hA0, hV, rfl, _, _⟩ := hW
  have hA : DataW.TrodAll enc Try.prog W 0 (fun _ => true) true Try.f3.params.toList args.toList ds p := hA0
  rw [Try.params3] at hA hval
  obtain ⟨v0, vs0, d0, ds0, p0, q0, hargs, rfl, rfl, h0, r0⟩ := trodAll_cons hA
  obtain ⟨rfl, rfl, rfl⟩ := trodAll_nil r0
  obtain rfl : args = #[v0] := by cases args; simp_all
  obtain ⟨rfl, rfl⟩ := trodVars_none hV
  simp only [List.append_nil] at hW'
  have hlt0 : ∀ x ∈ p0, x.block < W.heap.size := fun x hx => by simpa using hW'.lt x (by simp [hx])
  have fin : ∀ W' : World, Below W.heap.size W W' → Rows.fnExactSpanLossSpec.post enc Try.checked.prog Try.f3 false true false false W #[v0] (.bool true) W' := by
    intro W' hb
    refine ⟨_, _, _, [] ++ [], (p0 ++ []), [], hW', ?_, ?_, rfl, hb.frame _, fun h => by cases h⟩
    · exact trodAll_mk1 (shut_bool Try.underlying4 true)
    · exact trodAll_cons_mk (Below.trod laidOut (by kernel_rfl) (of_decide_eq_true (by kernel_rfl)) h0 hb hlt0) (trodAll_mk0)
  clear hW' hV hA0
  obtain ⟨q0_, rfl, w0⟩ := open_q3 Try.underlying23 (by kernel_rfl) (by kernel_rfl) rfl (hint_of Try.underlying3 (by decide +kernel)) (hval 0 23 v0 rfl rfl) h0
  exact (walk q0_ W w0).mono fun e W' ⟨he, hb⟩ => ⟨_, he, fin W' hb⟩

theorem over : Rows.fnExactSpanLossRow.holds Try.pinned (OpenSpec.ofChange Rows.fnExactSpanLossSpec) :=
  OpenClaim.holds_of_wide 3 Try.f3 rfl rfl rfl rfl rfl rfl rfl ⟨rfl, rfl, rfl, rfl, rfl⟩ rfl rfl rfl rfl rfl (by kernel_rfl) Try.func3 (by kernel_rfl)
    (of_decide_eq_true (by kernel_rfl)) (by unfold Func.isWrapper; first | (rw [if_pos (by decide +kernel)]; kernel_rfl) | (rw [if_neg (by decide +kernel)]; exact ⟨rfl, rfl⟩))
    (fun os started H enc _ => lifted os started H enc)

/-- THE STATEMENT -/
theorem proved : Rows.FnExactSpanLossSaid :=
  over
end Go.Proofs.Ytgaankdmppoghaa.fnExactSpanLoss
