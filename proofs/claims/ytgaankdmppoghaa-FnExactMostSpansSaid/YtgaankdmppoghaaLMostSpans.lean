/- Proved: at every argument impl.MostSpans answers as spec.MostSpans does (the law FnExactMostSpans returns true). No condition. -/
import Derived.Test.YtgaankdmppoghaaRows
import Derived.Test.YtgaankdmppoghaaSpS
import Derived.Test.YtgaankdmppoghaaLevG
import Derived.Test.YtgaankdmppoghaaArg
import Derived.WalkKit
import Derived.ProofKit
import Derived.OpenShut
import Derived.ShutString
import Derived.SizedLaws
import Derived.Carry
namespace Go.Proofs.Ytgaankdmppoghaa.fnExactMostSpans
open Go.ChangeShapes Go.WideShapes Go.ChangeAt Go.RowKit
open Go.ChangeMaps (open_string shut_string)

set_option maxRecDepth 100000 in
set_option maxHeartbeats 8000000 in
theorem walk (s : Q3) (l : Int) (d : Int) (w : World) (_w0 : s.wf) (_w1 : (Lit.int .i64 l).wf = true) (_w2 : (Lit.int .i64 d).wf = true) :
    Calls Try.prog 4 #[.agg #[.int .i64 s.a, .int .i64 s.b, .int .i64 s.c], .int .i64 l, .int .i64 d] w fun e w' => e = .returned (.bool true) ∧ Below w.heap.size w w' := by
  have W0_ := Lib.hid _w0; clear _w0
  have W1_ := Lib.hid _w1; clear _w1
  have W2_ := Lib.hid _w2; clear _w2
  obtain ⟨r0_, hr0_⟩ : ∃ r, mosI s l d = r := ⟨_, rfl⟩
  have HE0 := Lib.hid hr0_; clear hr0_
  obtain ⟨r1_, hr1_⟩ : ∃ r, mosB s l d = r := ⟨_, rfl⟩
  have HE1 := Lib.hid hr1_; clear hr1_
  go_enter Try.func4, Try.ntmps4
  go_wp2_with fail
  obtain ⟨W0, hW0⟩ : ∃ W0, (w.alloc (Obj.cells #[.int .i64 s.a, .int .i64 s.b, .int .i64 s.c] 23)) = W0 := ⟨_, rfl⟩
  have KQ0_0 : Hid (W0.cell? ⟨w.heap.size, 0, none⟩ = some (.int .i64 s.a)) := Lib.hid (by rw [← hW0]; simp [go_sem])
  have KQ0_1 : Hid (W0.cell? ⟨w.heap.size, 1, none⟩ = some (.int .i64 s.b)) := Lib.hid (by rw [← hW0]; simp [go_sem])
  have KQ0_2 : Hid (W0.cell? ⟨w.heap.size, 2, none⟩ = some (.int .i64 s.c)) := Lib.hid (by rw [← hW0]; simp [go_sem])
  have HZQ0 : Hid (w.heap.size < W0.heap.size) := Lib.hid (by rw [← hW0]; simp; try omega)
  have HW0_ : Hid (Below w.heap.size w W0) := Lib.hid (by rw [← hW0]; exact ((Below.refl w.heap.size w).alloc (by simp; try omega) _))
  rw [hW0]
  clear hW0
  have hB0 := Lib.hid (Below.refl W0.heap.size W0)
  have kq0_ : W0.cell? ⟨w.heap.size, 0, none⟩ = some (.int .i64 s.a) := (hB0.out.cell (p := ⟨_, _, none⟩) HZQ0.out).trans KQ0_0.out
  have kq1_ : W0.cell? ⟨w.heap.size, 1, none⟩ = some (.int .i64 s.b) := (hB0.out.cell (p := ⟨_, _, none⟩) HZQ0.out).trans KQ0_1.out
  have kq2_ : W0.cell? ⟨w.heap.size, 2, none⟩ = some (.int .i64 s.c) := (hB0.out.cell (p := ⟨_, _, none⟩) HZQ0.out).trans KQ0_2.out
  go_wp2_with fail
  refine (toSp _ _ _ W0).mono ?_
  rintro e w1 ⟨rfl, hb1⟩
  have hB1 := Lib.hid (hB0.out.trans (hb1.mono hB0.out.size))
  have Z1_ : Hid (W0.heap.size ≤ w1.heap.size) := Lib.hid hb1.size
  clear hb1
  clear kq0_ kq1_ kq2_
  go_wp2_with fail
  refine (sMos s l d w1).mono ?_
  rw [HE0.out, HE1.out]
  rintro e w2 ⟨rfl, hb2⟩
  have hB2 := Lib.hid (hB1.out.trans (hb2.mono hB1.out.size))
  have Z2_ : Hid (w1.heap.size ≤ w2.heap.size) := Lib.hid hb2.size
  clear hb2
  have kq0_ : w2.cell? ⟨w.heap.size, 0, none⟩ = some (.int .i64 s.a) := (hB2.out.cell (p := ⟨_, _, none⟩) HZQ0.out).trans KQ0_0.out
  have kq1_ : w2.cell? ⟨w.heap.size, 1, none⟩ = some (.int .i64 s.b) := (hB2.out.cell (p := ⟨_, _, none⟩) HZQ0.out).trans KQ0_1.out
  have kq2_ : w2.cell? ⟨w.heap.size, 2, none⟩ = some (.int .i64 s.c) := (hB2.out.cell (p := ⟨_, _, none⟩) HZQ0.out).trans KQ0_2.out
  go_wp2_with fail
  refine (toSp _ _ _ w2).mono ?_
  rintro e w3 ⟨rfl, hb3⟩
  have hB3 := Lib.hid (hB2.out.trans (hb3.mono hB2.out.size))
  have Z3_ : Hid (w2.heap.size ≤ w3.heap.size) := Lib.hid hb3.size
  clear hb3
  clear kq0_ kq1_ kq2_
  go_wp2_with fail
  refine (iMos s l d w3).mono ?_
  rw [HE0.out, HE1.out]
  rintro e w4 ⟨rfl, hb4⟩
  have hB4 := Lib.hid (hB3.out.trans (hb4.mono hB3.out.size))
  have Z4_ : Hid (w3.heap.size ≤ w4.heap.size) := Lib.hid hb4.size
  clear hb4
  go_wp2
  go_ret
  exact ⟨rfl, HW0_.out.trans (hB4.out.mono HW0_.out.size)⟩


theorem own : ownKnob Try.prog.godebug = none := by kernel_rfl
theorem laidOut : laidOutB Try.prog = true := by kernel_rfl
set_option maxRecDepth 100000 in
theorem lifted (os : Os) (started : os.Started) (H : Type) (enc : TypeId × Value → H) :
    ReturnsInHanded {} Try.checked os 4 .any (Rows.fnExactMostSpansSpec.pre6 enc Try.prog Try.f4 Rows.fnExactMostSpansRow.domain false) (Rows.fnExactMostSpansSpec.post enc Try.prog Try.f4 false true false false) := by
  refine returnsInHanded_of_change_sized (C := Try.checked) own started (by kernel_rfl) Try.func4
    (ChangeSpec.witness6 (enc := enc) (C := Try.checked) false ⟨#[], #[.agg #[.int .i64 0, .int .i64 0, .int .i64 0], .int .i64 0, .int .i64 0], []⟩ 8 (by kernel_rfl) (by kernel_rfl) (by kernel_rfl) (by kernel_rfl)) ?_
  intro W base args ds gs before hval0 hW _ hsz0 _
  clear hsz0
  have hval : ∀ (j : Nat) t v, Try.f4.params[j]? = some t → args[j]? = some v → Value.okWide Try.prog W .any base t v := hval0
  have hW' := hW
  obtain ⟨p, q, hA0, hV, rfl, _, _⟩ := hW
  have hA : DataW.TrodAll enc Try.prog W 0 (fun _ => true) true Try.f4.params.toList args.toList ds p := hA0
  rw [Try.params4] at hA hval
  obtain ⟨v0, vs0, d0, ds0, p0, q0, hargs, rfl, rfl, h0, r0⟩ := trodAll_cons hA
  obtain ⟨v1, vs1, d1, ds1, p1, q1, rfl, rfl, rfl, h1, r1⟩ := trodAll_cons r0
  obtain ⟨v2, vs2, d2, ds2, p2, q2, rfl, rfl, rfl, h2, r2⟩ := trodAll_cons r1
  obtain ⟨rfl, rfl, rfl⟩ := trodAll_nil r2
  obtain rfl : args = #[v0, v1, v2] := by cases args; simp_all
  obtain ⟨rfl, rfl⟩ := trodVars_none hV
  simp only [List.append_nil] at hW'
  have hlt0 : ∀ x ∈ p0, x.block < W.heap.size := fun x hx => by simpa using hW'.lt x (by simp [hx])
  have hlt1 : ∀ x ∈ p1, x.block < W.heap.size := fun x hx => by simpa using hW'.lt x (by simp [hx])
  have hlt2 : ∀ x ∈ p2, x.block < W.heap.size := fun x hx => by simpa using hW'.lt x (by simp [hx])
  have fin : ∀ W' : World, Below W.heap.size W W' → Rows.fnExactMostSpansSpec.post enc Try.checked.prog Try.f4 false true false false W #[v0, v1, v2] (.bool true) W' := by
    intro W' hb
    refine ⟨_, _, _, [] ++ [], (p0 ++ (p1 ++ (p2 ++ []))), [], hW', ?_, ?_, rfl, hb.frame _, fun h => by cases h⟩
    · exact trodAll_mk1 (shut_bool Try.underlying4 true)
    · exact trodAll_cons_mk (Below.trod laidOut (by kernel_rfl) (of_decide_eq_true (by kernel_rfl)) h0 hb hlt0) (trodAll_cons_mk (Below.trod laidOut (by kernel_rfl) (of_decide_eq_true (by kernel_rfl)) h1 hb hlt1) (trodAll_cons_mk (Below.trod laidOut (by kernel_rfl) (of_decide_eq_true (by kernel_rfl)) h2 hb hlt2) (trodAll_mk0)))
  clear hW' hV hA0
  obtain ⟨q0_, rfl, w0⟩ := open_q3 Try.underlying23 (by kernel_rfl) (by kernel_rfl) rfl (hint_of Try.underlying3 (by decide +kernel)) (hval 0 23 v0 rfl rfl) h0
  obtain ⟨a1, rfl, _, _, w1⟩ := open_int Try.underlying3 (hval 1 3 v1 rfl rfl) h1
  obtain ⟨a2, rfl, _, _, w2⟩ := open_int Try.underlying3 (hval 2 3 v2 rfl rfl) h2
  exact (walk q0_ a1 a2 W w0 w1 w2).mono fun e W' ⟨he, hb⟩ => ⟨_, he, fin W' hb⟩

theorem over : Rows.fnExactMostSpansRow.holds Try.pinned (OpenSpec.ofChange Rows.fnExactMostSpansSpec) :=
  OpenClaim.holds_of_wide 4 Try.f4 rfl rfl rfl rfl rfl rfl rfl ⟨rfl, rfl, rfl, rfl, rfl⟩ rfl rfl rfl rfl rfl (by kernel_rfl) Try.func4 (by kernel_rfl)
    (of_decide_eq_true (by kernel_rfl)) (by unfold Func.isWrapper; first | (rw [if_pos (by decide +kernel)]; kernel_rfl) | (rw [if_neg (by decide +kernel)]; exact ⟨rfl, rfl⟩))
    (fun os started H enc _ => lifted os started H enc)

/-- THE STATEMENT -/
theorem proved : Rows.FnExactMostSpansSaid :=
  over
end Go.Proofs.Ytgaankdmppoghaa.fnExactMostSpans
