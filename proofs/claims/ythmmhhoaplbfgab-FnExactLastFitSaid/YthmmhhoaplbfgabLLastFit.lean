/- Proved: at every mask and every count impl.LastFit answers as spec.LastFit does (the law FnExactLastFit returns true). No condition. -/
import Derived.Test.YthmmhhoaplbfgabRows
import Derived.Test.YthmmhhoaplbfgabLast
import Derived.Test.YthmmhhoaplbfgabArg
import Derived.WalkKit
import Derived.ProofKit
import Derived.OpenShut
import Derived.ShutString
import Derived.SizedLaws
import Derived.Carry
namespace Go.Proofs.Ythmmhhoaplbfgab.fnExactLastFit
open Go.ChangeShapes Go.WideShapes Go.ChangeAt Go.RowKit
open Go.ChangeMaps (open_string shut_string)

set_option maxHeartbeats 1000000 in
theorem walk (m c : Int) (w : World) (_w1 : (Lit.int .i64 m).wf = true) (_w2 : (Lit.int .i64 c).wf = true) :
    Calls Try.prog 6 #[.int .i64 m, .int .i64 c] w fun e w' => e = .returned (.bool true) ∧ Below w.heap.size w w' := by
  clear _w1 _w2
  obtain ⟨r1, h1⟩ : ∃ r, lastF m c = r := ⟨_, rfl⟩
  obtain ⟨r2, h2⟩ : ∃ r, lastC m c = r := ⟨_, rfl⟩
  obtain ⟨r3, h3⟩ : ∃ r, lastB m c = r := ⟨_, rfl⟩
  have HR : Hid (lastR m c = .tuple #[.agg #[.int .i64 r1, .int .i64 r2], .bool r3]) := Lib.hid (by unfold lastR; rw [h1, h2, h3])
  clear h1 h2 h3
  go_enter Try.func6, Try.ntmps6
  go_wp2_with fail
  refine (specLast m c w).mono ?_
  rintro e w1 ⟨rfl, hb1⟩
  have HB1 := Lib.hid hb1; clear hb1
  rw [HR.out]
  go_wp2_with fail
  have hb1 := HB1.out
  have HC1 := Lib.hid (hb1.alloc hb1.size (Obj.cells #[.int .i64 r1, .int .i64 r2] 38))
  obtain ⟨W1, hW1⟩ : ∃ W1, (w1.alloc (Obj.cells #[.int .i64 r1, .int .i64 r2] 38)) = W1 := ⟨_, rfl⟩
  have hg1 : W1.heap[w1.heap.size]? = some (.cells #[.int .i64 r1, .int .i64 r2] 38 (0, 0)) := by rw [← hW1]; exact heap_alloc_new w1 _
  have hs1 : w1.heap.size < W1.heap.size := by rw [← hW1]; simp
  rw [hW1] at HC1 ⊢
  clear hW1 hb1
  refine (implLast m c W1).mono ?_
  rintro e w2 ⟨rfl, hb2⟩
  obtain ⟨k0, k1, _, _⟩ := two_cells ((hb2.block _ hs1).trans hg1)
  have hs2 := Nat.lt_of_lt_of_le hs1 hb2.size
  have HC2 := Lib.hid (HC1.out.trans (hb2.mono HC1.out.size)); clear hb2 hg1 hs1
  rw [HR.out]
  go_wp2_with fail
  have hb2 := HC2.out
  have HC3 := Lib.hid (hb2.alloc hb2.size (Obj.cells #[.int .i64 r1, .int .i64 r2] 38))
  refine (eqBlk r1 r2 _).mono ?_
  rintro e w3 ⟨rfl, hb3⟩
  have HB3 := Lib.hid (HC3.out.trans (hb3.mono HC3.out.size)); clear hb3
  go_wp2
  go_ret
  exact ⟨rfl, HB3.out⟩


theorem own : ownKnob Try.prog.godebug = none := by kernel_rfl
theorem laidOut : laidOutB Try.prog = true := by kernel_rfl
set_option maxRecDepth 100000 in
theorem lifted (os : Os) (started : os.Started) (H : Type) (enc : TypeId × Value → H) :
    ReturnsInHanded {} Try.checked os 6 .any (Rows.fnExactLastFitSpec.pre6 enc Try.prog Try.f6 Rows.fnExactLastFitRow.domain false) (Rows.fnExactLastFitSpec.post enc Try.prog Try.f6 false true false false) := by
  refine returnsInHanded_of_change_sized (C := Try.checked) own started (by kernel_rfl) Try.func6
    (ChangeSpec.witness6 (enc := enc) (C := Try.checked) false ⟨#[], #[.int .i64 0, .int .i64 0], []⟩ 8 (by kernel_rfl) (by kernel_rfl) (by kernel_rfl) (by kernel_rfl)) ?_
  intro W base args ds gs before hval0 hW _ hsz0 _
  clear hsz0
  have hval : ∀ (j : Nat) t v, Try.f6.params[j]? = some t → args[j]? = some v → Value.okWide Try.prog W .any base t v := hval0
  have hW' := hW
  obtain ⟨p, q, hA0, hV, rfl, _, _⟩ := hW
  have hA : DataW.TrodAll enc Try.prog W 0 (fun _ => true) true Try.f6.params.toList args.toList ds p := hA0
  rw [Try.params6] at hA hval
  obtain ⟨v0, vs0, d0, ds0, p0, q0, hargs, rfl, rfl, h0, r0⟩ := trodAll_cons hA
  obtain ⟨v1, vs1, d1, ds1, p1, q1, rfl, rfl, rfl, h1, r1⟩ := trodAll_cons r0
  obtain ⟨rfl, rfl, rfl⟩ := trodAll_nil r1
  obtain rfl : args = #[v0, v1] := by cases args; simp_all
  obtain ⟨rfl, rfl⟩ := trodVars_none hV
  simp only [List.append_nil] at hW'
  have hlt0 : ∀ x ∈ p0, x.block < W.heap.size := fun x hx => by simpa using hW'.lt x (by simp [hx])
  have hlt1 : ∀ x ∈ p1, x.block < W.heap.size := fun x hx => by simpa using hW'.lt x (by simp [hx])
  have fin : ∀ W' : World, Below W.heap.size W W' → Rows.fnExactLastFitSpec.post enc Try.checked.prog Try.f6 false true false false W #[v0, v1] (.bool true) W' := by
    intro W' hb
    refine ⟨_, _, _, [] ++ [], (p0 ++ (p1 ++ [])), [], hW', ?_, ?_, rfl, hb.frame _, fun h => by cases h⟩
    · exact trodAll_mk1 (shut_bool Try.underlying4 true)
    · exact trodAll_cons_mk (Below.trod laidOut (by kernel_rfl) (of_decide_eq_true (by kernel_rfl)) h0 hb hlt0) (trodAll_cons_mk (Below.trod laidOut (by kernel_rfl) (of_decide_eq_true (by kernel_rfl)) h1 hb hlt1) (trodAll_mk0))
  clear hW' hV hA0
  obtain ⟨a0, rfl, _, _, w0⟩ := open_int Try.underlying3 (hval 0 3 v0 rfl rfl) h0
  obtain ⟨a1, rfl, _, _, w1⟩ := open_int Try.underlying3 (hval 1 3 v1 rfl rfl) h1
  exact (walk a0 a1 W w0 w1).mono fun e W' ⟨he, hb⟩ => ⟨_, he, fin W' hb⟩

theorem over : Rows.fnExactLastFitRow.holds Try.pinned (OpenSpec.ofChange Rows.fnExactLastFitSpec) :=
  OpenClaim.holds_of_wide 6 Try.f6 rfl rfl rfl rfl rfl rfl rfl ⟨rfl, rfl, rfl, rfl, rfl⟩ rfl rfl rfl rfl rfl (by kernel_rfl) Try.func6 (by kernel_rfl)
    (of_decide_eq_true (by kernel_rfl)) (by unfold Func.isWrapper; first | (rw [if_pos (by decide +kernel)]; kernel_rfl) | (rw [if_neg (by decide +kernel)]; exact ⟨rfl, rfl⟩))
    (fun os started H enc _ => lifted os started H enc)

/-- THE STATEMENT -/
theorem proved : Rows.FnExactLastFitSaid :=
  over
end Go.Proofs.Ythmmhhoaplbfgab.fnExactLastFit
