/- Proved: at every argument impl.InverseSymbol answers as spec.InverseSymbol does (the law FnExactInverseSymbol returns true). No condition. -/
import Derived.Test.YtgaankdmppoghaaRows
import Derived.Test.YtgaankdmppoghaaSymV
import Derived.Test.YtgaankdmppoghaaArg
import Derived.WalkKit
import Derived.ProofKit
import Derived.OpenShut
import Derived.ShutString
import Derived.SizedLaws
import Derived.Carry
namespace Go.Proofs.Ytgaankdmppoghaa.fnExactInverseSymbol
open Go.ChangeShapes Go.WideShapes Go.ChangeAt Go.RowKit
open Go.ChangeMaps (open_string shut_string)

set_option maxRecDepth 100000 in
set_option maxHeartbeats 8000000 in
theorem walk (a : Int) (w : World) (_w0 : (Lit.int .i64 a).wf = true) :
    Calls Try.prog 10 #[.int .i64 a] w fun e w' => e = .returned (.bool true) ∧ Below w.heap.size w w' := by
  have W0_ := Lib.hid _w0; clear _w0
  obtain ⟨r0_, hr0_⟩ : ∃ r, invI a = r := ⟨_, rfl⟩
  have HE0 := Lib.hid hr0_; clear hr0_
  obtain ⟨r1_, hr1_⟩ : ∃ r, invB a = r := ⟨_, rfl⟩
  have HE1 := Lib.hid hr1_; clear hr1_
  go_enter Try.func10, Try.ntmps10
  have hB0 := Lib.hid (Below.refl w.heap.size w)
  go_wp2_with fail
  refine (sInvS a w).mono ?_
  rw [HE0.out, HE1.out]
  rintro e w1 ⟨rfl, hb1⟩
  have hB1 := Lib.hid (hB0.out.trans (hb1.mono hB0.out.size))
  have Z1_ : Hid (w.heap.size ≤ w1.heap.size) := Lib.hid hb1.size
  clear hb1
  go_wp2_with fail
  refine (iInvS a w1).mono ?_
  rw [HE0.out, HE1.out]
  rintro e w2 ⟨rfl, hb2⟩
  have hB2 := Lib.hid (hB1.out.trans (hb2.mono hB1.out.size))
  have Z2_ : Hid (w1.heap.size ≤ w2.heap.size) := Lib.hid hb2.size
  clear hb2
  go_wp2
  go_ret
  exact ⟨rfl, hB2.out⟩


theorem own : ownKnob Try.prog.godebug = none := by kernel_rfl
theorem laidOut : laidOutB Try.prog = true := by kernel_rfl
set_option maxRecDepth 100000 in
theorem lifted (os : Os) (started : os.Started) (H : Type) (enc : TypeId × Value → H) :
    ReturnsInHanded {} Try.checked os 10 .any (Rows.fnExactInverseSymbolSpec.pre6 enc Try.prog Try.f10 Rows.fnExactInverseSymbolRow.domain false) (Rows.fnExactInverseSymbolSpec.post enc Try.prog Try.f10 false true false false) := by
  refine returnsInHanded_of_change_sized (C := Try.checked) own started (by kernel_rfl) Try.func10
    (ChangeSpec.witness6 (enc := enc) (C := Try.checked) false ⟨#[], #[.int .i64 0], []⟩ 8 (by kernel_rfl) (by kernel_rfl) (by kernel_rfl) (by kernel_rfl)) ?_
  intro W base args ds gs before hval0 hW _ hsz0 _
  clear hsz0
  have hval : ∀ (j : Nat) t v, Try.f10.params[j]? = some t → args[j]? = some v → Value.okWide Try.prog W .any base t v := hval0
  have hW' := hW
  obtain ⟨p, q, hA0, hV, rfl, _, _⟩ := hW
  have hA : DataW.TrodAll enc Try.prog W 0 (fun _ => true) true Try.f10.params.toList args.toList ds p := hA0
  rw [Try.params10] at hA hval
  obtain ⟨v0, vs0, d0, ds0, p0, q0, hargs, rfl, rfl, h0, r0⟩ := trodAll_cons hA
  obtain ⟨rfl, rfl, rfl⟩ := trodAll_nil r0
  obtain rfl : args = #[v0] := by cases args; simp_all
  obtain ⟨rfl, rfl⟩ := trodVars_none hV
  simp only [List.append_nil] at hW'
  have hlt0 : ∀ x ∈ p0, x.block < W.heap.size := fun x hx => by simpa using hW'.lt x (by simp [hx])
  have fin : ∀ W' : World, Below W.heap.size W W' → Rows.fnExactInverseSymbolSpec.post enc Try.checked.prog Try.f10 false true false false W #[v0] (.bool true) W' := by
    intro W' hb
    refine ⟨_, _, _, [] ++ [], (p0 ++ []), [], hW', ?_, ?_, rfl, hb.frame _, fun h => by cases h⟩
    · exact trodAll_mk1 (shut_bool Try.underlying4 true)
    · exact trodAll_cons_mk (Below.trod laidOut (by kernel_rfl) (of_decide_eq_true (by kernel_rfl)) h0 hb hlt0) (trodAll_mk0)
  clear hW' hV hA0
  obtain ⟨a0, rfl, _, _, w0⟩ := open_int Try.underlying3 (hval 0 3 v0 rfl rfl) h0
  exact (walk a0 W w0).mono fun e W' ⟨he, hb⟩ => ⟨_, he, fin W' hb⟩

theorem over : Rows.fnExactInverseSymbolRow.holds Try.pinned (OpenSpec.ofChange Rows.fnExactInverseSymbolSpec) :=
  OpenClaim.holds_of_wide 10 Try.f10 rfl rfl rfl rfl rfl rfl rfl ⟨rfl, rfl, rfl, rfl, rfl⟩ rfl rfl rfl rfl rfl (by kernel_rfl) Try.func10 (by kernel_rfl)
    (of_decide_eq_true (by kernel_rfl)) (by unfold Func.isWrapper; first | (rw [if_pos (by decide +kernel)]; kernel_rfl) | (rw [if_neg (by decide +kernel)]; exact ⟨rfl, rfl⟩))
    (fun os started H enc _ => lifted os started H enc)

/-- THE STATEMENT -/
theorem proved : Rows.FnExactInverseSymbolSaid :=
  over
end Go.Proofs.Ytgaankdmppoghaa.fnExactInverseSymbol
