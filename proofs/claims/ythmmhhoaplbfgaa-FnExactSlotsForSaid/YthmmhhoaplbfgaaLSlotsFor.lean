/- Proved: at every list of formats, every length and every rate impl.SlotsFor answers as spec.SlotsFor does and leaves its arguments alone (the law FnExactSlotsFor returns true). No condition. -/
import Derived.Test.YthmmhhoaplbfgaaRows
import Derived.Test.YthmmhhoaplbfgaaFmtS
import Derived.Test.YthmmhhoaplbfgaaSlotsS
import Derived.Test.YthmmhhoaplbfgaaArg
import Derived.WalkKit
import Derived.ProofKit
import Derived.OpenShut
import Derived.ShutString
import Derived.SizedLaws
import Derived.Carry
namespace Go.Proofs.Ythmmhhoaplbfgaa.fnExactSlotsFor
open Go.ChangeShapes Go.WideShapes Go.ChangeAt Go.RowKit
open Go.ChangeMaps (open_string shut_string)

set_option maxHeartbeats 1000000 in
theorem walk (A : Option Addr) (n c : Nat) (qs : List Q2) (x y : Int) (w : World) (hn : qs.length = n) (hm : n ≤ maxLen) (hr : Rd w w.heap.size A (qs.flatMap Q2.cells)) (_hwf : ∀ q ∈ qs, q.wf) (_w1 : (Lit.int .i64 x).wf = true) (_w2 : (Lit.int .i64 y).wf = true) :
    Calls Try.prog 7 #[.slice A n c, .int .i64 x, .int .i64 y] w fun e w' => e = .returned (.bool true) ∧ Below w.heap.size w w' := by
  clear _hwf _w1 _w2
  obtain ⟨r1, hr1e⟩ : ∃ r, slI qs x y = r := ⟨_, rfl⟩
  obtain ⟨r2, hr2e⟩ : ∃ r, slB qs x y = r := ⟨_, rfl⟩
  have HB : Hid (slR qs x y = .tuple #[.int .i64 r1, .bool r2]) := Lib.hid (by unfold slR; rw [hr1e, hr2e])
  clear hr1e hr2e
  have HN := Lib.hid hn; clear hn
  go_enter Try.func7, Try.ntmps7
  go_wp2_with fail
  refine (szFmtS A n c 1048576 w hm (by omega) (by omega)).mono ?_
  rintro e w' ⟨v, rfl, rfl, hv0, hv1, hv2⟩
  by_cases hneg : v < 0
  · go_wp2
    go_ret
    exact ⟨rfl, Below.refl _ _⟩
  have hneg' : 0 ≤ v := by omega
  have hsm : n ≤ 1048576 := by have := hv2 hneg'; omega
  clear hneg hv2 hm
  go_wp2_with fail
  refine (toFmtS A n c qs w HN.out hr hsm).mono ?_
  rintro e w1 ⟨rfl, hown1, hb1⟩
  have hr1 := Rd.ofOwnK hown1
  go_wp2_with fail
  refine (specSlots _ n n qs x y w1 HN.out hr1 hsm).mono ?_
  rintro e w2 ⟨rfl, hb2⟩
  rw [HB.out]
  have hb02 : Below w.heap.size w w2 := hb1.trans (hb2.mono hb1.size)
  have hrw2 := (hr.over hb02).wider hb02.size
  clear hr1 hown1
  go_wp2_with fail
  refine (toFmtS A n c qs w2 HN.out hrw2 hsm).mono ?_
  rintro e w3 ⟨rfl, hown3, hb3⟩
  have hr3 := Rd.ofOwnK hown3
  have hb03 : Below w.heap.size w w3 := hb02.trans (hb3.mono hb02.size)
  go_wp2_with fail
  refine (implSlots _ n n qs x y w3 HN.out hr3 hsm).mono ?_
  rintro e w4 ⟨rfl, hb4⟩
  rw [HB.out]
  have hb04 : Below w.heap.size w w4 := hb03.trans (hb4.mono hb03.size)
  have hr4 := (hr3.over hb4).wider hb4.size
  have hrw4 := (hr.over hb04).wider hb04.size
  clear hown3 hr3 hrw2
  go_wp2_with fail
  refine (toFmtS A n c qs w4 HN.out hrw4 hsm).mono ?_
  rintro e w5 ⟨rfl, hown5, hb5⟩
  have hr5 := Rd.ofOwnK hown5
  have hr45 := (hr4.over hb5).wider hb5.size
  have hb05 : Below w.heap.size w w5 := hb04.trans (hb5.mono hb04.size)
  clear hown5
  go_wp2_with fail
  refine (eqFmtS _ _ n n n qs w5 HN.out hr45 hr5 hsm).mono ?_
  rintro e w6 ⟨rfl, hb6⟩
  have hb06 : Below w.heap.size w w6 := hb05.trans (hb6.mono hb05.size)
  go_wp2
  go_ret
  exact ⟨rfl, hb06⟩


theorem own : ownKnob Try.prog.godebug = none := by kernel_rfl
theorem laidOut : laidOutB Try.prog = true := by kernel_rfl
set_option maxRecDepth 100000 in
theorem lifted (os : Os) (started : os.Started) (H : Type) (enc : TypeId × Value → H) :
    ReturnsInHanded {} Try.checked os 7 .any (Rows.fnExactSlotsForSpec.pre6 enc Try.prog Try.f7 Rows.fnExactSlotsForRow.domain false) (Rows.fnExactSlotsForSpec.post enc Try.prog Try.f7 false true false false) := by
  refine returnsInHanded_of_change_sized (C := Try.checked) own started (by kernel_rfl) Try.func7
    (ChangeSpec.witness6 (enc := enc) (C := Try.checked) false ⟨#[], #[.slice none 0 0, .int .i64 0, .int .i64 0], []⟩ 8 (by kernel_rfl) (by kernel_rfl) (by kernel_rfl) (by kernel_rfl)) ?_
  intro W base args ds gs before hval0 hW _ hsz0 _
  clear hsz0
  have hval : ∀ (j : Nat) t v, Try.f7.params[j]? = some t → args[j]? = some v → Value.okWide Try.prog W .any base t v := hval0
  have hW' := hW
  obtain ⟨p, q, hA0, hV, rfl, _, _⟩ := hW
  have hA : DataW.TrodAll enc Try.prog W 0 (fun _ => true) true Try.f7.params.toList args.toList ds p := hA0
  rw [Try.params7] at hA hval
  obtain ⟨v0, vs0, d0, ds0, p0, q0, hargs, rfl, rfl, h0, r0⟩ := trodAll_cons hA
  obtain ⟨v1, vs1, d1, ds1, p1, q1, rfl, rfl, rfl, h1, r1⟩ := trodAll_cons r0
  obtain ⟨v2, vs2, d2, ds2, p2, q2, rfl, rfl, rfl, h2, r2⟩ := trodAll_cons r1
  obtain ⟨rfl, rfl, rfl⟩ := trodAll_nil r2
  obtain rfl : args = #[v0, v1, v2] := by cases args; simp_all
  obtain ⟨rfl, rfl⟩ := trodVars_none hV
  simp only [List.append_nil] at hW'
  have hlt0 : ∀ x ∈ p0, x.block < W.heap.size := fun x hx => by simpa using hW'.lt x (by simp [hx])
  have hlt1 : ∀ x ∈ p1, x.block < W.heap.size := fun x hx => by simpa using hW'.lt x (by simp [hx])
  have hlt2 : ∀ x ∈ p2, x.block < W.heap.size := fun x hx => by simpa using hW'.lt x (by simp [hx])
  have fin : ∀ W' : World, Below W.heap.size W W' → Rows.fnExactSlotsForSpec.post enc Try.checked.prog Try.f7 false true false false W #[v0, v1, v2] (.bool true) W' := by
    intro W' hb
    refine ⟨_, _, _, [] ++ [], (p0 ++ (p1 ++ (p2 ++ []))), [], hW', ?_, ?_, rfl, hb.frame _, fun h => by cases h⟩
    · exact trodAll_mk1 (shut_bool Try.underlying4 true)
    · exact trodAll_cons_mk (Below.trod laidOut (by kernel_rfl) (of_decide_eq_true (by kernel_rfl)) h0 hb hlt0) (trodAll_cons_mk (Below.trod laidOut (by kernel_rfl) (of_decide_eq_true (by kernel_rfl)) h1 hb hlt1) (trodAll_cons_mk (Below.trod laidOut (by kernel_rfl) (of_decide_eq_true (by kernel_rfl)) h2 hb hlt2) (trodAll_mk0)))
  clear hW' hV hA0
  obtain ⟨b0, len0, cap0, rfl⟩ := okWide_slice Try.underlying53 (hval 0 53 v0 rfl rfl)
  obtain ⟨fuel0, hf0⟩ := h0
  obtain ⟨A0, n0, c0, z0, e0, ha0, hb0, hc0, hd0⟩ := rd_q2s Try.underlying53 Try.underlying104 (by kernel_rfl) (by kernel_rfl) rfl (hint_of Try.underlying3 (by decide +kernel)) hf0
  simp only [Value.cells, List.cons.injEq, Value.slice.injEq, and_true] at e0
  obtain ⟨rfl, rfl, rfl⟩ := e0
  obtain ⟨a1, rfl, _, _, w1⟩ := open_int Try.underlying3 (hval 1 3 v1 rfl rfl) h1
  obtain ⟨a2, rfl, _, _, w2⟩ := open_int Try.underlying3 (hval 2 3 v2 rfl rfl) h2
  exact (walk b0 len0 cap0 z0 a1 a2 W ha0 hb0 hc0 hd0 w1 w2).mono fun e W' ⟨he, hb⟩ => ⟨_, he, fin W' hb⟩

theorem over : Rows.fnExactSlotsForRow.holds Try.pinned (OpenSpec.ofChange Rows.fnExactSlotsForSpec) :=
  OpenClaim.holds_of_wide 7 Try.f7 rfl rfl rfl rfl rfl rfl rfl ⟨rfl, rfl, rfl, rfl, rfl⟩ rfl rfl rfl rfl rfl (by kernel_rfl) Try.func7 (by kernel_rfl)
    (of_decide_eq_true (by kernel_rfl)) (by unfold Func.isWrapper; first | (rw [if_pos (by decide +kernel)]; kernel_rfl) | (rw [if_neg (by decide +kernel)]; exact ⟨rfl, rfl⟩))
    (fun os started H enc _ => lifted os started H enc)

/-- THE STATEMENT -/
theorem proved : Rows.FnExactSlotsForSaid :=
  over
end Go.Proofs.Ythmmhhoaplbfgaa.fnExactSlotsFor
