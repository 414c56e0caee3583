/- Proved: at every argument impl.IsValidFrame answers as spec.IsValidFrame does and leaves its arguments alone (the law FnExactIsValidFrame returns true). No condition. -/
import Derived.Test.YtgaankdmppoghabRows
import Derived.Test.YtgaankdmppoghabFrS
import Derived.Test.YtgaankdmppoghabFrV
import Derived.Test.YtgaankdmppoghabArg
import Derived.WalkKit
import Derived.ProofKit
import Derived.OpenShut
import Derived.ShutString
import Derived.SizedLaws
import Derived.Carry
namespace Go.Proofs.Ytgaankdmppoghab.fnExactIsValidFrame
open Go.ChangeShapes Go.WideShapes Go.ChangeAt Go.RowKit
open Go.ChangeMaps (open_string shut_string)

set_option maxRecDepth 100000 in
set_option maxHeartbeats 4000000 in
theorem walk (st sp : Int) (A : Option Addr) (n c : Nat) (zs : List Int) (w : World) (hn : zs.length = n) (hm : n ≤ maxLen) (hr : Rd w w.heap.size A (zs.map (Value.int .i64))) (hwf : ∀ z ∈ zs, (Lit.int .i64 z).wf = true) :
    Calls Try.prog 3 #[.agg #[.int .i64 st, .int .i64 sp, .slice A n c]] w fun e w' => e = .returned (.bool true) ∧ Below w.heap.size w w' := by
  clear hwf
  have HN := Lib.hid hn; clear hn
  have HRw := Lib.hid hr; clear hr
  obtain ⟨r, hre⟩ : ∃ r, frB st sp zs = r := ⟨_, rfl⟩
  have HE := Lib.hid hre; clear hre
  go_enter Try.func3, Try.ntmps3
  go_wp2_with fail
  obtain ⟨W0, hW0⟩ : ∃ W0, (w.alloc (Obj.cells #[.int .i64 st, .int .i64 sp, .slice A n c] 24)) = W0 := ⟨_, rfl⟩
  have K0 : Hid (W0.cell? ⟨w.heap.size, 0, none⟩ = some (.int .i64 st)) := Lib.hid (by rw [← hW0]; simp [go_sem])
  have K1 : Hid (W0.cell? ⟨w.heap.size, 1, none⟩ = some (.int .i64 sp)) := Lib.hid (by rw [← hW0]; simp [go_sem])
  have K2 : Hid (W0.cell? ⟨w.heap.size, 2, none⟩ = some (.slice A n c)) := Lib.hid (by rw [← hW0]; simp [go_sem])
  have HZ0 : Hid (w.heap.size < W0.heap.size) := Lib.hid (by rw [← hW0]; simp)
  have HW0 : Hid (Below w.heap.size w W0) := Lib.hid (by rw [← hW0]; exact (Below.refl w.heap.size w).alloc (Nat.le_refl _) _)
  rw [hW0]
  clear hW0
  have HR := Lib.hid (HRw.out.moved HW0.out)
  refine (szFr st sp A n c 1048576 W0 hm (by omega) (by omega)).mono ?_
  rintro e w1 ⟨v, rfl, hb1, hv0, hv1, hv2⟩
  have B1 := Lib.hid hb1
  by_cases hneg : v < 0
  · go_wp2
    go_ret
    exact ⟨rfl, HW0.out.trans (hb1.mono HW0.out.size)⟩
  have hp : 0 ≤ v := by omega
  have hsm : n ≤ 1048576 := by have := hv2 hp; omega
  clear hneg hv2 hm
  have k0 := (hb1.cell (p := ⟨w.heap.size, 0, none⟩) HZ0.out).trans K0.out
  have k1 := (hb1.cell (p := ⟨w.heap.size, 1, none⟩) HZ0.out).trans K1.out
  have k2 := (hb1.cell (p := ⟨w.heap.size, 2, none⟩) HZ0.out).trans K2.out
  clear hb1
  go_wp2_with fail
  refine (toFr st sp A n c zs w1 HN.out (HR.out.moved B1.out) hsm).mono ?_
  rintro e w2 ⟨g2, rfl, hg2, ho2, hb2⟩
  have B2 := Lib.hid (B1.out.trans (hb2.mono B1.out.size))
  have R2 := Lib.hid (Rd.ofOwnK ho2)
  clear k0 k1 k2 hb2 ho2
  go_wp2_with fail
  refine (sFrV st sp _ n n zs w2 HN.out hsm R2.out).mono ?_
  rw [HE.out]
  rintro e w3 ⟨rfl, hb3⟩
  have B3 := Lib.hid (B2.out.trans (hb3.mono B2.out.size))
  have k0 := (B3.out.cell (p := ⟨w.heap.size, 0, none⟩) HZ0.out).trans K0.out
  have k1 := (B3.out.cell (p := ⟨w.heap.size, 1, none⟩) HZ0.out).trans K1.out
  have k2 := (B3.out.cell (p := ⟨w.heap.size, 2, none⟩) HZ0.out).trans K2.out
  clear hb3 R2 B2 hg2
  go_wp2_with fail
  refine (toFr st sp A n c zs w3 HN.out (HR.out.moved B3.out) hsm).mono ?_
  rintro e w4 ⟨x0, rfl, hgx, hox, hb4⟩
  have B4 := Lib.hid (B3.out.trans (hb4.mono B3.out.size))
  have R4 := Lib.hid (Rd.ofOwnK hox)
  clear k0 k1 k2 hb4 hox hgx
  go_wp2_with fail
  obtain ⟨V0, hV0⟩ : ∃ V, (w4.alloc (Obj.cells #[.int .i64 st, .int .i64 sp, .slice (some ⟨x0, 0, none⟩) n n] 27)) = V := ⟨_, rfl⟩
  have X0 : Hid (V0.cell? ⟨w4.heap.size, 0, none⟩ = some (.int .i64 st)) := Lib.hid (by rw [← hV0]; simp [go_sem])
  have X1 : Hid (V0.cell? ⟨w4.heap.size, 1, none⟩ = some (.int .i64 sp)) := Lib.hid (by rw [← hV0]; simp [go_sem])
  have X2 : Hid (V0.cell? ⟨w4.heap.size, 2, none⟩ = some (.slice (some ⟨x0, 0, none⟩) n n)) := Lib.hid (by rw [← hV0]; simp [go_sem])
  have HZV : Hid (w4.heap.size < V0.heap.size) := Lib.hid (by rw [← hV0]; simp)
  have hbV : Below w4.heap.size w4 V0 := by rw [← hV0]; exact (Below.refl _ _).alloc (Nat.le_refl _) _
  have BV := Lib.hid (B4.out.trans (hbV.mono B4.out.size))
  have RV := Lib.hid (R4.out.moved hbV)
  rw [hV0]
  clear hV0 hbV
  refine (iFrV st sp _ n n zs V0 HN.out hsm RV.out).mono ?_
  rw [HE.out]
  rintro e w5 ⟨rfl, hb5⟩
  have B5 := Lib.hid (BV.out.trans (hb5.mono BV.out.size))
  have R5 := Lib.hid (RV.out.moved hb5)
  have x0_ := (hb5.cell (p := ⟨w4.heap.size, 0, none⟩) HZV.out).trans X0.out
  have x1_ := (hb5.cell (p := ⟨w4.heap.size, 1, none⟩) HZV.out).trans X1.out
  have x2_ := (hb5.cell (p := ⟨w4.heap.size, 2, none⟩) HZV.out).trans X2.out
  have k0 := (B5.out.cell (p := ⟨w.heap.size, 0, none⟩) HZ0.out).trans K0.out
  have k1 := (B5.out.cell (p := ⟨w.heap.size, 1, none⟩) HZ0.out).trans K1.out
  have k2 := (B5.out.cell (p := ⟨w.heap.size, 2, none⟩) HZ0.out).trans K2.out
  have hgx : w4.heap.size < w5.heap.size := Nat.lt_of_lt_of_le HZV.out hb5.size
  have hgw : w.heap.size < w5.heap.size := Nat.lt_of_lt_of_le HZ0.out B5.out.size
  clear hb5
  have hbd : Bel w5 w5.drew := Bel.of (Below.refl _ _).drew
  go_upto_region 10 with fail
  go_cut [26] (fun s26 wx => s26 = .bool false ∧ Bel w5 wx)
  case first =>
    go_region_held3 (fun U => U.cell? ⟨w4.heap.size, 0, none⟩ = some (.int .i64 st) ∧ U.cell? ⟨w4.heap.size, 1, none⟩ = some (.int .i64 sp) ∧ U.cell? ⟨w4.heap.size, 2, none⟩ = some (.slice (some ⟨x0, 0, none⟩) n n) ∧ U.cell? ⟨w.heap.size, 0, none⟩ = some (.int .i64 st) ∧ U.cell? ⟨w.heap.size, 1, none⟩ = some (.int .i64 sp) ∧ U.cell? ⟨w.heap.size, 2, none⟩ = some (.slice A n c) ∧ Bel w5 U)
      (first | go_keep | (go_split_ands; (refine ⟨?_, ?_, ?_, ?_, ?_, ?_, ?_⟩ <;> first | assumption | exact Bel.step (by assumption) hbt6 | exact Bel.step (by assumption) hbt7 | exact (Bel.at_ (by assumption) hbt6 (by assumption)).trans (by assumption) | exact (Bel.at_ (by assumption) hbt7 (by assumption)).trans (by assumption))))
      (first
        | (go_at_call 13
           go_split_ands
           refine (toFr st sp A n c zs _ HN.out (HR.out.moved (Below.trans B5.out ((Bel.out (by assumption)).mono B5.out.size))) hsm).mono ?_
           rintro e t6 ⟨y6, rfl, hgt6, hot6, hbt6⟩
           have S6 := Lib.hid (Rd.ofOwnK hot6)
           clear hot6 hgt6)
        | (go_at_call 15
           go_split_ands
           refine (eqFr st sp x0 y6 n n n zs t6 HN.out hsm (R5.out.moved (Bel.out (by assumption))) S6.out).mono ?_
           rintro e t7 ⟨rfl, hbt7⟩))
    all_goals
      go_split_ands
      have hbl : Bel w5 t7 := by assumption
      go_wp2_with fail
      go_meet
      exact ⟨rfl, hbl⟩
  case rest =>
  clear hgx hgw hbd x0_ x1_ x2_ k0 k1 k2
  revert hcut; generalize wc = wc2; intro hcut
  obtain ⟨hs_, hbl⟩ := hcut
  subst hs_
  have BF := Lib.hid (B5.out.trans ((Bel.out hbl).mono B5.out.size))
  clear hbl
  go_wp2
  go_ret
  exact ⟨rfl, HW0.out.trans (BF.out.mono HW0.out.size)⟩


theorem own : ownKnob Try.prog.godebug = none := by kernel_rfl
theorem laidOut : laidOutB Try.prog = true := by kernel_rfl
set_option maxRecDepth 100000 in
theorem lifted (os : Os) (started : os.Started) (H : Type) (enc : TypeId × Value → H) :
    ReturnsInHanded {} Try.checked os 3 .any (Rows.fnExactIsValidFrameSpec.pre6 enc Try.prog Try.f3 Rows.fnExactIsValidFrameRow.domain false) (Rows.fnExactIsValidFrameSpec.post enc Try.prog Try.f3 false true false false) := by
  refine returnsInHanded_of_change_sized (C := Try.checked) own started (by kernel_rfl) Try.func3
    (ChangeSpec.witness6 (enc := enc) (C := Try.checked) false ⟨#[], #[.agg #[.int .i64 0, .int .i64 0, .slice none 0 0]], []⟩ 8 (by kernel_rfl) (by kernel_rfl) (by kernel_rfl) (by kernel_rfl)) ?_
  intro W base args ds gs before hval0 hW _ hsz0 _
  clear hsz0
  have hval : ∀ (j : Nat) t v, Try.f3.params[j]? = some t → args[j]? = some v → Value.okWide Try.prog W .any base t v := hval0
  have hW' := hW
  obtain ⟨p, q, hA0, hV, rfl, _, _⟩ := hW
  have hA : DataW.TrodAll enc Try.prog W 0 (fun _ => true) true Try.f3.params.toList args.toList ds p := hA0
  rw [Try.params3] at hA hval
  obtain ⟨v0, vs0, d0, ds0, p0, q0, hargs, rfl, rfl, h0, r0⟩ := trodAll_cons hA
  obtain ⟨rfl, rfl, rfl⟩ := trodAll_nil r0
  obtain rfl : args = #[v0] := by cases args; simp_all
  obtain ⟨rfl, rfl⟩ := trodVars_none hV
  simp only [List.append_nil] at hW'
  have hlt0 : ∀ x ∈ p0, x.block < W.heap.size := fun x hx => by simpa using hW'.lt x (by simp [hx])
  have fin : ∀ W' : World, Below W.heap.size W W' → Rows.fnExactIsValidFrameSpec.post enc Try.checked.prog Try.f3 false true false false W #[v0] (.bool true) W' := by
    intro W' hb
    refine ⟨_, _, _, [] ++ [], (p0 ++ []), [], hW', ?_, ?_, rfl, hb.frame _, fun h => by cases h⟩
    · exact trodAll_mk1 (shut_bool Try.underlying4 true)
    · exact trodAll_cons_mk (Below.trod laidOut (by kernel_rfl) (of_decide_eq_true (by kernel_rfl)) h0 hb hlt0) (trodAll_mk0)
  clear hW' hV hA0
  obtain ⟨t0, u0, A0, n0, c0, z0, rfl, ha0, hb0, hc0, hd0⟩ := open_fr Try.underlying24 (by kernel_rfl) (by kernel_rfl) Try.underlying3 Try.underlying3 Try.underlying22 Try.underlying3 (by kernel_rfl) (hval 0 24 v0 rfl rfl) h0
  exact (walk t0 u0 A0 n0 c0 z0 W ha0 hb0 hc0 hd0).mono fun e W' ⟨he, hb⟩ => ⟨_, he, fin W' hb⟩

theorem over : Rows.fnExactIsValidFrameRow.holds Try.pinned (OpenSpec.ofChange Rows.fnExactIsValidFrameSpec) :=
  OpenClaim.holds_of_wide 3 Try.f3 rfl rfl rfl rfl rfl rfl rfl ⟨rfl, rfl, rfl, rfl, rfl⟩ rfl rfl rfl rfl rfl (by kernel_rfl) Try.func3 (by kernel_rfl)
    (of_decide_eq_true (by kernel_rfl)) (by unfold Func.isWrapper; first | (rw [if_pos (by decide +kernel)]; kernel_rfl) | (rw [if_neg (by decide +kernel)]; exact ⟨rfl, rfl⟩))
    (fun os started H enc _ => lifted os started H enc)

/-- THE STATEMENT -/
theorem proved : Rows.FnExactIsValidFrameSaid :=
  over
end Go.Proofs.Ytgaankdmppoghab.fnExactIsValidFrame
