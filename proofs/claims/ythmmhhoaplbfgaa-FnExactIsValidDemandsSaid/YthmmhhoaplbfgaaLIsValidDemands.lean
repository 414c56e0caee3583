/- Proved: at every network and every list of demands impl.IsValidDemands answers as spec.IsValidDemands does and leaves its arguments alone (the law FnExactIsValidDemands returns true). No condition. -/
import Derived.Test.YthmmhhoaplbfgaaRows
import Derived.Test.YthmmhhoaplbfgaaDem
import Derived.Test.YthmmhhoaplbfgaaArg
import Derived.WalkKit
import Derived.ProofKit
import Derived.OpenShut
import Derived.ShutString
import Derived.SizedLaws
import Derived.Carry
namespace Go.Proofs.Ythmmhhoaplbfgaa.fnExactIsValidDemands
open Go.ChangeShapes Go.WideShapes Go.ChangeAt Go.RowKit
open Go.ChangeMaps (open_string shut_string)

set_option maxHeartbeats 2000000 in
theorem walk (A1 : Option Addr) (n1 c1 : Nat) (ss : List ByteArray) (A2 : Option Addr) (n2 c2 : Nat) (fs : List Q4) (A3 : Option Addr) (n3 c3 : Nat) (ds : List Q4) (w : World)
    (hn1 : ss.length = n1) (hm1 : n1 ≤ maxLen) (hr1 : Rd w w.heap.size A1 (ss.map Value.string)) (hws : ∀ s ∈ ss, s.size ≤ maxLen) (hn2 : fs.length = n2) (hm2 : n2 ≤ maxLen) (hr2 : Rd w w.heap.size A2 (fs.flatMap Q4.cells)) (_hwf : ∀ q ∈ fs, q.wf) (hn3 : ds.length = n3) (hm3 : n3 ≤ maxLen) (hr3 : Rd w w.heap.size A3 (ds.flatMap Q4.cells)) (_hwf3 : ∀ q ∈ ds, q.wf) :
    Calls Try.prog 8 #[.agg #[.slice A1 n1 c1, .slice A2 n2 c2], .slice A3 n3 c3] w fun e w' => e = .returned (.bool true) ∧ Below w.heap.size w w' := by
  clear _hwf
  have HN1 := Lib.hid hn1; have HN2 := Lib.hid hn2; have HWS := Lib.hid hws; clear hn1 hn2 hws
  clear _hwf3
  have HN3 := Lib.hid hn3; clear hn3
  obtain ⟨b, hbe⟩ : ∃ b, pb (demsP ss fs ds) = b := ⟨_, rfl⟩
  have HB := Lib.hid hbe; clear hbe
  go_enter Try.func8, Try.ntmps8
  go_wp2_with fail
  obtain ⟨W, hW⟩ : ∃ W, (w.alloc (Obj.cells #[.slice A1 n1 c1, .slice A2 n2 c2] 63)) = W := ⟨_, rfl⟩
  have hk0 : W.cell? ⟨w.heap.size, 0, none⟩ = some (.slice A1 n1 c1) := by rw [← hW]; simp [go_sem]
  have hk1 : W.cell? ⟨w.heap.size, 1, none⟩ = some (.slice A2 n2 c2) := by rw [← hW]; simp [go_sem]
  have hz : w.heap.size < W.heap.size := by rw [← hW]; simp
  have HBW := Lib.hid ((Below.refl w.heap.size w).alloc (Nat.le_refl _) (Obj.cells #[.slice A1 n1 c1, .slice A2 n2 c2] 63))
  rw [hW] at HBW ⊢
  clear hW
  have HR3 := Lib.hid (hr3.moved HBW.out); clear hr3
  have HR1 := Lib.hid (hr1.moved HBW.out); have HR2 := Lib.hid (hr2.moved HBW.out)
  have HK0 : Hid (∀ V, Below W.heap.size W V → V.cell? ⟨w.heap.size, 0, none⟩ = some (.slice A1 n1 c1)) := Lib.hid fun V hV => (hV.cell (p := ⟨_, _, none⟩) hz).trans hk0
  have HK1 : Hid (∀ V, Below W.heap.size W V → V.cell? ⟨w.heap.size, 1, none⟩ = some (.slice A2 n2 c2)) := Lib.hid fun V hV => (hV.cell (p := ⟨_, _, none⟩) hz).trans hk1
  have HZ := Lib.hid hz
  clear hr1 hr2 hk0 hk1 hz
  refine (szNet A1 A2 n1 c1 n2 c2 1048576 ss fs W HN1.out hm1 HR1.out HWS.out hm2 (by omega) (by omega)).mono ?_
  rintro e w0 ⟨v, rfl, hb0, hv0, hv1, hv2⟩
  by_cases hneg : v < 0
  · go_wp2
    go_ret
    exact ⟨rfl, HBW.out.trans (hb0.mono HBW.out.size)⟩
  have hneg' : 0 ≤ v := by omega
  have hsm1 : n1 ≤ 1048576 := by have := hv2 hneg'; omega
  have hsm2 : n2 ≤ 1048576 := by have := hv2 hneg'; omega
  clear hneg hv2 hm1 hm2
  go_wp2_with fail
  refine (szDemS A3 n3 c3 v _ hm3 hneg' (by omega)).mono ?_
  rintro e w' ⟨u, rfl, rfl, hu0, hu1, hu2⟩
  by_cases hng : u < 0
  · go_wp2
    go_ret
    exact ⟨rfl, HBW.out.trans (hb0.mono HBW.out.size)⟩
  have hng' : 0 ≤ u := by omega
  have hsm3 : n3 ≤ 1048576 := by have := hu2 hng'; omega
  clear hng hu2 hm3
  have hB0 := Lib.hid hb0
  have ka := HK0.out _ hB0.out; have kb := HK1.out _ hB0.out
  go_wp2_with fail
  clear ka kb
  refine (toNet A1 A2 n1 c1 n2 c2 ss fs w0 HN1.out (HR1.out.moved hB0.out) hsm1 HN2.out (HR2.out.moved hB0.out) hsm2).mono ?_
  rintro e w1 ⟨g1, g2, rfl, ho1, ho2, hb1⟩
  have hB1 := Lib.hid (hB0.out.trans (hb1.mono hB0.out.size))
  have hS1 := Lib.hid (Rd.ofOwnK ho1); have hS2 := Lib.hid (Rd.ofOwnK ho2)
  clear ho1 ho2 hb1 hb0
  go_wp2_with fail
  refine (toDemS A3 n3 c3 ds w1 HN3.out (HR3.out.moved hB1.out) hsm3).mono ?_
  rintro e w1b ⟨rfl, ho3, hb1b⟩
  have hQ1 := Lib.hid (hS1.out.moved hb1b); have hQ2 := Lib.hid (hS2.out.moved hb1b); have hQ3 := Lib.hid (Rd.ofOwnK ho3)
  have hB1b := Lib.hid (hB1.out.trans (hb1b.mono hB1.out.size))
  clear ho3 hb1b hS1 hS2
  go_wp2_with fail
  refine (specDemsV ⟨HN1.out, hsm1, Nat.le_refl _, hQ1.out, HWS.out, HN2.out, hsm2, hQ2.out⟩ _ n3 n3 ds HN3.out hsm3 hQ3.out).mono ?_
  rintro e w2 ⟨rfl, hb2⟩
  rw [HB.out]
  have hB2 := Lib.hid (hB1b.out.trans (hb2.mono hB1b.out.size))
  clear hb2 hQ1 hQ2 hQ3
  have ka := HK0.out _ hB2.out; have kb := HK1.out _ hB2.out
  go_wp2_with fail
  clear ka kb
  refine (toNet A1 A2 n1 c1 n2 c2 ss fs w2 HN1.out (HR1.out.moved hB2.out) hsm1 HN2.out (HR2.out.moved hB2.out) hsm2).mono ?_
  rintro e w3 ⟨g3, g4, rfl, ho1, ho2, hb3⟩
  have hB3 := Lib.hid (hB2.out.trans (hb3.mono hB2.out.size))
  have hS3 := Lib.hid (Rd.ofOwnK ho1); have hS4 := Lib.hid (Rd.ofOwnK ho2)
  clear ho1 ho2 hb3
  go_wp2_with fail
  obtain ⟨V, hV⟩ : ∃ V, (w3.alloc (Obj.cells #[.slice (some ⟨g3, 0, none⟩) n1 n1, .slice (some ⟨g4, 0, none⟩) n2 n2] 27)) = V := ⟨_, rfl⟩
  have hx0 : V.cell? ⟨w3.heap.size, 0, none⟩ = some (.slice (some ⟨g3, 0, none⟩) n1 n1) := by rw [← hV]; simp [go_sem]
  have hx1 : V.cell? ⟨w3.heap.size, 1, none⟩ = some (.slice (some ⟨g4, 0, none⟩) n2 n2) := by rw [← hV]; simp [go_sem]
  have hzx : w3.heap.size < V.heap.size := by rw [← hV]; simp
  have hbV := (Below.refl w3.heap.size w3).alloc (Nat.le_refl _) (Obj.cells #[.slice (some ⟨g3, 0, none⟩) n1 n1, .slice (some ⟨g4, 0, none⟩) n2 n2] 27)
  rw [hV] at hbV ⊢
  clear hV
  have HBV := Lib.hid (hB3.out.trans (hbV.mono hB3.out.size))
  have hV3 := Lib.hid (hS3.out.moved hbV); have hV4 := Lib.hid (hS4.out.moved hbV)
  have HX0 : Hid (∀ U, Below V.heap.size V U → U.cell? ⟨w3.heap.size, 0, none⟩ = some (.slice (some ⟨g3, 0, none⟩) n1 n1)) := Lib.hid fun U hU => (hU.cell (p := ⟨_, _, none⟩) hzx).trans hx0
  have HX1 : Hid (∀ U, Below V.heap.size V U → U.cell? ⟨w3.heap.size, 1, none⟩ = some (.slice (some ⟨g4, 0, none⟩) n2 n2)) := Lib.hid fun U hU => (hU.cell (p := ⟨_, _, none⟩) hzx).trans hx1
  have HZX := Lib.hid hzx
  clear hx0 hx1 hzx hbV hS3 hS4
  refine (toDemS A3 n3 c3 ds V HN3.out (HR3.out.moved HBV.out) hsm3).mono ?_
  rintro e V2 ⟨rfl, ho3, hbV2⟩
  have hP3 := Lib.hid (hV3.out.moved hbV2); have hP4 := Lib.hid (hV4.out.moved hbV2); have hD3 := Lib.hid (Rd.ofOwnK ho3)
  have HBV2 := Lib.hid (HBV.out.trans (hbV2.mono HBV.out.size))
  have kx := HX0.out _ hbV2; have ky := HX1.out _ hbV2
  have HVV := Lib.hid hbV2
  clear ho3 hbV2 hV3 hV4
  go_wp2_with fail
  clear kx ky
  refine (implDems ⟨HN1.out, hsm1, Nat.le_refl _, hP3.out, HWS.out, HN2.out, hsm2, hP4.out⟩ _ n3 n3 ds HN3.out hsm3 hD3.out).mono ?_
  rintro e w4 ⟨rfl, hb4⟩
  rw [HB.out]
  have hB4 := Lib.hid (HBV2.out.trans (hb4.mono HBV2.out.size))
  have hT3 := Lib.hid (hP3.out.moved hb4); have hT4 := Lib.hid (hP4.out.moved hb4); have hTD := Lib.hid (hD3.out.moved hb4)
  have hVX := Lib.hid (HVV.out.trans (hb4.mono HVV.out.size))
  clear hb4
  have ka := HK0.out _ hB4.out; have kb := HK1.out _ hB4.out
  have kx := HX0.out _ hVX.out; have ky := HX1.out _ hVX.out
  have hgx : w3.heap.size < w4.heap.size := Nat.lt_of_lt_of_le HZX.out hVX.out.size
  have hgw : w.heap.size < w4.heap.size := Nat.lt_of_lt_of_le HZ.out hB4.out.size
  have hbd : Bel w4 w4.drew := Bel.of (Below.refl _ _).drew
  go_wp2_with fail
  go_region_held3 (fun U => U.cell? ⟨w3.heap.size, 0, none⟩ = some (.slice (some ⟨g3, 0, none⟩) n1 n1) ∧ U.cell? ⟨w3.heap.size, 1, none⟩ = some (.slice (some ⟨g4, 0, none⟩) n2 n2) ∧
      U.cell? ⟨w.heap.size, 0, none⟩ = some (.slice A1 n1 c1) ∧ U.cell? ⟨w.heap.size, 1, none⟩ = some (.slice A2 n2 c2) ∧ Bel w4 U)
    (first | go_keep | (go_split_ands; (refine ⟨?_, ?_, ?_, ?_, ?_⟩ <;> first | assumption | exact Bel.step (by assumption) hb5 | exact Bel.step (by assumption) hb6 | exact (Bel.at_ (by assumption) hb5 (by assumption)).trans (by assumption) | exact (Bel.at_ (by assumption) hb6 (by assumption)).trans (by assumption))))
    (first
      | (go_at_call 40
         go_split_ands
         refine (toNet A1 A2 n1 c1 n2 c2 ss fs _ HN1.out (HR1.out.moved (Below.trans hB4.out ((Bel.out (by assumption)).mono hB4.out.size))) hsm1 HN2.out (HR2.out.moved (Below.trans hB4.out ((Bel.out (by assumption)).mono hB4.out.size))) hsm2).mono ?_
         rintro e w5 ⟨g5, g6, rfl, ho1, ho2, hb5⟩
         have hS5 := Lib.hid (Rd.ofOwnK ho1)
         have hS6 := Lib.hid (Rd.ofOwnK ho2)
         clear ho1 ho2)
      | (go_at_call 43
         go_split_ands
         refine (eqNet g3 g4 g5 g6 n1 n2 n1 n2 n1 n2 ss fs w5 HN1.out hsm1 HN2.out hsm2 (hT3.out.moved (Bel.out (by assumption))) hS5.out (hT4.out.moved (Bel.out (by assumption))) hS6.out).mono ?_
         rintro e w6 ⟨rfl, hb6⟩))
  all_goals
    go_split_ands
    have hB6 : Below W.heap.size W w6 := Below.trans hB4.out (Below.mono (Bel.out (by assumption)) hB4.out.size)
    have hB6 := Lib.hid hB6
    have hB46 : Below w4.heap.size w4 w6 := Bel.out (by assumption)
    have hTE := Lib.hid (hTD.out.moved hB46)
    clear hB46
    go_wp2_with fail
    refine (toDemS A3 n3 c3 ds w6 HN3.out (HR3.out.moved hB6.out) hsm3).mono ?_
    rintro e w7 ⟨rfl, ho7, hb7⟩
    have hB7 := Lib.hid (hB6.out.trans (hb7.mono hB6.out.size))
    have hTF := Lib.hid (hTE.out.moved hb7); have hD7 := Lib.hid (Rd.ofOwnK ho7)
    clear ho7 hb7
    go_wp2_with fail
    refine (eqDemS _ _ n3 n3 n3 ds w7 HN3.out hTF.out hD7.out hsm3).mono ?_
    rintro e w8 ⟨rfl, hb8⟩
    have hB8 := Lib.hid (hB7.out.trans (hb8.mono hB7.out.size))
    clear hb8
    go_wp2
    go_ret
    exact ⟨rfl, HBW.out.trans (hB8.out.mono HBW.out.size)⟩


theorem own : ownKnob Try.prog.godebug = none := by kernel_rfl
theorem laidOut : laidOutB Try.prog = true := by kernel_rfl
set_option maxRecDepth 100000 in
theorem lifted (os : Os) (started : os.Started) (H : Type) (enc : TypeId × Value → H) :
    ReturnsInHanded {} Try.checked os 8 .any (Rows.fnExactIsValidDemandsSpec.pre6 enc Try.prog Try.f8 Rows.fnExactIsValidDemandsRow.domain false) (Rows.fnExactIsValidDemandsSpec.post enc Try.prog Try.f8 false true false false) := by
  refine returnsInHanded_of_change_sized (C := Try.checked) own started (by kernel_rfl) Try.func8
    (ChangeSpec.witness6 (enc := enc) (C := Try.checked) false ⟨#[], #[.agg #[.slice none 0 0, .slice none 0 0], .slice none 0 0], []⟩ 8 (by kernel_rfl) (by kernel_rfl) (by kernel_rfl) (by kernel_rfl)) ?_
  intro W base args ds gs before hval0 hW _ hsz0 _
  clear hsz0
  have hval : ∀ (j : Nat) t v, Try.f8.params[j]? = some t → args[j]? = some v → Value.okWide Try.prog W .any base t v := hval0
  have hW' := hW
  obtain ⟨p, q, hA0, hV, rfl, _, _⟩ := hW
  have hA : DataW.TrodAll enc Try.prog W 0 (fun _ => true) true Try.f8.params.toList args.toList ds p := hA0
  rw [Try.params8] at hA hval
  obtain ⟨v0, vs0, d0, ds0, p0, q0, hargs, rfl, rfl, h0, r0⟩ := trodAll_cons hA
  obtain ⟨v1, vs1, d1, ds1, p1, q1, rfl, rfl, rfl, h1, r1⟩ := trodAll_cons r0
  obtain ⟨rfl, rfl, rfl⟩ := trodAll_nil r1
  obtain rfl : args = #[v0, v1] := by cases args; simp_all
  obtain ⟨rfl, rfl⟩ := trodVars_none hV
  simp only [List.append_nil] at hW'
  have hlt0 : ∀ x ∈ p0, x.block < W.heap.size := fun x hx => by simpa using hW'.lt x (by simp [hx])
  have hlt1 : ∀ x ∈ p1, x.block < W.heap.size := fun x hx => by simpa using hW'.lt x (by simp [hx])
  have fin : ∀ W' : World, Below W.heap.size W W' → Rows.fnExactIsValidDemandsSpec.post enc Try.checked.prog Try.f8 false true false false W #[v0, v1] (.bool true) W' := by
    intro W' hb
    refine ⟨_, _, _, [] ++ [], (p0 ++ (p1 ++ [])), [], hW', ?_, ?_, rfl, hb.frame _, fun h => by cases h⟩
    · exact trodAll_mk1 (shut_bool Try.underlying4 true)
    · exact trodAll_cons_mk (Below.trod laidOut (by kernel_rfl) (of_decide_eq_true (by kernel_rfl)) h0 hb hlt0) (trodAll_cons_mk (Below.trod laidOut (by kernel_rfl) (of_decide_eq_true (by kernel_rfl)) h1 hb hlt1) (trodAll_mk0))
  clear hW' hV hA0
  obtain ⟨A0, n0, c0, s0, B0, m0, k0, z0, rfl, ⟨ha0, hb0, hc0, hd0⟩, ⟨he0, hf0, hg0, hh0⟩⟩ := open_net Try.underlying63 (by kernel_rfl) (by kernel_rfl) Try.underlying24 Try.underlying9 (by kernel_rfl) Try.underlying61 Try.underlying132 (by kernel_rfl) (by kernel_rfl) rfl (hint_of Try.underlying3 (by decide +kernel)) (hval 0 63 v0 rfl rfl) h0
  obtain ⟨b1, len1, cap1, rfl⟩ := okWide_slice Try.underlying64 (hval 1 64 v1 rfl rfl)
  obtain ⟨fuel1, hf1⟩ := h1
  obtain ⟨A1, n1, c1, z1, e1, ha1, hb1, hc1, hd1⟩ := rd_q4s Try.underlying64 Try.underlying116 (by kernel_rfl) (by kernel_rfl) rfl (hint_of Try.underlying3 (by decide +kernel)) hf1
  simp only [Value.cells, List.cons.injEq, Value.slice.injEq, and_true] at e1
  obtain ⟨rfl, rfl, rfl⟩ := e1
  exact (walk A0 n0 c0 s0 B0 m0 k0 z0 b1 len1 cap1 z1 W ha0 hb0 hc0 hd0 he0 hf0 hg0 hh0 ha1 hb1 hc1 hd1).mono fun e W' ⟨he, hb⟩ => ⟨_, he, fin W' hb⟩

theorem over : Rows.fnExactIsValidDemandsRow.holds Try.pinned (OpenSpec.ofChange Rows.fnExactIsValidDemandsSpec) :=
  OpenClaim.holds_of_wide 8 Try.f8 rfl rfl rfl rfl rfl rfl rfl ⟨rfl, rfl, rfl, rfl, rfl⟩ rfl rfl rfl rfl rfl (by kernel_rfl) Try.func8 (by kernel_rfl)
    (of_decide_eq_true (by kernel_rfl)) (by unfold Func.isWrapper; first | (rw [if_pos (by decide +kernel)]; kernel_rfl) | (rw [if_neg (by decide +kernel)]; exact ⟨rfl, rfl⟩))
    (fun os started H enc _ => lifted os started H enc)

/-- THE STATEMENT -/
theorem proved : Rows.FnExactIsValidDemandsSaid :=
  over
end Go.Proofs.Ythmmhhoaplbfgaa.fnExactIsValidDemands
