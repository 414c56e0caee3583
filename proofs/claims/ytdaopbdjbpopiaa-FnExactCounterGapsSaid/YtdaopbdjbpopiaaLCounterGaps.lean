/- Proved: at every argument impl.CounterGaps answers as spec.CounterGaps does, in memory of its own, and leaves its arguments alone (the law FnExactCounterGaps returns true). No condition. -/
import Derived.Test.YtdaopbdjbpopiaaRows
import Derived.Test.YtdaopbdjbpopiaaJn
import Derived.JoinedOf
import Derived.Test.YtdaopbdjbpopiaaCg
import Derived.Test.YtdaopbdjbpopiaaNmk
import Derived.Test.YtdaopbdjbpopiaaIntW
import Derived.Test.YtdaopbdjbpopiaaArg
import Derived.WalkKit
import Derived.ProofKit
import Derived.OpenShut
import Derived.ShutString
import Derived.SizedLaws
import Derived.Carry
namespace Go.Proofs.Ytdaopbdjbpopiaa.fnExactCounterGaps
open Go.ChangeShapes Go.WideShapes Go.ChangeAt Go.RowKit
open Go.ChangeMaps (open_string shut_string)

set_option maxRecDepth 100000 in
set_option maxHeartbeats 8000000 in
theorem walk (Axs : Option Addr) (nxs cxs : Nat) (xs : List Fr) (w : World) (hnxs : xs.length = nxs) (hmxs : nxs ≤ maxLen) (hrxs : Rd w w.heap.size Axs (xs.flatMap Fr.cells)) (hixs : ∀ x ∈ xs, FrIn w x) :
    Calls Try.prog 19 #[.slice Axs nxs cxs] w fun e w' => e = .returned (.bool true) ∧ Below w.heap.size w w' := by
  have HNxs := Lib.hid hnxs; clear hnxs
  go_enter Try.func19, Try.ntmps19
  go_wp2_with fail
  obtain ⟨W, hW⟩ : ∃ W, w = W := ⟨_, rfl⟩
  have hz : True := trivial
  have hbw : Below w.heap.size w W := by rw [← hW]; exact (Below.refl w.heap.size w)
  have HBW := Lib.hid hbw
  rw [hW]
  clear hW
  have HRxs : Hid (∀ V, Below W.heap.size W V → Rd V V.heap.size Axs (xs.flatMap Fr.cells)) := Lib.hid fun V hV => (hrxs.moved hbw).moved hV
  clear hrxs
  have HIxs : Hid (∀ V, Below W.heap.size W V → ∀ x ∈ xs, FrIn V x) := Lib.hid fun V hV x hx => ((hixs x hx).moved hbw).moved hV
  clear hixs
  have HZ := Lib.hid hz
  clear hz hbw
  have B0 := Lib.hid (Below.refl W.heap.size W)
  refine (szFrs Axs nxs cxs 1048576 xs W HNxs.out hmxs (HRxs.out _ B0.out) (HIxs.out _ B0.out) (by omega) (by omega)).mono ?_
  rintro e w1 ⟨v0, rfl, hb1, hv00, hv10, hv20⟩
  have B1_W := Lib.hid (B0.out.trans (hb1.mono B0.out.size))
  have HLAST1 := Lib.hid hb1
  clear hb1
  by_cases hneg0 : v0 < 0
  · go_wp2
    go_ret
    exact ⟨rfl, HBW.out.trans (B1_W.out.mono HBW.out.size)⟩
  have hp0 : 0 ≤ v0 := by omega
  have hsmxs : nxs ≤ 1048576 := by have := hv20 hp0; omega
  have HSZ0 := Lib.hid (hv20 hp0)
  have HRIxs : Hid (∀ V, Below W.heap.size W V → ∀ x ∈ xs, FrAt V x) := Lib.hid fun V hV x hx => ⟨(HIxs.out V hV x hx).1, by have h1 := hv20 hp0; have h2 := Frtot_le hx; omega, (HIxs.out V hV x hx).2.2⟩
  clear HIxs
  clear hneg0 hv20 hmxs
  have hLn : (cgL (xs.map Fr.d)).length ≤ 1048576 := Nat.le_trans (cgL_len _) (by rw [List.length_map]; have := HNxs.out; omega)
  obtain ⟨L, hL⟩ : ∃ L, cgL (xs.map Fr.d) = L := ⟨_, rfl⟩
  obtain ⟨b, hb⟩ : ∃ b, cgB (xs.map Fr.d) = b := ⟨_, rfl⟩
  rw [hL] at hLn
  have HL := Lib.hid hL; have HB := Lib.hid hb; have HLN := Lib.hid hLn
  clear hL hb hLn
  go_wp2_with fail
  refine (toFrs Axs nxs cxs xs w1 HNxs.out (HRxs.out _ B1_W.out) (HRIxs.out _ B1_W.out) hsmxs).mono ?_
  rintro e w2 ⟨s0, yss0, rfl, hgs0, hds0, hTs0, hb2⟩
  have B2_W := Lib.hid (B1_W.out.trans (hb2.mono B1_W.out.size))
  have HLAST2 := Lib.hid hb2
  clear hb2
  have Ds0 := Lib.hid hds0
  have Ts0 : Hid (∀ V, Below w2.heap.size w2 V → Frs w1.heap.size s0 nxs yss0 V) := Lib.hid fun V hV => hTs0.moved hV
  clear hds0 hTs0 hgs0
  have Zw2 := Lib.hid (Below.refl w2.heap.size w2)
  go_wp2_with fail
  refine (specCG (Ts0.out _ Zw2.out) Ds0.out hsmxs).mono ?_
  rw [HL.out, HB.out]
  rintro e w3 ⟨As, Ns, cs, rfl, HNNs, hos, hb3⟩
  have B3_W := Lib.hid (B2_W.out.trans (hb3.mono B2_W.out.size))
  have B3_w2 := Lib.hid (Zw2.out.trans (hb3.mono Zw2.out.size))
  have HLAST3 := Lib.hid hb3
  clear hb3
  have HOs := Lib.hid hos; clear hos
  have hNs : Ns ≤ 1048576 := by have := HNNs.out; have := HLN.out; omega
  have HRRs : Hid (∀ V, Below w3.heap.size w3 V → Rd V V.heap.size As (L.map (Value.int .i64))) := Lib.hid fun V hV => (Rd.ofOwn HOs.out).moved hV
  have Zw3 := Lib.hid (Below.refl w3.heap.size w3)
  have WPW := Lib.hid B3_W.out.size
  go_wp2_with fail
  have ZPRE0 := Lib.hid (Zw3.out.size)
  refine (toFrs Axs nxs cxs xs w3 HNxs.out (HRxs.out _ B3_W.out) (HRIxs.out _ B3_W.out) hsmxs).mono ?_
  rintro e w4 ⟨x0, ysx0, rfl, hgx0, hdx0, hTx0, hb4⟩
  have B4_W := Lib.hid (B3_W.out.trans (hb4.mono B3_W.out.size))
  have B4_w3 := Lib.hid (Zw3.out.trans (hb4.mono Zw3.out.size))
  have HLAST4 := Lib.hid hb4
  clear hb4
  have Dx0 := Lib.hid hdx0
  have Tx0 : Hid (∀ V, Below w4.heap.size w4 V → Frs w3.heap.size x0 nxs ysx0 V) := Lib.hid fun V hV => hTx0.moved hV
  have LIEx0 := Lib.hid (hTx0.lies)
  clear hdx0 hTx0 hgx0
  have Zw4 := Lib.hid (Below.refl w4.heap.size w4)
  go_wp2_with fail
  have PWV := Lib.hid B4_w3.out.size
  have HQTx0 : Hid (w3.heap.size ≤ w3.heap.size ∧ w4.heap.size ≤ w4.heap.size) := Lib.hid ⟨ZPRE0.out, Zw4.out.size⟩
  refine (implCG (Tx0.out _ Zw4.out) Dx0.out hsmxs).mono ?_
  rw [HL.out, HB.out]
  rintro e w5 ⟨Ax, Nx, cx, rfl, HNNx, hox, hb5⟩
  have B5_W := Lib.hid (B4_W.out.trans (hb5.mono B4_W.out.size))
  have B5_w3 := Lib.hid (B4_w3.out.trans (hb5.mono B4_w3.out.size))
  have B5_w4 := Lib.hid (Zw4.out.trans (hb5.mono Zw4.out.size))
  have HLAST5 := Lib.hid hb5
  clear hb5
  have HOx := Lib.hid hox; clear hox
  have hNx : Nx ≤ 1048576 := by have := HNNx.out; have := HLN.out; omega
  obtain rfl : Nx = Ns := HNNx.out.trans HNNs.out.symm
  have Zw5 := Lib.hid (Below.refl w5.heap.size w5)
  go_wp2_with fail
  refine (eqInts _ _ Nx _ _ L w5 HNNx.out.symm (Rd.ofOwn (ownB HOx.out Zw5.out)) (HRRs.out _ B5_w3.out) hNx).mono ?_
  rintro e w6 ⟨rfl, hb6⟩
  have B6_W := Lib.hid (B5_W.out.trans (hb6.mono B5_W.out.size))
  have B6_w3 := Lib.hid (B5_w3.out.trans (hb6.mono B5_w3.out.size))
  have B6_w4 := Lib.hid (B5_w4.out.trans (hb6.mono B5_w4.out.size))
  have B6_w5 := Lib.hid (Zw5.out.trans (hb6.mono Zw5.out.size))
  have HLAST6 := Lib.hid hb6
  clear hb6
  go_wp2_with fail
  refine (toFrs Axs nxs cxs xs w6 HNxs.out (HRxs.out _ B6_W.out) (HRIxs.out _ B6_W.out) hsmxs).mono ?_
  rintro e w8 ⟨y7, ysy7, rfl, hgy7, hdy7, hTy7, hb8⟩
  have B8_W := Lib.hid (B6_W.out.trans (hb8.mono B6_W.out.size))
  have B8_w3 := Lib.hid (B6_w3.out.trans (hb8.mono B6_w3.out.size))
  have B8_w4 := Lib.hid (B6_w4.out.trans (hb8.mono B6_w4.out.size))
  have B8_w5 := Lib.hid (B6_w5.out.trans (hb8.mono B6_w5.out.size))
  have HLAST8 := Lib.hid hb8
  clear hb8
  have Dy7 := Lib.hid hdy7; have STy7 := Lib.hid hTy7; clear hdy7 hTy7
  clear  hgy7
  go_wp2_with fail
  refine (eqFrs x0 y7 nxs _ _ ysx0 ysy7 w8 (Tx0.out _ B8_w4.out) (STy7.out) (Dx0.out.trans Dy7.out.symm) hsmxs).mono ?_
  rintro e w9 ⟨rfl, hb9⟩
  have B9_W := Lib.hid (B8_W.out.trans (hb9.mono B8_W.out.size))
  have B9_w3 := Lib.hid (B8_w3.out.trans (hb9.mono B8_w3.out.size))
  have B9_w4 := Lib.hid (B8_w4.out.trans (hb9.mono B8_w4.out.size))
  have B9_w5 := Lib.hid (B8_w5.out.trans (hb9.mono B8_w5.out.size))
  have HLAST9 := Lib.hid hb9
  clear hb9
  have HG0 := Lib.hid (ownB HOx.out B9_w5.out)
  go_wp2_with fail
  refine (markFrs 1 w9 (Tx0.out _ B9_w4.out) LIEx0.out.1.2 (fun y hy q e => (LIEx0.out.2 y hy q e).2) hsmxs (by omega) (by omega)).mono ?_
  rintro e w10 ⟨k0, rfl, hk0a, hk0b, hoff⟩
  have Fw10_W := Lib.hid (B9_W.out.trans (hoff.below (B := W.heap.size) B9_W.out.size (fun b h => by have hpw := WPW.out; have := HQTx0.out; have h2 : w3.heap.size ≤ b ∧ b < w4.heap.size := h; omega)))
  have Fw10_w3 := Lib.hid (B9_w3.out.trans (hoff.below (B := w3.heap.size) B9_w3.out.size (fun b h => by have hpw := Nat.le_refl w3.heap.size; have := HQTx0.out; have h2 : w3.heap.size ≤ b ∧ b < w4.heap.size := h; omega)))
  have HG1 := Lib.hid (own_off HG0.out hoff (fun b h => by have := HQTx0.out; have h2 : w3.heap.size ≤ b ∧ b < w4.heap.size := h; omega))
  have Zw10 := Lib.hid (Below.refl w10.heap.size w10)
  clear hoff
  have hkn : decide (k0 < 0) = false := decide_eq_false (by omega)
  go_wp2_with fail
  refine (eqInts _ _ Nx _ _ L w10 HNNx.out.symm (Rd.ofOwn HG1.out) (HRRs.out _ Fw10_w3.out) hNx).mono ?_
  rintro e w11 ⟨rfl, hb11⟩
  have B11_W := Lib.hid (Fw10_W.out.trans (hb11.mono Fw10_W.out.size))
  have B11_w3 := Lib.hid (Fw10_w3.out.trans (hb11.mono Fw10_w3.out.size))
  have B11_w10 := Lib.hid (Zw10.out.trans (hb11.mono Zw10.out.size))
  have HLAST11 := Lib.hid hb11
  clear hb11
  have HGA := Lib.hid (ownB HG1.out B11_w10.out)
  go_wp2_with fail
  refine (markIntsA Ax Nx cx L w11 HGA.out hNx).mono ?_
  rintro e w12 ⟨rfl, hoff9, ho9⟩
  have Gw12_W := Lib.hid (B11_W.out.trans (hoff9.below (B := W.heap.size) B11_W.out.size (fun b h => by have := WPW.out; have := PWV.out; have h2 : w4.heap.size ≤ b := h; omega)))
  have Gw12_w3 := Lib.hid (B11_w3.out.trans (hoff9.below (B := w3.heap.size) B11_w3.out.size (fun b h => by have := WPW.out; have := PWV.out; have h2 : w4.heap.size ≤ b := h; omega)))
  have HM := Lib.hid ho9
  clear hoff9 ho9
  have Zw12 := Lib.hid (Below.refl w12.heap.size w12)
  go_wp2_with fail
  refine (heldInts Ax Nx cx w12 (Rd.ofOwn HM.out) hNx).mono ?_
  rintro e w' ⟨rfl, rfl⟩
  have hN4 : 0 ≤ (Nx : Int) := Int.natCast_nonneg _
  go_wp2_with fail
  refine (toFrs Axs nxs cxs xs w12 HNxs.out (HRxs.out _ Gw12_W.out) (HRIxs.out _ Gw12_W.out) hsmxs).mono ?_
  rintro e w13 ⟨h0, ysh0, rfl, hgh0, hdh0, hTh0, hb13⟩
  have B13_W := Lib.hid (Gw12_W.out.trans (hb13.mono Gw12_W.out.size))
  have B13_w3 := Lib.hid (Gw12_w3.out.trans (hb13.mono Gw12_w3.out.size))
  have B13_w12 := Lib.hid (Zw12.out.trans (hb13.mono Zw12.out.size))
  have HLAST13 := Lib.hid hb13
  clear hb13
  have Dh0 := Lib.hid hdh0
  have Th0 : Hid (∀ V, Below w13.heap.size w13 V → Frs w12.heap.size h0 nxs ysh0 V) := Lib.hid fun V hV => hTh0.moved hV
  clear hdh0 hTh0 hgh0
  have Zw13 := Lib.hid (Below.refl w13.heap.size w13)
  go_wp2_with fail
  refine (implCG (Th0.out _ Zw13.out) Dh0.out hsmxs).mono ?_
  rw [HL.out, HB.out]
  rintro e w14 ⟨Ah, Nh, ch, rfl, HNNh, hoh, hb14⟩
  have B14_W := Lib.hid (B13_W.out.trans (hb14.mono B13_W.out.size))
  have B14_w3 := Lib.hid (B13_w3.out.trans (hb14.mono B13_w3.out.size))
  have B14_w12 := Lib.hid (B13_w12.out.trans (hb14.mono B13_w12.out.size))
  have B14_w13 := Lib.hid (Zw13.out.trans (hb14.mono Zw13.out.size))
  have HLAST14 := Lib.hid hb14
  clear hb14
  have HOh := Lib.hid hoh; clear hoh
  have hNh : Nh ≤ 1048576 := by have := HNNh.out; have := HLN.out; omega
  have HRRh : Hid (∀ V, Below w14.heap.size w14 V → Rd V V.heap.size Ah (L.map (Value.int .i64))) := Lib.hid fun V hV => (Rd.ofOwn HOh.out).moved hV
  have Zw14 := Lib.hid (Below.refl w14.heap.size w14)
  obtain rfl : Nh = Nx := HNNh.out.trans HNNx.out.symm
  go_wp2_with fail
  refine (eqInts _ _ Nh _ _ L w14 HNNh.out.symm (HRRh.out _ Zw14.out) (HRRs.out _ B14_w3.out) hNh).mono ?_
  rintro e w15 ⟨rfl, hb15⟩
  have B15_W := Lib.hid (B14_W.out.trans (hb15.mono B14_W.out.size))
  have B15_w3 := Lib.hid (B14_w3.out.trans (hb15.mono B14_w3.out.size))
  have B15_w12 := Lib.hid (B14_w12.out.trans (hb15.mono B14_w12.out.size))
  have B15_w13 := Lib.hid (B14_w13.out.trans (hb15.mono B14_w13.out.size))
  have B15_w14 := Lib.hid (Zw14.out.trans (hb15.mono Zw14.out.size))
  have HLAST15 := Lib.hid hb15
  clear hb15
  have HMM := Lib.hid (ownB HM.out B15_w12.out)
  go_wp2_with fail
  refine (heldInts Ax Nh cx w15 (Rd.ofOwn HMM.out) hNh).mono ?_
  rintro e w' ⟨rfl, rfl⟩
  go_wp2
  go_ret
  exact ⟨rfl, HBW.out.trans (B15_W.out.mono HBW.out.size)⟩


theorem own : ownKnob Try.prog.godebug = none := by kernel_rfl
theorem laidOut : laidOutB Try.prog = true := by kernel_rfl
set_option maxRecDepth 100000 in
theorem lifted (os : Os) (started : os.Started) (H : Type) (enc : TypeId × Value → H) :
    ReturnsInHanded {} Try.checked os 19 .any (Rows.fnExactCounterGapsSpec.pre6 enc Try.prog Try.f19 Rows.fnExactCounterGapsRow.domain false) (Rows.fnExactCounterGapsSpec.post enc Try.prog Try.f19 false true false false) := by
  refine returnsInHanded_of_change_sized (C := Try.checked) own started (by kernel_rfl) Try.func19
    (ChangeSpec.witness6 (enc := enc) (C := Try.checked) false ⟨#[], #[.slice none 0 0], []⟩ 8 (by kernel_rfl) (by kernel_rfl) (by kernel_rfl) (by kernel_rfl)) ?_
  intro W base args ds gs before hval0 hW _ hsz0 _
  clear hsz0
  have hval : ∀ (j : Nat) t v, Try.f19.params[j]? = some t → args[j]? = some v → Value.okWide Try.prog W .any base t v := hval0
  have hW' := hW
  obtain ⟨p, q, hA0, hV, rfl, _, _⟩ := hW
  have hA : DataW.TrodAll enc Try.prog W 0 (fun _ => true) true Try.f19.params.toList args.toList ds p := hA0
  rw [Try.params19] at hA hval
  obtain ⟨v0, vs0, d0, ds0, p0, q0, hargs, rfl, rfl, h0, r0⟩ := trodAll_cons hA
  obtain ⟨rfl, rfl, rfl⟩ := trodAll_nil r0
  obtain rfl : args = #[v0] := by cases args; simp_all
  obtain ⟨rfl, rfl⟩ := trodVars_none hV
  simp only [List.append_nil] at hW'
  have hlt0 : ∀ x ∈ p0, x.block < W.heap.size := fun x hx => by simpa using hW'.lt x (by simp [hx])
  have fin : ∀ W' : World, Below W.heap.size W W' → Rows.fnExactCounterGapsSpec.post enc Try.checked.prog Try.f19 false true false false W #[v0] (.bool true) W' := by
    intro W' hb
    refine ⟨_, _, _, [] ++ [], (p0 ++ []), [], hW', ?_, ?_, rfl, hb.frame _, fun h => by cases h⟩
    · exact trodAll_mk1 (shut_bool Try.underlying4 true)
    · exact trodAll_cons_mk (Below.trod laidOut (by kernel_rfl) (of_decide_eq_true (by kernel_rfl)) h0 hb hlt0) (trodAll_mk0)
  clear hW' hV hA0
  obtain ⟨b0, len0, cap0, rfl⟩ := okWide_slice Try.underlying113 (hval 0 113 v0 rfl rfl)
  obtain ⟨fuel0, hf0⟩ := h0
  obtain ⟨A0, n0, c0, z0, e0, ha0, hb0, hc0, hd0⟩ := rd_frs hf0
  simp only [Value.cells, List.cons.injEq, Value.slice.injEq, and_true] at e0
  obtain ⟨rfl, rfl, rfl⟩ := e0
  exact (walk b0 len0 cap0 z0 W ha0 hb0 hc0 hd0).mono fun e W' ⟨he, hb⟩ => ⟨_, he, fin W' hb⟩

theorem closed : joinedFacts Try.prog 19 Try.f19 Rows.fnExactCounterGapsSpec Rows.fnExactCounterGapsRow = true := by
  unfold joinedFacts
  rw [jn_mk, jn_li, jn_en]
  kernel_rfl
theorem over : Rows.fnExactCounterGapsRow.holds Try.pinned (OpenSpec.ofChange Rows.fnExactCounterGapsSpec) :=
  OpenClaim.holds_of_wide 19 Try.f19 rfl rfl rfl rfl rfl rfl rfl ⟨rfl, rfl, rfl, rfl, rfl⟩ rfl rfl rfl rfl rfl (by kernel_rfl) Try.func19 closed
    (of_decide_eq_true (by kernel_rfl)) (by unfold Func.isWrapper; first | (rw [if_pos (by decide +kernel)]; kernel_rfl) | (rw [if_neg (by decide +kernel)]; exact ⟨rfl, rfl⟩))
    (fun os started H enc _ => lifted os started H enc)

/-- THE STATEMENT -/
theorem proved : Rows.FnExactCounterGapsSaid :=
  over
end Go.Proofs.Ytdaopbdjbpopiaa.fnExactCounterGaps
