/- Proved: at every argument impl.PackDescending answers as spec.PackDescending does, in memory of its own, and leaves its arguments alone (the law FnExactPackDescending returns true). No condition. -/
import Derived.Test.YtflniajjecfgeaaRows
import Derived.Test.YtflniajjecfgeaaJn
import Derived.JoinedOf
import Derived.Test.YtflniajjecfgeaaGC
import Derived.Test.YtflniajjecfgeaaGB
import Derived.Test.YtflniajjecfgeaaPdF
import Derived.Test.YtflniajjecfgeaaGA
import Derived.WalkKit
import Derived.ProofKit
import Derived.OpenShut
import Derived.ShutString
import Derived.SizedLaws
import Derived.Carry
namespace Go.Proofs.Ytflniajjecfgeaa.fnExactPackDescending
open Go.ChangeShapes Go.WideShapes Go.ChangeAt Go.RowKit
open Go.ChangeMaps (open_string shut_string)

set_option maxRecDepth 100000 in
set_option maxHeartbeats 8000000 in
theorem walk (Ars : Option Addr) (nrs crs : Nat) (rs : List Int) (x : Int) (w : World) (hnrs : rs.length = nrs) (_hmrs : nrs ≤ maxLen) (hrrs : Rd w w.heap.size Ars (rs.map (Value.int .i64))) (_hwfrs : ∀ z ∈ rs, (Lit.int .i64 z).wf = true) (_w1 : (Lit.int .i64 x).wf = true) :
    Calls Try.prog 8 #[.slice Ars nrs crs, .int .i64 x] w fun e w' => e = .returned (.bool true) ∧ Below w.heap.size w w' := by
  have HNrs := Lib.hid hnrs; clear hnrs _hwfrs _hmrs
  clear _w1
  by_cases hsmrs : nrs ≤ 1048576
  case neg =>
    have qrs : 1048576 < (nrs : Int) := by omega
    clear hsmrs
    go_enter Try.func8, Try.ntmps8
    go_wp2
    go_ret
    exact ⟨rfl, (Below.refl w.heap.size w)⟩
  case pos =>
  go_enter Try.func8, Try.ntmps8
  go_wp2_with fail
  obtain ⟨W, hW⟩ : ∃ W, w = W := ⟨_, rfl⟩
  have hz : True := trivial
  have hbw : Below w.heap.size w W := by rw [← hW]; exact (Below.refl w.heap.size w)
  have HBW := Lib.hid hbw
  rw [hW]
  clear hW
  have HRrs : Hid (∀ V, Below W.heap.size W V → Rd V V.heap.size Ars (rs.map (Value.int .i64))) := Lib.hid fun V hV => (hrrs.moved hbw).moved hV
  clear hrrs
  have HZ := Lib.hid hz
  clear hz hbw
  have B0 := Lib.hid (Below.refl W.heap.size W)
  have hLn : (pdL x rs).length ≤ 1048576 := Nat.le_trans (pdL_len _ _) (by have := HNrs.out; omega)
  obtain ⟨L, hL⟩ : ∃ L, pdL x rs = L := ⟨_, rfl⟩
  obtain ⟨b, hb⟩ : ∃ b, pb (ratesP x rs) = b := ⟨_, rfl⟩
  rw [hL] at hLn
  have HL := Lib.hid hL; have HB := Lib.hid hb; have HLN := Lib.hid hLn
  clear hL hb hLn
  go_wp2_with fail
  refine (toIntS Ars nrs crs rs W HNrs.out (HRrs.out _ B0.out) hsmrs).mono ?_
  rintro e w1 ⟨s0, hgs0, rfl, hos0, hb1⟩
  have B1_W := Lib.hid (B0.out.trans (hb1.mono B0.out.size))
  have HLAST1 := Lib.hid hb1
  clear hb1
  have Os0 := Lib.hid hos0
  have Rs0 : Hid (∀ V, Below w1.heap.size w1 V → Rd V V.heap.size (some ⟨s0, 0, none⟩) (rs.map (Value.int .i64))) := Lib.hid fun V hV => (Rd.ofOwnK hos0).moved hV
  clear hos0
  have Zw1 := Lib.hid (Below.refl w1.heap.size w1)
  go_wp2_with fail
  refine (specPD (c := nrs) HNrs.out (Rs0.out _ Zw1.out) hsmrs x).mono ?_
  rw [HL.out, HB.out]
  rintro e w2 ⟨As, Ns, cs, rfl, HNNs, hos, hb2⟩
  have B2_W := Lib.hid (B1_W.out.trans (hb2.mono B1_W.out.size))
  have B2_w1 := Lib.hid (Zw1.out.trans (hb2.mono Zw1.out.size))
  have HLAST2 := Lib.hid hb2
  clear hb2
  have HOs := Lib.hid hos; clear hos
  have hNs : Ns ≤ 1048576 := by have := HNNs.out; have := HLN.out; omega
  have HRRs : Hid (∀ V, Below w2.heap.size w2 V → Rd V V.heap.size As (L.map (Value.int .i64))) := Lib.hid fun V hV => (Rd.ofOwn HOs.out).moved hV
  have Zw2 := Lib.hid (Below.refl w2.heap.size w2)
  have WPW := Lib.hid B2_W.out.size
  go_wp2_with fail
  have ZPRE0 := Lib.hid (Zw2.out.size)
  refine (toIntS Ars nrs crs rs w2 HNrs.out (HRrs.out _ B2_W.out) hsmrs).mono ?_
  rintro e w3 ⟨x0, hgx0, rfl, hox0, hb3⟩
  have B3_W := Lib.hid (B2_W.out.trans (hb3.mono B2_W.out.size))
  have B3_w2 := Lib.hid (Zw2.out.trans (hb3.mono Zw2.out.size))
  have HLAST3 := Lib.hid hb3
  clear hb3
  have Ox0 := Lib.hid hox0
  have Rx0 : Hid (∀ V, Below w3.heap.size w3 V → Rd V V.heap.size (some ⟨x0, 0, none⟩) (rs.map (Value.int .i64))) := Lib.hid fun V hV => (Rd.ofOwnK hox0).moved hV
  clear hox0
  have Zw3 := Lib.hid (Below.refl w3.heap.size w3)
  go_wp2_with fail
  have PWV := Lib.hid B3_w2.out.size
  have HQx0 : Hid (w2.heap.size ≤ x0 ∧ x0 < w3.heap.size) := Lib.hid ⟨Nat.le_trans ZPRE0.out (Ox0.out.lt x0 rfl).1, Nat.lt_of_lt_of_le (Ox0.out.lt x0 rfl).2 Zw3.out.size⟩
  refine (implPD (c := nrs) HNrs.out (Rx0.out _ Zw3.out) hsmrs x).mono ?_
  rw [HL.out, HB.out]
  rintro e w4 ⟨Ax, Nx, cx, rfl, HNNx, hox, hb4⟩
  have B4_W := Lib.hid (B3_W.out.trans (hb4.mono B3_W.out.size))
  have B4_w2 := Lib.hid (B3_w2.out.trans (hb4.mono B3_w2.out.size))
  have B4_w3 := Lib.hid (Zw3.out.trans (hb4.mono Zw3.out.size))
  have HLAST4 := Lib.hid hb4
  clear hb4
  have HOx := Lib.hid hox; clear hox
  have hNx : Nx ≤ 1048576 := by have := HNNx.out; have := HLN.out; omega
  obtain rfl : Nx = Ns := HNNx.out.trans HNNs.out.symm
  have Zw4 := Lib.hid (Below.refl w4.heap.size w4)
  go_wp2_with fail
  refine (eqInts _ _ Nx _ _ L w4 HNNx.out.symm (Rd.ofOwn (ownB HOx.out Zw4.out)) (HRRs.out _ B4_w2.out) hNx).mono ?_
  rintro e w5 ⟨rfl, hb5⟩
  have B5_W := Lib.hid (B4_W.out.trans (hb5.mono B4_W.out.size))
  have B5_w2 := Lib.hid (B4_w2.out.trans (hb5.mono B4_w2.out.size))
  have B5_w3 := Lib.hid (B4_w3.out.trans (hb5.mono B4_w3.out.size))
  have B5_w4 := Lib.hid (Zw4.out.trans (hb5.mono Zw4.out.size))
  have HLAST5 := Lib.hid hb5
  clear hb5
  go_wp2_with fail
  refine (toIntS Ars nrs crs rs w5 HNrs.out (HRrs.out _ B5_W.out) hsmrs).mono ?_
  rintro e w7 ⟨y6, hgy6, rfl, hoy6, hb7⟩
  have B7_W := Lib.hid (B5_W.out.trans (hb7.mono B5_W.out.size))
  have B7_w2 := Lib.hid (B5_w2.out.trans (hb7.mono B5_w2.out.size))
  have B7_w3 := Lib.hid (B5_w3.out.trans (hb7.mono B5_w3.out.size))
  have B7_w4 := Lib.hid (B5_w4.out.trans (hb7.mono B5_w4.out.size))
  have HLAST7 := Lib.hid hb7
  clear hb7
  have Sy6 := Lib.hid (Rd.ofOwnK hoy6)
  clear hoy6 hgy6
  go_wp2_with fail
  refine (eqIntS x0 y6 nrs nrs nrs rs w7 HNrs.out (Rx0.out _ B7_w3.out) (Sy6.out) hsmrs).mono ?_
  rintro e w8 ⟨rfl, hb8⟩
  have B8_W := Lib.hid (B7_W.out.trans (hb8.mono B7_W.out.size))
  have B8_w2 := Lib.hid (B7_w2.out.trans (hb8.mono B7_w2.out.size))
  have B8_w3 := Lib.hid (B7_w3.out.trans (hb8.mono B7_w3.out.size))
  have B8_w4 := Lib.hid (B7_w4.out.trans (hb8.mono B7_w4.out.size))
  have HLAST8 := Lib.hid hb8
  clear hb8
  have HG0 := Lib.hid (ownB HOx.out B8_w4.out)
  go_wp2_with fail
  refine (markIntsK x0 nrs nrs 1 _ w8 (ownB Ox0.out B8_w3.out) hsmrs (by omega) (by omega)).mono ?_
  rintro e w9 ⟨rfl, hoff⟩
  obtain ⟨k0, hk0⟩ : ∃ k, 1 + (nrs : Int) = k := ⟨_, rfl⟩
  have hk0a : 0 ≤ k0 := by omega
  have hk0b : k0 ≤ 90000000 := by omega
  rw [hk0]
  clear hk0
  have Fw9_W := Lib.hid (B8_W.out.trans (hoff.below (B := W.heap.size) B8_W.out.size (fun b h => by have hpw := WPW.out; have := HQx0.out; have h2 : b = x0 := h; omega)))
  have Fw9_w2 := Lib.hid (B8_w2.out.trans (hoff.below (B := w2.heap.size) B8_w2.out.size (fun b h => by have hpw := Nat.le_refl w2.heap.size; have := HQx0.out; have h2 : b = x0 := h; omega)))
  have HG1 := Lib.hid (own_off HG0.out hoff (fun b h => by have := HQx0.out; have h2 : b = x0 := h; omega))
  have Zw9 := Lib.hid (Below.refl w9.heap.size w9)
  clear hoff
  have hkn : decide (k0 < 0) = false := decide_eq_false (by omega)
  go_wp2_with fail
  refine (eqInts _ _ Nx _ _ L w9 HNNx.out.symm (Rd.ofOwn HG1.out) (HRRs.out _ Fw9_w2.out) hNx).mono ?_
  rintro e w10 ⟨rfl, hb10⟩
  have B10_W := Lib.hid (Fw9_W.out.trans (hb10.mono Fw9_W.out.size))
  have B10_w2 := Lib.hid (Fw9_w2.out.trans (hb10.mono Fw9_w2.out.size))
  have B10_w9 := Lib.hid (Zw9.out.trans (hb10.mono Zw9.out.size))
  have HLAST10 := Lib.hid hb10
  clear hb10
  have HGA := Lib.hid (ownB HG1.out B10_w9.out)
  go_wp2_with fail
  refine (markIntsA Ax Nx cx L w10 HGA.out hNx).mono ?_
  rintro e w11 ⟨rfl, hoff9, ho9⟩
  have Gw11_W := Lib.hid (B10_W.out.trans (hoff9.below (B := W.heap.size) B10_W.out.size (fun b h => by have := WPW.out; have := PWV.out; have h2 : w3.heap.size ≤ b := h; omega)))
  have Gw11_w2 := Lib.hid (B10_w2.out.trans (hoff9.below (B := w2.heap.size) B10_w2.out.size (fun b h => by have := WPW.out; have := PWV.out; have h2 : w3.heap.size ≤ b := h; omega)))
  have HM := Lib.hid ho9
  clear hoff9 ho9
  have Zw11 := Lib.hid (Below.refl w11.heap.size w11)
  go_wp2_with fail
  refine (heldInts Ax Nx cx w11 (Rd.ofOwn HM.out) hNx).mono ?_
  rintro e w' ⟨rfl, rfl⟩
  have hN4 : 0 ≤ (Nx : Int) := Int.natCast_nonneg _
  go_wp2_with fail
  refine (toIntS Ars nrs crs rs w11 HNrs.out (HRrs.out _ Gw11_W.out) hsmrs).mono ?_
  rintro e w12 ⟨h0, hgh0, rfl, hoh0, hb12⟩
  have B12_W := Lib.hid (Gw11_W.out.trans (hb12.mono Gw11_W.out.size))
  have B12_w2 := Lib.hid (Gw11_w2.out.trans (hb12.mono Gw11_w2.out.size))
  have B12_w11 := Lib.hid (Zw11.out.trans (hb12.mono Zw11.out.size))
  have HLAST12 := Lib.hid hb12
  clear hb12
  have Oh0 := Lib.hid hoh0
  have Rh0 : Hid (∀ V, Below w12.heap.size w12 V → Rd V V.heap.size (some ⟨h0, 0, none⟩) (rs.map (Value.int .i64))) := Lib.hid fun V hV => (Rd.ofOwnK hoh0).moved hV
  clear hoh0
  have Zw12 := Lib.hid (Below.refl w12.heap.size w12)
  go_wp2_with fail
  refine (implPD (c := nrs) HNrs.out (Rh0.out _ Zw12.out) hsmrs x).mono ?_
  rw [HL.out, HB.out]
  rintro e w13 ⟨Ah, Nh, ch, rfl, HNNh, hoh, hb13⟩
  have B13_W := Lib.hid (B12_W.out.trans (hb13.mono B12_W.out.size))
  have B13_w2 := Lib.hid (B12_w2.out.trans (hb13.mono B12_w2.out.size))
  have B13_w11 := Lib.hid (B12_w11.out.trans (hb13.mono B12_w11.out.size))
  have B13_w12 := Lib.hid (Zw12.out.trans (hb13.mono Zw12.out.size))
  have HLAST13 := Lib.hid hb13
  clear hb13
  have HOh := Lib.hid hoh; clear hoh
  have hNh : Nh ≤ 1048576 := by have := HNNh.out; have := HLN.out; omega
  have HRRh : Hid (∀ V, Below w13.heap.size w13 V → Rd V V.heap.size Ah (L.map (Value.int .i64))) := Lib.hid fun V hV => (Rd.ofOwn HOh.out).moved hV
  have Zw13 := Lib.hid (Below.refl w13.heap.size w13)
  obtain rfl : Nh = Nx := HNNh.out.trans HNNx.out.symm
  go_wp2_with fail
  refine (eqInts _ _ Nh _ _ L w13 HNNh.out.symm (HRRh.out _ Zw13.out) (HRRs.out _ B13_w2.out) hNh).mono ?_
  rintro e w14 ⟨rfl, hb14⟩
  have B14_W := Lib.hid (B13_W.out.trans (hb14.mono B13_W.out.size))
  have B14_w2 := Lib.hid (B13_w2.out.trans (hb14.mono B13_w2.out.size))
  have B14_w11 := Lib.hid (B13_w11.out.trans (hb14.mono B13_w11.out.size))
  have B14_w12 := Lib.hid (B13_w12.out.trans (hb14.mono B13_w12.out.size))
  have B14_w13 := Lib.hid (Zw13.out.trans (hb14.mono Zw13.out.size))
  have HLAST14 := Lib.hid hb14
  clear hb14
  have HMM := Lib.hid (ownB HM.out B14_w11.out)
  go_wp2_with fail
  refine (heldInts Ax Nh cx w14 (Rd.ofOwn HMM.out) hNh).mono ?_
  rintro e w' ⟨rfl, rfl⟩
  go_wp2
  go_ret
  exact ⟨rfl, HBW.out.trans (B14_W.out.mono HBW.out.size)⟩


theorem own : ownKnob Try.prog.godebug = none := by kernel_rfl
theorem laidOut : laidOutB Try.prog = true := by kernel_rfl
set_option maxRecDepth 100000 in
theorem lifted (os : Os) (started : os.Started) (H : Type) (enc : TypeId × Value → H) :
    ReturnsInHanded {} Try.checked os 8 .any (Rows.fnExactPackDescendingSpec.pre6 enc Try.prog Try.f8 Rows.fnExactPackDescendingRow.domain false) (Rows.fnExactPackDescendingSpec.post enc Try.prog Try.f8 false true false false) := by
  refine returnsInHanded_of_change_sized (C := Try.checked) own started (by kernel_rfl) Try.func8
    (ChangeSpec.witness6 (enc := enc) (C := Try.checked) false ⟨#[], #[.slice none 0 0, .int .i64 0], []⟩ 8 (by kernel_rfl) (by kernel_rfl) (by kernel_rfl) (by kernel_rfl)) ?_
  intro W base args ds gs before hval0 hW _ hsz0 _
  clear hsz0
  have hval : ∀ (j : Nat) t v, Try.f8.params[j]? = some t → args[j]? = some v → Value.okWide Try.prog W .any base t v := hval0
  have hW' := hW
  obtain ⟨p, q, hA0, hV, rfl, _, _⟩ := hW
  have hA : DataW.TrodAll enc Try.prog W 0 (fun _ => true) true Try.f8.params.toList args.toList ds p := hA0
  rw [Try.params8] at hA hval
  obtain ⟨v0, vs0, d0, ds0, p0, q0, hargs, rfl, rfl, h0, r0⟩ := trodAll_cons hA
  obtain ⟨v1, vs1, d1, ds1, p1, q1, rfl, rfl, rfl, h1, r1⟩ := trodAll_cons r0
  obtain ⟨rfl, rfl, rfl⟩ := trodAll_nil r1
  obtain rfl : args = #[v0, v1] := by cases args; simp_all
  obtain ⟨rfl, rfl⟩ := trodVars_none hV
  simp only [List.append_nil] at hW'
  have hlt0 : ∀ x ∈ p0, x.block < W.heap.size := fun x hx => by simpa using hW'.lt x (by simp [hx])
  have hlt1 : ∀ x ∈ p1, x.block < W.heap.size := fun x hx => by simpa using hW'.lt x (by simp [hx])
  have fin : ∀ W' : World, Below W.heap.size W W' → Rows.fnExactPackDescendingSpec.post enc Try.checked.prog Try.f8 false true false false W #[v0, v1] (.bool true) W' := by
    intro W' hb
    refine ⟨_, _, _, [] ++ [], (p0 ++ (p1 ++ [])), [], hW', ?_, ?_, rfl, hb.frame _, fun h => by cases h⟩
    · exact trodAll_mk1 (shut_bool Try.underlying4 true)
    · exact trodAll_cons_mk (Below.trod laidOut (by kernel_rfl) (of_decide_eq_true (by kernel_rfl)) h0 hb hlt0) (trodAll_cons_mk (Below.trod laidOut (by kernel_rfl) (of_decide_eq_true (by kernel_rfl)) h1 hb hlt1) (trodAll_mk0))
  clear hW' hV hA0
  obtain ⟨b0, len0, cap0, rfl⟩ := okWide_slice Try.underlying26 (hval 0 26 v0 rfl rfl)
  obtain ⟨fuel0, hf0⟩ := h0
  obtain ⟨A0, n0, c0, z0, e0, ha0, hb0, hc0, hd0⟩ := rd_ints Try.underlying26 Try.underlying3 (by kernel_rfl) hf0
  simp only [Value.cells, List.cons.injEq, Value.slice.injEq, and_true] at e0
  obtain ⟨rfl, rfl, rfl⟩ := e0
  obtain ⟨a1, rfl, _, _, w1⟩ := open_int Try.underlying3 (hval 1 3 v1 rfl rfl) h1
  exact (walk b0 len0 cap0 z0 a1 W ha0 hb0 hc0 hd0 w1).mono fun e W' ⟨he, hb⟩ => ⟨_, he, fin W' hb⟩

theorem closed : joinedFacts Try.prog 8 Try.f8 Rows.fnExactPackDescendingSpec Rows.fnExactPackDescendingRow = true := by
  unfold joinedFacts
  rw [jn_mk, jn_li, jn_en]
  kernel_rfl
theorem over : Rows.fnExactPackDescendingRow.holds Try.pinned (OpenSpec.ofChange Rows.fnExactPackDescendingSpec) :=
  OpenClaim.holds_of_wide 8 Try.f8 rfl rfl rfl rfl rfl rfl rfl ⟨rfl, rfl, rfl, rfl, rfl⟩ rfl rfl rfl rfl rfl (by kernel_rfl) Try.func8 closed
    (of_decide_eq_true (by kernel_rfl)) (by unfold Func.isWrapper; first | (rw [if_pos (by decide +kernel)]; kernel_rfl) | (rw [if_neg (by decide +kernel)]; exact ⟨rfl, rfl⟩))
    (fun os started H enc _ => lifted os started H enc)

/-- THE STATEMENT -/
theorem proved : Rows.FnExactPackDescendingSaid :=
  over
end Go.Proofs.Ytflniajjecfgeaa.fnExactPackDescending
