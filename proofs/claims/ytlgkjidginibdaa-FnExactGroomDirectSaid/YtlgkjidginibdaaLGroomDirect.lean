/- Proved: at every argument impl.GroomDirect answers as spec.GroomDirect does, in memory of its own, and leaves its arguments alone (the law FnExactGroomDirect returns true). No condition. -/
import Derived.Test.YtlgkjidginibdaaRows
import Derived.Test.YtlgkjidginibdaaJn
import Derived.JoinedOf
import Derived.Test.YtlgkjidginibdaaGC
import Derived.Test.YtlgkjidginibdaaGB
import Derived.Test.YtlgkjidginibdaaTriK
import Derived.Test.YtlgkjidginibdaaGdU
import Derived.Test.YtlgkjidginibdaaGA
import Derived.WalkKit
import Derived.ProofKit
import Derived.OpenShut
import Derived.ShutString
import Derived.SizedLaws
import Derived.Carry
namespace Go.Proofs.Ytlgkjidginibdaa.fnExactGroomDirect
open Go.ChangeShapes Go.WideShapes Go.ChangeAt Go.RowKit
open Go.ChangeMaps (open_string shut_string)

set_option maxRecDepth 100000 in
set_option maxHeartbeats 8000000 in
theorem walk (Ads : Option Addr) (nds cds : Nat) (ds : List Q3) (x : Int) (y : Int) (w : World) (hnds : ds.length = nds) (hmds : nds ≤ maxLen) (hrds : Rd w w.heap.size Ads (ds.flatMap Q3.cells)) (_hwfds : ∀ q ∈ ds, q.wf) (_w1 : (Lit.int .i64 x).wf = true) (_w2 : (Lit.int .i64 y).wf = true) :
    Calls Try.prog 8 #[.slice Ads nds cds, .int .i64 x, .int .i64 y] w fun e w' => e = .returned (.bool true) ∧ Below w.heap.size w w' := by
  have HNds := Lib.hid hnds; clear hnds _hwfds
  go_enter Try.func8, Try.ntmps8
  go_wp2_with fail
  obtain ⟨W, hW⟩ : ∃ W, w = W := ⟨_, rfl⟩
  have hz : True := trivial
  have hbw : Below w.heap.size w W := by rw [← hW]; exact (Below.refl w.heap.size w)
  have HBW := Lib.hid hbw
  rw [hW]
  clear hW
  have HRds : Hid (∀ V, Below W.heap.size W V → Rd V V.heap.size Ads (ds.flatMap Q3.cells)) := Lib.hid fun V hV => (hrds.moved hbw).moved hV
  clear hrds
  have HZ := Lib.hid hz
  clear hz hbw
  have B0 := Lib.hid (Below.refl W.heap.size W)
  refine (szTriX Ads nds cds 1048576 W hmds (by omega) (by omega)).mono ?_
  rintro e w1 ⟨v0, rfl, hb1, hv00, hv10, hv20⟩
  have B1_W := Lib.hid (B0.out.trans (hb1.mono B0.out.size))
  have HLAST1 := Lib.hid hb1
  clear hb1
  by_cases hneg0 : v0 < 0
  · go_wp2
    go_ret
    exact ⟨rfl, HBW.out.trans (B1_W.out.mono HBW.out.size)⟩
  have hp0 : 0 ≤ v0 := by omega
  have hsmds : nds ≤ 1048576 := by have := hv20 hp0; omega
  have HSZ0 := Lib.hid (hv20 hp0)
  clear hneg0 hv20 hmds
  have hLn : (gdL ds x y).length ≤ 1048576 := (gdL_len _ _ _).1
  have hLt : ((gdL ds x y).map List.length).sum ≤ 1048576 := (gdL_len _ _ _).2
  obtain ⟨L, hL⟩ : ∃ L, gdL ds x y = L := ⟨_, rfl⟩
  rw [hL] at hLt
  have HLT := Lib.hid hLt; clear hLt
  obtain ⟨b, hb⟩ : ∃ b, gdOk ds x y = b := ⟨_, rfl⟩
  rw [hL] at hLn
  have HL := Lib.hid hL; have HB := Lib.hid hb; have HLN := Lib.hid hLn
  clear hL hb hLn
  go_wp2_with fail
  refine (toTriX Ads nds cds ds w1 HNds.out (HRds.out _ B1_W.out) hsmds).mono ?_
  rintro e w2 ⟨s0, hgs0, rfl, hos0, hb2⟩
  have B2_W := Lib.hid (B1_W.out.trans (hb2.mono B1_W.out.size))
  have HLAST2 := Lib.hid hb2
  clear hb2
  have Os0 := Lib.hid hos0
  have Rs0 : Hid (∀ V, Below w2.heap.size w2 V → Rd V V.heap.size (some ⟨s0, 0, none⟩) (ds.flatMap Q3.cells)) := Lib.hid fun V hV => (Rd.ofOwnK hos0).moved hV
  clear hos0
  have Zw2 := Lib.hid (Below.refl w2.heap.size w2)
  go_wp2_with fail
  refine (specGD (c := nds) HNds.out (Rs0.out _ Zw2.out) hsmds x y (bounds_i64 _w1).1 (bounds_i64 _w1).2).mono ?_
  rw [HL.out, HB.out]
  rintro e w3 ⟨As, Ns, cs, ysLs, rfl, HDDs, hos, hb3⟩
  have B3_W := Lib.hid (B2_W.out.trans (hb3.mono B2_W.out.size))
  have B3_w2 := Lib.hid (Zw2.out.trans (hb3.mono Zw2.out.size))
  have HLAST3 := Lib.hid hb3
  clear hb3
  have HNNs : Hid (Ns = L.length) := Lib.hid (by have h9 := hos.len; have h8 := congrArg List.length HDDs.out; rw [List.length_map] at h8; omega)
  have hTs : Rtot ysLs ≤ 1048576 := by rw [Rtot_zs hos HDDs.out]; exact HLT.out
  have HOs := Lib.hid hos; clear hos
  have hNs : Ns ≤ 1048576 := by have := HNNs.out; have := HLN.out; omega
  have HRRs : Hid (∀ V, Below w3.heap.size w3 V → ∃ B, Rws B As Ns cs ysLs V) := Lib.hid fun V hV => ⟨_, HOs.out.moved hV⟩
  have Zw3 := Lib.hid (Below.refl w3.heap.size w3)
  have WPW := Lib.hid B3_W.out.size
  go_wp2_with fail
  have ZPRE0 := Lib.hid (Zw3.out.size)
  refine (toTriX Ads nds cds ds w3 HNds.out (HRds.out _ B3_W.out) hsmds).mono ?_
  rintro e w4 ⟨x0, hgx0, rfl, hox0, hb4⟩
  have B4_W := Lib.hid (B3_W.out.trans (hb4.mono B3_W.out.size))
  have B4_w3 := Lib.hid (Zw3.out.trans (hb4.mono Zw3.out.size))
  have HLAST4 := Lib.hid hb4
  clear hb4
  have Ox0 := Lib.hid hox0
  have Rx0 : Hid (∀ V, Below w4.heap.size w4 V → Rd V V.heap.size (some ⟨x0, 0, none⟩) (ds.flatMap Q3.cells)) := Lib.hid fun V hV => (Rd.ofOwnK hox0).moved hV
  clear hox0
  have Zw4 := Lib.hid (Below.refl w4.heap.size w4)
  go_wp2_with fail
  have PWV := Lib.hid B4_w3.out.size
  have HQx0 : Hid (w3.heap.size ≤ x0 ∧ x0 < w4.heap.size) := Lib.hid ⟨Nat.le_trans ZPRE0.out (Ox0.out.lt x0 rfl).1, Nat.lt_of_lt_of_le (Ox0.out.lt x0 rfl).2 Zw4.out.size⟩
  refine (implGD (c := nds) HNds.out (Rx0.out _ Zw4.out) hsmds x y).mono ?_
  rw [HL.out, HB.out]
  rintro e w5 ⟨Ax, Nx, cx, ysLx, rfl, HDDx, hox, hb5⟩
  have B5_W := Lib.hid (B4_W.out.trans (hb5.mono B4_W.out.size))
  have B5_w3 := Lib.hid (B4_w3.out.trans (hb5.mono B4_w3.out.size))
  have B5_w4 := Lib.hid (Zw4.out.trans (hb5.mono Zw4.out.size))
  have HLAST5 := Lib.hid hb5
  clear hb5
  have HNNx : Hid (Nx = L.length) := Lib.hid (by have h9 := hox.len; have h8 := congrArg List.length HDDx.out; rw [List.length_map] at h8; omega)
  have hTx : Rtot ysLx ≤ 1048576 := by rw [Rtot_zs hox HDDx.out]; exact HLT.out
  have HOx := Lib.hid hox; clear hox
  have hNx : Nx ≤ 1048576 := by have := HNNx.out; have := HLN.out; omega
  obtain rfl : Nx = Ns := HNNx.out.trans HNNs.out.symm
  have Zw5 := Lib.hid (Below.refl w5.heap.size w5)
  go_wp2_with fail
  refine (eqRws w5 (HOx.out.moved Zw5.out) (HRRs.out _ B5_w3.out).choose_spec (HDDx.out.trans HDDs.out.symm) hNx hTx).mono ?_
  rintro e w6 ⟨rfl, hb6⟩
  have B6_W := Lib.hid (B5_W.out.trans (hb6.mono B5_W.out.size))
  have B6_w3 := Lib.hid (B5_w3.out.trans (hb6.mono B5_w3.out.size))
  have B6_w4 := Lib.hid (B5_w4.out.trans (hb6.mono B5_w4.out.size))
  have B6_w5 := Lib.hid (Zw5.out.trans (hb6.mono Zw5.out.size))
  have HLAST6 := Lib.hid hb6
  clear hb6
  go_wp2_with fail
  refine (toTriX Ads nds cds ds w6 HNds.out (HRds.out _ B6_W.out) hsmds).mono ?_
  rintro e w8 ⟨y7, hgy7, rfl, hoy7, hb8⟩
  have B8_W := Lib.hid (B6_W.out.trans (hb8.mono B6_W.out.size))
  have B8_w3 := Lib.hid (B6_w3.out.trans (hb8.mono B6_w3.out.size))
  have B8_w4 := Lib.hid (B6_w4.out.trans (hb8.mono B6_w4.out.size))
  have B8_w5 := Lib.hid (B6_w5.out.trans (hb8.mono B6_w5.out.size))
  have HLAST8 := Lib.hid hb8
  clear hb8
  have Sy7 := Lib.hid (Rd.ofOwnK hoy7)
  clear hoy7 hgy7
  go_wp2_with fail
  refine (eqTriS x0 y7 nds nds nds ds w8 HNds.out (Rx0.out _ B8_w4.out) (Sy7.out) hsmds).mono ?_
  rintro e w9 ⟨rfl, hb9⟩
  have B9_W := Lib.hid (B8_W.out.trans (hb9.mono B8_W.out.size))
  have B9_w3 := Lib.hid (B8_w3.out.trans (hb9.mono B8_w3.out.size))
  have B9_w4 := Lib.hid (B8_w4.out.trans (hb9.mono B8_w4.out.size))
  have B9_w5 := Lib.hid (B8_w5.out.trans (hb9.mono B8_w5.out.size))
  have HLAST9 := Lib.hid hb9
  clear hb9
  have HG0 := Lib.hid (HOx.out.moved B9_w5.out)
  go_wp2_with fail
  refine (markTriS x0 nds nds 1 _ w9 (ownB Ox0.out B9_w4.out) hsmds (by omega) (by omega)).mono ?_
  rintro e w10 ⟨rfl, hoff⟩
  obtain ⟨k0, hk0⟩ : ∃ k, 1 + 3 * (nds : Int) = k := ⟨_, rfl⟩
  have hk0a : 0 ≤ k0 := by omega
  have hk0b : k0 ≤ 90000000 := by omega
  rw [hk0]
  clear hk0
  have Fw10_W := Lib.hid (B9_W.out.trans (hoff.below (B := W.heap.size) B9_W.out.size (fun b h => by have hpw := WPW.out; have := HQx0.out; have h2 : b = x0 := h; omega)))
  have Fw10_w3 := Lib.hid (B9_w3.out.trans (hoff.below (B := w3.heap.size) B9_w3.out.size (fun b h => by have hpw := Nat.le_refl w3.heap.size; have := HQx0.out; have h2 : b = x0 := h; omega)))
  have HG1 := Lib.hid (HG0.out.offB hoff (fun b h => by have := HQx0.out; have h2 : b = x0 := h; omega))
  have Zw10 := Lib.hid (Below.refl w10.heap.size w10)
  clear hoff
  have hkn : decide (k0 < 0) = false := decide_eq_false (by omega)
  go_wp2_with fail
  refine (eqRws w10 HG1.out (HRRs.out _ Fw10_w3.out).choose_spec (HDDx.out.trans HDDs.out.symm) hNx hTx).mono ?_
  rintro e w11 ⟨rfl, hb11⟩
  have B11_W := Lib.hid (Fw10_W.out.trans (hb11.mono Fw10_W.out.size))
  have B11_w3 := Lib.hid (Fw10_w3.out.trans (hb11.mono Fw10_w3.out.size))
  have B11_w10 := Lib.hid (Zw10.out.trans (hb11.mono Zw10.out.size))
  have HLAST11 := Lib.hid hb11
  clear hb11
  have HGA := Lib.hid (HG1.out.moved B11_w10.out)
  go_wp2_with fail
  refine (markRws w11 HGA.out hNx hTx).mono ?_
  rintro e w12 ⟨rfl, hoff9, ho9⟩
  have Gw12_W := Lib.hid (B11_W.out.trans (hoff9.below (B := W.heap.size) B11_W.out.size (fun b h => by have := WPW.out; have := PWV.out; have h2 : w4.heap.size ≤ b := h; omega)))
  have Gw12_w3 := Lib.hid (B11_w3.out.trans (hoff9.below (B := w3.heap.size) B11_w3.out.size (fun b h => by have := WPW.out; have := PWV.out; have h2 : w4.heap.size ≤ b := h; omega)))
  have HM := Lib.hid ho9
  clear hoff9 ho9
  have Zw12 := Lib.hid (Below.refl w12.heap.size w12)
  go_wp2_with fail
  refine (heldRws w12 HM.out hNx hTx).mono ?_
  rintro e w' ⟨rfl, rfl⟩
  have hN4 : 0 ≤ (Rtot ysLx : Int) := Int.natCast_nonneg _
  go_wp2_with fail
  refine (toTriX Ads nds cds ds w12 HNds.out (HRds.out _ Gw12_W.out) hsmds).mono ?_
  rintro e w13 ⟨h0, hgh0, rfl, hoh0, hb13⟩
  have B13_W := Lib.hid (Gw12_W.out.trans (hb13.mono Gw12_W.out.size))
  have B13_w3 := Lib.hid (Gw12_w3.out.trans (hb13.mono Gw12_w3.out.size))
  have B13_w12 := Lib.hid (Zw12.out.trans (hb13.mono Zw12.out.size))
  have HLAST13 := Lib.hid hb13
  clear hb13
  have Oh0 := Lib.hid hoh0
  have Rh0 : Hid (∀ V, Below w13.heap.size w13 V → Rd V V.heap.size (some ⟨h0, 0, none⟩) (ds.flatMap Q3.cells)) := Lib.hid fun V hV => (Rd.ofOwnK hoh0).moved hV
  clear hoh0
  have Zw13 := Lib.hid (Below.refl w13.heap.size w13)
  go_wp2_with fail
  refine (implGD (c := nds) HNds.out (Rh0.out _ Zw13.out) hsmds x y).mono ?_
  rw [HL.out, HB.out]
  rintro e w14 ⟨Ah, Nh, ch, ysLh, rfl, HDDh, hoh, hb14⟩
  have B14_W := Lib.hid (B13_W.out.trans (hb14.mono B13_W.out.size))
  have B14_w3 := Lib.hid (B13_w3.out.trans (hb14.mono B13_w3.out.size))
  have B14_w12 := Lib.hid (B13_w12.out.trans (hb14.mono B13_w12.out.size))
  have B14_w13 := Lib.hid (Zw13.out.trans (hb14.mono Zw13.out.size))
  have HLAST14 := Lib.hid hb14
  clear hb14
  have HNNh : Hid (Nh = L.length) := Lib.hid (by have h9 := hoh.len; have h8 := congrArg List.length HDDh.out; rw [List.length_map] at h8; omega)
  have hTh : Rtot ysLh ≤ 1048576 := by rw [Rtot_zs hoh HDDh.out]; exact HLT.out
  have HOh := Lib.hid hoh; clear hoh
  have hNh : Nh ≤ 1048576 := by have := HNNh.out; have := HLN.out; omega
  have HRRh : Hid (∀ V, Below w14.heap.size w14 V → ∃ B, Rws B Ah Nh ch ysLh V) := Lib.hid fun V hV => ⟨_, HOh.out.moved hV⟩
  have Zw14 := Lib.hid (Below.refl w14.heap.size w14)
  obtain rfl : Nh = Nx := HNNh.out.trans HNNx.out.symm
  go_wp2_with fail
  refine (eqRws w14 (HRRh.out _ Zw14.out).choose_spec (HRRs.out _ B14_w3.out).choose_spec (HDDh.out.trans HDDs.out.symm) hNh hTh).mono ?_
  rintro e w15 ⟨rfl, hb15⟩
  have B15_W := Lib.hid (B14_W.out.trans (hb15.mono B14_W.out.size))
  have B15_w3 := Lib.hid (B14_w3.out.trans (hb15.mono B14_w3.out.size))
  have B15_w12 := Lib.hid (B14_w12.out.trans (hb15.mono B14_w12.out.size))
  have B15_w13 := Lib.hid (B14_w13.out.trans (hb15.mono B14_w13.out.size))
  have B15_w14 := Lib.hid (Zw14.out.trans (hb15.mono Zw14.out.size))
  have HLAST15 := Lib.hid hb15
  clear hb15
  have HMM := Lib.hid (HM.out.moved B15_w12.out)
  go_wp2_with fail
  refine (heldRws w15 HMM.out hNh hTx).mono ?_
  rintro e w' ⟨rfl, rfl⟩
  go_wp2
  go_ret
  exact ⟨rfl, HBW.out.trans (B15_W.out.mono HBW.out.size)⟩


theorem own : ownKnob Try.prog.godebug = none := by kernel_rfl
theorem laidOut : laidOutB Try.prog = true := by kernel_rfl
set_option maxRecDepth 100000 in
theorem lifted (os : Os) (started : os.Started) (H : Type) (enc : TypeId × Value → H) :
    ReturnsInHanded {} Try.checked os 8 .any (Rows.fnExactGroomDirectSpec.pre6 enc Try.prog Try.f8 Rows.fnExactGroomDirectRow.domain false) (Rows.fnExactGroomDirectSpec.post enc Try.prog Try.f8 false true false false) := by
  refine returnsInHanded_of_change_sized (C := Try.checked) own started (by kernel_rfl) Try.func8
    (ChangeSpec.witness6 (enc := enc) (C := Try.checked) false ⟨#[], #[.slice none 0 0, .int .i64 0, .int .i64 0], []⟩ 8 (by kernel_rfl) (by kernel_rfl) (by kernel_rfl) (by kernel_rfl)) ?_
  intro W base args ds gs before hval0 hW _ hsz0 _
  clear hsz0
  have hval : ∀ (j : Nat) t v, Try.f8.params[j]? = some t → args[j]? = some v → Value.okWide Try.prog W .any base t v := hval0
  have hW' := hW
  obtain ⟨p, q, hA0, hV, rfl, _, _⟩ := hW
  have hA : DataW.TrodAll enc Try.prog W 0 (fun _ => true) true Try.f8.params.toList args.toList ds p := hA0
  rw [Try.params8] at hA hval
  obtain ⟨v0, vs0, d0, ds0, p0, q0, hargs, rfl, rfl, h0, r0⟩ := trodAll_cons hA
  obtain ⟨v1, vs1, d1, ds1, p1, q1, rfl, rfl, rfl, h1, r1⟩ := trodAll_cons r0
  obtain ⟨v2, vs2, d2, ds2, p2, q2, rfl, rfl, rfl, h2, r2⟩ := trodAll_cons r1
  obtain ⟨rfl, rfl, rfl⟩ := trodAll_nil r2
  obtain rfl : args = #[v0, v1, v2] := by cases args; simp_all
  obtain ⟨rfl, rfl⟩ := trodVars_none hV
  simp only [List.append_nil] at hW'
  have hlt0 : ∀ x ∈ p0, x.block < W.heap.size := fun x hx => by simpa using hW'.lt x (by simp [hx])
  have hlt1 : ∀ x ∈ p1, x.block < W.heap.size := fun x hx => by simpa using hW'.lt x (by simp [hx])
  have hlt2 : ∀ x ∈ p2, x.block < W.heap.size := fun x hx => by simpa using hW'.lt x (by simp [hx])
  have fin : ∀ W' : World, Below W.heap.size W W' → Rows.fnExactGroomDirectSpec.post enc Try.checked.prog Try.f8 false true false false W #[v0, v1, v2] (.bool true) W' := by
    intro W' hb
    refine ⟨_, _, _, [] ++ [], (p0 ++ (p1 ++ (p2 ++ []))), [], hW', ?_, ?_, rfl, hb.frame _, fun h => by cases h⟩
    · exact trodAll_mk1 (shut_bool Try.underlying4 true)
    · exact trodAll_cons_mk (Below.trod laidOut (by kernel_rfl) (of_decide_eq_true (by kernel_rfl)) h0 hb hlt0) (trodAll_cons_mk (Below.trod laidOut (by kernel_rfl) (of_decide_eq_true (by kernel_rfl)) h1 hb hlt1) (trodAll_cons_mk (Below.trod laidOut (by kernel_rfl) (of_decide_eq_true (by kernel_rfl)) h2 hb hlt2) (trodAll_mk0)))
  clear hW' hV hA0
  obtain ⟨b0, len0, cap0, rfl⟩ := okWide_slice Try.underlying86 (hval 0 86 v0 rfl rfl)
  obtain ⟨fuel0, hf0⟩ := h0
  obtain ⟨A0, n0, c0, z0, e0, ha0, hb0, hc0, hd0⟩ := rd_q3s Try.underlying86 Try.underlying172 (by kernel_rfl) (by kernel_rfl) rfl (hint_of Try.underlying3 (by decide +kernel)) hf0
  simp only [Value.cells, List.cons.injEq, Value.slice.injEq, and_true] at e0
  obtain ⟨rfl, rfl, rfl⟩ := e0
  obtain ⟨a1, rfl, _, _, w1⟩ := open_int Try.underlying3 (hval 1 3 v1 rfl rfl) h1
  obtain ⟨a2, rfl, _, _, w2⟩ := open_int Try.underlying3 (hval 2 3 v2 rfl rfl) h2
  exact (walk b0 len0 cap0 z0 a1 a2 W ha0 hb0 hc0 hd0 w1 w2).mono fun e W' ⟨he, hb⟩ => ⟨_, he, fin W' hb⟩

theorem closed : joinedFacts Try.prog 8 Try.f8 Rows.fnExactGroomDirectSpec Rows.fnExactGroomDirectRow = true := by
  unfold joinedFacts
  rw [jn_mk, jn_li, jn_en]
  kernel_rfl
theorem over : Rows.fnExactGroomDirectRow.holds Try.pinned (OpenSpec.ofChange Rows.fnExactGroomDirectSpec) :=
  OpenClaim.holds_of_wide 8 Try.f8 rfl rfl rfl rfl rfl rfl rfl ⟨rfl, rfl, rfl, rfl, rfl⟩ rfl rfl rfl rfl rfl (by kernel_rfl) Try.func8 closed
    (of_decide_eq_true (by kernel_rfl)) (by unfold Func.isWrapper; first | (rw [if_pos (by decide +kernel)]; kernel_rfl) | (rw [if_neg (by decide +kernel)]; exact ⟨rfl, rfl⟩))
    (fun os started H enc _ => lifted os started H enc)

/-- THE STATEMENT -/
theorem proved : Rows.FnExactGroomDirectSaid :=
  over
end Go.Proofs.Ytlgkjidginibdaa.fnExactGroomDirect
