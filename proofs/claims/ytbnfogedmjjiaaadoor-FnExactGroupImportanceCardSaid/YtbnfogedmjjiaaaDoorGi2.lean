/- The importance of a risk group: contracts of GroupImportance, both sides. Condition: the table of math/bits holds what Go's text lays (on impl's side). -/
import Derived.Test.YtbnfogedmjjiaaaDoorGi
import Derived.Deep.DeepCutAuto
namespace Go.Proofs.YtbnfogedmjjiaaaDoor
open Go.ChangeShapes Go.WideShapes Go.ChangeAt Go.RowKit

def giP (ss : List ByteArray) (fs : List Q4) (u : Int) (ds : List Int) (x y g : Int) : Prop := cvP ss fs u ds x y ∧ 0 ≤ g ∧ g < ds.length
noncomputable def giB (ss : List ByteArray) (fs : List Q4) (u : Int) (ds : List Int) (x y g : Int) : Bool := pb (giP ss fs u ds x y g)
noncomputable def giS (fs : List Q4) (u : Int) (ds : List Int) (x y g d : Int) : Int := avS u (ds.set g.toNat d) fs (fun z => pb (Cn fs z x y))
noncomputable def giV (ss : List ByteArray) (fs : List Q4) (u : Int) (ds : List Int) (x y g : Int) : Int := if giB ss fs u ds x y g then giS fs u ds x y g 0 - giS fs u ds x y g u else 0
noncomputable def giR (ss : List ByteArray) (fs : List Q4) (u : Int) (ds : List Int) (x y g : Int) : Value := .tuple #[.int .i64 (giV ss fs u ds x y g), .bool (giB ss fs u ds x y g)]
theorem gi_no {ss : List ByteArray} {fs : List Q4} {u : Int} {ds : List Int} {x y g : Int} (h : ¬ giP ss fs u ds x y g) : (.tuple #[.int .i64 0, .bool false] : Value) = giR ss fs u ds x y g := by
  unfold giR giV; rw [show giB ss fs u ds x y g = false from pb_false h]; rfl
theorem gi_yes {ss : List ByteArray} {fs : List Q4} {u : Int} {ds : List Int} {x y g : Int} (h : giP ss fs u ds x y g) : (.tuple #[.int .i64 (giS fs u ds x y g 0 - giS fs u ds x y g u), .bool true] : Value) = giR ss fs u ds x y g := by
  unfold giR giV; rw [show giB ss fs u ds x y g = true from pb_true h]; rfl
theorem ou_set {ss : List ByteArray} {fs : List Q4} {u d : Int} {ds : List Int} {g : Nat} (h : ouP ss fs u ds) (h0 : 0 ≤ d) (h1 : d ≤ u) : ouP ss fs u (ds.set g d) := by
  obtain ⟨a, b, c, e⟩ := h
  refine ⟨a, b, by rw [List.length_set]; exact c, fun k hk => ?_⟩
  rw [List.length_set] at hk
  have e2 : nth (ds.set g d) k = if k = g then d else nth ds k := by
    unfold nth
    by_cases hg : g < ds.length
    · exact getD_set hg
    · rw [List.set_eq_of_length_le (by omega), if_neg (by omega)]
  rw [e2]
  split
  · exact ⟨h0, h1⟩
  · exact e k hk
theorem av_tot {u : Int} {ds : List Int} {fs : List Q4} {n : Nat} (hn : ds.length = n) (hu0 : 0 ≤ u) (hu : u ≤ 20) (hd : ∀ j, j < n → 0 ≤ nth ds j ∧ nth ds j ≤ u) (hx : n ≤ 14) (g : Nat → Bool) : 0 ≤ avS u ds fs g ∧ avS u ds fs g ≤ 1638400000000000000 := by
  subst hn
  unfold avS
  obtain ⟨f, hf⟩ : ∃ f, 2 ^ ds.length = f + 1 := ⟨2 ^ ds.length - 1, by have := Nat.two_pow_pos ds.length; omega⟩
  have h1 := av_bd hu0 hu hd hx (fun z => g (gnN (rgL fs) z)) (f := f) (by omega)
  rw [hf]
  have e : avN (fun z => wtN u ds z ds.length) (fun z => g (gnN (rgL fs) z)) (f + 1) = avN (fun z => wtN u ds z ds.length) (fun z => g (gnN (rgL fs) z)) f + (if g (gnN (rgL fs) f) then wtN u ds f ds.length else 0) := rfl
  rw [e]
  obtain ⟨a, b, c⟩ := h1
  have c2 : avN (fun z => wtN u ds z ds.length) (fun z => g (gnN (rgL fs) z)) f + wtN u ds f ds.length ≤ 1638400000000000000 := c
  split <;> omega
set_option maxRecDepth 100000 in
set_option maxHeartbeats 1500000 in
theorem specGI {g1 g2 n1 n2 c1 c2 : Nat} {ss : List ByteArray} {fs : List Q4} {w : World} (h : NetAt g1 g2 n1 n2 c1 c2 ss fs w) (u : Int) {q n c : Nat} {ds : List Int} (hn : ds.length = n) (hr : Rd w w.heap.size (some ⟨q, 0, none⟩) (ds.map (Value.int .i64))) (hx : n ≤ 1048576) (x y g : Int) :
    Calls Tryd.prog 49 #[.agg #[.slice (some ⟨g1, 0, none⟩) n1 c1, .slice (some ⟨g2, 0, none⟩) n2 c2], .agg #[.int .i64 u, .slice (some ⟨q, 0, none⟩) n c], .int .i64 x, .int .i64 y, .int .i64 g] w (RetP (giR ss fs u ds x y g) w) := by
  have HNT := Lib.hid h; have HN := Lib.hid hn; have HR := Lib.hid hr
  have HL1 := Lib.hid h.ln1
  obtain ⟨R, hR⟩ : ∃ r, giR ss fs u ds x y g = r := ⟨_, rfl⟩
  have HNO : Hid (¬ giP ss fs u ds x y g → (.tuple #[.int .i64 0, .bool false] : Value) = R) := Lib.hid (fun e => by rw [← hR]; exact gi_no e)
  have HYES : Hid (giP ss fs u ds x y g → (.tuple #[.int .i64 (giS fs u ds x y g 0 - giS fs u ds x y g u), .bool true] : Value) = R) := Lib.hid (fun e => by rw [← hR]; exact gi_yes e)
  rw [hR]
  clear h hn hr hR
  go_enter Tryd.func49, Tryd.ntmps49
  go_wp2_with fail
  obtain ⟨W0, hW0⟩ : ∃ W0, ((w.alloc (Obj.cells #[.slice (some ⟨g1, 0, none⟩) n1 c1, .slice (some ⟨g2, 0, none⟩) n2 c2] 34)).alloc (Obj.cells #[.int .i64 u, .slice (some ⟨q, 0, none⟩) n c] 60)) = W0 := ⟨_, rfl⟩
  have hb0 : Below w.heap.size w W0 := by rw [← hW0]; exact ((Below.refl _ _).alloc (Nat.le_refl _) _).alloc (by simp) _
  have k0_0 : W0.cell? ⟨w.heap.size, 0, none⟩ = some (.slice (some ⟨g1, 0, none⟩) n1 c1) := by rw [← hW0]; simp [go_sem]
  have k0_1 : W0.cell? ⟨w.heap.size, 1, none⟩ = some (.slice (some ⟨g2, 0, none⟩) n2 c2) := by rw [← hW0]; simp [go_sem]
  have k1_0 : W0.cell? ⟨w.heap.size + 1, 0, none⟩ = some (.int .i64 u) := by rw [← hW0]; simp [go_sem]
  have k1_1 : W0.cell? ⟨w.heap.size + 1, 1, none⟩ = some (.slice (some ⟨q, 0, none⟩) n c) := by rw [← hW0]; simp [go_sem]
  have hz0 : w.heap.size + 1 < W0.heap.size := by rw [← hW0]; simp
  have HKB : Hid (∀ W, Below W0.heap.size W0 W → W.cell? ⟨w.heap.size, 0, none⟩ = some (.slice (some ⟨g1, 0, none⟩) n1 c1) ∧ W.cell? ⟨w.heap.size, 1, none⟩ = some (.slice (some ⟨g2, 0, none⟩) n2 c2) ∧ W.cell? ⟨w.heap.size + 1, 0, none⟩ = some (.int .i64 u) ∧ W.cell? ⟨w.heap.size + 1, 1, none⟩ = some (.slice (some ⟨q, 0, none⟩) n c) ∧ w.heap.size + 1 < W.heap.size) := Lib.hid (fun W hW => ⟨(hW.cell (p := ⟨w.heap.size, 0, none⟩) (by show w.heap.size < _; omega)).trans k0_0, (hW.cell (p := ⟨w.heap.size, 1, none⟩) (by show w.heap.size < _; omega)).trans k0_1, (hW.cell (p := ⟨w.heap.size + 1, 0, none⟩) (by show w.heap.size + 1 < _; omega)).trans k1_0, (hW.cell (p := ⟨w.heap.size + 1, 1, none⟩) (by show w.heap.size + 1 < _; omega)).trans k1_1, Nat.lt_of_lt_of_le hz0 hW.size⟩)
  have HSZ0 : Hid (W0.heap.size = w.heap.size + 1 + 1) := Lib.hid (by rw [← hW0]; simp)
  have HB0 := Lib.hid hb0
  rw [hW0]
  clear hW0 hb0 hz0 k0_0 k0_1 k1_0 k1_1
  have HW0 := Lib.hid (Below.refl W0.heap.size W0)
  have CV1 := Lib.hid (l16Good_ (c := c) (HNT.out.moved HB0.out) u HN.out (HR.out.moved HB0.out) hx)
  obtain ⟨v, hv⟩ : ∃ v, ouB ss fs u ds = v := ⟨_, rfl⟩
  rw [hv] at CV1
  have HV1 := Lib.hid hv
  clear hv
  refine CV1.out.mono ?_
  rintro e w1 ⟨rfl, hb9⟩
  have HWw1 := Lib.hid (HW0.out.trans (hb9.mono HW0.out.size))
  have HBw1 := Lib.hid (HB0.out.trans (HWw1.out.mono HB0.out.size))
  clear hb9
  obtain ⟨k00, k01, k10, k11, hgz⟩ := HKB.out _ HWw1.out
  cases v
  case false =>
    have HE := Lib.hid (HNO.out (fun hp => by have h9 := HV1.out; unfold ouB at h9; rw [pb_true hp.1.1] at h9; cases h9))
    clear k00 k01 k10 k11 hgz
    go_wp2
    go_ret2
    exact ⟨ret_tupC HE.out, HBw1.out⟩
  case true =>
  have CV2 := Lib.hid (ends6_ (HNT.out.moved HBw1.out) x y)
  obtain ⟨v, hv⟩ : ∃ v, pb (endP ss fs x y) = v := ⟨_, rfl⟩
  rw [hv] at CV2
  have HV2 := Lib.hid hv
  clear hv
  go_wp2_with fail
  clear k00 k01 k10 k11 hgz
  refine CV2.out.mono ?_
  rintro e w2 ⟨rfl, hb9⟩
  have HWw2 := Lib.hid (HWw1.out.trans (hb9.mono HWw1.out.size))
  have HBw2 := Lib.hid (HB0.out.trans (HWw2.out.mono HB0.out.size))
  clear hb9
  obtain ⟨k00, k01, k10, k11, hgz⟩ := HKB.out _ HWw2.out
  cases v
  case false =>
    have HE := Lib.hid (HNO.out (fun hp => by have h9 := HV2.out; rw [pb_true hp.1.2] at h9; cases h9))
    clear k00 k01 k10 k11 hgz
    go_wp2
    go_ret2
    exact ⟨ret_tupC HE.out, HBw2.out⟩
  case true =>
  have HCV : Hid (cvP ss fs u ds x y) := Lib.hid ⟨of_pb HV1.out, of_pb HV2.out⟩
  obtain ⟨hv, hn14, -, hu0, hu20, hdd⟩ := ou_facts HN.out HCV.out.1
  have e7 : IntKind.i64.wrap ((n : Int) - 1) = (n : Int) - 1 := IntWalk.i64_in _ (by omega)
  by_cases hg : 0 ≤ g ∧ g < n
  case neg =>
    have HE := Lib.hid (HNO.out (fun hp => hg (by have := hp.2; have := HN.out; omega)))
    go_wp2_with fail
    clear k00 k01 k10 k11 hgz
    refine (in_noR g 0 ((n : Int) - 1) w2 (by omega)).mono ?_
    rintro e w3 ⟨rfl, rfl⟩
    go_wp2
    go_ret2
    exact ⟨ret_tupC HE.out, HBw2.out⟩
  case pos =>
  obtain ⟨hg0, hg1⟩ := hg
  have HE := Lib.hid (HYES.out ⟨HCV.out, hg0, by have := HN.out; omega⟩)
  obtain ⟨gn, rfl⟩ : ∃ m : Nat, g = m := ⟨g.toNat, by omega⟩
  have hgn : gn < n := by omega
  go_wp2_with fail
  clear k00 k01 k10 k11 hgz
  refine (in_yesR (gn : Int) 0 ((n : Int) - 1) w2 (by omega) (by omega)).mono ?_
  rintro e w3 ⟨rfl, rfl⟩
  obtain ⟨k00, k01, k10, k11, hgz⟩ := HKB.out _ HWw2.out
  clear e7
  have hD0 := ou_set (g := gn) HCV.out.1 (Int.le_refl 0) hu0
  have hD1 := ou_set (g := gn) HCV.out.1 hu0 (Int.le_refl u)
  have hLN : ∀ d, (ds.set gn d).length = n := fun d => by rw [List.length_set]; exact HN.out
  obtain ⟨_, _, hgl0, _, _, hdd0⟩ := ou_facts (hLN 0) hD0
  obtain ⟨_, _, hgl1, _, _, hdd1⟩ := ou_facts (hLN u) hD1
  have hS0 : giS fs u ds x y (gn : Int) 0 = avS u (ds.set gn 0) fs (fun z => pb (Cn fs z x y)) := by unfold giS; rw [show ((gn : Int)).toNat = gn by omega]
  have hS1 : giS fs u ds x y (gn : Int) u = avS u (ds.set gn u) fs (fun z => pb (Cn fs z x y)) := by unfold giS; rw [show ((gn : Int)).toNat = gn by omega]
  have hbd0 := av_tot (fs := fs) (hLN 0) hu0 hu20 hdd0 hn14 (fun z => pb (Cn fs z x y))
  have hbd1 := av_tot (fs := fs) (hLN u) hu0 hu20 hdd1 hn14 (fun z => pb (Cn fs z x y))
  rw [hS0, hS1] at HE
  have CW0 : Hid (∀ W, Bel w2 W → Calls Tryd.prog 114 #[.agg #[.int .i64 u, .slice (some ⟨q, 0, none⟩) n c], .int .i64 (gn : Int), .int .i64 0] W (WiP u (ds.set gn 0) W)) := Lib.hid (fun W hW => l16With_ u HN.out (Rd.moved (HR.out.moved HBw2.out) hW.out) hn14 gn hgn 0)
  have CC0 : Hid (∀ W A9 N9 c9, Bel w2 W → N9 = (ds.set gn 0).length → Rd W W.heap.size A9 ((ds.set gn 0).map (Value.int .i64)) → Calls Tryd.prog 107 #[.agg #[.slice (some ⟨g1, 0, none⟩) n1 c1, .slice (some ⟨g2, 0, none⟩) n2 c2], .agg #[.int .i64 u, .slice A9 N9 c9], .int .i64 x, .int .i64 y] W (RetP (.int .i64 (avS u (ds.set gn 0) fs (fun z => pb (Cn fs z x y)))) W)) := Lib.hid (fun W A9 N9 c9 hW hN9 hR9 => by
    obtain ⟨_, ⟨hx0, hx1⟩, ⟨hy0, hy1⟩, _⟩ := HCV.out.2
    obtain ⟨xn, rfl⟩ : ∃ m : Nat, x = m := ⟨x.toNat, by omega⟩
    obtain ⟨yn, rfl⟩ : ∃ m : Nat, y = m := ⟨y.toNat, by omega⟩
    obtain rfl : N9 = n := by rw [hN9]; exact hLN 0
    have h9 := con16C_ (c := c9) ((HNT.out.moved HBw2.out).moved hW.out) hv u (hLN 0) hR9 hn14 hgl0 hu0 hu20 hdd0 xn yn (by have := HL1.out; omega) (by have := HL1.out; omega)
    have e9 : avS u (ds.set gn 0) fs (fun z => pb (Cn fs z (xn : Int) (yn : Int))) = avN (fun z => wtN u (ds.set gn 0) z N9) (fun z => pb (Cn fs (gnN (rgL fs) z) (xn : Int) (yn : Int))) (2 ^ N9) := by unfold avS; rw [hLN 0]
    rw [e9]; exact h9)
  have CW1 : Hid (∀ W, Bel w2 W → Calls Tryd.prog 114 #[.agg #[.int .i64 u, .slice (some ⟨q, 0, none⟩) n c], .int .i64 (gn : Int), .int .i64 u] W (WiP u (ds.set gn u) W)) := Lib.hid (fun W hW => l16With_ u HN.out (Rd.moved (HR.out.moved HBw2.out) hW.out) hn14 gn hgn u)
  have CC1 : Hid (∀ W A9 N9 c9, Bel w2 W → N9 = (ds.set gn u).length → Rd W W.heap.size A9 ((ds.set gn u).map (Value.int .i64)) → Calls Tryd.prog 107 #[.agg #[.slice (some ⟨g1, 0, none⟩) n1 c1, .slice (some ⟨g2, 0, none⟩) n2 c2], .agg #[.int .i64 u, .slice A9 N9 c9], .int .i64 x, .int .i64 y] W (RetP (.int .i64 (avS u (ds.set gn u) fs (fun z => pb (Cn fs z x y)))) W)) := Lib.hid (fun W A9 N9 c9 hW hN9 hR9 => by
    obtain ⟨_, ⟨hx0, hx1⟩, ⟨hy0, hy1⟩, _⟩ := HCV.out.2
    obtain ⟨xn, rfl⟩ : ∃ m : Nat, x = m := ⟨x.toNat, by omega⟩
    obtain ⟨yn, rfl⟩ : ∃ m : Nat, y = m := ⟨y.toNat, by omega⟩
    obtain rfl : N9 = n := by rw [hN9]; exact hLN u
    have h9 := con16C_ (c := c9) ((HNT.out.moved HBw2.out).moved hW.out) hv u (hLN u) hR9 hn14 hgl1 hu0 hu20 hdd1 xn yn (by have := HL1.out; omega) (by have := HL1.out; omega)
    have e9 : avS u (ds.set gn u) fs (fun z => pb (Cn fs z (xn : Int) (yn : Int))) = avN (fun z => wtN u (ds.set gn u) z N9) (fun z => pb (Cn fs (gnN (rgL fs) z) (xn : Int) (yn : Int))) (2 ^ N9) := by unfold avS; rw [hLN u]
    rw [e9]; exact h9)
  obtain ⟨V0, hV0⟩ : ∃ z, avS u (ds.set gn 0) fs (fun z => pb (Cn fs z x y)) = z := ⟨_, rfl⟩
  obtain ⟨V1, hV1⟩ : ∃ z, avS u (ds.set gn u) fs (fun z => pb (Cn fs z x y)) = z := ⟨_, rfl⟩
  rw [hV0] at CC0 HE hbd0
  rw [hV1] at CC1 HE hbd1
  obtain ⟨L0, hL0⟩ : ∃ z, ds.set gn 0 = z := ⟨_, rfl⟩
  obtain ⟨L1, hL1⟩ : ∃ z, ds.set gn u = z := ⟨_, rfl⟩
  rw [hL0] at CC0 CW0
  rw [hL1] at CC1 CW1
  obtain ⟨ha0, ha1⟩ := hbd0
  obtain ⟨hc0, hc1⟩ := hbd1
  have hsub : IntKind.i64.wrap (V0 - V1) = V0 - V1 := IntWalk.i64_in _ (by omega)
  have hgI : (gn : Int) < n := by omega
  clear hV0 hV1 hL0 hL1 hS0 hS1 hdd hdd0 hdd1 hgl0 hgl1 hD0 hD1 hLN hv hg0 hg1
  have hq0 : w.heap.size < w2.heap.size := by omega
  have hbd : Bel w2 w2.drew := Bel.of (Below.refl _ _).drew
  go_wp2_with fail
  go_upto_region 3 with fail
  go_cut [10, 11] (fun s10 s11 wx => s10 = .int .i64 (V0 - V1) ∧ s11 = .bool true ∧ Bel w2 wx)
  case first =>
    go_region_held3 (fun U => U.cell? ⟨w.heap.size, 0, none⟩ = some (.slice (some ⟨g1, 0, none⟩) n1 c1) ∧ U.cell? ⟨w.heap.size, 1, none⟩ = some (.slice (some ⟨g2, 0, none⟩) n2 c2) ∧ U.cell? ⟨w.heap.size + 1, 0, none⟩ = some (.int .i64 u) ∧ U.cell? ⟨w.heap.size + 1, 1, none⟩ = some (.slice (some ⟨q, 0, none⟩) n c) ∧ Bel w2 U)
      (first | (go_keep; done) | (go_split_ands; (refine ⟨?_, ?_, ?_, ?_, ?_⟩ <;> first | assumption | exact Bel.step (by assumption) hb1 | exact (Bel.at_ (by assumption) hb1 (by assumption)).trans (by assumption) | exact Bel.step (by assumption) hb2 | exact (Bel.at_ (by assumption) hb2 (by assumption)).trans (by assumption) | exact Bel.step (by assumption) hb3 | exact (Bel.at_ (by assumption) hb3 (by assumption)).trans (by assumption) | exact Bel.step (by assumption) hb4 | exact (Bel.at_ (by assumption) hb4 (by assumption)).trans (by assumption))))
      (first
        | (go_at_call 114; go_split_ands; (with_reducible refine (CW0.out _ (by assumption)).mono ?_); rintro e u0a ⟨A0, N0, c0, rfl, HN0, ho0, hb1⟩; have RR0 : Hid (∀ V, Below u0a.heap.size u0a V → Rd V V.heap.size A0 (L0.map (Value.int .i64))) := Lib.hid fun V hV => (Rd.ofOwn ho0).moved hV; clear ho0)
        | (go_at_call 114; go_split_ands; (with_reducible refine (CW1.out _ (by assumption)).mono ?_); rintro e u1a ⟨A1, N1, c1, rfl, HN1, ho1, hb2⟩; have RR1 : Hid (∀ V, Below u1a.heap.size u1a V → Rd V V.heap.size A1 (L1.map (Value.int .i64))) := Lib.hid fun V hV => (Rd.ofOwn ho1).moved hV; clear ho1)
        | (go_at_call 107; go_split_ands; (with_reducible refine (CC0.out _ A0 N0 c0 (by assumption) HN0.out (RR0.out _ (by first | exact Below.refl _ _ | assumption | (apply belT; assumption; assumption) | (apply belT; assumption; apply belT; assumption; assumption)))).mono ?_); rintro e u0b ⟨rfl, hb3⟩)
        | (go_at_call 107; go_split_ands; (with_reducible refine (CC1.out _ A1 N1 c1 (by assumption) HN1.out (RR1.out _ (by first | exact Below.refl _ _ | assumption | (apply belT; assumption; assumption) | (apply belT; assumption; apply belT; assumption; assumption)))).mono ?_); rintro e u1b ⟨rfl, hb4⟩))
    all_goals
      go_split_ands
      go_wp2_with fail
      go_meet
      exact ⟨by first | rfl | (rw [hsub]), rfl, by assumption⟩
  case rest =>
  clear hbd hq0 k00 k01 k10 k11 hgz
  revert hcut; generalize wc = w5; intro hcut
  obtain ⟨h0_, h1_, hb9⟩ := hcut
  subst h0_ h1_
  have HB5 := Lib.hid (HBw2.out.trans ((Bel.out hb9).mono HBw2.out.size))
  clear hb9
  go_wp2
  go_ret2
  exact ⟨ret_tupC HE.out, HB5.out⟩
set_option maxRecDepth 100000 in
set_option maxHeartbeats 1500000 in
theorem implGI {g1 g2 n1 n2 c1 c2 : Nat} {ss : List ByteArray} {fs : List Q4} {w : World} (h : NetAt g1 g2 n1 n2 c1 c2 ss fs w) (u : Int) {q n c : Nat} {ds : List Int} (hn : ds.length = n) (hr : Rd w w.heap.size (some ⟨q, 0, none⟩) (ds.map (Value.int .i64))) (hx : n ≤ 1048576) (x y g : Int) (hTab : Tab w) :
    Calls Tryd.prog 50 #[.agg #[.slice (some ⟨g1, 0, none⟩) n1 c1, .slice (some ⟨g2, 0, none⟩) n2 c2], .agg #[.int .i64 u, .slice (some ⟨q, 0, none⟩) n c], .int .i64 x, .int .i64 y, .int .i64 g] w (RetP (giR ss fs u ds x y g) w) := by
  have HTB := Lib.hid hTab
  clear hTab
  have HNT := Lib.hid h; have HN := Lib.hid hn; have HR := Lib.hid hr
  have HL1 := Lib.hid h.ln1
  obtain ⟨R, hR⟩ : ∃ r, giR ss fs u ds x y g = r := ⟨_, rfl⟩
  have HNO : Hid (¬ giP ss fs u ds x y g → (.tuple #[.int .i64 0, .bool false] : Value) = R) := Lib.hid (fun e => by rw [← hR]; exact gi_no e)
  have HYES : Hid (giP ss fs u ds x y g → (.tuple #[.int .i64 (giS fs u ds x y g 0 - giS fs u ds x y g u), .bool true] : Value) = R) := Lib.hid (fun e => by rw [← hR]; exact gi_yes e)
  rw [hR]
  clear h hn hr hR
  go_enter Tryd.func50, Tryd.ntmps50
  go_wp2_with fail
  obtain ⟨W0, hW0⟩ : ∃ W0, ((w.alloc (Obj.cells #[.slice (some ⟨g1, 0, none⟩) n1 c1, .slice (some ⟨g2, 0, none⟩) n2 c2] 34)).alloc (Obj.cells #[.int .i64 u, .slice (some ⟨q, 0, none⟩) n c] 60)) = W0 := ⟨_, rfl⟩
  have hb0 : Below w.heap.size w W0 := by rw [← hW0]; exact ((Below.refl _ _).alloc (Nat.le_refl _) _).alloc (by simp) _
  have k0_0 : W0.cell? ⟨w.heap.size, 0, none⟩ = some (.slice (some ⟨g1, 0, none⟩) n1 c1) := by rw [← hW0]; simp [go_sem]
  have k0_1 : W0.cell? ⟨w.heap.size, 1, none⟩ = some (.slice (some ⟨g2, 0, none⟩) n2 c2) := by rw [← hW0]; simp [go_sem]
  have k1_0 : W0.cell? ⟨w.heap.size + 1, 0, none⟩ = some (.int .i64 u) := by rw [← hW0]; simp [go_sem]
  have k1_1 : W0.cell? ⟨w.heap.size + 1, 1, none⟩ = some (.slice (some ⟨q, 0, none⟩) n c) := by rw [← hW0]; simp [go_sem]
  have hz0 : w.heap.size + 1 < W0.heap.size := by rw [← hW0]; simp
  have HKB : Hid (∀ W, Below W0.heap.size W0 W → W.cell? ⟨w.heap.size, 0, none⟩ = some (.slice (some ⟨g1, 0, none⟩) n1 c1) ∧ W.cell? ⟨w.heap.size, 1, none⟩ = some (.slice (some ⟨g2, 0, none⟩) n2 c2) ∧ W.cell? ⟨w.heap.size + 1, 0, none⟩ = some (.int .i64 u) ∧ W.cell? ⟨w.heap.size + 1, 1, none⟩ = some (.slice (some ⟨q, 0, none⟩) n c) ∧ w.heap.size + 1 < W.heap.size) := Lib.hid (fun W hW => ⟨(hW.cell (p := ⟨w.heap.size, 0, none⟩) (by show w.heap.size < _; omega)).trans k0_0, (hW.cell (p := ⟨w.heap.size, 1, none⟩) (by show w.heap.size < _; omega)).trans k0_1, (hW.cell (p := ⟨w.heap.size + 1, 0, none⟩) (by show w.heap.size + 1 < _; omega)).trans k1_0, (hW.cell (p := ⟨w.heap.size + 1, 1, none⟩) (by show w.heap.size + 1 < _; omega)).trans k1_1, Nat.lt_of_lt_of_le hz0 hW.size⟩)
  have HSZ0 : Hid (W0.heap.size = w.heap.size + 1 + 1) := Lib.hid (by rw [← hW0]; simp)
  have HB0 := Lib.hid hb0
  rw [hW0]
  clear hW0 hb0 hz0 k0_0 k0_1 k1_0 k1_1
  have HW0 := Lib.hid (Below.refl W0.heap.size W0)
  have CV1 := Lib.hid (isPair_ (HNT.out.moved HB0.out) x y)
  obtain ⟨v, hv⟩ : ∃ v, pb (endP ss fs x y) = v := ⟨_, rfl⟩
  rw [hv] at CV1
  have HV1 := Lib.hid hv
  clear hv
  refine CV1.out.mono ?_
  rintro e w1 ⟨rfl, hb9⟩
  have HWw1 := Lib.hid (HW0.out.trans (hb9.mono HW0.out.size))
  have HBw1 := Lib.hid (HB0.out.trans (HWw1.out.mono HB0.out.size))
  clear hb9
  obtain ⟨k00, k01, k10, k11, hgz⟩ := HKB.out _ HWw1.out
  cases v
  case false =>
    have HE := Lib.hid (HNO.out (fun hp => by have h9 := HV1.out; rw [pb_true hp.1.2] at h9; cases h9))
    clear k00 k01 k10 k11 hgz
    go_wp2
    go_ret2
    exact ⟨ret_tupC HE.out, HBw1.out⟩
  case true =>
  have CV2 := Lib.hid (implVO (c := c) (HNT.out.moved HBw1.out) u HN.out (HR.out.moved HBw1.out) hx)
  obtain ⟨v, hv⟩ : ∃ v, ouB ss fs u ds = v := ⟨_, rfl⟩
  rw [hv] at CV2
  have HV2 := Lib.hid hv
  clear hv
  go_wp2_with fail
  clear k00 k01 k10 k11 hgz
  refine CV2.out.mono ?_
  rintro e w2 ⟨rfl, hb9⟩
  have HWw2 := Lib.hid (HWw1.out.trans (hb9.mono HWw1.out.size))
  have HBw2 := Lib.hid (HB0.out.trans (HWw2.out.mono HB0.out.size))
  clear hb9
  obtain ⟨k00, k01, k10, k11, hgz⟩ := HKB.out _ HWw2.out
  cases v
  case false =>
    have HE := Lib.hid (HNO.out (fun hp => by have h9 := HV2.out; unfold ouB at h9; rw [pb_true hp.1.1] at h9; cases h9))
    clear k00 k01 k10 k11 hgz
    go_wp2
    go_ret2
    exact ⟨ret_tupC HE.out, HBw2.out⟩
  case true =>
  have HCV : Hid (cvP ss fs u ds x y) := Lib.hid ⟨of_pb HV2.out, of_pb HV1.out⟩
  obtain ⟨hv, hn14, -, hu0, hu20, hdd⟩ := ou_facts HN.out HCV.out.1
  have e7 : IntKind.i64.wrap ((n : Int) - 1) = (n : Int) - 1 := IntWalk.i64_in _ (by omega)
  by_cases hg : 0 ≤ g ∧ g < n
  case neg =>
    have HE := Lib.hid (HNO.out (fun hp => hg (by have := hp.2; have := HN.out; omega)))
    by_cases hgn : g < 0
    · go_wp2
      go_ret2
      exact ⟨ret_tupC HE.out, HBw2.out⟩
    · have hg2 : (n : Int) ≤ g := by omega
      have hg3 : ¬ g < n := by omega
      go_wp2
      go_ret2
      exact ⟨ret_tupC HE.out, HBw2.out⟩
  case pos =>
  obtain ⟨hg0, hg1⟩ := hg
  have HE := Lib.hid (HYES.out ⟨HCV.out, hg0, by have := HN.out; omega⟩)
  obtain ⟨gn, rfl⟩ : ∃ m : Nat, g = m := ⟨g.toNat, by omega⟩
  have hgn : gn < n := by omega
  clear e7
  have hD0 := ou_set (g := gn) HCV.out.1 (Int.le_refl 0) hu0
  have hD1 := ou_set (g := gn) HCV.out.1 hu0 (Int.le_refl u)
  have hLN : ∀ d, (ds.set gn d).length = n := fun d => by rw [List.length_set]; exact HN.out
  obtain ⟨_, _, hgl0, _, _, hdd0⟩ := ou_facts (hLN 0) hD0
  obtain ⟨_, _, hgl1, _, _, hdd1⟩ := ou_facts (hLN u) hD1
  have hS0 : giS fs u ds x y (gn : Int) 0 = avS u (ds.set gn 0) fs (fun z => pb (Cn fs z x y)) := by unfold giS; rw [show ((gn : Int)).toNat = gn by omega]
  have hS1 : giS fs u ds x y (gn : Int) u = avS u (ds.set gn u) fs (fun z => pb (Cn fs z x y)) := by unfold giS; rw [show ((gn : Int)).toNat = gn by omega]
  have hbd0 := av_tot (fs := fs) (hLN 0) hu0 hu20 hdd0 hn14 (fun z => pb (Cn fs z x y))
  have hbd1 := av_tot (fs := fs) (hLN u) hu0 hu20 hdd1 hn14 (fun z => pb (Cn fs z x y))
  rw [hS0, hS1] at HE
  have CW0 : Hid (∀ W, Bel w2 W → Calls Tryd.prog 115 #[.agg #[.int .i64 u, .slice (some ⟨q, 0, none⟩) n c], .int .i64 (gn : Int), .int .i64 0] W (WiP u (ds.set gn 0) W)) := Lib.hid (fun W hW => with_ u HN.out (Rd.moved (HR.out.moved HBw2.out) hW.out) hn14 gn hgn 0)
  have CC0 : Hid (∀ W A9 N9 c9, Bel w2 W → N9 = (ds.set gn 0).length → Rd W W.heap.size A9 ((ds.set gn 0).map (Value.int .i64)) → Calls Tryd.prog 46 #[.agg #[.slice (some ⟨g1, 0, none⟩) n1 c1, .slice (some ⟨g2, 0, none⟩) n2 c2], .agg #[.int .i64 u, .slice A9 N9 c9], .int .i64 x, .int .i64 y] W (RetP (.tuple #[.int .i64 (avS u (ds.set gn 0) fs (fun z => pb (Cn fs z x y))), .bool true]) W)) := Lib.hid (fun W A9 N9 c9 hW hN9 hR9 => by
    have h9 := implCV (c := c9) ((HNT.out.moved HBw2.out).moved hW.out) u hN9.symm hR9 (by have := hLN 0; omega) x y ((HTB.out.over HBw2.out).over hW.out)
    rw [← cv_yes (⟨hD0, HCV.out.2⟩ : cvP ss fs u (ds.set gn 0) x y)] at h9
    exact h9)
  have CW1 : Hid (∀ W, Bel w2 W → Calls Tryd.prog 115 #[.agg #[.int .i64 u, .slice (some ⟨q, 0, none⟩) n c], .int .i64 (gn : Int), .int .i64 u] W (WiP u (ds.set gn u) W)) := Lib.hid (fun W hW => with_ u HN.out (Rd.moved (HR.out.moved HBw2.out) hW.out) hn14 gn hgn u)
  have CC1 : Hid (∀ W A9 N9 c9, Bel w2 W → N9 = (ds.set gn u).length → Rd W W.heap.size A9 ((ds.set gn u).map (Value.int .i64)) → Calls Tryd.prog 46 #[.agg #[.slice (some ⟨g1, 0, none⟩) n1 c1, .slice (some ⟨g2, 0, none⟩) n2 c2], .agg #[.int .i64 u, .slice A9 N9 c9], .int .i64 x, .int .i64 y] W (RetP (.tuple #[.int .i64 (avS u (ds.set gn u) fs (fun z => pb (Cn fs z x y))), .bool true]) W)) := Lib.hid (fun W A9 N9 c9 hW hN9 hR9 => by
    have h9 := implCV (c := c9) ((HNT.out.moved HBw2.out).moved hW.out) u hN9.symm hR9 (by have := hLN u; omega) x y ((HTB.out.over HBw2.out).over hW.out)
    rw [← cv_yes (⟨hD1, HCV.out.2⟩ : cvP ss fs u (ds.set gn u) x y)] at h9
    exact h9)
  obtain ⟨V0, hV0⟩ : ∃ z, avS u (ds.set gn 0) fs (fun z => pb (Cn fs z x y)) = z := ⟨_, rfl⟩
  obtain ⟨V1, hV1⟩ : ∃ z, avS u (ds.set gn u) fs (fun z => pb (Cn fs z x y)) = z := ⟨_, rfl⟩
  rw [hV0] at CC0 HE hbd0
  rw [hV1] at CC1 HE hbd1
  obtain ⟨L0, hL0⟩ : ∃ z, ds.set gn 0 = z := ⟨_, rfl⟩
  obtain ⟨L1, hL1⟩ : ∃ z, ds.set gn u = z := ⟨_, rfl⟩
  rw [hL0] at CC0 CW0
  rw [hL1] at CC1 CW1
  obtain ⟨ha0, ha1⟩ := hbd0
  obtain ⟨hc0, hc1⟩ := hbd1
  have hsub : IntKind.i64.wrap (V0 - V1) = V0 - V1 := IntWalk.i64_in _ (by omega)
  have hgI : (gn : Int) < n := by omega
  clear hV0 hV1 hL0 hL1 hS0 hS1 hdd hdd0 hdd1 hgl0 hgl1 hD0 hD1 hLN hv hg0 hg1
  have hq0 : w.heap.size < w2.heap.size := by omega
  have hbd : Bel w2 w2.drew := Bel.of (Below.refl _ _).drew
  go_wp2_with fail
  go_upto_region 3 with fail
  go_cut [12, 13] (fun sa sb wx => sa = .int .i64 V0 ∧ sb = .bool true ∧ Bel w2 wx)
  case first =>
    go_region_held3 (fun U => U.cell? ⟨w.heap.size, 0, none⟩ = some (.slice (some ⟨g1, 0, none⟩) n1 c1) ∧ U.cell? ⟨w.heap.size, 1, none⟩ = some (.slice (some ⟨g2, 0, none⟩) n2 c2) ∧ U.cell? ⟨w.heap.size + 1, 0, none⟩ = some (.int .i64 u) ∧ U.cell? ⟨w.heap.size + 1, 1, none⟩ = some (.slice (some ⟨q, 0, none⟩) n c) ∧ Bel w2 U)
      (first | (go_keep; done) | (go_split_ands; (refine ⟨?_, ?_, ?_, ?_, ?_⟩ <;> first | assumption | exact Bel.step (by assumption) hb1 | exact (Bel.at_ (by assumption) hb1 (by assumption)).trans (by assumption) | exact Bel.step (by assumption) hb3 | exact (Bel.at_ (by assumption) hb3 (by assumption)).trans (by assumption))))
      (first
        | (go_at_call 115; go_split_ands; (with_reducible refine (CW0.out _ (by assumption)).mono ?_); rintro e u0a ⟨A0, N0, c0, rfl, HN0, ho0, hb1⟩; have RR0 : Hid (∀ V, Below u0a.heap.size u0a V → Rd V V.heap.size A0 (L0.map (Value.int .i64))) := Lib.hid fun V hV => (Rd.ofOwn ho0).moved hV; clear ho0)
        | (go_at_call 46; go_split_ands; (with_reducible refine (CC0.out _ A0 N0 c0 (by assumption) HN0.out (RR0.out _ (by first | exact Below.refl _ _ | assumption | (apply belT; assumption; assumption) | (apply belT; assumption; apply belT; assumption; assumption)))).mono ?_); rintro e u0b ⟨rfl, hb3⟩))
    all_goals
      go_split_ands
      go_wp2_with fail
      go_meet
      exact ⟨rfl, rfl, by assumption⟩
  case rest =>
  clear hbd hq0 k00 k01 k10 k11 hgz
  revert hcut; generalize wc = w4; intro hcut
  obtain ⟨h0_, h1_, hb9⟩ := hcut
  subst h0_ h1_
  have HWw4 := Lib.hid (HWw2.out.trans ((Bel.out hb9).mono HWw2.out.size))
  have HBw4 := Lib.hid (HBw2.out.trans ((Bel.out hb9).mono HBw2.out.size))
  have CW1b : Hid (∀ W, Bel w4 W → Calls Tryd.prog 115 #[.agg #[.int .i64 u, .slice (some ⟨q, 0, none⟩) n c], .int .i64 (gn : Int), .int .i64 u] W (WiP u L1 W)) := Lib.hid (fun W hW => CW1.out W (Bel.of ((Bel.out hb9).trans ((Bel.out hW).mono (Bel.out hb9).size))))
  have CC1b : Hid (∀ W A9 N9 c9, Bel w4 W → N9 = L1.length → Rd W W.heap.size A9 (L1.map (Value.int .i64)) → Calls Tryd.prog 46 #[.agg #[.slice (some ⟨g1, 0, none⟩) n1 c1, .slice (some ⟨g2, 0, none⟩) n2 c2], .agg #[.int .i64 u, .slice A9 N9 c9], .int .i64 x, .int .i64 y] W (RetP (.tuple #[.int .i64 V1, .bool true]) W)) := Lib.hid (fun W A9 N9 c9 hW => CC1.out W A9 N9 c9 (Bel.of ((Bel.out hb9).trans ((Bel.out hW).mono (Bel.out hb9).size))))
  clear hb9 CW1 CC1
  have CW1 := CW1b; have CC1 := CC1b
  clear CW1b CC1b
  obtain ⟨k00, k01, k10, k11, hgz⟩ := HKB.out _ HWw4.out
  have hq0 : w.heap.size < w4.heap.size := by omega
  have hbd : Bel w4 w4.drew := Bel.of (Below.refl _ _).drew
  go_wp2_with fail
  go_upto_region 4 with fail
  go_cut [14, 15] (fun sa sb wx => sa = .int .i64 V1 ∧ sb = .bool true ∧ Bel w4 wx)
  case first =>
    go_region_held3 (fun U => U.cell? ⟨w.heap.size, 0, none⟩ = some (.slice (some ⟨g1, 0, none⟩) n1 c1) ∧ U.cell? ⟨w.heap.size, 1, none⟩ = some (.slice (some ⟨g2, 0, none⟩) n2 c2) ∧ U.cell? ⟨w.heap.size + 1, 0, none⟩ = some (.int .i64 u) ∧ U.cell? ⟨w.heap.size + 1, 1, none⟩ = some (.slice (some ⟨q, 0, none⟩) n c) ∧ Bel w4 U)
      (first | (go_keep; done) | (go_split_ands; (refine ⟨?_, ?_, ?_, ?_, ?_⟩ <;> first | assumption | exact Bel.step (by assumption) hb2 | exact (Bel.at_ (by assumption) hb2 (by assumption)).trans (by assumption) | exact Bel.step (by assumption) hb4 | exact (Bel.at_ (by assumption) hb4 (by assumption)).trans (by assumption))))
      (first
        | (go_at_call 115; go_split_ands; (with_reducible refine (CW1.out _ (by assumption)).mono ?_); rintro e u1a ⟨A1, N1, c1, rfl, HN1, ho1, hb2⟩; have RR1 : Hid (∀ V, Below u1a.heap.size u1a V → Rd V V.heap.size A1 (L1.map (Value.int .i64))) := Lib.hid fun V hV => (Rd.ofOwn ho1).moved hV; clear ho1)
        | (go_at_call 46; go_split_ands; (with_reducible refine (CC1.out _ A1 N1 c1 (by assumption) HN1.out (RR1.out _ (by first | exact Below.refl _ _ | assumption | (apply belT; assumption; assumption) | (apply belT; assumption; apply belT; assumption; assumption)))).mono ?_); rintro e u1b ⟨rfl, hb4⟩))
    all_goals
      go_split_ands
      go_wp2_with fail
      go_meet
      exact ⟨rfl, rfl, by assumption⟩
  case rest =>
  clear hbd hq0 k00 k01 k10 k11 hgz
  revert hcut; generalize wc = w5; intro hcut
  obtain ⟨h0_, h1_, hb9⟩ := hcut
  subst h0_ h1_
  have HWw5 := Lib.hid (HWw4.out.trans ((Bel.out hb9).mono HWw4.out.size))
  have HBw5 := Lib.hid (HBw4.out.trans ((Bel.out hb9).mono HBw4.out.size))
  clear hb9
  go_wp2
  go_ret2
  exact ⟨ret_tupC HE.out, HBw5.out⟩
end Go.Proofs.YtbnfogedmjjiaaaDoor
