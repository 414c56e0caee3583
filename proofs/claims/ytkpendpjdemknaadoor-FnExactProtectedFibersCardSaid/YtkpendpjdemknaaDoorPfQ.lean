/- Rings: fibers that are protected, efficiency: contracts of ProtectedFibers and RingEfficiency, both sides. Condition: the table of math/bits holds what Go's text lays (on impl's side). -/
import Derived.Test.YtkpendpjdemknaaDoorPfI
namespace Go.Proofs.YtkpendpjdemknaaDoor
open Go.ChangeShapes Go.WideShapes Go.ChangeAt Go.RowKit

set_option maxRecDepth 100000 in
set_option maxHeartbeats 4000000 in
theorem specPF {g1 g2 n1 n2 c1 c2 : Nat} {ss : List ByteArray} {fs : List Q4} {w : World} (h : NetAt g1 g2 n1 n2 c1 c2 ss fs w)
    {A : Option Addr} {n c : Nat} {fl : List Int} (hn : fl.length = n) (hr : Rd w w.heap.size A (fl.map (Value.int .i64))) (hx : n ≤ 1048576) (hcp : n ≤ c) :
    Calls Tryd.prog 8 #[.agg #[.slice (some ⟨g1, 0, none⟩) n1 c1, .slice (some ⟨g2, 0, none⟩) n2 c2], .slice A n c] w (IiP (prO ss fs fl) (prC ss fs fl) (irB ss fs fl) w) := by
  have HL2 := Lib.hid h.ln2
  obtain ⟨L1, hL1⟩ : ∃ r, prO ss fs fl = r := ⟨_, rfl⟩
  obtain ⟨L2, hL2⟩ : ∃ r, prC ss fs fl = r := ⟨_, rfl⟩
  obtain ⟨rb, hrb⟩ : ∃ r, irB ss fs fl = r := ⟨_, rfl⟩
  have HNO : Hid (rb = false → L1 = [] ∧ L2 = []) := Lib.hid (fun e => by rw [← hL1, ← hL2]; exact pr_no (hrb.trans e))
  have HYES : Hid (rb = true → irB ss fs fl = true ∧ L1 = selK (ownQ fl) n2 ∧ L2 = selK (crsQ fs fl (rgnL ss fs fl)) n2) := Lib.hid (fun e => by rw [← hL1, ← hL2, ← HL2.out]; exact ⟨hrb.trans e, pr_yes (hrb.trans e)⟩)
  have CI := Lib.hid (fun (W : World) (hb : Below w.heap.size w W) => specIR (h.moved hb) hn (hr.moved hb) hx hcp)
  have CP : Hid (rb = true → ∀ W, Below w.heap.size w W → Calls Tryd.prog 30 #[.agg #[.slice (some ⟨g1, 0, none⟩) n1 c1, .slice (some ⟨g2, 0, none⟩) n2 c2], .slice A n c] W (TwoP L1 L2 W)) := Lib.hid (fun e W hb => by
    obtain ⟨h1, h2, h3⟩ := HYES.out e
    obtain ⟨hv, _, _, ⟨vs, hvs, hev⟩, _⟩ := ring_facts h1
    rw [h2, h3, hev]
    exact l17Prot_ (h.moved hb) hv hn (hr.moved hb) hx hcp hvs)
  rw [hrb] at CI
  rw [hL1, hL2, hrb]
  clear h hn hr hL1 hL2 hrb HYES
  go_enter Tryd.func8, Tryd.ntmps8
  go_wp2_with fail
  obtain ⟨W0, hW0⟩ : ∃ W0, w.alloc (Obj.cells #[.slice (some ⟨g1, 0, none⟩) n1 c1, .slice (some ⟨g2, 0, none⟩) n2 c2] 32) = W0 := ⟨_, rfl⟩
  have hb0 : Below w.heap.size w W0 := by rw [← hW0]; exact (Below.refl _ _).alloc (Nat.le_refl _) _
  have k0 : W0.cell? ⟨w.heap.size, 0, none⟩ = some (.slice (some ⟨g1, 0, none⟩) n1 c1) := by rw [← hW0]; simp [go_sem]
  have k1 : W0.cell? ⟨w.heap.size, 1, none⟩ = some (.slice (some ⟨g2, 0, none⟩) n2 c2) := by rw [← hW0]; simp [go_sem]
  have hz0 : w.heap.size < W0.heap.size := by rw [← hW0]; simp
  have HB0 := Lib.hid hb0
  have HK : Hid (∀ u, Below W0.heap.size W0 u → u.cell? ⟨w.heap.size, 0, none⟩ = some (.slice (some ⟨g1, 0, none⟩) n1 c1) ∧ u.cell? ⟨w.heap.size, 1, none⟩ = some (.slice (some ⟨g2, 0, none⟩) n2 c2) ∧ w.heap.size < u.heap.size) := Lib.hid fun u hu => ⟨(hu.cell (p := ⟨w.heap.size, 0, none⟩) hz0).trans k0, (hu.cell (p := ⟨w.heap.size, 1, none⟩) hz0).trans k1, Nat.lt_of_lt_of_le hz0 hu.size⟩
  rw [hW0]
  clear hW0 hb0 k0 k1 hz0
  refine (CI.out _ HB0.out).mono ?_
  rintro e w1 ⟨rfl, hb1⟩
  have HB1 := Lib.hid (HB0.out.trans (hb1.mono HB0.out.size))
  obtain ⟨q0, q1, q2⟩ := HK.out w1 hb1
  clear hb1
  cases rb
  case false =>
    have HE := Lib.hid (HNO.out rfl)
    clear q0 q1 q2
    obtain ⟨W1, hW1⟩ : ∃ W1, (w1.alloc (Obj.cells #[] 3)).alloc (Obj.cells #[] 3) = W1 := ⟨_, rfl⟩
    have HW := Lib.hid hW1
    clear hW1
    go_wp2
    go_ret3
    rw [HW.out]
    obtain ⟨rfl, rfl⟩ := HE.out
    refine ⟨_, _, 0, 0, _, _, rfl, Lib.hid rfl, Lib.hid rfl, ?_, ?_, Lib.hid ?_, ?_⟩
    · rw [← HW.out]; exact (lit9 rfl _ HB1.out.size).alloc _
    · rw [← HW.out]; exact lit9 (by simp) _ (by simp; have := HB1.out.size; omega)
    · intro g h1 h2; simp [Value.ownBlock] at h1 h2; omega
    · rw [← HW.out]; exact (HB1.out.alloc HB1.out.size _).alloc (by simp; have := HB1.out.size; omega) _
  case true =>
  go_wp2_with fail
  refine (CP.out (by first | rfl | trivial) _ HB1.out).mono ?_
  rintro e w2 ⟨A1, A2, N1, N2, d1, d2, rfl, HN1, HN2, ho1, ho2, HP, hb2⟩
  have HB2 := Lib.hid (HB1.out.trans (hb2.mono HB1.out.size))
  have HR1 := Lib.hid (own_base ho1 HB1.out.size); have HR2 := Lib.hid (own_base ho2 HB1.out.size)
  clear q0 q1 q2 ho1 ho2 hb2
  go_wp2
  go_ret3
  exact ⟨A1, A2, N1, N2, d1, d2, rfl, HN1, HN2, HR1.out, HR2.out, HP, HB2.out⟩
set_option maxRecDepth 100000 in
set_option maxHeartbeats 4000000 in
theorem implPF {g1 g2 n1 n2 c1 c2 : Nat} {ss : List ByteArray} {fs : List Q4} {w : World} (h : NetAt g1 g2 n1 n2 c1 c2 ss fs w)
    {A : Option Addr} {n c : Nat} {fl : List Int} (hn : fl.length = n) (hr : Rd w w.heap.size A (fl.map (Value.int .i64))) (hx : n ≤ 1048576) (hcp : n ≤ c) (hTab : Tab w) :
    Calls Tryd.prog 11 #[.agg #[.slice (some ⟨g1, 0, none⟩) n1 c1, .slice (some ⟨g2, 0, none⟩) n2 c2], .slice A n c] w (IiP (prO ss fs fl) (prC ss fs fl) (irB ss fs fl) w) := by
  have HL2 := Lib.hid h.ln2
  obtain ⟨L1, hL1⟩ : ∃ r, prO ss fs fl = r := ⟨_, rfl⟩
  obtain ⟨L2, hL2⟩ : ∃ r, prC ss fs fl = r := ⟨_, rfl⟩
  obtain ⟨rb, hrb⟩ : ∃ r, irB ss fs fl = r := ⟨_, rfl⟩
  have HNO : Hid (rb = false → L1 = [] ∧ L2 = []) := Lib.hid (fun e => by rw [← hL1, ← hL2]; exact pr_no (hrb.trans e))
  have HYES : Hid (rb = true → irB ss fs fl = true ∧ L1 = selK (ownQ fl) n2 ∧ L2 = selK (crsQ fs fl (rgnL ss fs fl)) n2) := Lib.hid (fun e => by rw [← hL1, ← hL2, ← HL2.out]; exact ⟨hrb.trans e, pr_yes (hrb.trans e)⟩)
  have CI := Lib.hid (fun (W : World) (hb : Below w.heap.size w W) => implIR (h.moved hb) hn (hr.moved hb) hx hcp)
  obtain ⟨m1, hm1⟩ : ∃ m, maskN fl n = m := ⟨_, rfl⟩
  obtain ⟨m2, hm2⟩ : ∃ m, clM (setN (strQ fs (rgnL ss fs fl)) n2) m1 = m := ⟨_, rfl⟩
  have HM : Hid (rb = true → (bl m1 = L1 ∧ m1 < 16777216) ∧ (bl m2 = L2 ∧ m2 < 16777216)) := Lib.hid (fun e => by
    obtain ⟨h1, h2, h3⟩ := HYES.out e
    obtain ⟨hv, _, hfl, _, _⟩ := ring_facts h1
    have hn14 : n2 ≤ 14 := by have := hv.2.1; have := h.ln2; omega
    have hp : 2 ^ n2 ≤ 16777216 := Nat.le_trans (Nat.pow_le_pow_right (by decide) hn14) (by decide)
    rw [h.ln2] at hfl
    have e1 := own_bl (fl := fl) (N := n2) (by omega) hfl
    have e2 := crs_bl (fs := fs) (vs := rgnL ss fs fl) (fl := fl) (N := n2) (by omega) hfl
    rw [hn, hm1] at e1 e2
    rw [hm2] at e2
    exact ⟨⟨by rw [h2]; exact e1.1, Nat.lt_of_lt_of_le e1.2 hp⟩, ⟨by rw [h3]; exact e2.1, Nat.lt_of_lt_of_le e2.2 hp⟩⟩)
  have CM : Hid (rb = true → ∀ W, Below w.heap.size w W → Calls Tryd.prog 35 #[.slice A n c] W fun e w' => e = .returned (.int .i64 (m1 : Int)) ∧ W = w') := Lib.hid (fun e W hb => by
    obtain ⟨h1, _, _⟩ := HYES.out e
    obtain ⟨hv, _, hfl, _, _⟩ := ring_facts h1
    have hn14 := hv.2.1
    rw [← hm1]
    exact maskOf_ A n c fl W hn hx (hr.moved hb) (fun k hk => by have h9 := nth_of hfl k (by omega); omega))
  have CS : Hid (rb = true → ∀ W, Below w.heap.size w W → Calls Tryd.prog 36 #[.agg #[.slice (some ⟨g1, 0, none⟩) n1 c1, .slice (some ⟨g2, 0, none⟩) n2 c2], .slice A n c] W (RetP (.int .i64 (m2 : Int)) W)) := Lib.hid (fun e W hb => by
    obtain ⟨h1, _, _⟩ := HYES.out e
    rw [← hm2, ← hm1]
    exact straddl_ (h.moved hb) hn (hr.moved hb) hx hcp h1)
  have CL1 : Hid (rb = true → ∀ W, Below w.heap.size w W → Calls Tryd.prog 34 #[.int .i64 (m1 : Int)] W (IntP L1 W)) := Lib.hid (fun e W hb => by
    rw [← (HM.out e).1.1]; exact listOf_ m1 W (HM.out e).1.2 (hTab.over hb))
  have CL2 : Hid (rb = true → ∀ W, Below w.heap.size w W → Calls Tryd.prog 34 #[.int .i64 (m2 : Int)] W (IntP L2 W)) := Lib.hid (fun e W hb => by
    rw [← (HM.out e).2.1]; exact listOf_ m2 W (HM.out e).2.2 (hTab.over hb))
  rw [hrb] at CI
  rw [hL1, hL2, hrb]
  clear h hn hr hL1 hL2 hrb HYES HM hm1 hm2 hTab
  go_enter Tryd.func11, Tryd.ntmps11
  go_wp2_with fail
  obtain ⟨W0, hW0⟩ : ∃ W0, w.alloc (Obj.cells #[.slice (some ⟨g1, 0, none⟩) n1 c1, .slice (some ⟨g2, 0, none⟩) n2 c2] 32) = W0 := ⟨_, rfl⟩
  have hb0 : Below w.heap.size w W0 := by rw [← hW0]; exact (Below.refl _ _).alloc (Nat.le_refl _) _
  have k0 : W0.cell? ⟨w.heap.size, 0, none⟩ = some (.slice (some ⟨g1, 0, none⟩) n1 c1) := by rw [← hW0]; simp [go_sem]
  have k1 : W0.cell? ⟨w.heap.size, 1, none⟩ = some (.slice (some ⟨g2, 0, none⟩) n2 c2) := by rw [← hW0]; simp [go_sem]
  have hz0 : w.heap.size < W0.heap.size := by rw [← hW0]; simp
  have HB0 := Lib.hid hb0
  have HK : Hid (∀ u, Below W0.heap.size W0 u → u.cell? ⟨w.heap.size, 0, none⟩ = some (.slice (some ⟨g1, 0, none⟩) n1 c1) ∧ u.cell? ⟨w.heap.size, 1, none⟩ = some (.slice (some ⟨g2, 0, none⟩) n2 c2) ∧ w.heap.size < u.heap.size) := Lib.hid fun u hu => ⟨(hu.cell (p := ⟨w.heap.size, 0, none⟩) hz0).trans k0, (hu.cell (p := ⟨w.heap.size, 1, none⟩) hz0).trans k1, Nat.lt_of_lt_of_le hz0 hu.size⟩
  rw [hW0]
  clear hW0 hb0 k0 k1 hz0
  refine (CI.out _ HB0.out).mono ?_
  rintro e w1 ⟨rfl, hb1⟩
  have HU := Lib.hid (HB0.out.trans (hb1.mono HB0.out.size))
  have HV := Lib.hid hb1
  obtain ⟨q0, q1, q2⟩ := HK.out w1 hb1
  clear hb1
  cases rb
  case false =>
    have HE := Lib.hid (HNO.out rfl)
    clear q0 q1 q2
    go_wp2
    go_ret3
    obtain ⟨rfl, rfl⟩ := HE.out
    exact ⟨none, none, 0, 0, 0, 0, rfl, Lib.hid rfl, Lib.hid rfl, World.ownsRow_nil _ _ _ _, World.ownsRow_nil _ _ _ _, Lib.hid (Apart.nil _), HU.out⟩
  case true =>
  have CMt := Lib.hid (CM.out rfl); have CSt := Lib.hid (CS.out rfl); have CL1t := Lib.hid (CL1.out rfl); have CL2t := Lib.hid (CL2.out rfl)
  clear CM CS CL1 CL2
  have HL0 := Lib.hid HU.out.size
  go_wp2_with fail
  go_region_with (first
      | (go_at_call 34; (with_reducible refine (CL1t.out _ ?_).mono ?_); (first | exact HU.out | exact HU.out.drew | exact drewN_below HU.out _); rintro e u1 ⟨A1, N1, d1, rfl, HN1, ho1, hb1⟩; (first | (have HP := Lib.hid (apart_new HR2.out ho1 (Nat.le_refl _))) | skip); (first | (have HR2 := Lib.hid (ownB HR2.out hb1)) | skip); have HR1 := Lib.hid (own_base ho1 (Below.size (by first | exact HU.out | exact HU.out.drew | exact drewN_below HU.out _))); have HU := Lib.hid (belT (by first | exact HU.out | exact HU.out.drew | exact drewN_below HU.out _) hb1); have HV := Lib.hid (belT (by first | exact HV.out | exact HV.out.drew | exact drewN_below HV.out _) hb1); obtain ⟨_, _, _⟩ := HK.out u1 HV.out)
      | (go_at_call 34; (with_reducible refine (CL2t.out _ ?_).mono ?_); (first | exact HU.out | exact HU.out.drew | exact drewN_below HU.out _); rintro e u2 ⟨A2, N2, d2, rfl, HN2, ho2, hb2⟩; (first | (have HP := Lib.hid (apart_new HR1.out ho2 (Nat.le_refl _)).symm) | skip); (first | (have HR1 := Lib.hid (ownB HR1.out hb2)) | skip); have HR2 := Lib.hid (own_base ho2 (Below.size (by first | exact HU.out | exact HU.out.drew | exact drewN_below HU.out _))); have HU := Lib.hid (belT (by first | exact HU.out | exact HU.out.drew | exact drewN_below HU.out _) hb2); have HV := Lib.hid (belT (by first | exact HV.out | exact HV.out.drew | exact drewN_below HV.out _) hb2); obtain ⟨_, _, _⟩ := HK.out u2 HV.out)
      | (go_at_call 36; (with_reducible refine (CSt.out _ ?_).mono ?_); (first | exact HU.out | exact HU.out.drew | exact drewN_below HU.out _); rintro e u3 ⟨rfl, hb3⟩; (first | (have HR1 := Lib.hid (ownB HR1.out hb3)) | skip); (first | (have HR2 := Lib.hid (ownB HR2.out hb3)) | skip); have HU := Lib.hid (belT (by first | exact HU.out | exact HU.out.drew | exact drewN_below HU.out _) hb3); have HV := Lib.hid (belT (by first | exact HV.out | exact HV.out.drew | exact drewN_below HV.out _) hb3); obtain ⟨_, _, _⟩ := HK.out u3 HV.out)
      | (go_at_call 35; (with_reducible refine (CMt.out _ ?_).mono ?_); (first | exact HU.out | exact HU.out.drew | exact drewN_below HU.out _); rintro e w' ⟨rfl, rfl⟩))
  all_goals
    go_wp2
    go_ret3
    exact ⟨A1, A2, N1, N2, d1, d2, rfl, HN1, HN2, HR1.out, HR2.out, HP, HU.out⟩
noncomputable def efV (ss : List ByteArray) (fs : List Q4) (fl : List Int) : Int := if irB ss fs fl then 1000 * (((prO ss fs fl).length : Int) + 2 * ((prC ss fs fl).length : Int)) / ((prO ss fs fl).length : Int) else 0
noncomputable def efR (ss : List ByteArray) (fs : List Q4) (fl : List Int) : Value := .tuple #[.int .i64 (efV ss fs fl), .bool (irB ss fs fl)]
theorem ef_pos {ss : List ByteArray} {fs : List Q4} {fl : List Int} (h : irB ss fs fl = true) : 0 < (prO ss fs fl).length ∧ (prO ss fs fl).length ≤ 14 ∧ (prC ss fs fl).length ≤ 14 := by
  obtain ⟨hv, h2, hfl, _, _⟩ := ring_facts h
  have hl := pr_len ss fs fl
  have h14 := hv.2.1
  refine ⟨?_, by omega, by omega⟩
  obtain ⟨e, _⟩ := pr_yes h
  have hm := List.getElem_mem (l := fl) (n := 0) (by omega)
  have hr := hfl _ hm
  have : ((fl[0].toNat : Nat) : Int) ∈ selK (ownQ fl) fs.length := sel_mem.2 ⟨fl[0].toNat, rfl, by omega, decide_eq_true (by rw [show ((fl[0].toNat : Nat) : Int) = fl[0] by omega]; exact hm)⟩
  rw [e]
  exact List.length_pos_of_mem this
set_option maxRecDepth 100000 in
set_option maxHeartbeats 4000000 in
theorem implRE {g1 g2 n1 n2 c1 c2 : Nat} {ss : List ByteArray} {fs : List Q4} {w : World} (h : NetAt g1 g2 n1 n2 c1 c2 ss fs w)
    {A : Option Addr} {n c : Nat} {fl : List Int} (hn : fl.length = n) (hr : Rd w w.heap.size A (fl.map (Value.int .i64))) (hx : n ≤ 1048576) (hcp : n ≤ c) (hTab : Tab w) :
    Calls Tryd.prog 18 #[.agg #[.slice (some ⟨g1, 0, none⟩) n1 c1, .slice (some ⟨g2, 0, none⟩) n2 c2], .slice A n c] w (RetP (efR ss fs fl) w) := by
  have HL2 := Lib.hid h.ln2
  obtain ⟨L1, hL1⟩ : ∃ r, prO ss fs fl = r := ⟨_, rfl⟩
  obtain ⟨L2, hL2⟩ : ∃ r, prC ss fs fl = r := ⟨_, rfl⟩
  obtain ⟨rb, hrb⟩ : ∃ r, irB ss fs fl = r := ⟨_, rfl⟩
  have HEF : Hid (rb = true → (0 < L1.length ∧ L1.length ≤ 14 ∧ L2.length ≤ 14) ∧ efV ss fs fl = 1000 * ((L1.length : Int) + 2 * (L2.length : Int)) / (L1.length : Int)) := Lib.hid (fun e => by
    rw [← hL1, ← hL2]
    exact ⟨ef_pos (hrb.trans e), by unfold efV; rw [hrb.trans e]; rfl⟩)
  have HEN : Hid (rb = false → efV ss fs fl = 0) := Lib.hid (fun e => by unfold efV; rw [hrb.trans e]; rfl)
  obtain ⟨ev, hev⟩ : ∃ v, efV ss fs fl = v := ⟨_, rfl⟩
  rw [hev] at HEF HEN
  unfold efR
  rw [hev, hrb]
  clear hev
  have CP := Lib.hid (fun (W : World) (hb : Below w.heap.size w W) => implPF (h.moved hb) hn (hr.moved hb) hx hcp (hTab.over hb))
  rw [hL1, hL2, hrb] at CP
  clear h hn hr hL1 hL2 hrb hTab
  go_enter Tryd.func18, Tryd.ntmps18
  go_wp2_with fail
  obtain ⟨W0, hW0⟩ : ∃ W0, w.alloc (Obj.cells #[.slice (some ⟨g1, 0, none⟩) n1 c1, .slice (some ⟨g2, 0, none⟩) n2 c2] 32) = W0 := ⟨_, rfl⟩
  have hb0 : Below w.heap.size w W0 := by rw [← hW0]; exact (Below.refl _ _).alloc (Nat.le_refl _) _
  have k0 : W0.cell? ⟨w.heap.size, 0, none⟩ = some (.slice (some ⟨g1, 0, none⟩) n1 c1) := by rw [← hW0]; simp [go_sem]
  have k1 : W0.cell? ⟨w.heap.size, 1, none⟩ = some (.slice (some ⟨g2, 0, none⟩) n2 c2) := by rw [← hW0]; simp [go_sem]
  have hz0 : w.heap.size < W0.heap.size := by rw [← hW0]; simp
  have HB0 := Lib.hid hb0
  have HK : Hid (∀ u, Below W0.heap.size W0 u → u.cell? ⟨w.heap.size, 0, none⟩ = some (.slice (some ⟨g1, 0, none⟩) n1 c1) ∧ u.cell? ⟨w.heap.size, 1, none⟩ = some (.slice (some ⟨g2, 0, none⟩) n2 c2) ∧ w.heap.size < u.heap.size) := Lib.hid fun u hu => ⟨(hu.cell (p := ⟨w.heap.size, 0, none⟩) hz0).trans k0, (hu.cell (p := ⟨w.heap.size, 1, none⟩) hz0).trans k1, Nat.lt_of_lt_of_le hz0 hu.size⟩
  rw [hW0]
  clear hW0 hb0 k0 k1 hz0
  refine (CP.out _ HB0.out).mono ?_
  rintro e w1 ⟨A1, A2, N1, N2, d1, d2, rfl, HN1, HN2, _, _, _, hb1⟩
  have HB1 := Lib.hid (HB0.out.trans (hb1.mono HB0.out.size))
  clear hb1
  cases rb
  case false =>
    obtain rfl := HEN.out rfl
    go_wp2
    go_ret2
    exact ⟨rfl, HB1.out⟩
  case true =>
  have HE := Lib.hid (HEF.out (by first | rfl | trivial))
  have hp1 : 0 < N1 := by have := HE.out.1.1; have := HN1.out; omega
  have hp2 : N1 ≤ 14 := by have := HE.out.1.2.1; have := HN1.out; omega
  have hp3 : N2 ≤ 14 := by have := HE.out.1.2.2; have := HN2.out; omega
  have HEV : Hid (1000 * ((N1 : Int) + 2 * (N2 : Int)) / (N1 : Int) = ev) := Lib.hid (by rw [HE.out.2, HN1.out, HN2.out])
  have hpI : (0 : Int) < (N1 : Int) := by omega
  have hne : ¬ ((N1 : Int) = 0) := by omega
  clear HE
  go_wp2
  go_ret2
  exact ⟨by rw [HEV.out]; rfl, HB1.out⟩
set_option maxRecDepth 100000 in
set_option maxHeartbeats 4000000 in
theorem specRE {g1 g2 n1 n2 c1 c2 : Nat} {ss : List ByteArray} {fs : List Q4} {w : World} (h : NetAt g1 g2 n1 n2 c1 c2 ss fs w)
    {A : Option Addr} {n c : Nat} {fl : List Int} (hn : fl.length = n) (hr : Rd w w.heap.size A (fl.map (Value.int .i64))) (hx : n ≤ 1048576) (hcp : n ≤ c) :
    Calls Tryd.prog 17 #[.agg #[.slice (some ⟨g1, 0, none⟩) n1 c1, .slice (some ⟨g2, 0, none⟩) n2 c2], .slice A n c] w (RetP (efR ss fs fl) w) := by
  have HL2 := Lib.hid h.ln2
  obtain ⟨L1, hL1⟩ : ∃ r, prO ss fs fl = r := ⟨_, rfl⟩
  obtain ⟨L2, hL2⟩ : ∃ r, prC ss fs fl = r := ⟨_, rfl⟩
  obtain ⟨rb, hrb⟩ : ∃ r, irB ss fs fl = r := ⟨_, rfl⟩
  have HNO : Hid (rb = false → L1 = [] ∧ L2 = []) := Lib.hid (fun e => by rw [← hL1, ← hL2]; exact pr_no (hrb.trans e))
  have HYES : Hid (rb = true → irB ss fs fl = true ∧ L1 = selK (ownQ fl) n2 ∧ L2 = selK (crsQ fs fl (rgnL ss fs fl)) n2) := Lib.hid (fun e => by rw [← hL1, ← hL2, ← HL2.out]; exact ⟨hrb.trans e, pr_yes (hrb.trans e)⟩)
  have HEF : Hid (rb = true → (0 < L1.length ∧ L1.length ≤ 14 ∧ L2.length ≤ 14) ∧ efV ss fs fl = 1000 * ((L1.length : Int) + 2 * (L2.length : Int)) / (L1.length : Int)) := Lib.hid (fun e => by
    rw [← hL1, ← hL2]
    exact ⟨ef_pos (hrb.trans e), by unfold efV; rw [hrb.trans e]; rfl⟩)
  have HEN : Hid (rb = false → efV ss fs fl = 0) := Lib.hid (fun e => by unfold efV; rw [hrb.trans e]; rfl)
  obtain ⟨ev, hev⟩ : ∃ v, efV ss fs fl = v := ⟨_, rfl⟩
  rw [hev] at HEF HEN
  unfold efR
  rw [hev, hrb]
  clear hev
  have CI := Lib.hid (fun (W : World) (hb : Below w.heap.size w W) => specIR (h.moved hb) hn (hr.moved hb) hx hcp)
  have CP : Hid (rb = true → ∀ W, Below w.heap.size w W → Calls Tryd.prog 30 #[.agg #[.slice (some ⟨g1, 0, none⟩) n1 c1, .slice (some ⟨g2, 0, none⟩) n2 c2], .slice A n c] W (TwoP L1 L2 W)) := Lib.hid (fun e W hb => by
    obtain ⟨h1, h2, h3⟩ := HYES.out e
    obtain ⟨hv, _, _, ⟨vs, hvs, hev⟩, _⟩ := ring_facts h1
    rw [h2, h3, hev]
    exact l17Prot_ (h.moved hb) hv hn (hr.moved hb) hx hcp hvs)
  rw [hrb] at CI
  clear h hn hr hL1 hL2 hrb HYES HNO
  go_enter Tryd.func17, Tryd.ntmps17
  go_wp2_with fail
  obtain ⟨W0, hW0⟩ : ∃ W0, w.alloc (Obj.cells #[.slice (some ⟨g1, 0, none⟩) n1 c1, .slice (some ⟨g2, 0, none⟩) n2 c2] 32) = W0 := ⟨_, rfl⟩
  have hb0 : Below w.heap.size w W0 := by rw [← hW0]; exact (Below.refl _ _).alloc (Nat.le_refl _) _
  have k0 : W0.cell? ⟨w.heap.size, 0, none⟩ = some (.slice (some ⟨g1, 0, none⟩) n1 c1) := by rw [← hW0]; simp [go_sem]
  have k1 : W0.cell? ⟨w.heap.size, 1, none⟩ = some (.slice (some ⟨g2, 0, none⟩) n2 c2) := by rw [← hW0]; simp [go_sem]
  have hz0 : w.heap.size < W0.heap.size := by rw [← hW0]; simp
  have HB0 := Lib.hid hb0
  have HK : Hid (∀ u, Below W0.heap.size W0 u → u.cell? ⟨w.heap.size, 0, none⟩ = some (.slice (some ⟨g1, 0, none⟩) n1 c1) ∧ u.cell? ⟨w.heap.size, 1, none⟩ = some (.slice (some ⟨g2, 0, none⟩) n2 c2) ∧ w.heap.size < u.heap.size) := Lib.hid fun u hu => ⟨(hu.cell (p := ⟨w.heap.size, 0, none⟩) hz0).trans k0, (hu.cell (p := ⟨w.heap.size, 1, none⟩) hz0).trans k1, Nat.lt_of_lt_of_le hz0 hu.size⟩
  rw [hW0]
  clear hW0 hb0 k0 k1 hz0
  refine (CI.out _ HB0.out).mono ?_
  rintro e w1 ⟨rfl, hb1⟩
  have HB1 := Lib.hid (HB0.out.trans (hb1.mono HB0.out.size))
  obtain ⟨q0, q1, q2⟩ := HK.out w1 hb1
  clear hb1
  cases rb
  case false =>
    obtain rfl := HEN.out rfl
    clear q0 q1 q2
    go_wp2
    go_ret2
    exact ⟨rfl, HB1.out⟩
  case true =>
  go_wp2_with fail
  refine (CP.out (by first | rfl | trivial) _ HB1.out).mono ?_
  rintro e w2 ⟨A1, A2, N1, N2, d1, d2, rfl, HN1, HN2, _, _, _, hb2⟩
  have HB2 := Lib.hid (HB1.out.trans (hb2.mono HB1.out.size))
  clear q0 q1 q2 hb2
  have HE := Lib.hid (HEF.out (by first | rfl | trivial))
  have hp1 : 0 < N1 := by have := HE.out.1.1; have := HN1.out; omega
  have hp2 : N1 ≤ 14 := by have := HE.out.1.2.1; have := HN1.out; omega
  have hp3 : N2 ≤ 14 := by have := HE.out.1.2.2; have := HN2.out; omega
  have HEV : Hid (1000 * ((N1 : Int) + 2 * (N2 : Int)) / (N1 : Int) = ev) := Lib.hid (by rw [HE.out.2, HN1.out, HN2.out])
  have hpI : (0 : Int) < (N1 : Int) := by omega
  have hne : ¬ ((N1 : Int) = 0) := by omega
  clear HE
  go_wp2
  go_ret2
  exact ⟨by rw [HEV.out]; rfl, HB2.out⟩
end Go.Proofs.YtkpendpjdemknaaDoor
