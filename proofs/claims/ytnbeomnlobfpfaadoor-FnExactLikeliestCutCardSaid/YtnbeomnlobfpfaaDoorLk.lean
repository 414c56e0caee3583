/- The likeliest cut: plain mathematics and the contract of spec.LikeliestCut. No condition but those typed. -/
import Derived.Test.YtnbeomnlobfpfaaDoorAv
import Derived.Test.YtnbeomnlobfpfaaDoorLab
import Derived.Test.YtnbeomnlobfpfaaDoorGB
import Derived.Test.YtnbeomnlobfpfaaDoorOutS
import Derived.Test.YtnbeomnlobfpfaaDoorEnds
namespace Go.Proofs.YtnbeomnlobfpfaaDoor
open Go.ChangeShapes Go.WideShapes Go.ChangeAt Go.RowKit

/-- an answer: a list of ints, an int and a word. -/
def IntsG (zs : List Int) (G : Int) (b : Bool) (w : World) (e : Ending) (w' : World) : Prop :=
  ∃ (A : Option Addr) (N c : Nat), e = .returned (.tuple #[.slice A N c, .int .i64 G, .bool b]) ∧ Hid (N = zs.length) ∧ w'.ownsRow w.heap.size 3 1 (.slice A N c) N (zs.map (Value.int .i64)) ∧ Below w.heap.size w w'
/-- the first state of the greatest weight that is a cut. -/
def lcO (wt : Nat → Int) (con : Nat → Bool) : Nat → Option Nat
  | 0 => none
  | f + 1 => if con f then lcO wt con f else match lcO wt con f with
    | none => some f
    | some k => if wt k < wt f then some f else some k
theorem lc_con {wt : Nat → Int} {con : Nat → Bool} {f : Nat} (h : con f = true) : lcO wt con (f + 1) = lcO wt con f := by rw [lcO, if_pos h]
theorem lc_new {wt : Nat → Int} {con : Nat → Bool} {f : Nat} (h : con f = false) (h2 : lcO wt con f = none) : lcO wt con (f + 1) = some f := by rw [lcO, h, h2]; rfl
theorem lc_gt {wt : Nat → Int} {con : Nat → Bool} {f k : Nat} (h : con f = false) (h2 : lcO wt con f = some k) (h3 : wt k < wt f) : lcO wt con (f + 1) = some f := by
  rw [lcO, h, h2]; show (if wt k < wt f then some f else some k) = _; rw [if_pos h3]
theorem lc_le {wt : Nat → Int} {con : Nat → Bool} {f k : Nat} (h : con f = false) (h2 : lcO wt con f = some k) (h3 : ¬ wt k < wt f) : lcO wt con (f + 1) = some k := by
  rw [lcO, h, h2]; show (if wt k < wt f then some f else some k) = _; rw [if_neg h3]
theorem lc_lt {wt : Nat → Int} {con : Nat → Bool} : ∀ {f k : Nat}, lcO wt con f = some k → k < f
  | 0, k, h => by cases h
  | f + 1, k, h => by
    cases hc : con f with
    | true => rw [lc_con hc] at h; have := lc_lt h; omega
    | false =>
      cases ho : lcO wt con f with
      | none => rw [lc_new hc ho] at h; injection h with h; omega
      | some j =>
        have := lc_lt ho
        by_cases hw : wt j < wt f
        · rw [lc_gt hc ho hw] at h; injection h with h; omega
        · rw [lc_le hc ho hw] at h; injection h with h; omega
theorem lc_some {wt : Nat → Int} {con : Nat → Bool} {f : Nat} (h : con f = false) : ∃ k, lcO wt con (f + 1) = some k := by
  cases ho : lcO wt con f with
  | none => exact ⟨_, lc_new h ho⟩
  | some j =>
    by_cases hw : wt j < wt f
    · exact ⟨_, lc_gt h ho hw⟩
    · exact ⟨_, lc_le h ho hw⟩
theorem cn_all {fs : List Q4} {gone : Nat} (h : ∀ i, i < fs.length → gone.testBit i = true) {a b : Int} (hc : Cn fs gone a b) : a = b := by
  induction hc with
  | refl => rfl
  | step _ i hg he ih => rw [h i he.1] at hg; cases hg
/-- where all groups fail no two nodes are connected. -/
theorem cn_none {ss : List ByteArray} {fs : List Q4} (hv : netP ss fs) {x y : Int} (hxy : x ≠ y) : pb (Cn fs (gnN (rgL fs) (2 ^ (rgL fs).length - 1)) x y) = false := by
  refine pb_false fun hc => hxy (cn_all (fun i hi => ?_) hc)
  have hr := net_risk hv (x := (i : Int)) (by omega) (by omega)
  obtain ⟨hm, hi2⟩ := rgp_has (fs := fs) (x := (i : Int)) (by omega) (by omega) hr.1 hr.2
  obtain ⟨j, hj, hje⟩ := List.getElem_of_mem hm
  unfold gnN
  rw [orN_test]
  refine ⟨j, hj, by rw [Nat.testBit_two_pow_sub_one]; exact decide_eq_true hj, ?_⟩
  have hg : (rgL fs).getD j [] = grpI fs (i : Int) := by rw [List.getD_eq_getElem?_getD, List.getElem?_eq_getElem hj, hje]; rfl
  rw [hg]
  unfold mkN
  rw [mask_test (fun k hk => (rgp_bd hv hm k hk).1)]
  obtain ⟨k, hk, hke⟩ := List.getElem_of_mem hi2
  exact decide_eq_true ⟨k, hk, by rw [← nth_eq hk]; exact hke⟩
def lkP (ss : List ByteArray) (fs : List Q4) (u : Int) (ds : List Int) (x y : Int) : Prop := ouP ss fs u ds ∧ endP ss fs x y
noncomputable def lkC (fs : List Q4) (x y : Int) (z : Nat) : Bool := pb (Cn fs (gnN (rgL fs) z) x y)
noncomputable def lkO (fs : List Q4) (u : Int) (ds : List Int) (x y : Int) (f : Nat) : Option Nat := lcO (fun z => wtN u ds z ds.length) (lkC fs x y) f
noncomputable def lkK (fs : List Q4) (u : Int) (ds : List Int) (x y : Int) : Nat := (lkO fs u ds x y (2 ^ ds.length)).getD 0
noncomputable def lkL (ss : List ByteArray) (fs : List Q4) (u : Int) (ds : List Int) (x y : Int) : List Int := if pb (lkP ss fs u ds x y) then selK (lkK fs u ds x y).testBit ds.length else []
noncomputable def lkV (ss : List ByteArray) (fs : List Q4) (u : Int) (ds : List Int) (x y : Int) : Int := if pb (lkP ss fs u ds x y) then wtN u ds (lkK fs u ds x y) ds.length else 0
theorem lk_no {ss : List ByteArray} {fs : List Q4} {u : Int} {ds : List Int} {x y : Int} (h : ¬ lkP ss fs u ds x y) : lkL ss fs u ds x y = [] ∧ lkV ss fs u ds x y = 0 ∧ pb (lkP ss fs u ds x y) = false := by
  have hb := pb_false h
  exact ⟨by unfold lkL; rw [hb]; rfl, by unfold lkV; rw [hb]; rfl, hb⟩
theorem lk_yes {ss : List ByteArray} {fs : List Q4} {u : Int} {ds : List Int} {x y : Int} (h : lkP ss fs u ds x y) : lkL ss fs u ds x y = selK (lkK fs u ds x y).testBit ds.length ∧ lkV ss fs u ds x y = wtN u ds (lkK fs u ds x y) ds.length ∧ pb (lkP ss fs u ds x y) = true := by
  have hb := pb_true h
  exact ⟨by unfold lkL; rw [hb]; rfl, by unfold lkV; rw [hb]; rfl, hb⟩
theorem lkL_len (ss : List ByteArray) (fs : List Q4) (u : Int) (ds : List Int) (x y : Int) : (lkL ss fs u ds x y).length ≤ ds.length := by
  unfold lkL
  split
  · exact sel_len _ _
  · simp
theorem lk_facts {ss : List ByteArray} {fs : List Q4} {u : Int} {ds : List Int} {n : Nat} (hn : ds.length = n) (h : ouP ss fs u ds) : netP ss fs ∧ n ≤ 14 ∧ n = (rgL fs).length ∧ 0 ≤ u ∧ u ≤ 20 ∧ ∀ j, j < n → 0 ≤ nth ds j ∧ nth ds j ≤ u := by
  subst hn
  obtain ⟨h1, ⟨h2, h3⟩, h4, h5⟩ := h
  exact ⟨h1, by have := rgp_len fs; have := h1.2.1; omega, h4, by omega, h3, h5⟩
theorem lk_end {ss : List ByteArray} {fs : List Q4} {u : Int} {ds : List Int} {x y : Int} (h : lkP ss fs u ds x y) : lkO fs u ds x y (2 ^ ds.length) = some (lkK fs u ds x y) ∧ lkK fs u ds x y < 2 ^ ds.length := by
  obtain ⟨hv, _, hg, _⟩ := lk_facts rfl h.1
  have h1 : lkC fs x y (2 ^ ds.length - 1) = false := by unfold lkC; rw [hg]; exact cn_none hv h.2.2.2.2
  obtain ⟨k, hk⟩ := lc_some (wt := fun z => wtN u ds z ds.length) h1
  have hp := Nat.two_pow_pos ds.length
  rw [show 2 ^ ds.length - 1 + 1 = 2 ^ ds.length by omega] at hk
  have e : lkO fs u ds x y (2 ^ ds.length) = some k := hk
  have e2 : lkK fs u ds x y = k := by unfold lkK; rw [e]; rfl
  rw [e2]
  exact ⟨e, lc_lt hk⟩

set_option maxRecDepth 100000 in
set_option maxHeartbeats 8000000 in
theorem specLK {g1 g2 n1 n2 c1 c2 : Nat} {ss : List ByteArray} {fs : List Q4} {w : World} (h : NetAt g1 g2 n1 n2 c1 c2 ss fs w) (u : Int) {A : Option Addr} {n c : Nat} {ds : List Int} (hn : ds.length = n) (hr : Rd w w.heap.size A (ds.map (Value.int .i64))) (hx : n ≤ 1048576) (x y : Int) :
    Calls Tryd.prog 25 #[.agg #[.slice (some ⟨g1, 0, none⟩) n1 c1, .slice (some ⟨g2, 0, none⟩) n2 c2], .agg #[.int .i64 u, .slice A n c], .int .i64 x, .int .i64 y] w (IntsG (lkL ss fs u ds x y) (lkV ss fs u ds x y) (pb (lkP ss fs u ds x y)) w) := by
  have HNT := Lib.hid h; have HN := Lib.hid hn; have HR := Lib.hid hr
  have HL1 := Lib.hid h.ln1
  have hs1 := h.sm1
  obtain ⟨RL, hRL⟩ : ∃ r, lkL ss fs u ds x y = r := ⟨_, rfl⟩
  obtain ⟨RV, hRV⟩ : ∃ r, lkV ss fs u ds x y = r := ⟨_, rfl⟩
  obtain ⟨RB, hRB⟩ : ∃ r, pb (lkP ss fs u ds x y) = r := ⟨_, rfl⟩
  have HNO : Hid (¬ lkP ss fs u ds x y → RL = [] ∧ RV = 0 ∧ RB = false) := Lib.hid (fun e => by rw [← hRL, ← hRV, ← hRB]; exact lk_no e)
  have HYES : Hid (lkP ss fs u ds x y → RL = selK (lkK fs u ds x y).testBit n ∧ RV = wtN u ds (lkK fs u ds x y) n ∧ RB = true) := Lib.hid (fun e => by rw [← hRL, ← hRV, ← hRB, ← hn]; exact lk_yes e)
  rw [hRL, hRV, hRB]
  clear h hn hr hRL hRV hRB
  go_enter Tryd.func25, Tryd.ntmps25
  go_wp2_with fail
  obtain ⟨W0, hW0⟩ : ∃ W0, (((w.alloc (Obj.cells #[.slice (some ⟨g1, 0, none⟩) n1 c1, .slice (some ⟨g2, 0, none⟩) n2 c2] 32)).alloc (Obj.cells #[.int .i64 u, .slice A n c] 59)).alloc (Obj.cells #[] 3)) = W0 := ⟨_, rfl⟩
  have hb0 : Below w.heap.size w W0 := by rw [← hW0]; exact (((Below.refl _ _).alloc (Nat.le_refl _) _).alloc (by simp) _).alloc (by simp; omega) _
  have k0_0 : W0.cell? ⟨w.heap.size, 0, none⟩ = some (.slice (some ⟨g1, 0, none⟩) n1 c1) := by rw [← hW0]; simp [go_sem]
  have k0_1 : W0.cell? ⟨w.heap.size, 1, none⟩ = some (.slice (some ⟨g2, 0, none⟩) n2 c2) := by rw [← hW0]; simp [go_sem]
  have k1_0 : W0.cell? ⟨w.heap.size + 1, 0, none⟩ = some (.int .i64 u) := by rw [← hW0]; simp [go_sem]
  have k1_1 : W0.cell? ⟨w.heap.size + 1, 1, none⟩ = some (.slice A n c) := by rw [← hW0]; simp [go_sem]
  have hz0 : w.heap.size + 2 < W0.heap.size := by rw [← hW0]; simp
  have HO0 : Hid (W0.ownsRow (w.heap.size + 2) 3 1 (.slice (some ⟨w.heap.size + 2, 0, none⟩) 0 0) 0 []) := Lib.hid (by
    rw [← hW0]
    have := World.ownsRow_lit (base := w.heap.size + 2) (e := 3) (size := 1) ((w.alloc (Obj.cells #[.slice (some ⟨g1, 0, none⟩) n1 c1, .slice (some ⟨g2, 0, none⟩) n2 c2] 32)).alloc (Obj.cells #[.int .i64 u, .slice A n c] 59)) #[] 0 (by simp) (by unfold maxLen; omega) rfl
    simpa using this)
  have HKB : Hid (∀ W, Below (w.heap.size + 2) W0 W → W.cell? ⟨w.heap.size, 0, none⟩ = some (.slice (some ⟨g1, 0, none⟩) n1 c1) ∧ W.cell? ⟨w.heap.size, 1, none⟩ = some (.slice (some ⟨g2, 0, none⟩) n2 c2) ∧ W.cell? ⟨w.heap.size + 1, 0, none⟩ = some (.int .i64 u) ∧ W.cell? ⟨w.heap.size + 1, 1, none⟩ = some (.slice A n c) ∧ w.heap.size + 2 < W.heap.size) := Lib.hid (fun W hW => ⟨(hW.cell (p := ⟨w.heap.size, 0, none⟩) (by show w.heap.size < _; omega)).trans k0_0, (hW.cell (p := ⟨w.heap.size, 1, none⟩) (by show w.heap.size < _; omega)).trans k0_1, (hW.cell (p := ⟨w.heap.size + 1, 0, none⟩) (by show w.heap.size + 1 < _; omega)).trans k1_0, (hW.cell (p := ⟨w.heap.size + 1, 1, none⟩) (by show w.heap.size + 1 < _; omega)).trans k1_1, Nat.lt_of_lt_of_le hz0 hW.size⟩)
  have HB0 := Lib.hid hb0
  have HZ0 := Lib.hid hz0
  rw [hW0]
  clear hW0 hb0 hz0 k0_0 k0_1 k1_0 k1_1
  have CV1 := Lib.hid (l16Good_ (c := c) (HNT.out.moved HB0.out) u HN.out (HR.out.moved HB0.out) hx)
  obtain ⟨v, hv⟩ : ∃ v, ouB ss fs u ds = v := ⟨_, rfl⟩
  rw [hv] at CV1
  have HV1 := Lib.hid hv
  clear hv
  refine CV1.out.mono ?_
  rintro e w1 ⟨rfl, hb9⟩
  have HW1 : Hid (Below (w.heap.size + 2) W0 w1) := Lib.hid (hb9.mono (by have := HZ0.out; omega))
  have HB1 := Lib.hid (HB0.out.trans (HW1.out.mono (by omega)))
  have HO1 := Lib.hid (ownB HO0.out hb9)
  clear hb9
  obtain ⟨k00, k01, k10, k11, hgz⟩ := HKB.out _ HW1.out
  cases v
  case false =>
    have HE := Lib.hid (HNO.out (fun hp => by have h9 := HV1.out; unfold ouB at h9; rw [pb_true hp.1] at h9; cases h9))
    obtain ⟨rfl, rfl, rfl⟩ := HE.out
    clear k00 k01 k10 k11 hgz
    go_wp2
    go_ret3
    exact ⟨_, 0, _, rfl, Lib.hid rfl, own_base HO1.out (by omega), HB1.out⟩
  case true =>
  have CV2 := Lib.hid (ends6_ (HNT.out.moved HB1.out) x y)
  obtain ⟨v, hv⟩ : ∃ v, pb (endP ss fs x y) = v := ⟨_, rfl⟩
  rw [hv] at CV2
  have HV2 := Lib.hid hv
  clear hv
  go_wp2_with fail
  clear k00 k01 k10 k11 hgz
  refine CV2.out.mono ?_
  rintro e w2 ⟨rfl, hb9⟩
  have HW2 : Hid (Below (w.heap.size + 2) W0 w2) := Lib.hid (HW1.out.trans (hb9.mono (by have := HZ0.out; have := HW1.out.size; omega)))
  have HB2 := Lib.hid (HB0.out.trans (HW2.out.mono (by omega)))
  have HO2 := Lib.hid (ownB HO1.out hb9)
  clear hb9
  obtain ⟨k00, k01, k10, k11, hgz⟩ := HKB.out _ HW2.out
  cases v
  case false =>
    have HE := Lib.hid (HNO.out (fun hp => by have h9 := HV2.out; rw [pb_true hp.2] at h9; cases h9))
    obtain ⟨rfl, rfl, rfl⟩ := HE.out
    clear k00 k01 k10 k11 hgz
    go_wp2
    go_ret3
    exact ⟨_, 0, _, rfl, Lib.hid rfl, own_base HO2.out (by omega), HB2.out⟩
  case true =>
  have HCV : Hid (lkP ss fs u ds x y) := Lib.hid ⟨of_pb HV1.out, of_pb HV2.out⟩
  have HE := Lib.hid (HYES.out HCV.out)
  have HEND := Lib.hid (lk_end HCV.out)
  obtain ⟨hv, hn14, hgl, hu0, hu20, hdd⟩ := lk_facts HN.out HCV.out.1
  obtain ⟨_, ⟨hx0, hx1⟩, ⟨hy0, hy1⟩, _⟩ := HCV.out.2
  obtain ⟨xn, rfl⟩ : ∃ m : Nat, x = m := ⟨x.toNat, by omega⟩
  obtain ⟨yn, rfl⟩ : ∃ m : Nat, y = m := ⟨y.toNat, by omega⟩
  have hxn : xn < n1 := by have := HL1.out; omega
  have hyn : yn < n1 := by have := HL1.out; omega
  have HGN := Lib.hid hgl; have HV := Lib.hid hv; have HD := Lib.hid hdd
  have HGB := Lib.hid (rg_gb hv)
  have HZG : Hid (∀ g ∈ rgL fs, g.length ≤ 1048576) := Lib.hid (fun g hg => by have := rgp_le hg; have := hv.2.1; omega)
  have HWT : Hid (∀ f : Nat, f < 2 ^ n → 0 ≤ wtN u ds f n ∧ wtN u ds f n ≤ 20 ^ 14) := Lib.hid (fun f hf => by have := av_bd (good := fun _ => true) hu0 hu20 hdd hn14 hf; omega)
  have HOE : Hid (∀ f : Nat, lkO fs u ds (xn : Int) (yn : Int) f = lcO (fun z => wtN u ds z n) (lkC fs (xn : Int) (yn : Int)) f) := Lib.hid (fun f => by unfold lkO; rw [HN.out])
  have hP14 : 2 ^ n ≤ 16384 := Nat.pow_le_pow_right (by decide : 0 < 2) hn14
  have hpi : (2 : Int) ^ n = ((2 ^ n : Nat) : Int) := pow_int n
  have HPE : Hid (lcO (fun z => wtN u ds z n) (lkC fs (xn : Int) (yn : Int)) (2 ^ n) = some (lkK fs u ds (xn : Int) (yn : Int))) := Lib.hid (by rw [← HOE.out, ← HN.out]; exact HEND.out.1)
  obtain ⟨K, hK⟩ : ∃ K, lkK fs u ds (xn : Int) (yn : Int) = K := ⟨_, rfl⟩
  have HKP : Hid (K < 2 ^ n) := Lib.hid (by rw [← hK, ← HN.out]; exact HEND.out.2)
  rw [hK] at HPE HE
  obtain ⟨P, hP⟩ : ∃ P : Nat, 2 ^ n = P := ⟨_, rfl⟩
  rw [hP] at hpi hP14 HWT HPE HKP
  have HPI2 := Lib.hid hpi
  clear hv hgl hdd hx0 hx1 hy0 hy1 hP hK hpi HEND
  obtain ⟨rfl, rfl, rfl⟩ := HE.out
  go_wp2_with fail
  clear k00 k01 k10 k11 hgz
  refine (l2Groups_ (HNT.out.moved HB2.out) HV.out).mono ?_
  rintro e w3 ⟨AG, NG, cG, ysG, rfl, HGD, hrw, hb3⟩
  have HW3 : Hid (Below (w.heap.size + 2) W0 w3) := Lib.hid (HW2.out.trans (hb3.mono (by have := HZ0.out; have := HW2.out.size; omega)))
  have HB3 := Lib.hid (HB0.out.trans (HW3.out.mono (by omega)))
  have HO3 := Lib.hid (ownB HO2.out hb3)
  have HRW := Lib.hid hrw
  obtain rfl : NG = n := by have h1 := hrw.len; have h2 := congrArg List.length HGD.out; rw [List.length_map] at h2; rw [HGN.out]; omega
  clear hb3 hrw
  have hpi := HPI2.out
  go_wp2
  go_loopw [13, 14, 15] (fun b m i wr => ∃ (f : Nat) (bv mv : Int), f ≤ P ∧ i = .int .i64 f ∧ b = .int .i64 bv ∧ m = .int .i64 mv ∧ Hid ((lcO (fun z => wtN u ds z NG) (lkC fs (xn : Int) (yn : Int)) f = none ∧ bv = -1 ∧ mv = 0) ∨ ∃ k : Nat, lcO (fun z => wtN u ds z NG) (lkC fs (xn : Int) (yn : Int)) f = some k ∧ bv = (k : Int) ∧ mv = wtN u ds k NG) ∧ Below w3.heap.size w3 wr) (fun _ _ i _ => P - (intOf i).toNat)
  case atStart => exact ⟨0, -1, 0, Nat.zero_le _, rfl, rfl, rfl, Lib.hid (.inl ⟨rfl, rfl, rfl⟩), Below.refl _ _⟩
  case round =>
    obtain ⟨f, bv, mv, hf, rfl, rfl, rfl, HS, hb⟩ := hrel
    have HBR := Lib.hid hb
    have HBW := Lib.hid (HB3.out.trans (hb.mono HB3.out.size))
    have HWR : Hid (Below (w.heap.size + 2) W0 wr) := Lib.hid (HW3.out.trans (hb.mono (by have := HZ0.out; have := HW3.out.size; omega)))
    have HOR := Lib.hid (ownB HO3.out hb)
    clear hb
    by_cases hlt : f < P
    case neg =>
      obtain rfl : f = P := by omega
      have HSK : Hid (bv = (K : Int) ∧ mv = wtN u ds K NG) := Lib.hid (by
        rcases HS.out with ⟨h1, _⟩ | ⟨k, h1, h2, h3⟩
        · rw [HPE.out] at h1; cases h1
        · rw [HPE.out] at h1; injection h1 with h1; subst h1; exact ⟨h2, h3⟩)
      obtain ⟨rfl, rfl⟩ := HSK.out
      obtain ⟨mw, hmw⟩ : ∃ m, wtN u ds K NG = m := ⟨_, rfl⟩
      have HMW := Lib.hid hmw
      rw [hmw]
      have hK62 : K < 2 ^ 62 := by have := HKP.out; omega
      clear hlt hmw
      go_wp2
      obtain ⟨wo, rfl⟩ : ∃ wo, wo = wr := ⟨wr, rfl⟩
      go_loopw [11, 18] (fun v l wv => ∃ (i N9 c9 : Nat) (A9 : Option Addr), i ≤ NG ∧ l = .int .i64 i ∧ v = .slice A9 N9 c9 ∧ Hid (N9 = (selK K.testBit i).length) ∧ Hid (wv.ownsRow (w.heap.size + 2) 3 1 (.slice A9 N9 c9) N9 ((selK K.testBit i).map (Value.int .i64))) ∧ Below (w.heap.size + 2) W0 wv) (fun _ l _ => NG - (intOf l).toNat)
      case atStart => exact ⟨0, 0, _, _, Nat.zero_le _, rfl, rfl, Lib.hid rfl, HOR, HWR.out⟩
      case round =>
        obtain ⟨i, N9, c9, A9, hi, rfl, rfl, HN9, HOW, hb⟩ := hrel
        have HBV := Lib.hid hb
        have HSV : Hid (w.heap.size + 2 ≤ wr.heap.size) := Lib.hid (by have := hb.size; have := HZ0.out; omega)
        clear hb
        have hN14 : N9 ≤ 14 := by have h1 := sel_len K.testBit i; have h2 := HN9.out; omega
        by_cases hli : i < NG
        case neg =>
          obtain rfl : i = NG := by omega
          clear hli
          go_wp2
          go_ret3
          rw [HMW.out]
          exact ⟨A9, N9, c9, rfl, HN9, own_base HOW.out (by omega), HB0.out.trans (HBV.out.mono (by omega))⟩
        case pos =>
        have hbit := bit_of K i hK62
        cases hfk : K.testBit i
        case false =>
          rw [hfk, if_neg (by decide)] at hbit
          rw [← sel_out hfk] at HN9 HOW
          clear hfk
          go_wp2
          go_roundw
          case rel => exact ⟨i + 1, N9, c9, A9, by omega, by go_num, rfl, HN9, HOW, HBV.out⟩
          case measure => simp [intOf]; omega
        case true =>
          rw [hfk, if_pos rfl] at hbit
          have HSI := Lib.hid (sel_in hfk)
          clear hfk
          go_wp2_with (at_builtin; refine wp_app rfl (.tmp 82) (.tmp 84) 27 3 rfl (w.heap.size + 2) Tryd.underlying27 Tryd.inf_int rfl (by decide) (by decide) _ N9 _ rfl (HOW.out.alloc _) _ _ [.int .i64 (i : Int)] rfl rfl (news1 (new_at_ _ _ _ _ rfl)) (news_int _) (by omega) (by have := HSV.out; simp; omega) ?_)
          intro A2 d2 N2 w5 hN2 hown2 hgrow2 hloc2
          subst hN2
          have hB5 : Below (w.heap.size + 2) W0 w5 := (HBV.out.alloc HSV.out _).grown hgrow2 (by have := HSV.out; simp; omega) (fun g hg => (HOW.out.lt g hg).1)
          have HN5 : Hid (N9 + 1 = (selK K.testBit (i + 1)).length) := Lib.hid (by rw [HSI.out, List.length_append, ← HN9.out]; rfl)
          have HOW5 : Hid (w5.ownsRow (w.heap.size + 2) 3 1 (.slice A2 (N9 + 1) d2) (N9 + 1) ((selK K.testBit (i + 1)).map (Value.int .i64))) := Lib.hid (by rw [HSI.out, List.map_append]; exact hown2)
          clear hown2 hgrow2 hloc2
          obtain ⟨N3, hN3⟩ : ∃ N3, N9 + 1 = N3 := ⟨_, rfl⟩
          rw [hN3] at HN5 HOW5 ⊢
          clear hN3
          go_wp2
          go_roundw
          case rel => exact ⟨i + 1, N3, d2, A2, by omega, by go_num, rfl, HN5, HOW5, hB5⟩
          case measure => simp [intOf]; omega
    case pos =>
    have hf62 : f < 2 ^ 62 := by omega
    have CG : Hid (∀ W, Bel wr W → Calls Tryd.prog 62 #[.slice AG NG cG, .int .i64 (f : Int)] W (RetP (.int .i64 (gnN (rgL fs) f : Nat)) W)) := Lib.hid (fun W hW => gone16_ (HRW.out.moved (HBR.out.trans (hW.out.mono HBR.out.size))) HGD.out hn14 HGB.out HZG.out f hf62)
    have CB : Hid (∀ W, Bel wr W → Calls Tryd.prog 61 #[.agg #[.slice (some ⟨g1, 0, none⟩) n1 c1, .slice (some ⟨g2, 0, none⟩) n2 c2], .int .i64 (gnN (rgL fs) f : Nat)] W (LabO n1 fs (gnN (rgL fs) f) W)) := Lib.hid (fun W hW => labels_ (HNT.out.moved (HBW.out.trans (hW.out.mono HBW.out.size))) HV.out _ (gn_lt HGB.out f))
    have CW : Hid (∀ W, Below w.heap.size w W → Calls Tryd.prog 63 #[.agg #[.int .i64 u, .slice A NG c], .int .i64 (f : Int)] W (RetP (.int .i64 (wtN u ds f NG)) W)) := Lib.hid (fun W hW => l16Weight_ (c := c) u f HN.out (HR.out.moved hW) hn14 hu0 hu20 HD.out hf62)
    obtain ⟨wt, hwt⟩ : ∃ wt, wtN u ds f NG = wt := ⟨_, rfl⟩
    have HWT2 : Hid (wtN u ds f NG = wt) := Lib.hid hwt
    have hw0 : 0 ≤ wt := by rw [← hwt]; exact (HWT.out f hlt).1
    rw [hwt] at CW
    have HCE : Hid (lkC fs (xn : Int) (yn : Int) f = pb (Cn fs (gnN (rgL fs) f) (xn : Int) (yn : Int))) := Lib.hid rfl
    obtain ⟨gz, hgz⟩ : ∃ z, gnN (rgL fs) f = z := ⟨_, rfl⟩
    rw [hgz] at CG CB HCE
    obtain ⟨k00, k01, k10, k11, hgw⟩ := HKB.out _ HWR.out
    have hgw2 : w.heap.size < wr.heap.size := by omega
    clear hwt hgz k10 k11
    go_wp2
    have hbd : Bel wr wr.drew := Bel.of (Below.refl _ _).drew
    go_upto_region 9 with fail
    go_cut [16] (fun s16 wx => ∃ (A9 : Option Addr) (N9 c9 : Nat) (L : List Int), s16 = .slice A9 N9 c9 ∧ Hid (N9 = n1) ∧ Hid (LabP n1 fs gz L) ∧ Hid (Rd wx wx.heap.size A9 (L.map (Value.int .i64))) ∧ Bel wr wx)
    case first =>
      go_region_held3 (fun U => U.cell? ⟨w.heap.size, 0, none⟩ = some (.slice (some ⟨g1, 0, none⟩) n1 c1) ∧ U.cell? ⟨w.heap.size, 1, none⟩ = some (.slice (some ⟨g2, 0, none⟩) n2 c2) ∧ Bel wr U)
        (first | (go_keep; done) | (go_split_ands; (refine ⟨?_, ?_, ?_⟩ <;> first | assumption | exact Bel.step (by assumption) hb8 | exact (Bel.at_ (by assumption) hb8 (by assumption)).trans (by assumption) | exact Bel.step (by assumption) hb9 | exact (Bel.at_ (by assumption) hb9 (by assumption)).trans (by assumption))))
        (first
          | (go_at_call 62; go_split_ands; refine (CG.out _ (by assumption)).mono ?_; rintro e u1 ⟨rfl, hb8⟩)
          | (go_at_call 61; go_split_ands; refine (CB.out _ (by assumption)).mono ?_; rintro e u2 ⟨L, A9, N9, c9, rfl, HN9, HL9, ho9, hb9⟩))
      all_goals
        go_split_ands
        have hbl9 : Bel wr u2 := by assumption
        go_wp2_with fail
        go_meet
        exact ⟨A9, N9, c9, L, rfl, HN9, HL9, Lib.hid (Rd.ofOwn ho9), hbl9⟩
    case rest =>
    clear hbd k00 k01 hgw hgw2
    revert hcut; generalize wc = w6; intro hcut
    obtain ⟨A9, N9, c9, L, h0_, HN9, HL9, HR9, hb9⟩ := hcut
    subst h0_
    have HB6 := Lib.hid (HBR.out.trans ((Bel.out hb9).mono HBR.out.size))
    have HB6W := Lib.hid (HBW.out.trans ((Bel.out hb9).mono HBW.out.size))
    have HW6 : Hid (Below (w.heap.size + 2) W0 w6) := Lib.hid (HWR.out.trans ((Bel.out hb9).mono (by have := HZ0.out; have := HWR.out.size; omega)))
    clear hb9
    obtain ⟨_, _, k10, k11, _⟩ := HKB.out _ HW6.out
    go_wp2_with fail
    clear k10 k11
    refine (CW.out _ HB6W.out).mono ?_
    rintro e w8 ⟨rfl, hb8⟩
    have HB8 := Lib.hid (HB6.out.trans (hb8.mono HB6.out.size))
    obtain ⟨ad, hA, _, cx⟩ := ints_at (HR9.out.moved hb8) (k := xn) (by rw [HL9.out.len]; exact hxn)
    obtain ⟨ad2, hA2, _, cy⟩ := ints_at (HR9.out.moved hb8) (k := yn) (by rw [HL9.out.len]; exact hyn)
    clear hb8
    subst hA
    obtain rfl : ad = ad2 := by injection hA2
    clear hA2
    have HSM := Lib.hid (HL9.out.same (i := xn) (j := yn) hxn hyn)
    have ex : L[xn]'(by rw [HL9.out.len]; exact hxn) = L.getD xn 0 := by rw [List.getD_eq_getElem?_getD, List.getElem?_eq_getElem (by rw [HL9.out.len]; exact hxn)]; rfl
    have ey : L[yn]'(by rw [HL9.out.len]; exact hyn) = L.getD yn 0 := by rw [List.getD_eq_getElem?_getD, List.getElem?_eq_getElem (by rw [HL9.out.len]; exact hyn)]; rfl
    rw [ex] at cx; rw [ey] at cy
    obtain ⟨lx, hlx⟩ : ∃ z, L.getD xn 0 = z := ⟨_, rfl⟩
    obtain ⟨ly, hly⟩ : ∃ z, L.getD yn 0 = z := ⟨_, rfl⟩
    rw [hlx] at cx HSM; rw [hly] at cy HSM
    have hxN : (xn : Int) < N9 := by have := HN9.out; omega
    have hyN : (yn : Int) < N9 := by have := HN9.out; omega
    have hx0 : 0 ≤ (xn : Int) := by omega
    clear ex ey hlx hly
    by_cases hxy : lx = ly
    case pos =>
      have HCT : Hid (lkC fs (xn : Int) (yn : Int) f = true) := Lib.hid (by rw [HCE.out]; exact pb_true (HSM.out.1 hxy))
      have HS2 := Lib.hid (by have h9 := HS.out; rw [← lc_con (wt := fun z => wtN u ds z NG) HCT.out] at h9; exact h9)
      have p1 : (lx != ly) = false := by simpa using hxy
      subst hxy
      go_wp2_with fail
      go_quiet (fail)
      clear cx cy
      go_wp2
      go_roundw
      case rel => exact ⟨f + 1, bv, mv, by omega, by go_num, rfl, rfl, HS2, drewN_below_ HB8.out _⟩
      case measure => simp [intOf]; omega
    case neg =>
    have HCF : Hid (lkC fs (xn : Int) (yn : Int) f = false) := Lib.hid (by rw [HCE.out]; exact pb_false (fun h => hxy (HSM.out.2 h)))
    have p1 : (lx != ly) = true := by simpa using hxy
    rcases HS.out with ⟨h1, rfl, rfl⟩ | ⟨k, h1, rfl, rfl⟩
    · have HS2 := Lib.hid (lc_new HCF.out h1)
      have HS3 : Hid ((lcO (fun z => wtN u ds z NG) (lkC fs (xn : Int) (yn : Int)) (f + 1) = none ∧ (f : Int) = -1 ∧ wt = 0) ∨ ∃ k : Nat, lcO (fun z => wtN u ds z NG) (lkC fs (xn : Int) (yn : Int)) (f + 1) = some k ∧ (f : Int) = (k : Int) ∧ wt = wtN u ds k NG) := Lib.hid (.inr ⟨f, HS2.out, rfl, HWT2.out.symm⟩)
      clear h1 hxy HS
      go_wp2_with fail
      go_quiet (fail)
      clear cx cy
      go_wp2
      go_roundw
      case rel => exact ⟨f + 1, (f : Int), wt, by omega, by go_num, rfl, rfl, HS3, drewN_below_ HB8.out _⟩
      case measure => simp [intOf]; omega
    · have HO1_ := Lib.hid h1
      obtain ⟨mv, hmv⟩ : ∃ m, wtN u ds k NG = m := ⟨_, rfl⟩
      have HMV := Lib.hid hmv
      rw [hmv]
      have q1 : decide ((k : Int) < 0) = false := decide_eq_false (by omega)
      clear h1 hxy HS hmv
      by_cases hgt : mv < wt
      · have HS2 := Lib.hid (lc_gt HCF.out HO1_.out (by show wtN u ds k NG < wtN u ds f NG; rw [HMV.out, HWT2.out]; exact hgt))
        have HS3 : Hid ((lcO (fun z => wtN u ds z NG) (lkC fs (xn : Int) (yn : Int)) (f + 1) = none ∧ (f : Int) = -1 ∧ wt = 0) ∨ ∃ k : Nat, lcO (fun z => wtN u ds z NG) (lkC fs (xn : Int) (yn : Int)) (f + 1) = some k ∧ (f : Int) = (k : Int) ∧ wt = wtN u ds k NG) := Lib.hid (.inr ⟨f, HS2.out, rfl, HWT2.out.symm⟩)
        have q2 : decide (mv < wt) = true := decide_eq_true hgt
        go_wp2_with fail
        go_quiet (fail)
        clear cx cy
        go_wp2
        go_roundw
        case rel => exact ⟨f + 1, (f : Int), wt, by omega, by go_num, rfl, rfl, HS3, drewN_below_ HB8.out _⟩
        case measure => simp [intOf]; omega
      · have HS2 := Lib.hid (lc_le HCF.out HO1_.out (by show ¬ wtN u ds k NG < wtN u ds f NG; rw [HMV.out, HWT2.out]; exact hgt))
        have HS3 : Hid ((lcO (fun z => wtN u ds z NG) (lkC fs (xn : Int) (yn : Int)) (f + 1) = none ∧ (k : Int) = -1 ∧ mv = 0) ∨ ∃ k2 : Nat, lcO (fun z => wtN u ds z NG) (lkC fs (xn : Int) (yn : Int)) (f + 1) = some k2 ∧ (k : Int) = (k2 : Int) ∧ mv = wtN u ds k2 NG) := Lib.hid (.inr ⟨k, HS2.out, rfl, HMV.out.symm⟩)
        have q2 : decide (mv < wt) = false := decide_eq_false hgt
        go_wp2_with fail
        go_quiet (fail)
        clear cx cy
        go_wp2
        go_roundw
        case rel => exact ⟨f + 1, (k : Int), mv, by omega, by go_num, rfl, rfl, HS3, drewN_below_ HB8.out _⟩
        case measure => simp [intOf]; omega
end Go.Proofs.YtnbeomnlobfpfaaDoor
