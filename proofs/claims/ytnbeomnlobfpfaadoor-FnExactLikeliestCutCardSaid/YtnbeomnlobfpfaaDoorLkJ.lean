/- The likeliest cut: the contract of impl.LikeliestCut. Condition: the table of math/bits holds what Go's text lays. -/
import Derived.Test.YtnbeomnlobfpfaaDoorLkI
namespace Go.Proofs.YtnbeomnlobfpfaaDoor
open Go.ChangeShapes Go.WideShapes Go.ChangeAt Go.RowKit

set_option maxRecDepth 100000 in
set_option maxHeartbeats 4000000 in
theorem implLK {g1 g2 n1 n2 c1 c2 : Nat} {ss : List ByteArray} {fs : List Q4} {w : World} (h : NetAt g1 g2 n1 n2 c1 c2 ss fs w) (u : Int) {A : Option Addr} {n c : Nat} {ds : List Int} (hn : ds.length = n) (hr : Rd w w.heap.size A (ds.map (Value.int .i64))) (hx : n ≤ 1048576) (x y : Int) (hTab : Tab w) :
    Calls Tryd.prog 27 #[.agg #[.slice (some ⟨g1, 0, none⟩) n1 c1, .slice (some ⟨g2, 0, none⟩) n2 c2], .agg #[.int .i64 u, .slice A n c], .int .i64 x, .int .i64 y] w (IntsG (lkL ss fs u ds x y) (lkV ss fs u ds x y) (pb (lkP ss fs u ds x y)) w) := by
  have HNT := Lib.hid h; have HN := Lib.hid hn; have HR := Lib.hid hr; have HTB := Lib.hid hTab
  have HL1 := Lib.hid h.ln1
  obtain ⟨RL, hRL⟩ : ∃ r, lkL ss fs u ds x y = r := ⟨_, rfl⟩
  obtain ⟨RV, hRV⟩ : ∃ r, lkV ss fs u ds x y = r := ⟨_, rfl⟩
  obtain ⟨RB, hRB⟩ : ∃ r, pb (lkP ss fs u ds x y) = r := ⟨_, rfl⟩
  have HNO : Hid (¬ lkP ss fs u ds x y → RL = [] ∧ RV = 0 ∧ RB = false) := Lib.hid (fun e => by rw [← hRL, ← hRV, ← hRB]; exact lk_no e)
  have HYES : Hid (lkP ss fs u ds x y → RL = selK (lkK fs u ds x y).testBit n ∧ RV = wtN u ds (lkK fs u ds x y) n ∧ RB = true) := Lib.hid (fun e => by rw [← hRL, ← hRV, ← hRB, ← hn]; exact lk_yes e)
  rw [hRL, hRV, hRB]
  clear h hn hr hTab hRL hRV hRB
  go_enter Tryd.func27, Tryd.ntmps27
  go_wp2_with fail
  obtain ⟨W0, hW0⟩ : ∃ W0, ((((w.alloc (Obj.cells #[.slice (some ⟨g1, 0, none⟩) n1 c1, .slice (some ⟨g2, 0, none⟩) n2 c2] 32)).alloc (Obj.cells #[.int .i64 u, .slice A n c] 59)).alloc (Obj.cells #[.int .i64 x] 3)).alloc (Obj.cells #[.int .i64 y] 3)) = W0 := ⟨_, rfl⟩
  have hb0 : Below w.heap.size w W0 := by rw [← hW0]; exact ((((Below.refl _ _).alloc (Nat.le_refl _) _).alloc (by simp) _).alloc (by simp; omega) _).alloc (by simp; omega) _
  have k0_ : W0.cell? ⟨w.heap.size, 0, none⟩ = some (.slice (some ⟨g1, 0, none⟩) n1 c1) := by rw [← hW0]; simp [go_sem]
  have k1_ : W0.cell? ⟨w.heap.size, 1, none⟩ = some (.slice (some ⟨g2, 0, none⟩) n2 c2) := by rw [← hW0]; simp [go_sem]
  have k2_ : W0.cell? ⟨w.heap.size + 1, 0, none⟩ = some (.int .i64 u) := by rw [← hW0]; simp [go_sem]
  have k3_ : W0.cell? ⟨w.heap.size + 1, 1, none⟩ = some (.slice A n c) := by rw [← hW0]; simp [go_sem]
  have k4_ : W0.cell? ⟨w.heap.size + 1 + 1, 0, none⟩ = some (.int .i64 x) := by rw [← hW0]; simp [go_sem]
  have k5_ : W0.cell? ⟨w.heap.size + 1 + 1 + 1, 0, none⟩ = some (.int .i64 y) := by rw [← hW0]; simp [go_sem]
  have hz0 : w.heap.size + 1 + 1 + 1 < W0.heap.size := by rw [← hW0]; simp
  have HKB : Hid (∀ W, Below W0.heap.size W0 W → W.cell? ⟨w.heap.size, 0, none⟩ = some (.slice (some ⟨g1, 0, none⟩) n1 c1) ∧ W.cell? ⟨w.heap.size, 1, none⟩ = some (.slice (some ⟨g2, 0, none⟩) n2 c2) ∧ W.cell? ⟨w.heap.size + 1, 0, none⟩ = some (.int .i64 u) ∧ W.cell? ⟨w.heap.size + 1, 1, none⟩ = some (.slice A n c) ∧ W.cell? ⟨w.heap.size + 1 + 1, 0, none⟩ = some (.int .i64 x) ∧ W.cell? ⟨w.heap.size + 1 + 1 + 1, 0, none⟩ = some (.int .i64 y) ∧ w.heap.size + 1 + 1 + 1 < W.heap.size) := Lib.hid (fun W hW => ⟨(hW.cell (p := ⟨w.heap.size, 0, none⟩) (by show w.heap.size < _; omega)).trans k0_, (hW.cell (p := ⟨w.heap.size, 1, none⟩) (by show w.heap.size < _; omega)).trans k1_, (hW.cell (p := ⟨w.heap.size + 1, 0, none⟩) (by show w.heap.size + 1 < _; omega)).trans k2_, (hW.cell (p := ⟨w.heap.size + 1, 1, none⟩) (by show w.heap.size + 1 < _; omega)).trans k3_, (hW.cell (p := ⟨w.heap.size + 1 + 1, 0, none⟩) (by show w.heap.size + 1 + 1 < _; omega)).trans k4_, (hW.cell (p := ⟨w.heap.size + 1 + 1 + 1, 0, none⟩) (by show w.heap.size + 1 + 1 + 1 < _; omega)).trans k5_, Nat.lt_of_lt_of_le hz0 hW.size⟩)
  have HB0 := Lib.hid hb0
  rw [hW0]
  clear hW0 hb0 hz0 k0_ k1_ k2_ k3_ k4_ k5_
  have HW0 := Lib.hid (Below.refl W0.heap.size W0)
  have CV1 := Lib.hid (isPair_ (HNT.out.moved HB0.out) x y)
  obtain ⟨v, hv⟩ : ∃ v, pb (endP ss fs x y) = v := ⟨_, rfl⟩
  rw [hv] at CV1
  have HV1 := Lib.hid hv
  clear hv
  refine CV1.out.mono ?_
  rintro e w1 ⟨rfl, hb9⟩
  have HWw1 := Lib.hid (HW0.out.trans (hb9.mono HW0.out.size))
  have HBw1 := Lib.hid (HB0.out.trans (HWw1.out.mono HB0.out.size))
  clear hb9
  obtain ⟨k00, k01, k10, k11, k20, k30, hgz⟩ := HKB.out _ HWw1.out
  cases v
  case false =>
    have HE := Lib.hid (HNO.out (fun hp => by have h9 := HV1.out; rw [pb_true hp.2] at h9; cases h9))
    obtain ⟨rfl, rfl, rfl⟩ := HE.out
    clear k00 k01 k10 k11 k20 k30 hgz
    go_wp2
    go_ret3
    exact ⟨none, 0, 0, rfl, Lib.hid rfl, World.ownsRow_nil _ _ _ _, HBw1.out⟩
  case true =>
  have CV2 := Lib.hid (implVO (c := c) (HNT.out.moved HBw1.out) u HN.out (HR.out.moved HBw1.out) hx)
  obtain ⟨v, hv⟩ : ∃ v, ouB ss fs u ds = v := ⟨_, rfl⟩
  rw [hv] at CV2
  have HV2 := Lib.hid hv
  clear hv
  go_wp2_with fail
  clear k00 k01 k10 k11 k20 k30 hgz
  refine CV2.out.mono ?_
  rintro e w2 ⟨rfl, hb9⟩
  have HWw2 := Lib.hid (HWw1.out.trans (hb9.mono HWw1.out.size))
  have HBw2 := Lib.hid (HB0.out.trans (HWw2.out.mono HB0.out.size))
  clear hb9
  obtain ⟨k00, k01, k10, k11, k20, k30, hgz⟩ := HKB.out _ HWw2.out
  cases v
  case false =>
    have HE := Lib.hid (HNO.out (fun hp => by have h9 := HV2.out; unfold ouB at h9; rw [pb_true hp.1] at h9; cases h9))
    obtain ⟨rfl, rfl, rfl⟩ := HE.out
    clear k00 k01 k10 k11 k20 k30 hgz
    go_wp2
    go_ret3
    exact ⟨none, 0, 0, rfl, Lib.hid rfl, World.ownsRow_nil _ _ _ _, HBw2.out⟩
  case true =>
  have HCV : Hid (lkP ss fs u ds x y) := Lib.hid ⟨of_pb HV2.out, of_pb HV1.out⟩
  have HE := Lib.hid (HYES.out HCV.out)
  have HEND := Lib.hid (lk_end HCV.out)
  obtain ⟨hv, hn14, hgl, hu0, hu20, hdd⟩ := lk_facts HN.out HCV.out.1
  obtain ⟨_, ⟨hx0, hx1⟩, ⟨hy0, hy1⟩, _⟩ := HCV.out.2
  obtain ⟨xn, rfl⟩ : ∃ m : Nat, x = m := ⟨x.toNat, by omega⟩
  obtain ⟨yn, rfl⟩ : ∃ m : Nat, y = m := ⟨y.toNat, by omega⟩
  have hxn : xn < n1 := by have := HL1.out; omega
  have hyn : yn < n1 := by have := HL1.out; omega
  have CC := Lib.hid (ovfL_ (c := c) (HNT.out.moved HBw2.out) hv u HN.out (HR.out.moved HBw2.out) hn14 hgl hu0 hu20 hdd xn yn w.heap.size (w.heap.size + 1 + 1) (w.heap.size + 1 + 1 + 1) hxn hyn k00 k01 k20 k30 (by omega) (by omega) (by omega) (HTB.out.over HBw2.out))
  have HPE : Hid (lcO (fun z => wtN u ds z n) (lkC fs (xn : Int) (yn : Int)) (2 ^ n) = some (lkK fs u ds (xn : Int) (yn : Int))) := Lib.hid (by have h9 := HEND.out.1; unfold lkO at h9; rw [HN.out] at h9; exact h9)
  obtain ⟨K, hK⟩ : ∃ K, lkK fs u ds (xn : Int) (yn : Int) = K := ⟨_, rfl⟩
  have HKP : Hid (K < 2 ^ n) := Lib.hid (by rw [← hK, ← HN.out]; exact HEND.out.2)
  have hp14 : 2 ^ n ≤ 16384 := Nat.pow_le_pow_right (by decide : 0 < 2) hn14
  have hk24 : K < 16777216 := by have := HKP.out; omega
  have HBL : Hid (bl K = selK K.testBit n) := Lib.hid (bl_sel (by omega) HKP.out)
  rw [hK] at HPE HE
  obtain ⟨mw, hmw⟩ : ∃ m, wtN u ds K n = m := ⟨_, rfl⟩
  have HMW := Lib.hid hmw
  rw [hmw] at HE
  clear hv hgl hu0 hu20 hdd hx0 hx1 hy0 hy1 hxn hyn hK hp14 hmw HEND
  obtain ⟨rfl, hrv, rfl⟩ := HE.out
  have HRV9 := Lib.hid hrv
  clear hrv HE
  go_wp2_with fail
  clear k00 k01 k10 k11 k20 k30 hgz
  refine CC.out.mono ?_
  rintro e w5 ⟨a0, a1, a2, rfl, hlk, hb5⟩
  have HSK : Hid (a0 = (K : Int) ∧ a2 = mw) := Lib.hid (by
    rcases hlk with ⟨h1, _⟩ | ⟨k, h1, h2, _, h4⟩
    · rw [HPE.out] at h1; cases h1
    · rw [HPE.out] at h1; injection h1 with h1; subst h1; exact ⟨h2, h4.trans HMW.out⟩)
  obtain ⟨rfl, h2_⟩ := HSK.out
  have HA2 : Hid (RV = a2) := Lib.hid (HRV9.out.trans h2_.symm)
  clear h2_ HSK
  have HB5 := Lib.hid (HBw2.out.trans (hb5.mono HBw2.out.size))
  clear hb5 hlk
  go_wp2
  obtain ⟨w6, hw6⟩ : ∃ w6, w5.alloc (Obj.cells #[.int .i64 (K : Int), .int .i64 a1, .int .i64 a2] 95) = w6 := ⟨_, rfl⟩
  have c0 : w6.cell? ⟨w5.heap.size, 0, none⟩ = some (.int .i64 (K : Int)) := by rw [← hw6]; simp [go_sem]
  have c2 : w6.cell? ⟨w5.heap.size, 2, none⟩ = some (.int .i64 a2) := by rw [← hw6]; simp [go_sem]
  have hz6 : w5.heap.size < w6.heap.size := by rw [← hw6]; simp
  have HB6 : Hid (Below w.heap.size w w6) := Lib.hid (by rw [← hw6]; exact HB5.out.alloc HB5.out.size _)
  rw [hw6]
  clear hw6
  have CL : Hid (∀ U, Bel w6 U → Calls Tryd.prog 69 #[.int .i64 (K : Int)] U (IntP (bl K) U)) := Lib.hid (fun U hU => listOf_ K U hk24 (HTB.out.over (HB6.out.trans ((Bel.out hU).mono HB6.out.size))))
  have hbd : Bel w6 w6.drew := Bel.of (Below.refl _ _).drew
  go_upto_region 4 with fail
  go_cut [8, 9, 10] (fun s8 s9 s10 wx => ∃ (A9 : Option Addr) (N9 c9 : Nat), s8 = .slice A9 N9 c9 ∧ s9 = .int .i64 a2 ∧ s10 = .bool true ∧ Hid (N9 = (bl K).length) ∧ Hid (wx.ownsRow w6.heap.size 3 1 (.slice A9 N9 c9) N9 ((bl K).map (Value.int .i64))) ∧ Bel w6 wx)
  case first =>
    go_region_held3 (fun U => U.cell? ⟨w5.heap.size, 0, none⟩ = some (.int .i64 (K : Int)) ∧ U.cell? ⟨w5.heap.size, 2, none⟩ = some (.int .i64 a2) ∧ Bel w6 U)
      (first | (go_keep; done) | (go_split_ands; (refine ⟨?_, ?_, ?_⟩ <;> first | assumption | exact Bel.step (by assumption) hb8 | exact (Bel.at_ (by assumption) hb8 (by assumption)).trans (by assumption))))
      (first
        | (go_at_call 69; go_split_ands; refine (CL.out _ (by assumption)).mono ?_; rintro e u1 ⟨A9, N9, c9, rfl, HN9, ho9, hb8⟩; have HBU := Lib.hid (Bel.out (show Bel w6 _ by assumption)).size))
    all_goals
      go_split_ands
      have hbl9 : Bel w6 u1 := by assumption
      go_wp2_with fail
      go_meet
      exact ⟨A9, N9, c9, rfl, rfl, rfl, HN9, Lib.hid (own_base ho9 HBU.out), hbl9⟩
  case rest =>
  clear hbd c0 c2 hz6
  revert hcut; generalize wc = w7; intro hcut
  obtain ⟨A9, N9, c9, h8_, h9_, h10_, HN9, HO9, hb9⟩ := hcut
  subst h8_ h9_ h10_
  have HB7 := Lib.hid (HB6.out.trans ((Bel.out hb9).mono HB6.out.size))
  clear hb9
  go_wp2
  go_ret3
  rw [← HBL.out, HA2.out]
  exact ⟨A9, N9, c9, rfl, HN9, own_base HO9.out HB6.out.size, HB7.out⟩
end Go.Proofs.YtnbeomnlobfpfaaDoor
