/- The smallest set of fibers without which two nodes are not connected: contracts of MinimumCut, both sides. Condition: the table of math/bits holds what Go's text lays (on impl's side). -/
import Derived.Test.YtbnfogedmjjiaaaDoorFw
import Derived.Test.YtbnfogedmjjiaaaDoorEnds
import Derived.Test.YtbnfogedmjjiaaaDoorGB
import Derived.OwnWalk
import Derived.Deep.CutBlock
import Derived.Deep.DeepCutAuto
namespace Go.Proofs.YtbnfogedmjjiaaaDoor
open Go.ChangeShapes Go.WideShapes Go.ChangeAt Go.RowKit

def sgN (k : Nat) : List Nat := (List.range k).map fun i => 2 ^ i
def sgZ (k : Nat) : List Int := (sgN k).map fun s : Nat => (s : Int)
theorem sgN_len (k : Nat) : (sgN k).length = k := by unfold sgN; simp
theorem sgZ_len (k : Nat) : (sgZ k).length = k := by unfold sgZ; rw [List.length_map, sgN_len]
theorem sgZ_succ (k : Nat) : sgZ (k + 1) = sgZ k ++ [((2 ^ k : Nat) : Int)] := by unfold sgZ sgN; rw [List.range_succ]; simp
theorem sgZ_row (k : Nat) : (sgZ k).map (Value.int .i64) = (sgN k).map fun s : Nat => Value.int .i64 (s : Int) := by unfold sgZ; rw [List.map_map]; rfl
theorem sgN_bd {n : Nat} (hn : n ≤ 20) : ∀ k, k < n → (sgN n).getD k 0 < 2 ^ 20 := fun k hk => by
  unfold sgN
  rw [List.getD_eq_getElem?_getD, List.getElem?_map, List.getElem?_range hk]
  exact Nat.pow_lt_pow_right (by decide) (by omega)
def filZ (n k : Nat) : List Int := sgZ k ++ List.replicate (n - k) 0
theorem filZ_len {n k : Nat} (h : k ≤ n) : (filZ n k).length = n := by unfold filZ; rw [List.length_append, sgZ_len, List.length_replicate]; omega
theorem filZ_step {n k : Nat} (h : k < n) : (filZ n k).set k ((2 ^ k : Nat) : Int) = filZ n (k + 1) := by
  unfold filZ
  rw [List.set_append_right _ _ (by rw [sgZ_len]; exact Nat.le_refl _), sgZ_len, Nat.sub_self, show n - k = (n - (k + 1)) + 1 by omega, List.replicate_succ, List.set_cons_zero, sgZ_succ, List.append_assoc]; rfl
theorem filZ_end (n : Nat) : filZ n n = sgZ n := by unfold filZ; rw [Nat.sub_self]; simp
noncomputable def mcL (ss : List ByteArray) (fs : List Q4) (x y : Int) : List Int := if pb (endP ss fs x y) then fewL fs x.toNat y.toNat (sgN fs.length) else []
theorem mc_no {ss : List ByteArray} {fs : List Q4} {x y : Int} (h : ¬ endP ss fs x y) : mcL ss fs x y = [] ∧ pb (endP ss fs x y) = false := by
  have e := pb_false h
  exact ⟨by unfold mcL; rw [e]; rfl, e⟩
theorem mc_yes {ss : List ByteArray} {fs : List Q4} {x y : Int} (h : endP ss fs x y) : mcL ss fs x y = fewL fs x.toNat y.toNat (sgN fs.length) ∧ pb (endP ss fs x y) = true := by
  have e := pb_true h
  exact ⟨by unfold mcL; rw [e]; rfl, e⟩
theorem mcL_len (ss : List ByteArray) (fs : List Q4) (x y : Int) : (mcL ss fs x y).length ≤ fs.length := by
  unfold mcL; split
  · exact Nat.le_trans (fewL_len _ _ _ _) (by rw [sgN_len]; exact Nat.le_refl _)
  · simp
set_option maxRecDepth 100000 in
set_option maxHeartbeats 2000000 in
theorem singles_ {g1 g2 n1 n2 c1 c2 : Nat} {ss : List ByteArray} {fs : List Q4} {w : World} (h : NetAt g1 g2 n1 n2 c1 c2 ss fs w) (hf : fs.length ≤ 14) :
    Calls Tryd.prog 139 #[.agg #[.slice (some ⟨g1, 0, none⟩) n1 c1, .slice (some ⟨g2, 0, none⟩) n2 c2]] w (IntP (sgZ n2) w) := by
  have hn14 : n2 ≤ 14 := by have := h.ln2; omega
  clear h
  go_enter Tryd.func139, Tryd.ntmps139
  go_wp2_with fail
  obtain ⟨W0, hW0⟩ : ∃ W0, ((w.alloc (Obj.cells #[.slice (some ⟨g1, 0, none⟩) n1 c1, .slice (some ⟨g2, 0, none⟩) n2 c2] 34)).alloc (Obj.cells #[] 3)) = W0 := ⟨_, rfl⟩
  have hb0 : Below w.heap.size w W0 := by rw [← hW0]; exact ((Below.refl _ _).alloc (Nat.le_refl _) _).alloc (by simp) _
  have k0_0 : W0.cell? ⟨w.heap.size, 0, none⟩ = some (.slice (some ⟨g1, 0, none⟩) n1 c1) := by rw [← hW0]; simp [go_sem]
  have k0_1 : W0.cell? ⟨w.heap.size, 1, none⟩ = some (.slice (some ⟨g2, 0, none⟩) n2 c2) := by rw [← hW0]; simp [go_sem]
  have hz0 : w.heap.size + 1 < W0.heap.size := by rw [← hW0]; simp
  have HKB : Hid (∀ W, Below W0.heap.size W0 W → W.cell? ⟨w.heap.size, 0, none⟩ = some (.slice (some ⟨g1, 0, none⟩) n1 c1) ∧ W.cell? ⟨w.heap.size, 1, none⟩ = some (.slice (some ⟨g2, 0, none⟩) n2 c2) ∧ w.heap.size + 1 < W.heap.size) := Lib.hid (fun W hW => ⟨(hW.cell (p := ⟨w.heap.size, 0, none⟩) (by show w.heap.size < _; omega)).trans k0_0, (hW.cell (p := ⟨w.heap.size, 1, none⟩) (by show w.heap.size < _; omega)).trans k0_1, Nat.lt_of_lt_of_le hz0 hW.size⟩)
  have HSZ0 : Hid (W0.heap.size = w.heap.size + 1 + 1) := Lib.hid (by rw [← hW0]; simp)
  have HB0 := Lib.hid hb0
  have HL0 : Hid (W0.ownsRow (w.heap.size + 1) 3 1 (.slice (some ⟨w.heap.size + 1, 0, none⟩) 0 0) 0 []) := Lib.hid (by rw [← hW0]; exact lit_rowH (by simp) _ (by simp))
  have HKC : Hid (∀ W, Below (w.heap.size + 1) W0 W → W.cell? ⟨w.heap.size, 1, none⟩ = some (.slice (some ⟨g2, 0, none⟩) n2 c2) ∧ w.heap.size + 1 < W.heap.size) := Lib.hid (fun W hW => ⟨(hW.cell (p := ⟨w.heap.size, 1, none⟩) (Nat.lt_succ_self _)).trans k0_1, Nat.lt_of_lt_of_le hz0 hW.size⟩)
  rw [hW0]
  clear hW0 hb0 hz0 k0_0 k0_1
  go_wp2
  go_loopw [3, 4] (fun v i wr => ∃ (k : Nat) (A1 : Option Addr) (N1 d1 : Nat), k ≤ n2 ∧ i = .int .i64 k ∧ v = .slice A1 N1 d1 ∧ N1 ≤ k ∧ Hid (N1 = (sgZ k).length) ∧ Hid (wr.ownsRow (w.heap.size + 1) 3 1 (.slice A1 N1 d1) N1 ((sgZ k).map (Value.int .i64))) ∧ Below (w.heap.size + 1) W0 wr) (fun _ i _ => n2 - (intOf i).toNat)
  case atStart => exact ⟨0, _, 0, _, Nat.zero_le _, rfl, rfl, Nat.le_refl _, Lib.hid rfl, HL0, Below.refl _ _⟩
  case round =>
    obtain ⟨k, A1, N1, d1, hk, rfl, rfl, hN1, HN1, HOW, hb⟩ := hrel
    have HBR := Lib.hid hb
    have HBW := Lib.hid (HB0.out.trans (hb.mono (Nat.le_succ _)))
    clear hb
    obtain ⟨k01, hgz⟩ := HKC.out _ HBR.out
    by_cases hlt : k < n2
    case neg =>
      obtain rfl : k = n2 := by omega
      have hltI : ¬ (k : Int) < k := by omega
      clear hlt
      go_wp2
      go_ret
      exact ⟨A1, N1, d1, rfl, HN1, own_base HOW.out (Nat.le_succ _), HBW.out⟩
    case pos =>
    have hltI : (k : Int) < n2 := by omega
    obtain ⟨P, hP⟩ : ∃ p, 2 ^ k = p := ⟨_, rfl⟩
    have hsh : ((2 : Int) ^ k) = (P : Int) := by rw [← hP]; simp
    have hP2 : P ≤ 2 ^ 14 := by rw [← hP]; exact Nat.pow_le_pow_right (by decide) (by omega)
    have HTO : Hid (sgZ (k + 1) = sgZ k ++ [(P : Int)]) := Lib.hid (by rw [sgZ_succ, hP])
    have hsz : w.heap.size + 1 ≤ wr.heap.size := by omega
    clear hP
    go_wp2_with (at_builtin; refine wp_app rfl (.tmp 13) (.tmp 17) 29 3 rfl (w.heap.size + 1) Tryd.underlying29 Tryd.inf_int rfl (by decide) (by decide) _ N1 _ rfl (HOW.out.alloc _) _ _ [.int .i64 (P : Int)] rfl rfl (news1 (new_at_ _ _ _ _ rfl)) (news_int _) (by omega) (by simp; omega) ?_)
    intro A3 d3 N3 w3 hN3 hown3 hgrow3 hloc3
    have HB3 := Lib.hid ((HBR.out.alloc hsz _).grown hgrow3 (by simp; omega) (fun g hg => (HOW.out.lt g hg).1))
    have HO3 : Hid (w3.ownsRow (w.heap.size + 1) 3 1 (.slice A3 N3 d3) N3 ((sgZ (k + 1)).map (Value.int .i64))) := Lib.hid (by rw [HTO.out, List.map_append]; exact hown3)
    have HN4 : Hid (N3 = (sgZ (k + 1)).length) := Lib.hid (by rw [HTO.out, List.length_append, ← HN1.out, hN3]; rfl)
    have hN5 : N3 ≤ k + 1 := by omega
    clear hown3 hgrow3 hloc3 hN3 k01 hgz
    go_wp2
    go_roundw
    case rel => exact ⟨k + 1, A3, N3, d3, by omega, by go_num, rfl, hN5, HN4, HO3, HB3.out⟩
    case measure => simp [intOf]; omega
set_option maxRecDepth 100000 in
set_option maxHeartbeats 2000000 in
theorem specMC {g1 g2 n1 n2 c1 c2 : Nat} {ss : List ByteArray} {fs : List Q4} {w : World} (h : NetAt g1 g2 n1 n2 c1 c2 ss fs w) (x y : Int) :
    Calls Tryd.prog 67 #[.agg #[.slice (some ⟨g1, 0, none⟩) n1 c1, .slice (some ⟨g2, 0, none⟩) n2 c2], .int .i64 x, .int .i64 y] w (IntsP (mcL ss fs x y) (pb (endP ss fs x y)) w) := by
  have HNT := Lib.hid h
  have HL1 := Lib.hid h.ln1; have HL2 := Lib.hid h.ln2
  obtain ⟨RL, hRL⟩ : ∃ r, mcL ss fs x y = r := ⟨_, rfl⟩
  obtain ⟨RB, hRB⟩ : ∃ r, pb (endP ss fs x y) = r := ⟨_, rfl⟩
  have HNO : Hid (¬ endP ss fs x y → RL = [] ∧ RB = false) := Lib.hid (fun e => by rw [← hRL, ← hRB]; exact mc_no e)
  have HYES : Hid (endP ss fs x y → RL = fewL fs x.toNat y.toNat (sgN fs.length) ∧ RB = true) := Lib.hid (fun e => by rw [← hRL, ← hRB]; exact mc_yes e)
  have CV := Lib.hid (fun (W : World) (hb : Below w.heap.size w W) => ends6_ (h.moved hb) x y)
  rw [hRB] at CV
  rw [hRL, hRB]
  have HVB := Lib.hid hRB
  clear h hRL hRB
  go_enter Tryd.func67, Tryd.ntmps67
  go_wp2_with fail
  obtain ⟨W0, hW0⟩ : ∃ W0, (w.alloc (Obj.cells #[.slice (some ⟨g1, 0, none⟩) n1 c1, .slice (some ⟨g2, 0, none⟩) n2 c2] 34)) = W0 := ⟨_, rfl⟩
  have hb0 : Below w.heap.size w W0 := by rw [← hW0]; exact (Below.refl _ _).alloc (Nat.le_refl _) _
  have k0_0 : W0.cell? ⟨w.heap.size, 0, none⟩ = some (.slice (some ⟨g1, 0, none⟩) n1 c1) := by rw [← hW0]; simp [go_sem]
  have k0_1 : W0.cell? ⟨w.heap.size, 1, none⟩ = some (.slice (some ⟨g2, 0, none⟩) n2 c2) := by rw [← hW0]; simp [go_sem]
  have hz0 : w.heap.size < W0.heap.size := by rw [← hW0]; simp
  have HKB : Hid (∀ W, Below W0.heap.size W0 W → W.cell? ⟨w.heap.size, 0, none⟩ = some (.slice (some ⟨g1, 0, none⟩) n1 c1) ∧ W.cell? ⟨w.heap.size, 1, none⟩ = some (.slice (some ⟨g2, 0, none⟩) n2 c2) ∧ w.heap.size < W.heap.size) := Lib.hid (fun W hW => ⟨(hW.cell (p := ⟨w.heap.size, 0, none⟩) (by show w.heap.size < _; omega)).trans k0_0, (hW.cell (p := ⟨w.heap.size, 1, none⟩) (by show w.heap.size < _; omega)).trans k0_1, Nat.lt_of_lt_of_le hz0 hW.size⟩)
  have HSZ0 : Hid (W0.heap.size = w.heap.size + 1) := Lib.hid (by rw [← hW0]; simp)
  have HB0 := Lib.hid hb0
  rw [hW0]
  clear hW0 hb0 hz0 k0_0 k0_1
  refine (CV.out _ HB0.out).mono ?_
  rintro e w1 ⟨rfl, hb9⟩
  have HWw1 := Lib.hid hb9
  have HBw1 := Lib.hid (HB0.out.trans (hb9.mono HB0.out.size))
  clear hb9
  obtain ⟨k0, k1, hgz⟩ := HKB.out _ HWw1.out
  cases RB
  case false =>
    have HE := Lib.hid (HNO.out (of_npb HVB.out))
    clear k0 k1 hgz
    go_wp2
    go_ret2
    obtain ⟨rfl, _⟩ := HE.out
    exact ⟨_, 0, _, rfl, Lib.hid rfl, lit_rowH rfl _ HBw1.out.size, HBw1.out.alloc HBw1.out.size _⟩
  case true =>
  have HS : Hid (endP ss fs x y) := Lib.hid (of_pb HVB.out)
  have HE := Lib.hid (HYES.out HS.out)
  obtain ⟨hv, ⟨hx0, hx1⟩, ⟨hy0, hy1⟩, _⟩ := HS.out
  obtain ⟨xn, rfl⟩ : ∃ m : Nat, x = m := ⟨x.toNat, by omega⟩
  obtain ⟨yn, rfl⟩ : ∃ m : Nat, y = m := ⟨y.toNat, by omega⟩
  have hxn : xn < n1 := by have := HL1.out; omega
  have hyn : yn < n1 := by have := HL1.out; omega
  have hf14 : fs.length ≤ 14 := hv.2.1
  have hn14 : n2 ≤ 14 := by have := HL2.out; omega
  have HX : Hid (fewL fs xn yn (sgN n2) = RL) := Lib.hid (by rw [HE.out.1, HL2.out]; rfl)
  have CS : Hid (∀ W, Bel w1 W → Calls Tryd.prog 139 #[.agg #[.slice (some ⟨g1, 0, none⟩) n1 c1, .slice (some ⟨g2, 0, none⟩) n2 c2]] W (IntP (sgZ n2) W)) := Lib.hid (fun W hW => singles_ ((HNT.out.moved HBw1.out).moved hW.out) hf14)
  have CT : Hid (∀ W A9 N9 c9, Bel w1 W → N9 = n2 → Rd W W.heap.size A9 ((sgZ n2).map (Value.int .i64)) → Calls Tryd.prog 138 #[.agg #[.slice (some ⟨g1, 0, none⟩) n1 c1, .slice (some ⟨g2, 0, none⟩) n2 c2], .int .i64 (xn : Int), .int .i64 (yn : Int), .slice A9 N9 c9] W fun e w' => ∃ (A8 : Option Addr) (N8 c8 : Nat), e = .returned (.slice A8 N8 c8) ∧ Hid (N8 = RL.length) ∧ Hid (w'.ownsRow w1.heap.size 3 1 (.slice A8 N8 c8) N8 (RL.map (Value.int .i64))) ∧ Below W.heap.size W w') := Lib.hid (fun W A9 N9 c9 hW hN9 hR9 => by
    subst hN9
    rw [sgZ_row] at hR9
    refine (cut_ (cc := c9) ((HNT.out.moved HBw1.out).moved hW.out) hv xn yn hxn hyn (sgN_len _) (by omega) (sgN_bd (by omega)) hR9).mono ?_
    rintro e w' ⟨A8, N8, c8, h1, h2, h3, h4⟩
    rw [HX.out] at h2 h3
    exact ⟨A8, N8, c8, h1, h2, Lib.hid (own_base h3 hW.out.size), h4⟩)
  have hbd : Bel w1 w1.drew := Bel.of (Below.refl _ _).drew
  clear hv hx0 hx1 hy0 hy1 hf14
  go_wp2_with fail
  go_upto_region 3 with fail
  go_cut [6, 7] (fun s4 s5 wx => ∃ (A9 : Option Addr) (N9 c9 : Nat), s4 = .slice A9 N9 c9 ∧ s5 = .bool true ∧ Hid (N9 = RL.length) ∧ Hid (wx.ownsRow w1.heap.size 3 1 (.slice A9 N9 c9) N9 (RL.map (Value.int .i64))) ∧ Bel w1 wx)
  case first =>
    go_region_held3 (fun U => U.cell? ⟨w.heap.size, 0, none⟩ = some (.slice (some ⟨g1, 0, none⟩) n1 c1) ∧ U.cell? ⟨w.heap.size, 1, none⟩ = some (.slice (some ⟨g2, 0, none⟩) n2 c2) ∧ Bel w1 U)
      (first | (go_keep; done) | (go_split_ands; (refine ⟨?_, ?_, ?_⟩ <;> first | assumption | exact Bel.step (by assumption) hb8 | exact (Bel.at_ (by assumption) hb8 (by assumption)).trans (by assumption) | exact Bel.step (by assumption) hb9 | exact (Bel.at_ (by assumption) hb9 (by assumption)).trans (by assumption))))
      (first
        | (go_at_call 139; go_split_ands; (with_reducible refine (CS.out _ (by assumption)).mono ?_); rintro e u1 ⟨A7, N7, c7, rfl, HN7, ho7, hb8⟩; have RR7 : Hid (∀ V, Below u1.heap.size u1 V → Rd V V.heap.size A7 ((sgZ n2).map (Value.int .i64))) := Lib.hid fun V hV => (Rd.ofOwn ho7).moved hV; clear ho7)
        | (go_at_call 138; go_split_ands; (with_reducible refine (CT.out _ A7 N7 c7 (by assumption) (HN7.out.trans (sgZ_len _)) (RR7.out _ (by first | exact Below.refl _ _ | exact (Below.refl _ _).drew))).mono ?_); rintro e u2 ⟨A9, N9, c9, rfl, HN9, HO9, hb9⟩))
    all_goals
      go_split_ands
      have hbl9 : Bel w1 u2 := by assumption
      go_wp2_with fail
      go_meet
      exact ⟨A9, N9, c9, rfl, rfl, HN9, HO9, hbl9⟩
  case rest =>
  clear hbd k0 k1 hgz
  revert hcut; generalize wc = w5; intro hcut
  obtain ⟨A9, N9, c9, h0_, h1_, HN9, HO9, hb9⟩ := hcut
  subst h0_ h1_
  have HB5 := Lib.hid (HBw1.out.trans ((Bel.out hb9).mono HBw1.out.size))
  clear hb9
  go_wp2
  go_ret2
  exact ⟨A9, N9, c9, rfl, HN9, own_base HO9.out HBw1.out.size, HB5.out⟩
set_option maxRecDepth 100000 in
set_option maxHeartbeats 2000000 in
theorem implMC {g1 g2 n1 n2 c1 c2 : Nat} {ss : List ByteArray} {fs : List Q4} {w : World} (h : NetAt g1 g2 n1 n2 c1 c2 ss fs w) (x y : Int) (hTab : Tab w) :
    Calls Tryd.prog 68 #[.agg #[.slice (some ⟨g1, 0, none⟩) n1 c1, .slice (some ⟨g2, 0, none⟩) n2 c2], .int .i64 x, .int .i64 y] w (IntsP (mcL ss fs x y) (pb (endP ss fs x y)) w) := by
  have HTB := Lib.hid hTab
  obtain ⟨i0, hi, hz0_, hz1_, hz2_⟩ := info_parts Tryd.inf_int
  have HI := Lib.hid hi; have HZ0 := Lib.hid hz0_; have HZ1 := Lib.hid hz1_; have HZ2 := Lib.hid hz2_
  clear hTab hi hz0_ hz1_ hz2_
  have HNT := Lib.hid h
  have HL1 := Lib.hid h.ln1; have HL2 := Lib.hid h.ln2
  obtain ⟨RL, hRL⟩ : ∃ r, mcL ss fs x y = r := ⟨_, rfl⟩
  obtain ⟨RB, hRB⟩ : ∃ r, pb (endP ss fs x y) = r := ⟨_, rfl⟩
  have HNO : Hid (¬ endP ss fs x y → RL = [] ∧ RB = false) := Lib.hid (fun e => by rw [← hRL, ← hRB]; exact mc_no e)
  have HYES : Hid (endP ss fs x y → RL = fewL fs x.toNat y.toNat (sgN fs.length) ∧ RB = true) := Lib.hid (fun e => by rw [← hRL, ← hRB]; exact mc_yes e)
  have CV := Lib.hid (fun (W : World) (hb : Below w.heap.size w W) => isPair_ (h.moved hb) x y)
  rw [hRB] at CV
  rw [hRL, hRB]
  have HVB := Lib.hid hRB
  clear h hRL hRB
  go_enter Tryd.func68, Tryd.ntmps68
  go_wp2_with fail
  obtain ⟨W0, hW0⟩ : ∃ W0, (w.alloc (Obj.cells #[.slice (some ⟨g1, 0, none⟩) n1 c1, .slice (some ⟨g2, 0, none⟩) n2 c2] 34)) = W0 := ⟨_, rfl⟩
  have hb0 : Below w.heap.size w W0 := by rw [← hW0]; exact (Below.refl _ _).alloc (Nat.le_refl _) _
  have k0_0 : W0.cell? ⟨w.heap.size, 0, none⟩ = some (.slice (some ⟨g1, 0, none⟩) n1 c1) := by rw [← hW0]; simp [go_sem]
  have k0_1 : W0.cell? ⟨w.heap.size, 1, none⟩ = some (.slice (some ⟨g2, 0, none⟩) n2 c2) := by rw [← hW0]; simp [go_sem]
  have hz0 : w.heap.size < W0.heap.size := by rw [← hW0]; simp
  have HKB : Hid (∀ W, Below W0.heap.size W0 W → W.cell? ⟨w.heap.size, 0, none⟩ = some (.slice (some ⟨g1, 0, none⟩) n1 c1) ∧ W.cell? ⟨w.heap.size, 1, none⟩ = some (.slice (some ⟨g2, 0, none⟩) n2 c2) ∧ w.heap.size < W.heap.size) := Lib.hid (fun W hW => ⟨(hW.cell (p := ⟨w.heap.size, 0, none⟩) (by show w.heap.size < _; omega)).trans k0_0, (hW.cell (p := ⟨w.heap.size, 1, none⟩) (by show w.heap.size < _; omega)).trans k0_1, Nat.lt_of_lt_of_le hz0 hW.size⟩)
  have HSZ0 : Hid (W0.heap.size = w.heap.size + 1) := Lib.hid (by rw [← hW0]; simp)
  have HB0 := Lib.hid hb0
  rw [hW0]
  clear hW0 hb0 hz0 k0_0 k0_1
  refine (CV.out _ HB0.out).mono ?_
  rintro e w1 ⟨rfl, hb9⟩
  have HWw1 := Lib.hid hb9
  have HBw1 := Lib.hid (HB0.out.trans (hb9.mono HB0.out.size))
  clear hb9
  obtain ⟨k0, k1, hgz⟩ := HKB.out _ HWw1.out
  cases RB
  case false =>
    have HE := Lib.hid (HNO.out (of_npb HVB.out))
    clear k0 k1 hgz
    go_wp2
    go_ret2
    exact ints_no ⟨HE.out.1, rfl⟩ HBw1.out
  case true =>
  have HS : Hid (endP ss fs x y) := Lib.hid (of_pb HVB.out)
  have HE := Lib.hid (HYES.out HS.out)
  obtain ⟨hv, ⟨hx0, hx1⟩, ⟨hy0, hy1⟩, _⟩ := HS.out
  obtain ⟨xn, rfl⟩ : ∃ m : Nat, x = m := ⟨x.toNat, by omega⟩
  obtain ⟨yn, rfl⟩ : ∃ m : Nat, y = m := ⟨y.toNat, by omega⟩
  have hxn : xn < n1 := by have := HL1.out; omega
  have hyn : yn < n1 := by have := HL1.out; omega
  have hf14 : fs.length ≤ 14 := hv.2.1
  have hn14 : n2 ≤ 14 := by have := HL2.out; omega
  have HX : Hid (fewL fs xn yn (sgN n2) = RL) := Lib.hid (by rw [HE.out.1, HL2.out]; rfl)
  have CT : Hid (∀ W (g9 : Nat), Below w1.heap.size w1 W → Rd W W.heap.size (some ⟨g9, 0, none⟩) ((sgZ n2).map (Value.int .i64)) → Calls Tryd.prog 140 #[.agg #[.slice (some ⟨g1, 0, none⟩) n1 c1, .slice (some ⟨g2, 0, none⟩) n2 c2], .int .i64 (xn : Int), .int .i64 (yn : Int), .slice (some ⟨g9, 0, none⟩) n2 n2] W (IntP RL W)) := Lib.hid (fun W g9 hW hR9 => by
    rw [sgZ_row] at hR9
    have h9 := fewest_ (cc := n2) ((HNT.out.moved HBw1.out).moved hW) hv xn yn hxn hyn (sgN_len _) (by omega) (sgN_bd (by omega)) hR9 ((HTB.out.over HBw1.out).over hW)
    rw [HX.out] at h9; exact h9)
  clear hv hx0 hx1 hy0 hy1 hf14
  go_wp2_with (at_make; refine wpList_make_full _ rfl _ _ 29 rfl w1.heap.size 3 i0 (.int .i64 0) 1 Tryd.underlying29 HI.out HZ0.out HZ1.out .i64 .i64 _ _ n2 rfl rfl rfl rfl (by rw [HZ2.out]; omega) (by unfold maxLen; omega) (Nat.le_refl _) ?_)
  intro w2 hown hgrow
  have HB2 : Hid (Below w1.heap.size w1 w2) := Lib.hid ((Below.refl w1.heap.size w1).grown hgrow (Nat.le_refl _) (fun k h => by cases h))
  rw [toList_madeCells_one] at hown
  have HO2 : Hid (w2.ownsRow w1.heap.size 3 1 (.slice (some ⟨w1.heap.size, 0, none⟩) n2 n2) n2 ((filZ n2 0).map (Value.int .i64))) := Lib.hid (by unfold filZ sgZ sgN; simpa using hown)
  clear hgrow hown k0 k1 hgz
  go_wp2
  go_loopw [21] (fun i wr => ∃ k : Nat, k ≤ n2 ∧ i = .int .i64 k ∧ Hid (wr.ownsRow w1.heap.size 3 1 (.slice (some ⟨w1.heap.size, 0, none⟩) n2 n2) n2 ((filZ n2 k).map (Value.int .i64))) ∧ Below w1.heap.size w1 wr) (fun i _ => n2 - (intOf i).toNat)
  case atStart => exact ⟨0, Nat.zero_le _, rfl, HO2, HB2.out⟩
  case round =>
    obtain ⟨k, hk, rfl, HOW, hb⟩ := hrel
    have HBR := Lib.hid hb
    have HWR := Lib.hid (HWw1.out.trans (hb.mono HWw1.out.size))
    have HBW := Lib.hid (HBw1.out.trans (hb.mono HBw1.out.size))
    clear hb
    by_cases hlt : k < n2
    case neg =>
      obtain rfl : k = n2 := by omega
      have hltI : ¬ (k : Int) < k := by omega
      have HR9 := Lib.hid (Rd.ofOwn HOW.out)
      rw [filZ_end] at HR9
      have C := Lib.hid (CT.out wr w1.heap.size HBR.out HR9.out)
      obtain ⟨k0, k1, hgz⟩ := HKB.out _ HWR.out
      clear hlt
      go_wp2_with fail
      clear k0 k1 hgz
      refine C.out.mono ?_
      rintro e w5 ⟨A9, N9, c9, rfl, HN9, ho9, hb9⟩
      have HB5 := Lib.hid (HBW.out.trans (hb9.mono HBW.out.size))
      have HO9 := Lib.hid (own_base ho9 HBW.out.size)
      clear ho9 hb9
      go_wp2
      go_ret2
      exact ⟨A9, N9, c9, rfl, HN9, HO9.out, HB5.out⟩
    case pos =>
    have hltI : (k : Int) < n2 := by omega
    obtain ⟨P, hP⟩ : ∃ p, 2 ^ k = p := ⟨_, rfl⟩
    have hsh : ((2 : Int) ^ k) = (P : Int) := by rw [← hP]; simp
    have hP2 : P ≤ 2 ^ 14 := by rw [← hP]; exact Nat.pow_le_pow_right (by decide) (by omega)
    have hHO := ((HOW.out.stored k (.int .i64 (P : Int))).1)
    rw [set_mapI, ← hP, filZ_step hlt, hP] at hHO
    have HST := Lib.hid hHO
    obtain ⟨z, hz⟩ : ∃ z, (filZ n2 k).getD k 0 = z := ⟨_, rfl⟩
    have hc1 := own_int HOW.out (filZ_len hk).symm hlt hz
    have hfz := HOW.out.frozenAt k
    clear hP hz hHO
    go_wp2
    go_roundw
    case rel => exact ⟨k + 1, by omega, by go_num, HST, HBR.out.setCell (p := ⟨w1.heap.size, k, none⟩) (Nat.le_refl _) _⟩
    case measure => simp [intOf]; omega
end Go.Proofs.YtbnfogedmjjiaaaDoor
