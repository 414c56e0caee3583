/- The greatest clique of requests: contract of spec.CliqueBound. No condition but those typed. -/
import Derived.Test.YtbnfogedmjjiaaaDoorCb2
import Derived.Test.YtbnfogedmjjiaaaDoorPut
import Derived.Test.YtbnfogedmjjiaaaDoorOwn
import Derived.Test.YtbnfogedmjjiaaaDoorGB
namespace Go.Proofs.YtbnfogedmjjiaaaDoor
open Go.ChangeShapes Go.WideShapes Go.ChangeAt Go.RowKit Go.Maps

theorem bd_lt {ds : List RqD} {n : Nat} (h : ∀ k, k < n → 1 ≤ (rqn ds k).q0 ∧ (rqn ds k).q0 ≤ 24) (f : Nat) : (bdP ds n (f + 1)).2 ≤ f := by
  have ih := (bd_in h f).2.2
  unfold bdP
  split
  · exact Nat.le_refl _
  · exact ih
theorem cbL_len (ss : List ByteArray) (fs : List Q4) (ds : List RqD) : (cbL ss fs ds).length ≤ 24 := by
  unfold cbL; split
  · exact bl_len _
  · simp
set_option maxRecDepth 100000 in
set_option maxHeartbeats 8000000 in
theorem specCB {g1 g2 n1 n2 c1 c2 : Nat} {ss : List ByteArray} {fs : List Q4} {w : World} (h : NetAt g1 g2 n1 n2 c1 c2 ss fs w) {B g n : Nat} {ys : List Rq} {ds : List RqD} (hT : Rqs B g n ys w) (hd : ys.map Rq.d = ds) (hs : n ≤ 1048576) :
    Calls Tryd.prog 19 #[.agg #[.slice (some ⟨g1, 0, none⟩) n1 c1, .slice (some ⟨g2, 0, none⟩) n2 c2], .slice (some ⟨g, 0, none⟩) n n] w (CbP (cbG ss fs ds) (cbL ss fs ds) (reqsB ss fs ds) w) := by
  have HNT := Lib.hid h; have HT := Lib.hid hT; have HD := Lib.hid hd
  have HLD : Hid (ds.length = n) := Lib.hid (by rw [← hd, List.length_map]; exact hT.len)
  obtain ⟨RG, hRG⟩ : ∃ r, cbG ss fs ds = r := ⟨_, rfl⟩
  obtain ⟨RL, hRL⟩ : ∃ r, cbL ss fs ds = r := ⟨_, rfl⟩
  obtain ⟨RB, hRB⟩ : ∃ r, reqsB ss fs ds = r := ⟨_, rfl⟩
  have HNO : Hid (reqsB ss fs ds = false → 0 = RG ∧ [] = RL) := Lib.hid (fun e => by rw [← hRG, ← hRL]; exact ⟨(cb_no e).1.symm, (cb_no e).2.symm⟩)
  have HYES : Hid (reqsB ss fs ds = true → (bdP ds ds.length (2 ^ ds.length)).1 = RG ∧ bl (bdP ds ds.length (2 ^ ds.length)).2 = RL) := Lib.hid (fun e => by rw [← hRG, ← hRL]; exact ⟨(cb_yes e).1.symm, (cb_yes e).2.symm⟩)
  have CV := Lib.hid (fun (W : World) (hb : Below w.heap.size w W) => l12Good_ (h.moved hb) (hT.moved hb) hd hs)
  rw [hRB] at CV
  rw [hRG, hRL, hRB]
  have HVB := Lib.hid hRB
  clear h hT hd hRG hRL hRB
  go_enter Tryd.func19, Tryd.ntmps19
  go_wp2_with fail
  obtain ⟨W0, hW0⟩ : ∃ W0, ((w.alloc (Obj.cells #[.slice (some ⟨g1, 0, none⟩) n1 c1, .slice (some ⟨g2, 0, none⟩) n2 c2] 34)).alloc (Obj.cells #[] 3)) = W0 := ⟨_, rfl⟩
  have hb0 : Below w.heap.size w W0 := by rw [← hW0]; exact ((Below.refl _ _).alloc (Nat.le_refl _) _).alloc (by simp) _
  have k0_0 : W0.cell? ⟨w.heap.size, 0, none⟩ = some (.slice (some ⟨g1, 0, none⟩) n1 c1) := by rw [← hW0]; simp [go_sem]
  have k0_1 : W0.cell? ⟨w.heap.size, 1, none⟩ = some (.slice (some ⟨g2, 0, none⟩) n2 c2) := by rw [← hW0]; simp [go_sem]
  have hz0 : w.heap.size + 1 < W0.heap.size := by rw [← hW0]; simp
  have HKB : Hid (∀ W, Below W0.heap.size W0 W → W.cell? ⟨w.heap.size, 0, none⟩ = some (.slice (some ⟨g1, 0, none⟩) n1 c1) ∧ W.cell? ⟨w.heap.size, 1, none⟩ = some (.slice (some ⟨g2, 0, none⟩) n2 c2) ∧ w.heap.size + 1 < W.heap.size) := Lib.hid (fun W hW => ⟨(hW.cell (p := ⟨w.heap.size, 0, none⟩) (by show w.heap.size < _; omega)).trans k0_0, (hW.cell (p := ⟨w.heap.size, 1, none⟩) (by show w.heap.size < _; omega)).trans k0_1, Nat.lt_of_lt_of_le hz0 hW.size⟩)
  have HSZ0 : Hid (W0.heap.size = w.heap.size + 1 + 1) := Lib.hid (by rw [← hW0]; simp)
  have HB0 := Lib.hid hb0
  have HL0 : Hid (W0.ownsRow w.heap.size 3 1 (.slice (some ⟨w.heap.size + 1, 0, none⟩) 0 0) 0 []) := Lib.hid (by rw [← hW0]; exact lit_rowH (by simp) _ (by simp))
  rw [hW0]
  clear hW0 hb0 hz0 k0_0 k0_1
  refine (CV.out _ HB0.out).mono ?_
  rintro e w1 ⟨rfl, hb9⟩
  have HWw1 := Lib.hid hb9
  have HBw1 := Lib.hid (HB0.out.trans (hb9.mono HB0.out.size))
  clear hb9
  cases RB
  case false =>
    have HE := Lib.hid (HNO.out HVB.out)
    go_wp2
    go_ret3
    obtain ⟨rfl, rfl⟩ := HE.out
    exact ⟨_, 0, _, rfl, Lib.hid rfl, ownB HL0.out HWw1.out, HBw1.out⟩
  case true =>
  have HF := Lib.hid (reqs_facts HVB.out)
  have hn7 : n ≤ 7 := by have := HF.out.2.1; have := HLD.out; omega
  have HQ : Hid (∀ k, k < n → 1 ≤ (rqn ds k).q0 ∧ (rqn ds k).q0 ≤ 24) := Lib.hid (fun k hk => HF.out.2.2 k (by have := HLD.out; omega))
  have CB := Lib.hid (l12Bound_ (HT.out.moved HBw1.out) HD.out hn7 HQ.out)
  have HE := Lib.hid (HYES.out HVB.out)
  rw [HLD.out] at HE
  obtain ⟨P, hP⟩ : ∃ p, 2 ^ n = p + 1 := ⟨2 ^ n - 1, by have := Nat.two_pow_pos n; omega⟩
  have hbl := bd_lt HQ.out P
  rw [hP] at CB HE
  obtain ⟨G, hG⟩ : ∃ G, (bdP ds n (P + 1)).1 = G := ⟨_, rfl⟩
  obtain ⟨b, hb⟩ : ∃ b, (bdP ds n (P + 1)).2 = b := ⟨_, rfl⟩
  rw [hG, hb] at CB HE
  rw [hb] at hbl
  have hb7 : b < 2 ^ n := by omega
  have hbm : b < 2 ^ 62 := Nat.lt_of_lt_of_le hb7 (Nat.pow_le_pow_right (by decide) (by omega))
  have HX : Hid (G = RG ∧ selK b.testBit n = RL) := Lib.hid ⟨HE.out.1, by rw [← bl_sel (by omega) hb7]; exact HE.out.2⟩
  clear hG hb hP hbl hb7
  go_wp2_with fail
  refine CB.out.mono ?_
  rintro e w2 ⟨rfl, hb9⟩
  have HW2 := Lib.hid (HWw1.out.trans (hb9.mono HWw1.out.size))
  have HB2 := Lib.hid (HBw1.out.trans (hb9.mono HBw1.out.size))
  have HO2 := Lib.hid (ownB HL0.out HW2.out)
  clear hb9
  go_wp2
  go_loopw [7, 10] (fun v i wr => ∃ (k : Nat) (A1 : Option Addr) (N1 d1 : Nat), k ≤ n ∧ i = .int .i64 k ∧ v = .slice A1 N1 d1 ∧ N1 ≤ k ∧ Hid (N1 = (selK b.testBit k).length) ∧ Hid (wr.ownsRow w.heap.size 3 1 (.slice A1 N1 d1) N1 ((selK b.testBit k).map (Value.int .i64))) ∧ Below w.heap.size w wr) (fun _ i _ => n - (intOf i).toNat)
  case atStart => exact ⟨0, _, 0, _, Nat.zero_le _, rfl, rfl, Nat.le_refl _, Lib.hid rfl, HO2, HB2.out⟩
  case round =>
    obtain ⟨k, A1, N1, d1, hk, rfl, rfl, hN1, HN1, HOW, hb⟩ := hrel
    have HBR := Lib.hid hb
    clear hb
    by_cases hlt : k < n
    case neg =>
      obtain rfl : k = n := by omega
      clear hlt
      go_wp2
      go_ret3
      obtain ⟨rfl, rfl⟩ := HX.out
      exact ⟨A1, N1, d1, rfl, HN1, HOW.out, HBR.out⟩
    case pos =>
    have hltI : (k : Int) < n := by omega
    have hsz : w.heap.size ≤ wr.heap.size := HBR.out.size
    have hbit := bit_of b k hbm
    obtain ⟨tb, htb⟩ : ∃ t, b.testBit k = t := ⟨_, rfl⟩
    rw [htb] at hbit
    cases tb
    case false =>
      rw [if_neg (by decide)] at hbit
      have HTO : Hid (selK b.testBit (k + 1) = selK b.testBit k) := Lib.hid (sel_out htb)
      have HN2 : Hid (N1 = (selK b.testBit (k + 1)).length) := Lib.hid (by rw [HTO.out]; exact HN1.out)
      have HO3 : Hid (wr.ownsRow w.heap.size 3 1 (.slice A1 N1 d1) N1 ((selK b.testBit (k + 1)).map (Value.int .i64))) := Lib.hid (by rw [HTO.out]; exact HOW.out)
      clear htb
      go_wp2
      go_roundw
      case rel => exact ⟨k + 1, A1, N1, d1, by omega, by go_num, rfl, by omega, HN2, HO3, HBR.out⟩
      case measure => simp [intOf]; omega
    case true =>
    rw [if_pos rfl] at hbit
    have HTO : Hid (selK b.testBit (k + 1) = selK b.testBit k ++ [(k : Int)]) := Lib.hid (sel_in htb)
    clear htb
    go_wp2_with (at_builtin; refine wp_app rfl (.tmp 34) (.tmp 36) 29 3 rfl w.heap.size Tryd.underlying29 Tryd.inf_int rfl (by decide) (by decide) _ N1 _ rfl (HOW.out.alloc _) _ _ [.int .i64 (k : Int)] rfl rfl (news1 (new_at_ _ _ _ _ rfl)) (news_int _) (by omega) (by simp; omega) ?_)
    intro A3 d3 N3 w3 hN3 hown3 hgrow3 hloc3
    have HB3 := Lib.hid ((HBR.out.alloc hsz _).grown hgrow3 (by simp; omega) (fun g hg => (HOW.out.lt g hg).1))
    have HO3 : Hid (w3.ownsRow w.heap.size 3 1 (.slice A3 N3 d3) N3 ((selK b.testBit (k + 1)).map (Value.int .i64))) := Lib.hid (by rw [HTO.out, List.map_append]; exact hown3)
    have HN4 : Hid (N3 = (selK b.testBit (k + 1)).length) := Lib.hid (by rw [HTO.out, List.length_append, ← HN1.out, hN3]; rfl)
    have hN5 : N3 ≤ k + 1 := by omega
    clear hown3 hgrow3 hloc3 hN3
    go_wp2
    go_roundw
    case rel => exact ⟨k + 1, A3, N3, d3, by omega, by go_num, rfl, hN5, HN4, HO3, HB3.out⟩
    case measure => simp [intOf]; omega
end Go.Proofs.YtbnfogedmjjiaaaDoor
