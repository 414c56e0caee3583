/- Routes that share a risk group: contract of spec.l4Apart. No condition but those typed. -/
import Derived.Test.YtlgkjidginibdaaDoorCmp3
import Derived.Test.YtlgkjidginibdaaDoorFail
import Derived.Test.YtlgkjidginibdaaDoorGrpP
import Derived.Deep.DeepCutAuto
namespace Go.Proofs.YtlgkjidginibdaaDoor
open Go.ChangeShapes Go.WideShapes Go.ChangeAt Go.RowKit

set_option maxRecDepth 100000 in
set_option maxHeartbeats 8000000 in
theorem l4Apart_ {g1 g2 n1 n2 c1 c2 : Nat} {ss : List ByteArray} {fs : List Q4} {w : World} (h : NetAt g1 g2 n1 n2 c1 c2 ss fs w) (hv : netP ss fs) (st : Int) {A : Option Addr} {n c : Nat} {xs : List Int} (hn : xs.length = n) (hr : Rd w w.heap.size A (xs.map (Value.int .i64))) (hx : n ≤ 1048576) (st2 : Int) {A2 : Option Addr} {m c3 : Nat} {ys : List Int} (hm : ys.length = m) (hr2 : Rd w w.heap.size A2 (ys.map (Value.int .i64))) (hx2 : m ≤ 1048576) (hmx : ∀ x ∈ xs, 0 ≤ x ∧ x < fs.length) :
    Calls Tryd.prog 84 #[.agg #[.slice (some ⟨g1, 0, none⟩) n1 c1, .slice (some ⟨g2, 0, none⟩) n2 c2], .agg #[.int .i64 st, .slice A n c], .agg #[.int .i64 st2, .slice A2 m c3]] w (RetP (.bool (pb (apP fs xs ys))) w) := by
  have HNT := Lib.hid h; have HN := Lib.hid hn; have HR := Lib.hid hr; have HM := Lib.hid hm; have HR2 := Lib.hid hr2
  have HL2 := Lib.hid h.ln2
  clear h hn hr hm hr2
  have HV := Lib.hid hv; have HMX := Lib.hid hmx
  clear hv hmx
  obtain ⟨R, hRR⟩ : ∃ R, pb (apP fs xs ys) = R := ⟨_, rfl⟩
  rw [hRR]
  have HRR := Lib.hid hRR
  clear hRR
  go_enter Tryd.func84, Tryd.ntmps84
  go_wp2
  obtain ⟨W0, hW0⟩ : ∃ W0, ((w.alloc (Obj.cells #[.slice (some ⟨g1, 0, none⟩) n1 c1, .slice (some ⟨g2, 0, none⟩) n2 c2] 34)).alloc (Obj.cells #[.int .i64 st, .slice A n c] 64)).alloc (Obj.cells #[.int .i64 st2, .slice A2 m c3] 64) = W0 := ⟨_, rfl⟩
  have hb0 : Below w.heap.size w W0 := by rw [← hW0]; exact (((Below.refl _ _).alloc (Nat.le_refl _) _).alloc (by simp) _).alloc (by simp; omega) _
  have k0 : W0.cell? ⟨w.heap.size, 0, none⟩ = some (.slice (some ⟨g1, 0, none⟩) n1 c1) := by rw [← hW0]; simp [go_sem]
  have k1 : W0.cell? ⟨w.heap.size, 1, none⟩ = some (.slice (some ⟨g2, 0, none⟩) n2 c2) := by rw [← hW0]; simp [go_sem]
  have k2 : W0.cell? ⟨w.heap.size + 1, 0, none⟩ = some (.int .i64 st) := by rw [← hW0]; simp [go_sem]
  have k3 : W0.cell? ⟨w.heap.size + 1, 1, none⟩ = some (.slice A n c) := by rw [← hW0]; simp [go_sem]
  have k4 : W0.cell? ⟨w.heap.size + 1 + 1, 0, none⟩ = some (.int .i64 st2) := by rw [← hW0]; simp [go_sem]
  have k5 : W0.cell? ⟨w.heap.size + 1 + 1, 1, none⟩ = some (.slice A2 m c3) := by rw [← hW0]; simp [go_sem]
  have hz0 : w.heap.size + 2 < W0.heap.size := by rw [← hW0]; simp
  have HB0 := Lib.hid hb0
  rw [hW0]
  clear hW0 hb0
  have HK0 := Lib.hid k0
  have HK1 := Lib.hid k1
  have HK2 := Lib.hid k2
  have HK3 := Lib.hid k3
  have HK4 := Lib.hid k4
  have HK5 := Lib.hid k5
  have HZB := Lib.hid hz0
  clear k0 k1 k2 k3 k4 k5 hz0
  go_loopw [7] (fun i wr => ∃ k : Nat, k ≤ n ∧ i = .int .i64 k ∧ Hid (∀ i, i < k → ∀ j, j < ys.length → ¬ ys.getD j 0 ∈ grpI fs (xs.getD i 0)) ∧ Below W0.heap.size W0 wr) (fun i _ => n - (intOf i).toNat)
  case atStart => exact ⟨0, Nat.zero_le _, rfl, Lib.hid (fun i hi => by omega), Below.refl _ _⟩
  case round =>
    obtain ⟨k, hk, rfl, HA, hb⟩ := hrel
    have HBW := Lib.hid (HB0.out.trans (hb.mono HB0.out.size))
    have HBR := Lib.hid hb
    have hz0 := HZB.out
    have l0 := (hb.cell (p := ⟨w.heap.size, 0, none⟩) (by show w.heap.size < _; omega)).trans HK0.out
    have l1 := (hb.cell (p := ⟨w.heap.size, 1, none⟩) (by show w.heap.size < _; omega)).trans HK1.out
    have l2 := (hb.cell (p := ⟨w.heap.size + 1, 0, none⟩) (by show w.heap.size + 1 < _; omega)).trans HK2.out
    have l3 := (hb.cell (p := ⟨w.heap.size + 1, 1, none⟩) (by show w.heap.size + 1 < _; omega)).trans HK3.out
    have l4 := (hb.cell (p := ⟨w.heap.size + 1 + 1, 0, none⟩) (by show w.heap.size + 1 + 1 < _; omega)).trans HK4.out
    have l5 := (hb.cell (p := ⟨w.heap.size + 1 + 1, 1, none⟩) (by show w.heap.size + 1 + 1 < _; omega)).trans HK5.out
    have hg0 : w.heap.size < wr.heap.size := by have := hb.size; omega
    have hg1 : w.heap.size + 1 < wr.heap.size := by have := hb.size; omega
    clear hz0 hb
    by_cases hlt : k < n
    case neg =>
      have HE : Hid (true = R) := Lib.hid (by rw [← HRR.out]; exact (pb_true (fun i hi j hj => HA.out i (by have := HN.out; omega) j hj)).symm)
      go_wp2
      go_ret
      exact ⟨retb HE.out, HBW.out⟩
    case pos =>
    have hkx : k < xs.length := by have := HN.out; omega
    obtain ⟨ad, hA, hbl, hc1⟩ := ints_at HR.out hkx
    subst hA
    rw [← HBW.out.cell (by rw [addBlock]; exact hbl)] at hc1
    have hxm := HMX.out xs[k] (List.getElem_mem hkx)
    obtain ⟨a, ha⟩ : ∃ a, xs[k]'hkx = a := ⟨_, rfl⟩
    have HXA : Hid (xs.getD k 0 = a) := Lib.hid (by rw [List.getD_eq_getElem?_getD, List.getElem?_eq_getElem hkx, ha]; rfl)
    rw [ha] at hc1 hxm
    clear ha
    obtain ⟨aa, rfl⟩ : ∃ aa : Nat, a = aa := ⟨a.toNat, by omega⟩
    have haf : aa < fs.length := by omega
    have hgl : (grpI fs (aa : Int)).length ≤ 15 := by have h1 := grp_len fs (aa : Int); have h2 : fs.length ≤ 14 := HV.out.2.1; omega
    have CG : Hid (∀ W, Bel wr W → Calls Tryd.prog 99 #[.agg #[.slice (some ⟨g1, 0, none⟩) n1 c1, .slice (some ⟨g2, 0, none⟩) n2 c2], .int .i64 (aa : Int)] W (IntP (grpI fs (aa : Int)) W)) := Lib.hid (fun W hb => group_ (HNT.out.moved (HBW.out.trans ((Bel.out hb).mono HBW.out.size))) aa (by have := HL2.out; omega) (fibI fs (aa : Int)) (fun h9 => by unfold fibI; rw [List.getD_eq_getElem?_getD, show ((aa : Nat) : Int).toNat = aa by omega, List.getElem?_eq_getElem h9]; rfl))
    obtain ⟨G, hG⟩ : ∃ G, grpI fs (aa : Int) = G := ⟨_, rfl⟩
    rw [hG] at CG hgl
    have HG := Lib.hid hG
    have hga : (ad.add k).block < wr.heap.size := by rw [addBlock]; exact Nat.lt_of_lt_of_le hbl HBW.out.size
    clear hG hkx hxm haf
    go_wp2
    have hbd : Bel wr wr.drew := Bel.of (Below.refl _ _).drew
    go_upto_region 4 with fail
    go_cut [8] (fun s8 wx => ∃ (A9 : Option Addr) (N9 c9 : Nat), s8 = .slice A9 N9 c9 ∧ Hid (N9 = G.length) ∧ Hid (Rd wx wx.heap.size A9 (G.map (Value.int .i64))) ∧ Bel wr wx)
    case first =>
      go_region_held3 (fun U => U.cell? ⟨w.heap.size, 0, none⟩ = some (.slice (some ⟨g1, 0, none⟩) n1 c1) ∧ U.cell? ⟨w.heap.size, 1, none⟩ = some (.slice (some ⟨g2, 0, none⟩) n2 c2) ∧ U.cell? ⟨w.heap.size + 1, 1, none⟩ = some (.slice (some ad) n c) ∧ U.cell? (ad.add k) = some (.int .i64 (aa : Int)) ∧ Bel wr U)
        (first | (go_keep; done) | (go_split_ands; (refine ⟨?_, ?_, ?_, ?_, ?_⟩ <;> first | assumption | exact Bel.step (by assumption) hb9 | exact (Bel.at_ (by assumption) hb9 (by assumption)).trans (by assumption) | exact (hb9.cell (Nat.lt_of_lt_of_le hga (Bel.out (by assumption)).size)).trans (by assumption))))
        (first
          | (go_at_call 99; go_split_ands; refine (CG.out _ (by assumption)).mono ?_; rintro e u1 ⟨A9, N9, c9, rfl, HN9, ho9, hb9⟩))
      all_goals
        go_split_ands
        have hbl9 : Bel wr u1 := by assumption
        go_wp2_with fail
        go_meet
        exact ⟨A9, N9, c9, rfl, HN9, Lib.hid (Rd.ofOwn ho9), hbl9⟩
    case rest =>
    clear hbd hg0 hg1 l0 l1 l2 l3 l4 l5 hc1 hga
    revert hcut; generalize wc = w5; intro hcut
    obtain ⟨A9, N9, c9, h0_, HN9, HR9, hb9⟩ := hcut
    subst h0_
    have HB5 := Lib.hid (HBR.out.trans ((Bel.out hb9).mono HBR.out.size))
    have HB5W := Lib.hid (HBW.out.trans ((Bel.out hb9).mono HBW.out.size))
    clear hb9
    have hz0 := HZB.out
    have m0 := (HB5.out.cell (p := ⟨w.heap.size, 0, none⟩) (by show w.heap.size < _; omega)).trans HK0.out
    have m1 := (HB5.out.cell (p := ⟨w.heap.size, 1, none⟩) (by show w.heap.size < _; omega)).trans HK1.out
    have m2 := (HB5.out.cell (p := ⟨w.heap.size + 1, 0, none⟩) (by show w.heap.size + 1 < _; omega)).trans HK2.out
    have m3 := (HB5.out.cell (p := ⟨w.heap.size + 1, 1, none⟩) (by show w.heap.size + 1 < _; omega)).trans HK3.out
    have m4 := (HB5.out.cell (p := ⟨w.heap.size + 1 + 1, 0, none⟩) (by show w.heap.size + 1 + 1 < _; omega)).trans HK4.out
    have m5 := (HB5.out.cell (p := ⟨w.heap.size + 1 + 1, 1, none⟩) (by show w.heap.size + 1 + 1 < _; omega)).trans HK5.out
    clear hz0
    have hn9 : N9 ≤ 15 := by have := HN9.out; omega
    go_wp2
    go_loop [9] (fun i => ∃ t : Nat, t ≤ m ∧ i = .int .i64 t ∧ Hid (∀ j, j < t → ¬ ys.getD j 0 ∈ G)) (fun i => m - (intOf i).toNat)
    case atStart => exact ⟨0, Nat.zero_le _, rfl, Lib.hid (fun j hj => by omega)⟩
    case round =>
      obtain ⟨t, ht, rfl, HA2⟩ := hrel
      by_cases hlt2 : t < m
      case neg =>
        have HA1 : Hid (∀ i, i < k + 1 → ∀ j, j < ys.length → ¬ ys.getD j 0 ∈ grpI fs (xs.getD i 0)) := Lib.hid (fun i hi j hj => by
          rcases Nat.lt_or_ge i k with h9 | h9
          · exact HA.out i h9 j hj
          · obtain rfl : i = k := by omega
            rw [HXA.out, HG.out]
            exact HA2.out j (by have := HM.out; omega))
        go_wp2
        go_roundw
        case rel => exact ⟨k + 1, by omega, by go_num, HA1, HB5.out⟩
        case measure => simp [intOf]; omega
      case pos =>
      have hty : t < ys.length := by have := HM.out; omega
      obtain ⟨ad2, hA2, hbl2, hc2⟩ := ints_at HR2.out hty
      subst hA2
      rw [← HB5W.out.cell (by rw [addBlock]; exact hbl2)] at hc2
      obtain ⟨b, hbb⟩ : ∃ b, ys[t]'hty = b := ⟨_, rfl⟩
      have HYB : Hid (ys.getD t 0 = b) := Lib.hid (by rw [List.getD_eq_getElem?_getD, List.getElem?_eq_getElem hty, hbb]; rfl)
      rw [hbb] at hc2
      have CH := Lib.hid (has_ A9 N9 c9 G b w5 HN9.out.symm HR9.out (by omega))
      clear hbb hty
      cases hin : decide (b ∈ G)
      case true =>
        have HE : Hid (false = R) := Lib.hid (by
          rw [← HRR.out]
          refine (pb_false (fun h => ?_)).symm
          have h9 := h k (by have := HN.out; omega) t (by have := HM.out; omega)
          rw [HXA.out, HG.out, HYB.out] at h9
          exact h9 (of_decide_eq_true hin))
        rw [hin] at CH
        clear hin
        go_wp2_with fail
        refine CH.out.mono ?_
        rintro e w' ⟨rfl, rfl⟩
        go_wp2
        go_ret
        exact ⟨retb HE.out, HB5W.out⟩
      case false =>
        have HA3 : Hid (∀ j, j < t + 1 → ¬ ys.getD j 0 ∈ G) := Lib.hid (fun j hj => by
          rcases Nat.lt_or_ge j t with h9 | h9
          · exact HA2.out j h9
          · obtain rfl : j = t := by omega
            rw [HYB.out]; exact of_decide_eq_false hin)
        rw [hin] at CH
        clear hin
        go_wp2_with fail
        refine CH.out.mono ?_
        rintro e w' ⟨rfl, rfl⟩
        go_wp2
        go_round
        case rel => exact ⟨t + 1, by omega, by go_num, HA3⟩
        case measure => simp [intOf]; omega

noncomputable def rdV (ss : List ByteArray) (fs : List Q4) (st : Int) (xs : List Int) (st' : Int) (ys : List Int) : Bool := crB ss fs st xs st' ys && pb (apP fs xs ys)
noncomputable def rdR (ss : List ByteArray) (fs : List Q4) (st : Int) (xs : List Int) (st' : Int) (ys : List Int) : Value := .tuple #[.bool (rdV ss fs st xs st' ys), .bool (crB ss fs st xs st' ys)]
theorem rd_no {ss : List ByteArray} {fs : List Q4} {st st' : Int} {xs ys : List Int} (h : crB ss fs st xs st' ys = false) : (.tuple #[.bool false, .bool false] : Value) = rdR ss fs st xs st' ys := by unfold rdR rdV; rw [h]; rfl
theorem rd_yes {ss : List ByteArray} {fs : List Q4} {st st' : Int} {xs ys : List Int} (h : crB ss fs st xs st' ys = true) : (.tuple #[.bool (pb (apP fs xs ys)), .bool true] : Value) = rdR ss fs st xs st' ys := by unfold rdR rdV; rw [h]; rfl

end Go.Proofs.YtlgkjidginibdaaDoor
