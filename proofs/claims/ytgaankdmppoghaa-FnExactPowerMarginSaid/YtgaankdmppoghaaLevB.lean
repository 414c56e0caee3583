/- Contracts: the levels along a line by the implementation. No condition but those typed. -/
import Derived.Test.YtgaankdmppoghaaLevA
namespace Go.Proofs.Ytgaankdmppoghaa
open Go.ChangeShapes Go.WideShapes Go.ChangeAt Go.RowKit

theorem levAns_nil {qs : List Q3} {am : List Q4} {l : Int} {w w' : World} (h : levOk qs am l = false) (hb : Below w.heap.size w w') : LevAns qs am l w (.returned (.tuple #[.slice none 0 0, .slice none 0 0, .bool false])) w' :=
  levAns_no h (World.ownsRow_nil _ _ _ _) (World.ownsRow_nil _ _ _ _) (Apart.nil _) hb
set_option maxHeartbeats 8000000 in
set_option maxRecDepth 100000 in
theorem iLevels_ (g1 n1 c1 g2 n2 : Nat) (qs : List Q3) (am : List Q4) (l : Int) (w : World) (hn1 : qs.length = n1) (hs1 : n1 ≤ 1048576) (hr1 : Rd w w.heap.size (some ⟨g1, 0, none⟩) (qs.flatMap Q3.cells)) (hn2 : am.length = n2) (hs2 : n2 ≤ 1048576) (hr2 : Rd w w.heap.size (some ⟨g2, 0, none⟩) (am.flatMap Q4.cells)) :
    Calls Try.prog 61 #[.slice (some ⟨g1, 0, none⟩) n1 c1, .slice (some ⟨g2, 0, none⟩) n2 n2, .int .i64 l] w (LevAns qs am l w) := by
  have HN1 := Lib.hid hn1; have HN2 := Lib.hid hn2; have HR1 := Lib.hid hr1; have HR2 := Lib.hid hr2
  have CL : Hid (∀ W, Below w.heap.size w W → Calls Try.prog 56 #[.slice (some ⟨g1, 0, none⟩) n1 c1] W (RetV (.bool (lineB qs)) W)) := Lib.hid fun W hb => iLine g1 n1 c1 qs W hn1 hs1 (hr1.moved hb)
  have CA : Hid (∀ W, Below w.heap.size w W → Calls Try.prog 69 #[.int .i64 n1, .slice (some ⟨g2, 0, none⟩) n2 n2] W (RetV (.bool (ampsB am (qs.length : Int))) W)) := Lib.hid fun W hb => by
    rw [hn1]; exact iList g2 n2 n2 am n1 W hn2 hs2 (hr2.moved hb)
  have CV : Hid (∀ (W : World) (g c : Nat), Rd W W.heap.size (some ⟨g, 0, none⟩) ([l].map (Value.int .i64)) → Calls Try.prog 59 #[.slice (some ⟨g, 0, none⟩) 1 c] W (RetV (.bool (levB l)) W)) := Lib.hid (fun W g c h => iLevel1 l h)
  clear hn1 hr1 hn2 hr2
  obtain ⟨r1, e1⟩ : ∃ r, lineB qs = r := ⟨_, rfl⟩
  obtain ⟨r2, e2⟩ : ∃ r, ampsB am (qs.length : Int) = r := ⟨_, rfl⟩
  obtain ⟨r3, e3⟩ : ∃ r, levB l = r := ⟨_, rfl⟩
  have HARG : Hid (argB qs am l = (r1 && r2 && r3)) := Lib.hid (by unfold argB; rw [e1, e2, e3])
  have HP : Hid (r1 = true → r2 = true → r3 = true → argsP qs am l) := Lib.hid fun h1 h2 h3 => (arg_parts (e1.trans h1) (e2.trans h2) (e3.trans h3)).2
  rw [e1] at CL; rw [e2] at CA; rw [e3] at CV
  clear e1 e2 e3
  go_enter Try.func61, Try.ntmps61
  go_wp2_with fail
  have HB0 := Lib.hid (Below.refl w.heap.size w)
  cases r1
  case false =>
    have HQ := Lib.hid (lev_arg (HARG.out.trans rfl))
    refine (CL.out w HB0.out).mono ?_
    rintro e w1 ⟨rfl, hb1⟩
    go_wp2
    go_ret3
    exact levAns_nil HQ.out hb1
  case true =>
  refine (CL.out w HB0.out).mono ?_
  rintro e w1 ⟨rfl, hb1⟩
  have HB1 := Lib.hid hb1
  clear hb1 CL HB0
  go_wp2_with fail
  cases r2
  case false =>
    have HQ := Lib.hid (lev_arg (HARG.out.trans rfl))
    refine (CA.out w1 HB1.out).mono ?_
    rintro e w2 ⟨rfl, hb2⟩
    have HB2 := Lib.hid (HB1.out.trans (hb2.mono HB1.out.size))
    clear hb2
    go_wp2
    go_ret3
    exact levAns_nil HQ.out HB2.out
  case true =>
  refine (CA.out w1 HB1.out).mono ?_
  rintro e w2 ⟨rfl, hb2⟩
  have HB2 := Lib.hid (HB1.out.trans (hb2.mono HB1.out.size))
  clear hb2 CA HB1
  go_wp2_with fail
  cases r3
  case false =>
    have HQ := Lib.hid (lev_arg (HARG.out.trans rfl))
    refine (CV.out _ _ _ (rd_i1 (by simp) l _)).mono ?_
    rintro e w3 ⟨rfl, hb3⟩
    have HB3 := Lib.hid ((HB2.out.alloc HB2.out.size (Obj.cells #[.int .i64 l] 3)).trans (hb3.mono (by have := HB2.out.size; simp; omega)))
    clear hb3
    go_wp2
    go_ret3
    exact levAns_nil HQ.out HB3.out
  case true =>
  refine (CV.out _ _ _ (rd_i1 (by simp) l _)).mono ?_
  rintro e w3 ⟨rfl, hb3⟩
  have HB3 := Lib.hid ((HB2.out.alloc HB2.out.size (Obj.cells #[.int .i64 l] 3)).trans (hb3.mono (by have := HB2.out.size; simp; omega)))
  have HPP := Lib.hid (HP.out (by trivial) (by trivial) (by trivial))
  clear hb3 CV HP HB2
  go_wp2
  go_loopw [1, 6, 7, 9, 31] (fun ls v v' x i wr => ∃ (k t m o : Nat) (A : Option Addr) (c : Nat) (A' : Option Addr) (c' : Nat) (z : Int), k ≤ n1 ∧ m + t = n2 ∧ k ≤ 12 ∧ ls = .slice (some ⟨g2, o, none⟩) m m ∧ i = .int .i64 k ∧ x = .int .i64 z ∧ v = .slice A k c ∧ v' = .slice A' k c' ∧ -10000 ≤ z ∧ z ≤ 10000 ∧ Hid (0 < m → o = t * 4) ∧ Hid (lvS qs am l k = (z, t)) ∧ Hid (∀ j, j < k → levB (befI qs am l j) = true) ∧ Hid (wr.ownsRow w.heap.size 3 1 (.slice A k c) k ((befL qs am l k).map (Value.int .i64))) ∧ Hid (wr.ownsRow w.heap.size 3 1 (.slice A' k c') k ((aftL qs am l k).map (Value.int .i64))) ∧ Hid (Apart (.slice A k c) (.slice A' k c')) ∧ Hid (Below w.heap.size w wr)) (fun _ _ _ _ i _ => n1 - (intOf i).toNat)
  case atStart =>
    have hl := levB_yes HPP.out.2.2
    exact ⟨0, 0, n2, 0, _, _, _, _, l, Nat.zero_le _, rfl, by omega, rfl, rfl, rfl, rfl, rfl, hl.1, hl.2, Lib.hid (fun _ => rfl), Lib.hid rfl, Lib.hid (fun j hj => by omega), Lib.hid (World.ownsRow_nil _ _ _ _), Lib.hid (World.ownsRow_nil _ _ _ _), Lib.hid (Apart.nil _), HB3⟩
  case round =>
    clear HB3
    obtain ⟨k, t, m, o, A, c, A', c', z, hk, hmt, hk12, rfl, rfl, rfl, rfl, rfl, hz0, hz1, HOF, HL, HJ, HOW, HOW', HAP, HBR⟩ := hrel
    by_cases hlt : k < n1
    case neg =>
      obtain rfl : k = n1 := by omega
      have HQ := Lib.hid (lev_yes (HARG.out.trans rfl) fun j hj => HJ.out j (by have := HN1.out; omega))
      have HMT := Lib.hid hmt
      clear hlt hmt
      go_wp2
      go_ret3
      exact levAns_yes HQ.out HN1.out HOW.out HOW'.out HAP.out HBR.out
    case pos =>
    have hks : k < qs.length := by have := HN1.out; omega
    have hrc := (HR1.out.over HBR.out).q3c hks
    rw [Nat.zero_add] at hrc
    obtain ⟨⟨a, b, c3⟩, hq⟩ : ∃ q, qs[k]'hks = q := ⟨_, rfl⟩
    rw [hq] at hrc
    obtain ⟨hg, f0, f1, f2⟩ := hrc
    simp only at f0 f1 f2
    have hsp : spB ⟨a, b, c3⟩ = true := by
      have := List.all_eq_true.1 (lineB_true HPP.out.1).2 _ (List.getElem_mem hks)
      rw [hq] at this; exact this
    have hbd := loss_bd hsp
    have hgd : qs.getD k spz = ⟨a, b, c3⟩ := by rw [List.getD_eq_getElem?_getD, List.getElem?_eq_getElem hks]; exact hq
    have CLS : Hid (∀ W, Calls Try.prog 57 #[.agg #[.int .i64 a, .int .i64 b, .int .i64 c3]] W (RetV (.int .i64 (lossI ⟨a, b, c3⟩)) W)) := Lib.hid fun W => iLoss a b c3 W hsp
    obtain ⟨y, hy⟩ : ∃ y, lossI ⟨a, b, c3⟩ = y := ⟨_, rfl⟩
    rw [hy] at CLS hbd
    have HY : Hid (lossI (qs.getD k spz) = y) := Lib.hid (by rw [hgd]; exact hy)
    obtain ⟨y0, y1⟩ := hbd
    have HMT := Lib.hid hmt
    clear hq hsp hgd hy hmt
    go_wp2_with fail
    refine (CLS.out _).mono ?_
    rintro e w4 ⟨rfl, hb4⟩
    have HB4 := Lib.hid ((HBR.out.alloc HBR.out.size (Obj.cells #[.int .i64 a, .int .i64 b, .int .i64 c3] 26)).trans (hb4.mono (by have := HBR.out.size; simp; omega)))
    have HO4 := Lib.hid (ownB (HOW.out.alloc (Obj.cells #[.int .i64 a, .int .i64 b, .int .i64 c3] 26)) hb4); have HQ4 := Lib.hid (ownB (HOW'.out.alloc (Obj.cells #[.int .i64 a, .int .i64 b, .int .i64 c3] 26)) hb4)
    clear hb4 f0 f1 f2 HOW HOW' HBR
    have CV2 : Hid (∀ (W : World) (g c : Nat), Rd W W.heap.size (some ⟨g, 0, none⟩) ([z - y].map (Value.int .i64)) → Calls Try.prog 59 #[.slice (some ⟨g, 0, none⟩) 1 c] W (RetV (.bool (levB (z - y))) W)) := Lib.hid (fun W g c h => iLevel1 (z - y) h)
    obtain ⟨r, hr⟩ : ∃ r, levB (z - y) = r := ⟨_, rfl⟩
    rw [hr] at CV2
    have HR := Lib.hid hr; clear hr
    go_wp2_with fail
    refine (CV2.out _ _ _ (rd_i1 (by simp) (z - y) _)).mono ?_
    rintro e w5 ⟨rfl, hb5⟩
    have HB5 := Lib.hid ((HB4.out.alloc HB4.out.size (Obj.cells #[.int .i64 (z - y)] 3)).trans (hb5.mono (by have := HB4.out.size; simp; omega)))
    have HO5 := Lib.hid (ownB (HO4.out.alloc (Obj.cells #[.int .i64 (z - y)] 3)) hb5); have HQ5 := Lib.hid (ownB (HQ4.out.alloc (Obj.cells #[.int .i64 (z - y)] 3)) hb5)
    clear hb5 HB4 HO4 HQ4 CV2
    cases r
    case false =>
      have HQ := Lib.hid (lev_no hks (by rw [lv_bef HL.out HY.out]; exact HR.out))
      go_wp2
      go_ret3
      exact levAns_nil HQ.out HB5.out
    case true =>
    have hzy := levB_yes HR.out
    obtain ⟨zy0, zy1⟩ := hzy
    have HJ1 : Hid (∀ j, j < k + 1 → levB (befI qs am l j) = true) := Lib.hid fun j hj => by
      by_cases hjk : j < k
      · exact HJ.out j hjk
      · obtain rfl : j = k := by omega
        rw [lv_bef HL.out HY.out]; exact HR.out
    clear HJ
    go_wp2_with (at_builtin; refine wp_app rfl (.tmp 44) (.tmp 46) 35 3 rfl w.heap.size Try.underlying35 Try.inf_int rfl (by decide) (by decide) _ k _ rfl (HO5.out.alloc _) _ _ [.int .i64 (z - y)] rfl rfl (news1 (by simp [go_sem])) (news_int _) (by omega) (by have := HB5.out.size; simp; omega) ?_)
    intro A6 d6 N6 W6 hN6 ho6 hg6 hl6
    subst hN6
    rw [bef_next HL.out HY.out] at ho6
    have HO6 := Lib.hid ho6
    have HQ6 := Lib.hid (HAP.out.symm.kept (HQ5.out.alloc (Obj.cells #[.int .i64 (z - y)] 3)) hg6)
    have HA6 := Lib.hid ((HAP.out.symm.loc (HQ5.out.alloc (Obj.cells #[.int .i64 (z - y)] 3)) (hl6.imp id fun h => h.trans (by simp))).symm)
    have HB6 := Lib.hid ((HB5.out.alloc HB5.out.size (Obj.cells #[.int .i64 (z - y)] 3)).grown hg6 (by have := HB5.out.size; simp; omega) (fun g h => ((HO5.out.alloc (Obj.cells #[.int .i64 (z - y)] 3)).lt g h).1))
    clear ho6 hg6 hl6 HO5 HQ5 HAP HB5 CLS
    have hk12' : k < 12 := by have := (lineB_true HPP.out.1).1.2; omega
    rcases Nat.eq_zero_or_pos m with hm0 | hm0
    · subst hm0
      have HV := Lib.hid (lv_keep HL.out HY.out (fun h => by have := h.1; have := HN2.out; have := HMT.out; omega))
      go_wp2_with (at_builtin; refine wp_app rfl (.tmp 66) (.tmp 68) 35 3 rfl w.heap.size Try.underlying35 Try.inf_int rfl (by decide) (by decide) _ k _ rfl (HQ6.out.alloc _) _ _ [.int .i64 (z - y)] rfl rfl (news1 (by simp [go_sem])) (news_int _) (by omega) (by have := HB6.out.size; simp; omega) ?_)
      intro A8 d8 N8 W8 hN8 ho8 hg8 hl8
      subst hN8
      rw [aft_next HV.out] at ho8
      have HQ8 := Lib.hid ho8
      have HO8 := Lib.hid (HA6.out.kept (HO6.out.alloc (Obj.cells #[.int .i64 (z - y)] 3)) hg8)
      have HA8 := Lib.hid (HA6.out.loc (HO6.out.alloc (Obj.cells #[.int .i64 (z - y)] 3)) (hl8.imp id fun h => h.trans (by simp)))
      have HB8 := Lib.hid ((HB6.out.alloc HB6.out.size (Obj.cells #[.int .i64 (z - y)] 3)).grown hg8 (by have := HB6.out.size; simp; omega) (fun g h => ((HQ6.out.alloc (Obj.cells #[.int .i64 (z - y)] 3)).lt g h).1))
      clear ho8 hg8 hl8
      go_wp2
      go_roundw
      case rel => exact ⟨k + 1, t, 0, o, A6, d6, A8, d8, (z - y), by omega, by have := HMT.out; omega, by omega, rfl, by go_num, rfl, rfl, rfl, by omega, by omega, Lib.hid (fun h => by omega), HV, HJ1, HO8, HQ8, HA8, HB8⟩
      case measure => simp [intOf]; omega
    have hts : t < am.length := by have := HN2.out; have := HMT.out; omega
    have hrc := (HR2.out.over HB6.out).q4c hts
    rw [Nat.zero_add] at hrc
    obtain rfl : o = t * 4 := HOF.out hm0
    obtain ⟨⟨a', b', c', d'⟩, hq⟩ : ∃ q, am[t]'hts = q := ⟨_, rfl⟩
    have HG : Hid (am.getD t amz = ⟨a', b', c', d'⟩) := Lib.hid ((getD_at hts).trans hq)
    rw [hq] at hrc
    obtain ⟨hg, f0, f1, f2, f3⟩ := hrc
    simp only at f0 f1 f2 f3
    clear hq
    by_cases ha : a' = (k : Int)
    case neg =>
      have q1 : (a' == (k : Int)) = false := by simpa using ha
      have HV := Lib.hid (lv_keep HL.out HY.out (fun h => ha (by have := h.2; rw [HG.out] at this; exact this)))
      clear ha
      go_wp2_with (at_builtin; refine wp_app rfl (.tmp 66) (.tmp 68) 35 3 rfl w.heap.size Try.underlying35 Try.inf_int rfl (by decide) (by decide) _ k _ rfl (HQ6.out.alloc _) _ _ [.int .i64 (z - y)] rfl rfl (news1 (by simp [go_sem])) (news_int _) (by omega) (by have := HB6.out.size; simp; omega) ?_)
      intro A8 d8 N8 W8 hN8 ho8 hg8 hl8
      subst hN8
      rw [aft_next HV.out] at ho8
      have HQ8 := Lib.hid ho8
      have HO8 := Lib.hid (HA6.out.kept (HO6.out.alloc (Obj.cells #[.int .i64 (z - y)] 3)) hg8)
      have HA8 := Lib.hid (HA6.out.loc (HO6.out.alloc (Obj.cells #[.int .i64 (z - y)] 3)) (hl8.imp id fun h => h.trans (by simp)))
      have HB8 := Lib.hid ((HB6.out.alloc HB6.out.size (Obj.cells #[.int .i64 (z - y)] 3)).grown hg8 (by have := HB6.out.size; simp; omega) (fun g h => ((HQ6.out.alloc (Obj.cells #[.int .i64 (z - y)] 3)).lt g h).1))
      clear ho8 hg8 hl8
      go_wp2
      go_roundw
      case rel => exact ⟨k + 1, t, m, t * 4, A6, d6, A8, d8, (z - y), by omega, by have := HMT.out; omega, by omega, rfl, by go_num, rfl, rfl, rfl, by omega, by omega, Lib.hid (fun _ => rfl), HV, HJ1, HO8, HQ8, HA8, HB8⟩
      case measure => simp [intOf]; omega
    case pos =>
    subst ha
    have hkd : kindB ⟨(k : Int), b', c', d'⟩ = true := by
      have := HPP.out.2.1 t hts
      unfold ampK at this
      rw [HG.out] at this
      simp only [Bool.and_eq_true] at this
      exact this.1
    have HV := Lib.hid (lv_raise HL.out HY.out hts HG.out rfl)
    have CR : Hid (∀ W, Calls Try.prog 70 #[.agg #[.int .i64 (k : Int), .int .i64 b', .int .i64 c', .int .i64 d'], .int .i64 (z - y)] W (RetV (.int .i64 (raiseI ⟨(k : Int), b', c', d'⟩ (z - y))) W)) := Lib.hid fun W => iRaise (k : Int) b' c' d' (z - y) W hkd zy0 zy1
    have hrb := raise_bd hkd zy0 zy1
    obtain ⟨x, hx⟩ : ∃ x, raiseI ⟨(k : Int), b', c', d'⟩ (z - y) = x := ⟨_, rfl⟩
    rw [hx] at HV CR hrb
    obtain ⟨x0, x1⟩ := hrb
    clear hx hkd
    go_wp2_with fail
    refine (CR.out _).mono ?_
    rintro e w7 ⟨rfl, hb7⟩
    have HB7 := Lib.hid (HB6.out.trans (hb7.mono HB6.out.size)); have HO7 := Lib.hid (ownB HO6.out hb7); have HQ7 := Lib.hid (ownB HQ6.out hb7)
    clear hb7 f0 f1 f2 f3 HO6 HQ6 HB6
    obtain ⟨m', rfl⟩ : ∃ m', m = m' + 1 := ⟨m - 1, by omega⟩
    rcases Nat.eq_zero_or_pos m' with hm1 | hm1
    · subst hm1
      go_wp2_with (at_builtin; refine wp_app rfl (.tmp 66) (.tmp 68) 35 3 rfl w.heap.size Try.underlying35 Try.inf_int rfl (by decide) (by decide) _ k _ rfl (HQ7.out.alloc _) _ _ [.int .i64 x] rfl rfl (news1 (by simp [go_sem])) (news_int _) (by omega) (by have := HB7.out.size; simp; omega) ?_)
      intro A8 d8 N8 W8 hN8 ho8 hg8 hl8
      subst hN8
      rw [aft_next HV.out] at ho8
      have HQ8 := Lib.hid ho8
      have HO8 := Lib.hid (HA6.out.kept (HO7.out.alloc (Obj.cells #[.int .i64 x] 3)) hg8)
      have HA8 := Lib.hid (HA6.out.loc (HO7.out.alloc (Obj.cells #[.int .i64 x] 3)) (hl8.imp id fun h => h.trans (by simp)))
      have HB8 := Lib.hid ((HB7.out.alloc HB7.out.size (Obj.cells #[.int .i64 x] 3)).grown hg8 (by have := HB7.out.size; simp; omega) (fun g h => ((HQ7.out.alloc (Obj.cells #[.int .i64 x] 3)).lt g h).1))
      clear ho8 hg8 hl8
      go_wp2
      go_roundw
      case rel => exact ⟨k + 1, t + 1, 0, _, A6, d6, A8, d8, x, by omega, by have := HMT.out; omega, by omega, rfl, by go_num, rfl, rfl, rfl, by omega, by omega, Lib.hid (fun h => by omega), HV, HJ1, HO8, HQ8, HA8, HB8⟩
      case measure => simp [intOf]; omega
    · have hm2 : ¬ (m' + 1 = 1) := by omega
      go_wp2_with (at_builtin; refine wp_app rfl (.tmp 66) (.tmp 68) 35 3 rfl w.heap.size Try.underlying35 Try.inf_int rfl (by decide) (by decide) _ k _ rfl (HQ7.out.alloc _) _ _ [.int .i64 x] rfl rfl (news1 (by simp [go_sem])) (news_int _) (by omega) (by have := HB7.out.size; simp; omega) ?_)
      intro A8 d8 N8 W8 hN8 ho8 hg8 hl8
      subst hN8
      rw [aft_next HV.out] at ho8
      have HQ8 := Lib.hid ho8
      have HO8 := Lib.hid (HA6.out.kept (HO7.out.alloc (Obj.cells #[.int .i64 x] 3)) hg8)
      have HA8 := Lib.hid (HA6.out.loc (HO7.out.alloc (Obj.cells #[.int .i64 x] 3)) (hl8.imp id fun h => h.trans (by simp)))
      have HB8 := Lib.hid ((HB7.out.alloc HB7.out.size (Obj.cells #[.int .i64 x] 3)).grown hg8 (by have := HB7.out.size; simp; omega) (fun g h => ((HQ7.out.alloc (Obj.cells #[.int .i64 x] 3)).lt g h).1))
      clear ho8 hg8 hl8
      go_wp2
      go_roundw
      case rel => exact ⟨k + 1, t + 1, m', _, A6, d6, A8, d8, x, by omega, by have := HMT.out; omega, by omega, rfl, by go_num, rfl, rfl, rfl, by omega, by omega, Lib.hid (fun _ => by omega), HV, HJ1, HO8, HQ8, HA8, HB8⟩
      case measure => simp [intOf]; omega
end Go.Proofs.Ytgaankdmppoghaa
