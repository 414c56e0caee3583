/- Contract: spec.ParseInt answers 'PR'. No condition. -/
import Derived.Test.YtbfbkedndnekpaaDoorLead
import Derived.Lib.IndexBytes
namespace Go.Proofs.YtbfbkedndnekpaaDoor
open Go.ChangeShapes Go.WideShapes Go.ChangeAt Go.RowKit
open Go.Lib (decDigits itoa)

set_option maxRecDepth 100000 in
set_option maxHeartbeats 2000000 in
theorem read_any (s : ByteArray) (w : World) (hs : s.size ≤ maxLen) : Calls Tryd.prog 43 #[.string s] w (PP s w) := by
  unfold maxLen at hs
  by_cases hneg : isNeg s.data.toList
  · have hno := none_neg hneg
    obtain ⟨hl, c, hc, h45⟩ := hneg
    have hsz : 1 < s.size := by simpa using hl
    have h0 : 0 < s.size := by omega
    have t1 : ((s[0].toNat : Int) == 45) = true := by
      have e : s.data.toList[0]? = some s[0] := List.getElem?_eq_getElem (by simpa using h0)
      rw [e] at hc; injection hc with hc; rw [hc, beq_iff_eq]; omega
    clear hl hc h45
    have hTl : (s.extract 1 s.size).data.toList = s.data.toList.drop 1 := Lib.extract_to_end s 1
    have hTs : (s.extract 1 s.size).size = s.size - 1 := by rw [ByteArray.size_extract]; omega
    obtain ⟨T, hT⟩ : ∃ T, s.extract 1 s.size = T := ⟨_, rfl⟩
    rw [hT] at hTl hTs
    have hTa : T.size + 1 ≤ s.size := by omega
    have hTb : s.size ≤ T.size + 1 := by omega
    have hlt0 : (T.size : Int) < s.size := by omega
    rw [← hTl] at hno
    have HNO : Hid (¬ (1 ≤ T.data.toList.length ∧ T.data.toList.length ≤ 6 ∧ T.data.toList.all digB = true ∧ itoa (-(dv 0 T.data.toList)) = s.data.toList) → PR s 0 false) := Lib.hid (fun h => PR_no (hno h))
    have HYES : Hid (∀ r : Int, r = -(dv 0 T.data.toList) → -999999 ≤ r → r ≤ 999999 → itoa r = s.data.toList → PR s r true) := Lib.hid (fun r _ a b c => PR_yes a b c)
    clear hno hTl hTs
    by_cases h16 : 1 ≤ T.size ∧ T.size ≤ 6
    · have hin := in_any (T.size : Int) 1 6
      have e16 : decide ((1 : Int) ≤ T.size ∧ (T.size : Int) ≤ 6) = true := by rw [decide_eq_true_iff]; omega
      rw [e16] at hin; clear e16
      have HI := Lib.hid hin; clear hin
      obtain ⟨h1, h6⟩ := h16
      go_enter Tryd.func43, Tryd.ntmps43
      go_wp2_with (go_at_call 38; refine (HI.out _).mono ?_; rintro e w' ⟨rfl, rfl⟩)
      go_loop [5, 6] (fun n i => ∃ (k : Nat) (v : Int), k ≤ T.size ∧ i = .int .i64 k ∧ n = .int .i64 v ∧ Hid (v = dv 0 (T.data.toList.take k)) ∧ Hid ((T.data.toList.take k).all digB = true) ∧ 0 ≤ v ∧ v ≤ 999999) (fun _ i => T.size - (intOf i).toNat)
      case atStart => exact ⟨0, 0, Nat.zero_le _, rfl, rfl, Lib.hid rfl, Lib.hid rfl, by omega, by omega⟩
      case round =>
        obtain ⟨k, v, hk, rfl, rfl, HV, HA, hv0, hv1⟩ := hrel
        by_cases hlt : k < T.size
        · have hkl : k < T.data.toList.length := by simpa using hlt
          have hc0 : (0 : Int) ≤ T[k].toNat := by omega
          have hc1 : (T[k].toNat : Int) < 256 := by have := T[k].toNat_lt; omega
          have he : T.data.toList[k] = T[k] := rfl
          have hbad : ((T[k].toNat : Int) < 48 ∨ 57 < (T[k].toNat : Int)) → Hid (PR s 0 false) := fun h => Lib.hid (HNO.out (fun h' => by
            refine not_all T.data.toList k hkl ?_ h'.2.2.1
            rw [he]; unfold digB; rw [decide_eq_false_iff_not]; omega))
          have HBAD := Lib.hid hbad; clear hbad
          by_cases hlo : (T[k].toNat : Int) < 48
          · have HF := HBAD.out (.inl hlo); clear HBAD he
            go_wp2
            go_ret2
            exact ⟨_, _, rfl, HF.out, Below.refl _ _⟩
          · have hlo' : 48 ≤ (T[k].toNat : Int) := by omega
            clear hlo
            by_cases hhi : 57 < (T[k].toNat : Int)
            · have HF := HBAD.out (.inr hhi); clear HBAD he
              go_wp2
              go_ret2
              exact ⟨_, _, rfl, HF.out, Below.refl _ _⟩
            · have hhi' : (T[k].toNat : Int) ≤ 57 := by omega
              clear hhi HBAD
              have hlen : (T.data.toList.take k).length = k := by rw [List.length_take]; omega
              have h5 := dv5 (T.data.toList.take k) HA.out (by omega)
              rw [← HV.out] at h5
              obtain ⟨_, h5v⟩ := h5
              have HV2 : Hid (10 * v + ((T[k].toNat : Int) - 48) = dv 0 (T.data.toList.take (k + 1))) := Lib.hid (by rw [dv_take _ k hkl, he, HV.out])
              have HA2 : Hid ((T.data.toList.take (k + 1)).all digB = true) := Lib.hid (by
                rw [all_snoc _ k hkl, HA.out, he]; unfold digB; simp; omega)
              clear hlen he
              go_wp2
              go_round
              case rel => exact ⟨k + 1, _, by omega, by go_num, rfl, Lib.hid HV2.out, HA2, by omega, by omega⟩
              case measure => simp [intOf]; omega
        · have hkn : k = T.size := by omega
          have et : T.data.toList.take k = T.data.toList := List.take_of_length_le (by rw [hkn]; simp)
          have HV3 : Hid (v = dv 0 T.data.toList) := Lib.hid (by rw [← et]; exact HV.out)
          have HA3 : Hid (T.data.toList.all digB = true) := Lib.hid (by rw [← et]; exact HA.out)
          clear HV HA et
          obtain ⟨U, hU⟩ : ∃ U : ByteArray, ⟨(itoa (-v)).toArray⟩ = U := ⟨_, rfl⟩
          have hnum : ∀ W, Calls Tryd.prog 39 #[.int .i64 (-v)] W fun e w' => e = .returned (.string U) ∧ ∃ j, w' = W.drewN j := fun W => (num_any (-v) W (by omega) (by omega)).mono fun e w' ⟨he, hj⟩ => ⟨by rw [he, hU], hj⟩
          have HNUM := Lib.hid hnum; clear hnum
          by_cases hq : U = s
          · have HQ := Lib.hid (HYES.out (-v) (by rw [← HV3.out]) (by omega) (by omega) (of_bytes.1 (hU.trans hq)))
            subst hq
            clear HNO HYES hU
            go_wp2_with (go_at_call 39; refine (HNUM.out _).mono ?_; rintro e w' ⟨rfl, j, rfl⟩)
            go_ret2
            exact ⟨_, _, rfl, HQ.out, drewN_below (Below.refl _ _) _⟩
          · have t1 := tl_ne hq
            have t2 := tl_not hq
            have HQ := Lib.hid (HNO.out (fun h => hq (hU.symm.trans (of_bytes.2 (by rw [HV3.out]; exact h.2.2.2)))))
            clear HNO HYES hU hq
            go_wp2_with (go_at_call 39; refine (HNUM.out _).mono ?_; rintro e w' ⟨rfl, j, rfl⟩)
            go_ret2
            exact ⟨_, _, rfl, HQ.out, drewN_below (Below.refl _ _) _⟩
    · have hin := in_any (T.size : Int) 1 6
      have e16 : decide ((1 : Int) ≤ T.size ∧ (T.size : Int) ≤ 6) = false := by rw [decide_eq_false_iff_not]; omega
      rw [e16] at hin; clear e16
      have HI := Lib.hid hin; clear hin
      have HF := Lib.hid (HNO.out (fun h => h16 ⟨by simpa using h.1, by simpa using h.2.1⟩))
      clear h16 HNO HYES
      go_enter Tryd.func43, Tryd.ntmps43
      go_wp2_with (go_at_call 38; refine (HI.out _).mono ?_; rintro e w' ⟨rfl, rfl⟩)
      go_ret2
      exact ⟨_, _, rfl, HF.out, Below.refl _ _⟩
  · have hno := none_pos hneg
    have HNO : Hid (¬ (1 ≤ s.data.toList.length ∧ s.data.toList.length ≤ 6 ∧ s.data.toList.all digB = true ∧ itoa (dv 0 s.data.toList) = s.data.toList) → PR s 0 false) := Lib.hid (fun h => PR_no (hno h))
    have HYES : Hid (∀ r : Int, r = dv 0 s.data.toList → -999999 ≤ r → r ≤ 999999 → itoa r = s.data.toList → PR s r true) := Lib.hid (fun r _ a b c => PR_yes a b c)
    clear hno
    by_cases hsz : 1 < s.size
    · have h0 : 0 < s.size := by omega
      have t1 : ((s[0].toNat : Int) == 45) = false := by
        have e : s.data.toList[0]? = some s[0] := List.getElem?_eq_getElem (by simpa using h0)
        rw [beq_eq_false_iff_ne]; intro h; exact hneg ⟨by simpa using hsz, s[0], e, by omega⟩
      clear hneg
      by_cases h16 : 1 ≤ s.size ∧ s.size ≤ 6
      · have hin := in_any (s.size : Int) 1 6
        have e16 : decide ((1 : Int) ≤ s.size ∧ (s.size : Int) ≤ 6) = true := by rw [decide_eq_true_iff]; omega
        rw [e16] at hin; clear e16
        have HI := Lib.hid hin; clear hin
        obtain ⟨h1, h6⟩ := h16
        go_enter Tryd.func43, Tryd.ntmps43
        go_wp2_with (go_at_call 38; refine (HI.out _).mono ?_; rintro e w' ⟨rfl, rfl⟩)
        go_loop [5, 6] (fun n i => ∃ (k : Nat) (v : Int), k ≤ s.size ∧ i = .int .i64 k ∧ n = .int .i64 v ∧ Hid (v = dv 0 (s.data.toList.take k)) ∧ Hid ((s.data.toList.take k).all digB = true) ∧ 0 ≤ v ∧ v ≤ 999999) (fun _ i => s.size - (intOf i).toNat)
        case atStart => exact ⟨0, 0, Nat.zero_le _, rfl, rfl, Lib.hid rfl, Lib.hid rfl, by omega, by omega⟩
        case round =>
          obtain ⟨k, v, hk, rfl, rfl, HV, HA, hv0, hv1⟩ := hrel
          by_cases hlt : k < s.size
          · have hkl : k < s.data.toList.length := by simpa using hlt
            have hc0 : (0 : Int) ≤ s[k].toNat := by omega
            have hc1 : (s[k].toNat : Int) < 256 := by have := s[k].toNat_lt; omega
            have he : s.data.toList[k] = s[k] := rfl
            have hbad : ((s[k].toNat : Int) < 48 ∨ 57 < (s[k].toNat : Int)) → Hid (PR s 0 false) := fun h => Lib.hid (HNO.out (fun h' => by
              refine not_all s.data.toList k hkl ?_ h'.2.2.1
              rw [he]; unfold digB; rw [decide_eq_false_iff_not]; omega))
            have HBAD := Lib.hid hbad; clear hbad
            by_cases hlo : (s[k].toNat : Int) < 48
            · have HF := HBAD.out (.inl hlo); clear HBAD he
              go_wp2
              go_ret2
              exact ⟨_, _, rfl, HF.out, Below.refl _ _⟩
            · have hlo' : 48 ≤ (s[k].toNat : Int) := by omega
              clear hlo
              by_cases hhi : 57 < (s[k].toNat : Int)
              · have HF := HBAD.out (.inr hhi); clear HBAD he
                go_wp2
                go_ret2
                exact ⟨_, _, rfl, HF.out, Below.refl _ _⟩
              · have hhi' : (s[k].toNat : Int) ≤ 57 := by omega
                clear hhi HBAD
                have hlen : (s.data.toList.take k).length = k := by rw [List.length_take]; omega
                have h5 := dv5 (s.data.toList.take k) HA.out (by omega)
                rw [← HV.out] at h5
                obtain ⟨_, h5v⟩ := h5
                have HV2 : Hid (10 * v + ((s[k].toNat : Int) - 48) = dv 0 (s.data.toList.take (k + 1))) := Lib.hid (by rw [dv_take _ k hkl, he, HV.out])
                have HA2 : Hid ((s.data.toList.take (k + 1)).all digB = true) := Lib.hid (by
                  rw [all_snoc _ k hkl, HA.out, he]; unfold digB; simp; omega)
                clear hlen he
                go_wp2
                go_round
                case rel => exact ⟨k + 1, _, by omega, by go_num, rfl, Lib.hid HV2.out, HA2, by omega, by omega⟩
                case measure => simp [intOf]; omega
          · have hkn : k = s.size := by omega
            have et : s.data.toList.take k = s.data.toList := List.take_of_length_le (by rw [hkn]; simp)
            have HV3 : Hid (v = dv 0 s.data.toList) := Lib.hid (by rw [← et]; exact HV.out)
            have HA3 : Hid (s.data.toList.all digB = true) := Lib.hid (by rw [← et]; exact HA.out)
            clear HV HA et
            obtain ⟨U, hU⟩ : ∃ U : ByteArray, ⟨(itoa v).toArray⟩ = U := ⟨_, rfl⟩
            have hnum : ∀ W, Calls Tryd.prog 39 #[.int .i64 v] W fun e w' => e = .returned (.string U) ∧ ∃ j, w' = W.drewN j := fun W => (num_any v W (by omega) (by omega)).mono fun e w' ⟨he, hj⟩ => ⟨by rw [he, hU], hj⟩
            have HNUM := Lib.hid hnum; clear hnum
            by_cases hq : U = s
            · have HQ := Lib.hid (HYES.out v (by rw [← HV3.out]) (by omega) (by omega) (of_bytes.1 (hU.trans hq)))
              subst hq
              clear HNO HYES hU
              go_wp2_with (go_at_call 39; refine (HNUM.out _).mono ?_; rintro e w' ⟨rfl, j, rfl⟩)
              go_ret2
              exact ⟨_, _, rfl, HQ.out, drewN_below (Below.refl _ _) _⟩
            · have t1 := tl_ne hq
              have t2 := tl_not hq
              have HQ := Lib.hid (HNO.out (fun h => hq (hU.symm.trans (of_bytes.2 (by rw [HV3.out]; exact h.2.2.2)))))
              clear HNO HYES hU hq
              go_wp2_with (go_at_call 39; refine (HNUM.out _).mono ?_; rintro e w' ⟨rfl, j, rfl⟩)
              go_ret2
              exact ⟨_, _, rfl, HQ.out, drewN_below (Below.refl _ _) _⟩
      · have hin := in_any (s.size : Int) 1 6
        have e16 : decide ((1 : Int) ≤ s.size ∧ (s.size : Int) ≤ 6) = false := by rw [decide_eq_false_iff_not]; omega
        rw [e16] at hin; clear e16
        have HI := Lib.hid hin; clear hin
        have HF := Lib.hid (HNO.out (fun h => h16 ⟨by simpa using h.1, by simpa using h.2.1⟩))
        clear h16 HNO HYES
        go_enter Tryd.func43, Tryd.ntmps43
        go_wp2_with (go_at_call 38; refine (HI.out _).mono ?_; rintro e w' ⟨rfl, rfl⟩)
        go_ret2
        exact ⟨_, _, rfl, HF.out, Below.refl _ _⟩
    · have hsz' : s.size ≤ 1 := by omega
      clear hneg hsz
      by_cases h16 : 1 ≤ s.size ∧ s.size ≤ 6
      · have hin := in_any (s.size : Int) 1 6
        have e16 : decide ((1 : Int) ≤ s.size ∧ (s.size : Int) ≤ 6) = true := by rw [decide_eq_true_iff]; omega
        rw [e16] at hin; clear e16
        have HI := Lib.hid hin; clear hin
        obtain ⟨h1, h6⟩ := h16
        go_enter Tryd.func43, Tryd.ntmps43
        go_wp2_with (go_at_call 38; refine (HI.out _).mono ?_; rintro e w' ⟨rfl, rfl⟩)
        go_loop [5, 6] (fun n i => ∃ (k : Nat) (v : Int), k ≤ s.size ∧ i = .int .i64 k ∧ n = .int .i64 v ∧ Hid (v = dv 0 (s.data.toList.take k)) ∧ Hid ((s.data.toList.take k).all digB = true) ∧ 0 ≤ v ∧ v ≤ 999999) (fun _ i => s.size - (intOf i).toNat)
        case atStart => exact ⟨0, 0, Nat.zero_le _, rfl, rfl, Lib.hid rfl, Lib.hid rfl, by omega, by omega⟩
        case round =>
          obtain ⟨k, v, hk, rfl, rfl, HV, HA, hv0, hv1⟩ := hrel
          by_cases hlt : k < s.size
          · have hkl : k < s.data.toList.length := by simpa using hlt
            have hc0 : (0 : Int) ≤ s[k].toNat := by omega
            have hc1 : (s[k].toNat : Int) < 256 := by have := s[k].toNat_lt; omega
            have he : s.data.toList[k] = s[k] := rfl
            have hbad : ((s[k].toNat : Int) < 48 ∨ 57 < (s[k].toNat : Int)) → Hid (PR s 0 false) := fun h => Lib.hid (HNO.out (fun h' => by
              refine not_all s.data.toList k hkl ?_ h'.2.2.1
              rw [he]; unfold digB; rw [decide_eq_false_iff_not]; omega))
            have HBAD := Lib.hid hbad; clear hbad
            by_cases hlo : (s[k].toNat : Int) < 48
            · have HF := HBAD.out (.inl hlo); clear HBAD he
              go_wp2
              go_ret2
              exact ⟨_, _, rfl, HF.out, Below.refl _ _⟩
            · have hlo' : 48 ≤ (s[k].toNat : Int) := by omega
              clear hlo
              by_cases hhi : 57 < (s[k].toNat : Int)
              · have HF := HBAD.out (.inr hhi); clear HBAD he
                go_wp2
                go_ret2
                exact ⟨_, _, rfl, HF.out, Below.refl _ _⟩
              · have hhi' : (s[k].toNat : Int) ≤ 57 := by omega
                clear hhi HBAD
                have hlen : (s.data.toList.take k).length = k := by rw [List.length_take]; omega
                have h5 := dv5 (s.data.toList.take k) HA.out (by omega)
                rw [← HV.out] at h5
                obtain ⟨_, h5v⟩ := h5
                have HV2 : Hid (10 * v + ((s[k].toNat : Int) - 48) = dv 0 (s.data.toList.take (k + 1))) := Lib.hid (by rw [dv_take _ k hkl, he, HV.out])
                have HA2 : Hid ((s.data.toList.take (k + 1)).all digB = true) := Lib.hid (by
                  rw [all_snoc _ k hkl, HA.out, he]; unfold digB; simp; omega)
                clear hlen he
                go_wp2
                go_round
                case rel => exact ⟨k + 1, _, by omega, by go_num, rfl, Lib.hid HV2.out, HA2, by omega, by omega⟩
                case measure => simp [intOf]; omega
          · have hkn : k = s.size := by omega
            have et : s.data.toList.take k = s.data.toList := List.take_of_length_le (by rw [hkn]; simp)
            have HV3 : Hid (v = dv 0 s.data.toList) := Lib.hid (by rw [← et]; exact HV.out)
            have HA3 : Hid (s.data.toList.all digB = true) := Lib.hid (by rw [← et]; exact HA.out)
            clear HV HA et
            obtain ⟨U, hU⟩ : ∃ U : ByteArray, ⟨(itoa v).toArray⟩ = U := ⟨_, rfl⟩
            have hnum : ∀ W, Calls Tryd.prog 39 #[.int .i64 v] W fun e w' => e = .returned (.string U) ∧ ∃ j, w' = W.drewN j := fun W => (num_any v W (by omega) (by omega)).mono fun e w' ⟨he, hj⟩ => ⟨by rw [he, hU], hj⟩
            have HNUM := Lib.hid hnum; clear hnum
            by_cases hq : U = s
            · have HQ := Lib.hid (HYES.out v (by rw [← HV3.out]) (by omega) (by omega) (of_bytes.1 (hU.trans hq)))
              subst hq
              clear HNO HYES hU
              go_wp2_with (go_at_call 39; refine (HNUM.out _).mono ?_; rintro e w' ⟨rfl, j, rfl⟩)
              go_ret2
              exact ⟨_, _, rfl, HQ.out, drewN_below (Below.refl _ _) _⟩
            · have t1 := tl_ne hq
              have t2 := tl_not hq
              have HQ := Lib.hid (HNO.out (fun h => hq (hU.symm.trans (of_bytes.2 (by rw [HV3.out]; exact h.2.2.2)))))
              clear HNO HYES hU hq
              go_wp2_with (go_at_call 39; refine (HNUM.out _).mono ?_; rintro e w' ⟨rfl, j, rfl⟩)
              go_ret2
              exact ⟨_, _, rfl, HQ.out, drewN_below (Below.refl _ _) _⟩
      · have hin := in_any (s.size : Int) 1 6
        have e16 : decide ((1 : Int) ≤ s.size ∧ (s.size : Int) ≤ 6) = false := by rw [decide_eq_false_iff_not]; omega
        rw [e16] at hin; clear e16
        have HI := Lib.hid hin; clear hin
        have HF := Lib.hid (HNO.out (fun h => h16 ⟨by simpa using h.1, by simpa using h.2.1⟩))
        clear h16 HNO HYES
        go_enter Tryd.func43, Tryd.ntmps43
        go_wp2_with (go_at_call 38; refine (HI.out _).mono ?_; rintro e w' ⟨rfl, rfl⟩)
        go_ret2
        exact ⟨_, _, rfl, HF.out, Below.refl _ _⟩

theorem specParse (s : ByteArray) (w : World) (hs : s.size ≤ maxLen) : Calls Tryd.prog 16 #[.string s] w (PP s w) := by
  have HR := Lib.hid (read_any s w hs); clear hs
  go_enter Tryd.func16, Tryd.ntmps16
  go_wp2_with (go_at_call 43; refine HR.out.mono ?_; rintro e w' ⟨r, b, rfl, hpr, hbl⟩)
  go_ret2
  exact ⟨_, _, rfl, hpr, hbl⟩
end Go.Proofs.YtbfbkedndnekpaaDoor
