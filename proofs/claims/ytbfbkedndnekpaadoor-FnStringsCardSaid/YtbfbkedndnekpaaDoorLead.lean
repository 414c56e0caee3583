/- Contracts: impl.leadingNumber reads as 'lead'; impl.ParseInt and spec.ParseInt answer 'PR'. Condition: strconv's table of powers of ten is in place (for impl.ParseInt). -/
import Derived.Test.YtbfbkedndnekpaaDoorDec
import Derived.Test.YtbfbkedndnekpaaDoorFmt
namespace Go.Proofs.YtbfbkedndnekpaaDoor
open Go.ChangeShapes Go.WideShapes Go.ChangeAt Go.RowKit
open Go.Lib (decDigits itoa)

theorem ret_int {k : IntKind} {a b : Int} (h : a = b) : Ending.returned (.int k a) = .returned (.int k b) := by rw [h]
theorem bytesAt (s : ByteArray) (k : Nat) (h : k < s.size) : s.data.toList.drop k = s[k] :: s.data.toList.drop (k + 1) :=
  List.drop_eq_getElem_cons (by simpa using h)

set_option maxRecDepth 100000 in
set_option maxHeartbeats 1000000 in
theorem lead_any (s : ByteArray) (w : World) (hs : s.size ≤ maxLen) :
    Calls Tryd.prog 42 #[.string s] w fun e w' => e = .returned (.int .i64 (lead s.data.toList)) ∧ w = w' := by
  unfold maxLen at hs
  go_enter Tryd.func42, Tryd.ntmps42
  go_wp2
  go_step3
  go_wp2
  go_step3
  go_wp2
  go_loop [3, 4, 9] (fun n g i => ∃ (k : Nat) (v sg : Int), k ≤ s.size ∧ i = .int .i64 k ∧ n = .int .i64 v ∧ g = .int .i64 sg ∧ 0 ≤ v ∧ v ≤ 9999999 ∧ Hid (sg = 1 ∨ sg = -1) ∧
      Hid (ld true 0 1 s.data.toList = ld (k == 0) v sg (s.data.toList.drop k))) (fun _ _ i => s.size - (intOf i).toNat)
  case atStart => exact ⟨0, 0, 1, Nat.zero_le _, rfl, rfl, rfl, by omega, by omega, Lib.hid (.inl rfl), Lib.hid rfl⟩
  case round =>
    obtain ⟨k, v, sg, hk, rfl, rfl, rfl, hv0, hv1, HSG, HJ⟩ := hrel
    by_cases hlt : k < s.size
    · have hj := HJ.out
      rw [bytesAt s k hlt] at hj
      clear HJ
      have hc1 : (s[k].toNat : Int) < 256 := by have := s[k].toNat_lt; omega
      simp only [ld] at hj
      by_cases hm : k = 0 ∧ s[k].toNat = 45
      · obtain ⟨hk0, h45⟩ := hm
        have t1 : ((k : Int) == 0) = true := by simp [hk0]
        have t2 : ((s[k].toNat : Int) == 45) = true := by rw [h45]; rfl
        rw [if_pos ⟨by simpa using hk0, h45⟩] at hj
        have HJ := Lib.hid hj
        clear hj hk0 h45
        go_wp2
        go_round
        case rel => exact ⟨k + 1, v, -1, by omega, by go_num, rfl, rfl, hv0, hv1, Lib.hid (.inr rfl), Lib.hid (HJ.out.trans (by rw [show (k + 1 == 0) = false by simp]))⟩
        case measure => simp [intOf]; omega
      · have hg : Hid ((ld true 0 1 s.data.toList) = if s[k].toNat < 48 ∨ 57 < s[k].toNat ∨ 999999 < v then (v, sg) else ld false (10 * v + ((s[k].toNat : Int) - 48)) sg (s.data.toList.drop (k + 1))) := Lib.hid (by rw [hj, if_neg (by simpa using hm)])
        clear hj
        have hstop : ∀ h : s[k].toNat < 48 ∨ 57 < s[k].toNat ∨ 999999 < v, Hid (sg * v = lead s.data.toList) := fun h => Lib.hid (by
          unfold lead; rw [hg.out, if_pos h])
        have HSTOP := Lib.hid hstop; clear hstop
        have hgo : ∀ h : ¬ (s[k].toNat < 48 ∨ 57 < s[k].toNat ∨ 999999 < v), Hid (ld true 0 1 s.data.toList = ld false (10 * v + ((s[k].toNat : Int) - 48)) sg (s.data.toList.drop (k + 1))) := fun h => Lib.hid (by
          rw [hg.out, if_neg h])
        have HGO := Lib.hid hgo; clear hgo hg
        have t2 : k = 0 → ((s[k].toNat : Int) == 45) = false := fun h => by rw [beq_eq_false_iff_ne]; intro h2; exact hm ⟨h, by omega⟩
        have T2 := Lib.hid t2; clear t2 hm
        obtain ⟨t1, ht1⟩ : ∃ t1, ((k : Int) == 0) = t1 := ⟨_, rfl⟩
        have t3 : t1 = true → ((s[k].toNat : Int) == 45) = false := fun h => T2.out (by rw [h, beq_iff_eq] at ht1; omega)
        clear T2
        rcases t1 with _ | _
        all_goals
          first | (have t4 := t3 rfl; clear t3) | clear t3
          by_cases hlo : (s[k].toNat : Int) < 48
          · have HF := HSTOP.out (.inl (by omega)); clear HSTOP HGO
            rcases HSG.out with rfl | rfl <;> (clear HSG; go_wp2; go_ret; exact ⟨ret_int (by have := HF.out; omega), rfl⟩)
          · have hlo' : 48 ≤ (s[k].toNat : Int) := by omega
            clear hlo
            by_cases hhi : 57 < (s[k].toNat : Int)
            · have HF := HSTOP.out (.inr (.inl (by omega))); clear HSTOP HGO
              rcases HSG.out with rfl | rfl <;> (clear HSG; go_wp2; go_ret; exact ⟨ret_int (by have := HF.out; omega), rfl⟩)
            · have hhi' : (s[k].toNat : Int) ≤ 57 := by omega
              clear hhi
              by_cases hbv : 999999 < v
              · have HF := HSTOP.out (.inr (.inr hbv)); clear HSTOP HGO
                rcases HSG.out with rfl | rfl <;> (clear HSG; go_wp2; go_ret; exact ⟨ret_int (by have := HF.out; omega), rfl⟩)
              · have hbv' : v ≤ 999999 := by omega
                clear hbv
                have HF := HGO.out (by omega); clear HSTOP HGO
                go_wp2
                go_round
                case rel => exact ⟨k + 1, _, sg, by omega, by go_num, rfl, rfl, by omega, by omega, HSG, Lib.hid (HF.out.trans (by rw [show (k + 1 == 0) = false by simp]))⟩
                case measure => simp [intOf]; omega
    · have hkn : k = s.size := by omega
      have HF : Hid (sg * v = lead s.data.toList) := Lib.hid (by
        unfold lead; rw [HJ.out, List.drop_eq_nil_of_le (by simp; omega)]; rfl)
      clear HJ
      subst hkn
      rcases HSG.out with rfl | rfl <;> (clear HSG; go_wp2; go_ret; exact ⟨ret_int (by have := HF.out; omega), rfl⟩)

def PP (s : ByteArray) (w : World) (e : Ending) (w' : World) : Prop := ∃ r b, e = .returned (.tuple #[.int .i64 r, .bool b]) ∧ PR s r b ∧ Below w.heap.size w w'

set_option maxHeartbeats 1000000 in
theorem implParse (s : ByteArray) (w : World) (hs : s.size ≤ maxLen) (hp : Pow w) : Calls Tryd.prog 15 #[.string s] w (PP s w) := by
  have HL := Lib.hid (lead_any s w hs)
  unfold maxLen at hs
  have hno := @PR_lead_no s
  have hyes := @PR_yes s (lead s.data.toList)
  obtain ⟨v, hv⟩ : ∃ v, lead s.data.toList = v := ⟨_, rfl⟩
  rw [hv] at HL hno hyes
  clear hv
  have HNO := Lib.hid hno; have HYES := Lib.hid hyes; clear hno hyes
  have HF := Lib.hid (implFmt v w hp); clear hp
  by_cases hb : -999999 ≤ v ∧ v ≤ 999999
  · have hB : fmtB v = true := by simp [fmtB, hb]
    have hS : fmtS v = ⟨(itoa v).toArray⟩ := by unfold fmtS; rw [hB]; rfl
    obtain ⟨T, hT⟩ : ∃ T : ByteArray, ⟨(itoa v).toArray⟩ = T := ⟨_, rfl⟩
    have HF2 : Hid (Calls Tryd.prog 12 #[.int .i64 v] w fun e w' => e = .returned (.tuple #[.string T, .bool true]) ∧ Below w.heap.size w w') := Lib.hid (HF.out.mono fun e w' ⟨he, hw⟩ => ⟨by rw [he, hS, hB, hT], hw⟩)
    by_cases hq : T = s
    · have HQ := Lib.hid (HYES.out hb.1 hb.2 (of_bytes.1 (hT.trans hq)))
      subst hq
      clear HF HNO HYES hb hB hS hT
      go_enter Tryd.func15, Tryd.ntmps15
      go_wp2_with (first | (go_at_call 42; refine HL.out.mono ?_; rintro e w' ⟨rfl, rfl⟩) | (go_at_call 12; refine HF2.out.mono ?_; rintro e w' ⟨rfl, hbl⟩))
      go_ret2
      exact ⟨_, _, rfl, HQ.out, hbl⟩
    · have t1 := tl_ne hq
      have t2 := tl_not hq
      have HQ := Lib.hid (HNO.out (fun h => hq (hT.symm.trans (of_bytes.2 h.2.2))))
      clear HF HNO HYES hb hB hS hT hq
      go_enter Tryd.func15, Tryd.ntmps15
      go_wp2_with (first | (go_at_call 42; refine HL.out.mono ?_; rintro e w' ⟨rfl, rfl⟩) | (go_at_call 12; refine HF2.out.mono ?_; rintro e w' ⟨rfl, hbl⟩))
      go_ret2
      exact ⟨_, _, rfl, HQ.out, hbl⟩
  · have hB : fmtB v = false := by simp only [fmtB, decide_eq_false_iff_not]; exact hb
    have hS : fmtS v = ByteArray.empty := by unfold fmtS; rw [hB]; rfl
    have HF2 : Hid (Calls Tryd.prog 12 #[.int .i64 v] w fun e w' => e = .returned (.tuple #[.string ByteArray.empty, .bool false]) ∧ Below w.heap.size w w') := Lib.hid (HF.out.mono fun e w' ⟨he, hw⟩ => ⟨by rw [he, hS, hB], hw⟩)
    have HQ := Lib.hid (HNO.out (fun h => hb ⟨h.1, h.2.1⟩))
    clear HF HNO HYES hb hB hS
    go_enter Tryd.func15, Tryd.ntmps15
    go_wp2_with (first | (go_at_call 42; refine HL.out.mono ?_; rintro e w' ⟨rfl, rfl⟩) | (go_at_call 12; refine HF2.out.mono ?_; rintro e w' ⟨rfl, hbl⟩))
    go_ret2
    exact ⟨_, _, rfl, HQ.out, hbl⟩
end Go.Proofs.YtbfbkedndnekpaaDoor
