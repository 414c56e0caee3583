/- Contracts: impl.IsValidFormats and spec.IsValidFormats answer the same plain word. No condition but those typed. -/
import Derived.Test.YthmmhhoaplbfgaaFmtS
import Derived.Test.YthmmhhoaplbfgaaNetM
import Derived.IntWalk
namespace Go.Proofs.Ythmmhhoaplbfgaa
open Go.ChangeShapes Go.WideShapes Go.ChangeAt Go.RowKit

def fmtAt (qs : List Q2) (i : Nat) : Prop := ∀ h : i < qs.length, (1 ≤ qs[i].a ∧ qs[i].a ≤ 20000) ∧ (1 ≤ qs[i].b ∧ qs[i].b ≤ 1000) ∧ (0 < i → qs[i].a < qs[i - 1].a ∧ qs[i - 1].b < qs[i].b)
def fmtsP (qs : List Q2) : Prop := (1 ≤ qs.length ∧ qs.length ≤ 6) ∧ ∀ i, i < qs.length → fmtAt qs i

theorem in_any (x a b : Int) (w : World) : Calls Try.prog 75 #[.int .i64 x, .int .i64 a, .int .i64 b] w fun e w' => e = .returned (.bool (decide (a ≤ x ∧ x ≤ b))) ∧ w = w' := by
  by_cases h1 : a ≤ x
  · by_cases h2 : x ≤ b
    · have e : decide (a ≤ x ∧ x ≤ b) = true := by simp [h1, h2]
      rw [e]; clear e
      go_enter Try.func75, Try.ntmps75
      go_wp2
      go_ret
      exact ⟨rfl, rfl⟩
    · have e : decide (a ≤ x ∧ x ≤ b) = false := by simp [h2]
      rw [e]; clear e
      have h2' : decide (x ≤ b) = false := by simpa using h2
      clear h2
      go_enter Try.func75, Try.ntmps75
      go_wp2
      go_ret
      exact ⟨rfl, rfl⟩
  · have e : decide (a ≤ x ∧ x ≤ b) = false := by simp [h1]
    rw [e]; clear e
    have h1' : x < a := by omega
    clear h1
    go_enter Try.func75, Try.ntmps75
    go_wp2
    go_ret
    exact ⟨rfl, rfl⟩
theorem in_yes (x a b : Int) (w : World) (h1 : a ≤ x) (h2 : x ≤ b) : Calls Try.prog 75 #[.int .i64 x, .int .i64 a, .int .i64 b] w fun e w' => e = .returned (.bool true) ∧ w' = w := by
  refine (in_any x a b w).mono ?_
  rintro e w' ⟨rfl, rfl⟩
  exact ⟨by rw [decide_eq_true ⟨h1, h2⟩], rfl⟩
theorem in_no (x a b : Int) (w : World) (h : x < a ∨ b < x) : Calls Try.prog 75 #[.int .i64 x, .int .i64 a, .int .i64 b] w fun e w' => e = .returned (.bool false) ∧ w' = w := by
  refine (in_any x a b w).mono ?_
  rintro e w' ⟨rfl, rfl⟩
  exact ⟨by rw [decide_eq_false (by omega)], rfl⟩

def BoolP (b : Bool) (w : World) (e : Ending) (w' : World) : Prop := e = .returned (.bool b) ∧ Below w.heap.size w w'
theorem boolP {b c : Bool} {w w' : World} (h : c = b) (hb : Below w.heap.size w w') : BoolP b w (.returned (.bool c)) w' := ⟨by rw [h], hb⟩

set_option maxHeartbeats 1000000 in
theorem pred_wrap (k m : Nat) (h : k = m + 1) (hk : k ≤ 1048576) : IntKind.i64.wrap ((k : Int) - 1) = (m : Int) := by
  rw [IntWalk.i64_in _ (by omega)]; omega

set_option maxRecDepth 100000 in
set_option maxHeartbeats 2000000 in
theorem specFmts (g o n c : Nat) (qs : List Q2) (w : World) (hn : qs.length = n) (hr : Rd w w.heap.size (some ⟨g, o, none⟩) (qs.flatMap Q2.cells)) (hm : n ≤ 1048576) :
    Calls Try.prog 74 #[.slice (some ⟨g, o, none⟩) n c] w (BoolP (pb (fmtsP qs)) w) := by
  have HN := Lib.hid hn; clear hn
  go_enter Try.func74, Try.ntmps74
  go_wp2
  go_loopw [3] (fun i wr => ∃ k : Nat, k ≤ n ∧ k ≤ 7 ∧ i = .int .i64 k ∧ (∀ j, j < k → fmtAt qs j) ∧ Below w.heap.size w wr) (fun i _ => n - (intOf i).toNat)
  case atStart => exact ⟨0, Nat.zero_le _, by omega, rfl, fun j h => absurd h (by omega), Below.refl _ _⟩
  case round =>
    obtain ⟨k, hk, hk7, rfl, hall, hb⟩ := hrel
    have HA := Lib.hid hall; clear hall
    by_cases hlt : k < n
    · by_cases h6 : k ≤ 6
      · have hks : k < qs.length := by have := HN.out; omega
        obtain ⟨_, hc0, hc1⟩ := (hr.over hb).q2c hks
        obtain ⟨⟨u0, u1⟩, hq⟩ : ∃ q, qs[k]'hks = q := ⟨_, rfl⟩
        rw [hq] at hc0 hc1
        have HQ := Lib.hid hq; clear hq
        by_cases ha : 1 ≤ u0 ∧ u0 ≤ 20000
        · by_cases hbb : 1 ≤ u1 ∧ u1 ≤ 1000
          · by_cases h0 : k = 0
            · subst h0
              have HS : Hid (∀ j, j < 0 + 1 → fmtAt qs j) := Lib.hid (by
                intro j hj h
                obtain rfl : j = 0 := by omega
                rw [HQ.out]; exact ⟨ha, hbb, fun h => absurd h (by omega)⟩)
              obtain ⟨ha1, ha2⟩ := ha
              obtain ⟨hb1, hb2⟩ := hbb
              simp only [Nat.zero_mul, Nat.add_zero] at hc0 hc1
              go_wp2
              go_quiet ((go_at_call 75; (first | exact Calls.quiet_of_same (in_yes _ _ _ _ (by omega) (by omega)) | exact Calls.quiet_of_same (in_no _ _ _ _ (by omega)))))
              go_wp2
              go_roundw
              case rel => exact ⟨0 + 1, by omega, by omega, rfl, HS.out, drewN_below hb _⟩
              case measure => simp [intOf]; omega
            · obtain ⟨m, hkm⟩ : ∃ m, k = m + 1 := ⟨k - 1, by omega⟩
              have hwr := pred_wrap k m hkm (by omega)
              have hms : m < qs.length := by omega
              have hmn : (m : Int) < n := by omega
              obtain ⟨_, hp0, hp1⟩ := (hr.over hb).q2c hms
              obtain ⟨⟨v0, v1⟩, hqm⟩ : ∃ q, qs[m]'hms = q := ⟨_, rfl⟩
              rw [hqm] at hp0 hp1
              have HP : Hid (∀ h : k - 1 < qs.length, qs[k - 1] = ⟨v0, v1⟩) := Lib.hid (fun h => by
                subst hkm
                exact hqm)
              have hd0 : decide (0 < k) = true := decide_eq_true (by omega)
              clear hqm hkm h0
              obtain ⟨ha1, ha2⟩ := ha
              obtain ⟨hb1, hb2⟩ := hbb
              by_cases h3 : u0 < v0
              · by_cases h4 : v1 < u1
                · have HS : Hid (∀ j, j < k + 1 → fmtAt qs j) := Lib.hid (by
                    intro j hj h
                    by_cases hjk : j < k
                    · exact HA.out j hjk h
                    · obtain rfl : j = k := by omega
                      rw [HQ.out]; refine ⟨⟨ha1, ha2⟩, ⟨hb1, hb2⟩, fun _ => ?_⟩
                      rw [HP.out (by omega)]; exact ⟨h3, h4⟩)
                  go_wp2
                  go_quiet ((go_at_call 75; (first | exact Calls.quiet_of_same (in_yes _ _ _ _ (by omega) (by omega)) | exact Calls.quiet_of_same (in_no _ _ _ _ (by omega)))))
                  clear hwr
                  go_wp2
                  go_roundw
                  case rel => exact ⟨k + 1, by omega, by omega, by go_num, HS.out, drewN_below hb _⟩
                  case measure => simp [intOf]; omega
                · have HF : Hid (pb (fmtsP qs) = false) := Lib.hid (pb_false fun hf => h4 (by
                    have := (hf.2 k hks hks).2.2 (of_decide_eq_true hd0)
                    rw [HQ.out, HP.out (by omega)] at this; exact this.2))
                  have h4' : u1 ≤ v1 := by omega
                  clear h4
                  go_wp2
                  go_quiet ((go_at_call 75; (first | exact Calls.quiet_of_same (in_yes _ _ _ _ (by omega) (by omega)) | exact Calls.quiet_of_same (in_no _ _ _ _ (by omega)))))
                  clear hwr
                  go_wp2
                  go_ret
                  exact boolP HF.out.symm (drewN_below hb _)
              · have HF : Hid (pb (fmtsP qs) = false) := Lib.hid (pb_false fun hf => h3 (by
                  have := (hf.2 k hks hks).2.2 (of_decide_eq_true hd0)
                  rw [HQ.out, HP.out (by omega)] at this; exact this.1))
                have h3' : v0 ≤ u0 := by omega
                clear h3
                go_wp2
                go_quiet ((go_at_call 75; (first | exact Calls.quiet_of_same (in_yes _ _ _ _ (by omega) (by omega)) | exact Calls.quiet_of_same (in_no _ _ _ _ (by omega)))))
                clear hwr
                go_wp2
                go_ret
                exact boolP HF.out.symm (drewN_below hb _)
          · have HF : Hid (pb (fmtsP qs) = false) := Lib.hid (pb_false fun hf => hbb (by
              have := (hf.2 k hks hks).2.1
              rw [HQ.out] at this; exact this))
            obtain ⟨ha1, ha2⟩ := ha
            have hbb' : u1 < 1 ∨ 1000 < u1 := by omega
            clear hbb
            rcases hbb' with hbb' | hbb'
            all_goals
              go_wp2
              go_quiet ((go_at_call 75; (first | exact Calls.quiet_of_same (in_yes _ _ _ _ (by omega) (by omega)) | exact Calls.quiet_of_same (in_no _ _ _ _ (by omega)))))
              go_wp2
              go_ret
              exact boolP HF.out.symm (drewN_below hb _)
        · have HF : Hid (pb (fmtsP qs) = false) := Lib.hid (pb_false fun hf => ha (by
            have := (hf.2 k hks hks).1
            rw [HQ.out] at this; exact this))
          have ha' : u0 < 1 ∨ 20000 < u0 := by omega
          clear ha
          rcases ha' with ha' | ha'
          all_goals
            go_wp2
            go_quiet ((go_at_call 75; (first | exact Calls.quiet_of_same (in_yes _ _ _ _ (by omega) (by omega)) | exact Calls.quiet_of_same (in_no _ _ _ _ (by omega)))))
            go_wp2
            go_ret
            exact boolP HF.out.symm (drewN_below hb _)
      · have HF : Hid (pb (fmtsP qs) = false) := Lib.hid (pb_false fun hf => by have := hf.1; have := HN.out; omega)
        have h6' : 6 < (k : Int) := by omega
        have hn7 : 6 < (n : Int) := by omega
        clear h6
        go_wp2_with (refine (in_no _ _ _ _ (by omega)).mono ?_; rintro e w' ⟨rfl, rfl⟩)
        go_ret
        exact boolP HF.out.symm hb
    · have hkn : k = n := by omega
      subst hkn
      by_cases h1 : 1 ≤ k ∧ k ≤ 6
      · have HT : Hid (pb (fmtsP qs) = true) := Lib.hid (pb_true (by have := HN.out; exact ⟨by omega, fun i hi => HA.out i (by omega)⟩))
        obtain ⟨h1a, h1b⟩ := h1
        go_wp2_with (refine (in_yes _ _ _ _ (by omega) (by omega)).mono ?_; rintro e w' ⟨rfl, rfl⟩)
        go_ret
        exact boolP HT.out.symm hb
      · have HF : Hid (pb (fmtsP qs) = false) := Lib.hid (pb_false fun hf => by have := hf.1; have := HN.out; omega)
        go_wp2_with (refine (in_no _ _ _ _ (by omega)).mono ?_; rintro e w' ⟨rfl, rfl⟩)
        go_ret
        exact boolP HF.out.symm hb
end Go.Proofs.Ythmmhhoaplbfgaa
