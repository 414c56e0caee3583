/- Contract: impl.IsValidFormats answers the plain word. No condition but those typed. -/
import Derived.Test.YthmmhhoaplbfgaaFmtV
namespace Go.Proofs.Ythmmhhoaplbfgaa
open Go.ChangeShapes Go.WideShapes Go.ChangeAt Go.RowKit

theorem rate_yes (x : Int) (w : World) (h1 : 1 ≤ x) (h2 : x ≤ 1000) : Calls Try.prog 73 #[.int .i64 x] w fun e w' => e = .returned (.bool true) ∧ w = w' := by
  go_enter Try.func73, Try.ntmps73
  go_wp2
  go_ret
  exact ⟨rfl, rfl⟩
theorem rate_no (x : Int) (w : World) (h : x < 1 ∨ 1000 < x) : Calls Try.prog 73 #[.int .i64 x] w fun e w' => e = .returned (.bool false) ∧ w = w' := by
  rcases h with h | h
  · go_enter Try.func73, Try.ntmps73
    go_wp2
    go_ret
    exact ⟨rfl, rfl⟩
  · have h' : decide (x ≤ 1000) = false := decide_eq_false (by omega)
    have h1 : 1 ≤ x := by omega
    clear h
    go_enter Try.func73, Try.ntmps73
    go_wp2
    go_ret
    exact ⟨rfl, rfl⟩

theorem specFmtsV (g o n c : Nat) (qs : List Q2) (w : World) (hn : qs.length = n) (hr : Rd w w.heap.size (some ⟨g, o, none⟩) (qs.flatMap Q2.cells)) (hm : n ≤ 1048576) :
    Calls Try.prog 30 #[.slice (some ⟨g, o, none⟩) n c] w (BoolP (pb (fmtsP qs)) w) := by
  have HC := Lib.hid (specFmts g o n c qs w hn hr hm)
  clear hn hr
  obtain ⟨b, hb⟩ : ∃ b, pb (fmtsP qs) = b := ⟨_, rfl⟩
  rw [hb] at HC ⊢
  clear hb
  go_enter Try.func30, Try.ntmps30
  go_wp2_with (refine HC.out.mono ?_; rintro e w' ⟨rfl, hb⟩)
  go_ret
  exact ⟨rfl, hb⟩

set_option maxRecDepth 100000 in
set_option maxHeartbeats 2000000 in
theorem implFmts (g o n c : Nat) (qs : List Q2) (w : World) (hn : qs.length = n) (hr : Rd w w.heap.size (some ⟨g, o, none⟩) (qs.flatMap Q2.cells)) (hm : n ≤ 1048576) :
    Calls Try.prog 29 #[.slice (some ⟨g, o, none⟩) n c] w (BoolP (pb (fmtsP qs)) w) := by
  have HN := Lib.hid hn; clear hn
  by_cases hlen : 1 ≤ n ∧ n ≤ 6
  · obtain ⟨hl1, hl2⟩ := hlen
    have hl1' : 1 ≤ (n : Int) := by omega
    have hl2' : (n : Int) ≤ 6 := by omega
    go_enter Try.func29, Try.ntmps29
    go_wp2
    go_loopw [15] (fun i wr => ∃ k : Nat, k ≤ n ∧ i = .int .i64 k ∧ (∀ j, j < k → fmtAt qs j) ∧ Below w.heap.size w wr) (fun i _ => n - (intOf i).toNat)
    case atStart => exact ⟨0, Nat.zero_le _, rfl, fun j h => absurd h (by omega), Below.refl _ _⟩
    case round =>
      obtain ⟨k, hk, rfl, hall, hb⟩ := hrel
      have HA := Lib.hid hall; clear hall
      by_cases hlt : k < n
      · have hks : k < qs.length := by have := HN.out; omega
        obtain ⟨hgb, hc0, hc1⟩ := (hr.over hb).q2c hks
        obtain ⟨⟨u0, u1⟩, hq⟩ : ∃ q, qs[k]'hks = q := ⟨_, rfl⟩
        rw [hq] at hc0 hc1
        have HQ := Lib.hid hq; clear hq
        have hbw := hb.size
        by_cases ha : 1 ≤ u0 ∧ u0 ≤ 20000
        · by_cases hbb : 1 ≤ u1 ∧ u1 ≤ 1000
          · by_cases h0 : k = 0
            · subst h0
              have HS : Hid (∀ j, j < 0 + 1 → fmtAt qs j) := Lib.hid (by
                intro j hj h
                obtain rfl : j = 0 := by omega
                rw [HQ.out]; exact ⟨ha, hbb, fun h => absurd h (by omega)⟩)
              obtain ⟨ha1, ha2⟩ := ha
              obtain ⟨hb1, hb2⟩ := hbb
              simp only [Nat.zero_mul, Nat.add_zero] at hc0 hc1
              go_wp2_with (refine (rate_yes _ _ (by omega) (by omega)).mono ?_; rintro e w' ⟨rfl, rfl⟩)
              go_quiet (fail)
              go_wp2
              go_roundw
              case rel => exact ⟨0 + 1, by omega, rfl, HS.out, drewN_below (hb.alloc hbw _) _⟩
              case measure => simp [intOf]; omega
            · obtain ⟨m, hkm⟩ : ∃ m, k = m + 1 := ⟨k - 1, by omega⟩
              have hwr := pred_wrap k m hkm (by omega)
              have hms : m < qs.length := by omega
              have hmn : (m : Int) < n := by omega
              obtain ⟨_, hp0, hp1⟩ := (hr.over hb).q2c hms
              obtain ⟨⟨v0, v1⟩, hqm⟩ : ∃ q, qs[m]'hms = q := ⟨_, rfl⟩
              rw [hqm] at hp0 hp1
              have HP : Hid (∀ h : k - 1 < qs.length, qs[k - 1] = ⟨v0, v1⟩) := Lib.hid (fun h => by
                subst hkm
                exact hqm)
              have hd0 : decide (0 < k) = true := decide_eq_true (by omega)
              have hgw : g < wr.heap.size := by omega
              clear hqm hkm h0
              obtain ⟨ha1, ha2⟩ := ha
              obtain ⟨hb1, hb2⟩ := hbb
              by_cases h3 : u0 < v0
              · by_cases h4 : v1 < u1
                · have HS : Hid (∀ j, j < k + 1 → fmtAt qs j) := Lib.hid (by
                    intro j hj h
                    by_cases hjk : j < k
                    · exact HA.out j hjk h
                    · obtain rfl : j = k := by omega
                      rw [HQ.out]; refine ⟨⟨ha1, ha2⟩, ⟨hb1, hb2⟩, fun _ => ?_⟩
                      rw [HP.out (by omega)]; exact ⟨h3, h4⟩)
                  go_wp2_with (refine (rate_yes _ _ (by omega) (by omega)).mono ?_; rintro e w' ⟨rfl, rfl⟩)
                  go_quiet (fail)
                  clear hwr
                  go_wp2
                  go_roundw
                  case rel => exact ⟨k + 1, by omega, by go_num, HS.out, drewN_below (hb.alloc hbw _) _⟩
                  case measure => simp [intOf]; omega
                · have HF : Hid (pb (fmtsP qs) = false) := Lib.hid (pb_false fun hf => h4 (by
                    have := (hf.2 k hks hks).2.2 (of_decide_eq_true hd0)
                    rw [HQ.out, HP.out (by omega)] at this; exact this.2))
                  have h4' : u1 ≤ v1 := by omega
                  clear h4
                  go_wp2_with (refine (rate_yes _ _ (by omega) (by omega)).mono ?_; rintro e w' ⟨rfl, rfl⟩)
                  go_quiet (fail)
                  clear hwr
                  go_wp2
                  go_ret
                  exact boolP HF.out.symm (drewN_below (hb.alloc hbw _) _)
              · have HF : Hid (pb (fmtsP qs) = false) := Lib.hid (pb_false fun hf => h3 (by
                  have := (hf.2 k hks hks).2.2 (of_decide_eq_true hd0)
                  rw [HQ.out, HP.out (by omega)] at this; exact this.1))
                have h3' : v0 ≤ u0 := by omega
                clear h3
                go_wp2_with (refine (rate_yes _ _ (by omega) (by omega)).mono ?_; rintro e w' ⟨rfl, rfl⟩)
                go_quiet (fail)
                clear hwr
                go_wp2
                go_ret
                exact boolP HF.out.symm (drewN_below (hb.alloc hbw _) _)
          · have HF : Hid (pb (fmtsP qs) = false) := Lib.hid (pb_false fun hf => hbb (by
              have := (hf.2 k hks hks).2.1
              rw [HQ.out] at this; exact this))
            obtain ⟨ha1, ha2⟩ := ha
            have hbb' : u1 < 1 ∨ 1000 < u1 := by omega
            clear hbb
            go_wp2_with (refine (rate_no _ _ (by omega)).mono ?_; rintro e w' ⟨rfl, rfl⟩)
            go_ret
            exact boolP HF.out.symm (hb.alloc hbw _)
        · have HF : Hid (pb (fmtsP qs) = false) := Lib.hid (pb_false fun hf => ha (by
            have := (hf.2 k hks hks).1
            rw [HQ.out] at this; exact this))
          have ha' : u0 < 1 ∨ 20000 < u0 := by omega
          clear ha
          rcases ha' with ha' | ha'
          all_goals
            go_wp2
            go_ret
            exact boolP HF.out.symm (hb.alloc hbw _)
      · have hkn : k = n := by omega
        subst hkn
        have HT : Hid (pb (fmtsP qs) = true) := Lib.hid (pb_true (by have := HN.out; exact ⟨by omega, fun i hi => HA.out i (by omega)⟩))
        go_wp2
        go_ret
        exact boolP HT.out.symm hb
  · have HF : Hid (pb (fmtsP qs) = false) := Lib.hid (pb_false fun hf => by have := hf.1; have := HN.out; omega)
    have hlen' : (n : Int) < 1 ∨ 6 < (n : Int) := by omega
    clear hlen
    rcases hlen' with hl | hl
    all_goals
      go_enter Try.func29, Try.ntmps29
      go_wp2
      go_ret
      exact boolP HF.out.symm (Below.refl _ _)
end Go.Proofs.Ythmmhhoaplbfgaa
