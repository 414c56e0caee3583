/- Contract: impl.isBill answers the plain word. No condition but those typed. -/
import Derived.Test.YteihdnjdpiejmaaBill
namespace Go.Proofs.Yteihdnjdpiejmaa
open Go.ChangeShapes Go.WideShapes Go.ChangeAt Go.RowKit

set_option maxRecDepth 100000 in
set_option maxHeartbeats 4000000 in
theorem implBill (g n c : Nat) (qs : List Q3) (w : World) (hn : qs.length = n) (hs : n ≤ 1048576) (hr : Rd w w.heap.size (some ⟨g, 0, none⟩) (qs.flatMap Q3.cells)) :
    Calls Try.prog 83 #[.slice (some ⟨g, 0, none⟩) n c] w (RetV (.bool (pq (bilP qs))) w) := by
  have HN := Lib.hid hn; clear hn
  by_cases h32 : n ≤ 32
  case neg =>
    have HQ : Hid (pq (bilP qs) = false) := Lib.hid (pq_false fun hp => h32 (by have := hp.1; have := HN.out; omega))
    have q32 : 32 < (n : Int) := by omega
    clear h32
    go_enter Try.func83, Try.ntmps83
    go_wp2
    go_ret
    exact retB HQ.out (Below.refl _ _)
  case pos =>
  have q32 : (n : Int) ≤ 32 := by omega
  go_enter Try.func83, Try.ntmps83
  go_wp2
  go_loopw [10] (fun i wr => ∃ k : Nat, k ≤ n ∧ i = .int .i64 k ∧ Hid (∀ j, j < k → bilAt qs j) ∧ Below w.heap.size w wr) (fun i _ => n - (intOf i).toNat)
  case atStart => exact ⟨0, Nat.zero_le _, rfl, Lib.hid (fun j h => absurd h (by omega)), Below.refl _ _⟩
  case round =>
    obtain ⟨k, hk, rfl, HA, hb⟩ := hrel
    by_cases hlt : k < n
    case neg =>
      have HQ : Hid (pq (bilP qs) = true) := Lib.hid (pq_true ⟨by have := HN.out; omega, fun j hj => HA.out j (by have := HN.out; omega)⟩)
      have hkn : ¬ (k : Int) < n := by omega
      clear hlt
      go_wp2
      go_ret
      exact retB HQ.out hb
    case pos =>
    have hks : k < qs.length := by have := HN.out; omega
    have HF : Hid (¬ bilAt qs k → pq (bilP qs) = false) := Lib.hid fun h => pq_false fun hp => h (hp.2 k hks)
    have hrc := (hr.over hb).q3c hks
    rw [Nat.zero_add] at hrc
    obtain ⟨⟨a, b, c3⟩, hq⟩ : ∃ q, qs[k]'hks = q := ⟨_, rfl⟩
    rw [hq] at hrc
    obtain ⟨hg, f0, f1, f2⟩ := hrc
    simp only at f0 f1 f2
    have HQK := Lib.hid (getD_at hks hq)
    clear hq
    have HI : Hid (itB (qs.getD k z3) = true ↔ (1 ≤ a ∧ a ≤ 4) ∧ (0 ≤ b ∧ b ≤ 7) ∧ 1 ≤ c3 ∧ c3 ≤ 1000) := Lib.hid (by rw [HQK.out]; exact itB_iff _)
    have hzw : w.heap.size ≤ wr.heap.size := hb.size
    have hgr : g < wr.heap.size := by omega
    have HB1 := Lib.hid (hb.alloc hzw (Obj.cells #[.int .i64 a, .int .i64 b, .int .i64 c3] 111))
    by_cases hok : (1 ≤ a ∧ a ≤ 4) ∧ (0 ≤ b ∧ b ≤ 7) ∧ 1 ≤ c3 ∧ c3 ≤ 1000
    case neg =>
      have HQ := Lib.hid (HF.out fun h => hok (HI.out.1 h.1))
      clear HF HI HA
      by_cases a1 : a < 1
      case pos =>
        clear hok
        go_wp2
        go_ret
        exact retB HQ.out HB1.out
      case neg =>
      have a1' : decide (a < 1) = false := decide_eq_false a1
      by_cases a2 : 4 < a
      case pos =>
        clear hok a1
        go_wp2
        go_ret
        exact retB HQ.out HB1.out
      case neg =>
      have a2' : decide (4 < a) = false := decide_eq_false a2
      by_cases b1 : b < 0
      case pos =>
        clear hok a1 a2
        go_wp2
        go_ret
        exact retB HQ.out HB1.out
      case neg =>
      have b1' : decide (b < 0) = false := decide_eq_false b1
      by_cases b2 : 8 ≤ b
      case pos =>
        clear hok a1 a2 b1
        go_wp2
        go_ret
        exact retB HQ.out HB1.out
      case neg =>
      have b2' : decide (8 ≤ b) = false := decide_eq_false b2
      by_cases d1 : c3 < 1
      case pos =>
        clear hok a1 a2 b1 b2
        go_wp2
        go_ret
        exact retB HQ.out HB1.out
      case neg =>
      have d1' : decide (c3 < 1) = false := decide_eq_false d1
      have d2 : 1000 < c3 := by omega
      clear hok a1 a2 b1 b2 d1
      go_wp2
      go_ret
      exact retB HQ.out HB1.out
    case pos =>
    have HIT := Lib.hid (HI.out.2 hok)
    obtain ⟨⟨e1, e2⟩, ⟨e3, e4⟩, e5, e6⟩ := hok
    have a1' : decide (a < 1) = false := decide_eq_false (by omega)
    have a2' : decide (4 < a) = false := decide_eq_false (by omega)
    have b1' : decide (b < 0) = false := decide_eq_false (by omega)
    have b2' : decide (8 ≤ b) = false := decide_eq_false (by omega)
    have d1' : decide (c3 < 1) = false := decide_eq_false (by omega)
    have d2' : decide (1000 < c3) = false := decide_eq_false (by omega)
    clear e1 e2 e3 e4 e5 e6 HI
    by_cases hk0 : k = 0
    case pos =>
      have HS : Hid (∀ j, j < k + 1 → bilAt qs j) := Lib.hid fun j hj => by
        obtain rfl : j = k := by omega
        exact ⟨HIT.out, fun h => absurd h (by omega)⟩
      clear HF HA
      have hd0 : decide (0 < k) = false := decide_eq_false (by omega)
      clear hk0
      go_wp2
      go_quiet (fail)
      go_wp2
      go_roundw
      case rel => exact ⟨k + 1, by omega, by go_num, HS, drewN_below HB1.out _⟩
      case measure => simp [intOf]; omega
    case neg =>
    obtain ⟨m, hkm⟩ : ∃ m, k = m + 1 := ⟨k - 1, by omega⟩
    have hwr := pred_wrapB k m hkm (by omega)
    have hms : m < qs.length := by omega
    have hmn : (m : Int) < n := by omega
    have hrm := (hr.over hb).q3c hms
    rw [Nat.zero_add] at hrm
    obtain ⟨⟨a', b', c'⟩, hqm⟩ : ∃ q, qs[m]'hms = q := ⟨_, rfl⟩
    rw [hqm] at hrm
    obtain ⟨_, p0, p1, p2⟩ := hrm
    simp only at p0 p1 p2
    have HB : Hid (befB (qs.getD (k - 1) z3) (qs.getD k z3) = true ↔ (a' < a ∨ (a' = a ∧ b' < b))) := Lib.hid (by
      rw [HQK.out, show k - 1 = m by omega, getD_at hms hqm]
      exact decide_eq_true_iff)
    clear hqm
    have hd0 : decide (0 < k) = true := decide_eq_true (by omega)
    have HKM := Lib.hid hkm
    have HK0 : Hid (0 < k) := Lib.hid (by omega)
    by_cases hbf : a' < a ∨ (a' = a ∧ b' < b)
    case pos =>
      have HS : Hid (∀ j, j < k + 1 → bilAt qs j) := Lib.hid fun j hj => by
        by_cases hjk : j < k
        · exact HA.out j hjk
        · obtain rfl : j = k := by omega
          exact ⟨HIT.out, fun _ => HB.out.2 hbf⟩
      clear HF HA HB hkm hk0
      have g1 : decide (a < a') = false := decide_eq_false (by omega)
      by_cases h2 : a = a'
      · have g2 : (a == a') = true := by simpa using h2
        have g3 : decide (b ≤ b') = false := decide_eq_false (by omega)
        clear hbf h2
        go_wp2
        go_quiet (fail)
        go_wp2
        go_roundw
        case rel => exact ⟨k + 1, by omega, by go_num, HS, drewN_below HB1.out _⟩
        case measure => simp [intOf]; omega
      · have g2 : (a == a') = false := by simpa using h2
        clear hbf h2
        go_wp2
        go_quiet (fail)
        go_wp2
        go_roundw
        case rel => exact ⟨k + 1, by omega, by go_num, HS, drewN_below HB1.out _⟩
        case measure => simp [intOf]; omega
    case neg =>
      have HQ := Lib.hid (HF.out fun h => hbf (HB.out.1 (h.2 HK0.out)))
      clear HF HA HB hkm hk0
      by_cases h1 : a < a'
      · clear hbf
        go_wp2
        go_quiet (fail)
        go_wp2
        go_ret
        exact retB HQ.out (drewN_below HB1.out _)
      · have g1 : decide (a < a') = false := decide_eq_false h1
        have g2 : (a == a') = true := by simp; omega
        have g3 : b ≤ b' := by omega
        clear hbf h1
        go_wp2
        go_quiet (fail)
        go_wp2
        go_ret
        exact retB HQ.out (drewN_below HB1.out _)
end Go.Proofs.Yteihdnjdpiejmaa
