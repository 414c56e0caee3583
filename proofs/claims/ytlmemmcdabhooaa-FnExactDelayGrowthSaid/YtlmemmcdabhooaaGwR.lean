/- Rows of six ints read anywhere: compared. No condition but those typed. -/
import Derived.Test.YtlmemmcdabhooaaGwA
namespace Go.Proofs.Ytlmemmcdabhooaa
open Go.ChangeShapes Go.WideShapes Go.ChangeAt Go.RowKit
set_option maxRecDepth 100000 in
set_option maxHeartbeats 4000000 in
theorem eqGwR (A A' : Option Addr) (n c c' : Nat) (qs : List Q6) (w : World) (hn : qs.length = n) (hr : Rd w w.heap.size A (qs.flatMap Q6.cells)) (hr' : Rd w w.heap.size A' (qs.flatMap Q6.cells)) (hsz : n ≤ 1048576) :
    Calls Try.prog 17 #[.slice A n c, .slice A' n c'] w fun e w' => e = .returned (.bool true) ∧ Below w.heap.size w w' := by
  by_cases h0 : n = 0
  · subst h0; exact eqGw_nil A A' c c' w
  have h1 : 0 < qs.length := by omega
  obtain ⟨ad, rfl, -⟩ := hr.q6 h1
  obtain ⟨ad', rfl, -⟩ := hr'.q6 h1
  have HN := Lib.hid hn; clear hn h0 h1
  go_enter Try.func17, Try.ntmps17
  go_wp2
  go_loopw [5] (fun i wr => ∃ k : Nat, k ≤ n ∧ i = .int .i64 k ∧ Below w.heap.size w wr) (fun i _ => n - (intOf i).toNat)
  case atStart => exact ⟨0, Nat.zero_le _, rfl, Below.refl _ _⟩
  case round =>
    obtain ⟨k, hk, rfl, hb⟩ := hrel
    by_cases hlt : k < n
    · have hks : k < qs.length := by have := HN.out; omega
      obtain ⟨ad1, e1, hg, hc0, hc1, hc2, hc3, hc4, hc5⟩ := (hr.over hb).q6 hks
      obtain ⟨ad2, e2, hg', hd0, hd1, hd2, hd3, hd4, hd5⟩ := (hr'.over hb).q6 hks
      injection e1 with e1; injection e2 with e2
      subst e1 e2
      obtain ⟨⟨u0, u1, u2, u3, u4, u5⟩, hq⟩ : ∃ u, qs[k]'hks = u := ⟨_, rfl⟩
      rw [hq] at hc0 hd0 hc1 hd1 hc2 hd2 hc3 hd3 hc4 hd4 hc5 hd5
      simp only at hc0 hd0 hc1 hd1 hc2 hd2 hc3 hd3 hc4 hd4 hc5 hd5
      have hga : (ad.add (k * 6)).block < w.heap.size := by rw [addBlock]; exact hg
      have hgb : (ad'.add (k * 6)).block < w.heap.size := by rw [addBlock]; exact hg'
      clear hq
      go_wp2
      have hbd : Bel w wr.drew := Bel.of hb.drew
      go_region_held3 (fun W => W.cell? (ad.add (k * 6)) = some (.int .i64 u0) ∧ W.cell? ⟨(ad.add (k * 6)).block, (ad.add (k * 6)).off + 1, none⟩ = some (.int .i64 u1) ∧ W.cell? ⟨(ad.add (k * 6)).block, (ad.add (k * 6)).off + 2, none⟩ = some (.int .i64 u2) ∧ W.cell? ⟨(ad.add (k * 6)).block, (ad.add (k * 6)).off + 3, none⟩ = some (.int .i64 u3) ∧ W.cell? ⟨(ad.add (k * 6)).block, (ad.add (k * 6)).off + 4, none⟩ = some (.int .i64 u4) ∧ W.cell? ⟨(ad.add (k * 6)).block, (ad.add (k * 6)).off + 5, none⟩ = some (.int .i64 u5) ∧ W.cell? (ad'.add (k * 6)) = some (.int .i64 u0) ∧ W.cell? ⟨(ad'.add (k * 6)).block, (ad'.add (k * 6)).off + 1, none⟩ = some (.int .i64 u1) ∧ W.cell? ⟨(ad'.add (k * 6)).block, (ad'.add (k * 6)).off + 2, none⟩ = some (.int .i64 u2) ∧ W.cell? ⟨(ad'.add (k * 6)).block, (ad'.add (k * 6)).off + 3, none⟩ = some (.int .i64 u3) ∧ W.cell? ⟨(ad'.add (k * 6)).block, (ad'.add (k * 6)).off + 4, none⟩ = some (.int .i64 u4) ∧ W.cell? ⟨(ad'.add (k * 6)).block, (ad'.add (k * 6)).off + 5, none⟩ = some (.int .i64 u5) ∧ Bel w W)
        (first | (go_split_ands; refine ⟨?_, ?_, ?_, ?_, ?_, ?_, ?_, ?_, ?_, ?_, ?_, ?_, ?_⟩ <;> assumption) | (go_split_ands; exact ⟨(belAtA (by assumption) hb2 hga).trans (by assumption), (Bel.at_ (by assumption) hb2 hga).trans (by assumption), (Bel.at_ (by assumption) hb2 hga).trans (by assumption), (Bel.at_ (by assumption) hb2 hga).trans (by assumption), (Bel.at_ (by assumption) hb2 hga).trans (by assumption), (Bel.at_ (by assumption) hb2 hga).trans (by assumption), (belAtA (by assumption) hb2 hgb).trans (by assumption), (Bel.at_ (by assumption) hb2 hgb).trans (by assumption), (Bel.at_ (by assumption) hb2 hgb).trans (by assumption), (Bel.at_ (by assumption) hb2 hgb).trans (by assumption), (Bel.at_ (by assumption) hb2 hgb).trans (by assumption), (Bel.at_ (by assumption) hb2 hgb).trans (by assumption), Bel.step (by assumption) hb2⟩))
        (first | (go_at_call 68; refine (eqGw _ _ _ _ _ _ _).mono ?_; rintro e w2 ⟨rfl, hb2⟩))
      all_goals
        go_wp2
        go_roundw
        case rel => (go_split_ands; exact ⟨k + 1, by omega, by go_num, Bel.out (by assumption)⟩)
        case measure => simp [intOf]; omega
    · go_wp2
      go_ret
      exact ⟨rfl, hb⟩
end Go.Proofs.Ytlmemmcdabhooaa
