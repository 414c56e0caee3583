/- Contracts: lists of amplifiers by the implementation; the level behind one; a single span. No condition but those typed. -/
import Derived.Test.YtgaankdmppoghaaLevL
namespace Go.Proofs.Ytgaankdmppoghaa
open Go.ChangeShapes Go.WideShapes Go.ChangeAt Go.RowKit

theorem ret_int_ {k : IntKind} {a b : Int} (h : b = a) : Ending.returned (.int k a) = .returned (.int k b) := by rw [h]
theorem levB_yes {x : Int} (h : levB x = true) : -10000 ≤ x ∧ x ≤ 10000 := inB_true h
theorem all_one {α : Type} (p : α → Bool) (x : α) : [x].all p = p x := by simp
theorem iLevel1 (z : Int) {W : World} {g c : Nat} (hr : Rd W W.heap.size (some ⟨g, 0, none⟩) ([z].map (Value.int .i64))) : Calls Try.prog 59 #[.slice (some ⟨g, 0, none⟩) 1 c] W (RetV (.bool (levB z)) W) := by
  have := iLevels g 1 c [z] W rfl (by omega) hr
  rw [all_one] at this; exact this
theorem iSpan1 (q : Q3) {W : World} {g c : Nat} (hr : Rd W W.heap.size (some ⟨g, 0, none⟩) ([q].flatMap Q3.cells)) : Calls Try.prog 56 #[.slice (some ⟨g, 0, none⟩) 1 c] W (RetV (.bool (spB q)) W) := by
  have := iLine g 1 c [q] W rfl (by omega) hr
  have e : lineB [q] = spB q := by unfold lineB; simp
  rw [e] at this; exact this

set_option maxHeartbeats 4000000 in
theorem iList (g n c : Nat) (am : List Q4) (s : Int) (w : World) (hn : am.length = n) (hs : n ≤ 1048576) (hr : Rd w w.heap.size (some ⟨g, 0, none⟩) (am.flatMap Q4.cells)) :
    Calls Try.prog 69 #[.int .i64 s, .slice (some ⟨g, 0, none⟩) n c] w (RetV (.bool (ampsB am s)) w) := by
  have HN := Lib.hid hn; clear hn
  have HR := Lib.hid hr; clear hr
  go_enter Try.func69, Try.ntmps69
  go_wp2
  go_loopw [5, 10] (fun l i wr => ∃ (k : Nat) (p : Int), k ≤ n ∧ i = .int .i64 k ∧ l = .int .i64 p ∧ Hid (p = prevA am k) ∧ -1 ≤ p ∧ Hid (∀ j, j < k → ampK am s j = true) ∧ Below w.heap.size w wr) (fun _ i _ => n - (intOf i).toNat)
  case atStart => exact ⟨0, -1, Nat.zero_le _, rfl, rfl, Lib.hid rfl, by omega, Lib.hid (fun j hj => by omega), Below.refl _ _⟩
  case round =>
    obtain ⟨k, p, hk, rfl, rfl, HP, hp1, HA, hb⟩ := hrel
    by_cases hlt : k < n
    case neg =>
      have HQ : Hid (ampsB am s = true) := Lib.hid (ampsB_mk fun j hj => HA.out j (by have := HN.out; omega))
      go_wp2
      go_ret
      exact retB HQ.out hb
    case pos =>
    have hks : k < am.length := by have := HN.out; omega
    have hrc := (HR.out.over hb).q4c hks
    rw [Nat.zero_add] at hrc
    obtain ⟨⟨a, b, c3, d⟩, hq⟩ : ∃ q, am[k]'hks = q := ⟨_, rfl⟩
    have HG : Hid (am.getD k amz = ⟨a, b, c3, d⟩) := Lib.hid ((getD_at hks).trans hq)
    rw [hq] at hrc
    obtain ⟨hg, f0, f1, f2, f3⟩ := hrc
    simp only at f0 f1 f2 f3
    have HS : Hid (ampK am s k = true → ∀ j, j < k + 1 → ampK am s j = true) := Lib.hid fun h j hj => by
      by_cases hjk : j < k
      · exact HA.out j hjk
      · obtain rfl : j = k := by omega
        exact h
    have HF : Hid (ampK am s k = false → ampsB am s = false) := Lib.hid fun h => ampsB_no hks h
    have HP1 : Hid (prevA am (k + 1) = a) := Lib.hid (by show (am.getD k amz).a = a; rw [HG.out])
    clear hq
    have hbw := hb.size
    have HKY : Hid (levB c3 = true → 0 ≤ b → b ≤ 10000 → 0 ≤ d → d ≤ 10000 → p < a → a < s → ampK am s k = true) := Lib.hid fun h1 h2 h3 h4 h5 h6 h7 => ampK_mk HG.out (kindB_mk (by have := levB_yes h1; simp only; omega)) (by simp only; omega) h7 (by have := HP.out; simp only; omega)
    have HKN : Hid (levB c3 = false ∨ b < 0 ∨ 10000 < b ∨ d < 0 ∨ 10000 < d ∨ a ≤ p ∨ s ≤ a → ampK am s k = false) := Lib.hid fun h => by
      refine ampK_no HG.out ?_
      rcases h with h | h
      · exact .inl (by unfold kindB; simp only; rw [h]; simp)
      · by_cases h8 : a ≤ p ∨ s ≤ a
        · have := HP.out; simp only; omega
        · exact .inl (kindB_no (by simp only; omega))
    obtain ⟨r, hr⟩ : ∃ r, levB c3 = r := ⟨_, rfl⟩
    rw [hr] at HKY HKN
    have C : Hid (∀ (W : World) (g c : Nat), Rd W W.heap.size (some ⟨g, 0, none⟩) ([c3].map (Value.int .i64)) → Calls Try.prog 59 #[.slice (some ⟨g, 0, none⟩) 1 c] W (RetV (.bool r) W)) := Lib.hid (fun W g c h => by rw [← hr]; exact iLevel1 c3 h)
    clear hr
    cases r
    case false =>
      have HQ := Lib.hid (HF.out (HKN.out (.inl rfl)))
      go_wp2_with (go_at_call 59; refine (C.out _ _ _ (rd_i1 (by simp) _ _)).mono ?_; rintro e w' ⟨rfl, hb2⟩)
      all_goals
        go_ret
        first
          | exact retB HQ.out (hb.alloc hbw _)
          | exact retB HQ.out (Below.trans ((hb.alloc hbw _).alloc (by simp; omega) _) (hb2.mono (by simp; omega)))
    case true =>
      go_wp2_with (go_at_call 59; refine (C.out _ _ _ (rd_i1 (by simp) _ _)).mono ?_; rintro e w' ⟨rfl, hb2⟩; have k0 := (hb2.cell (p := ⟨wr.heap.size, 0, none⟩) (by simp; omega)).trans (show _ = some (.int .i64 a) by simp [go_sem]))
      all_goals first
        | (go_ret
           exact retB (HF.out (HKN.out (by omega))) (hb.alloc hbw _))
        | (go_roundw
           case rel => exact ⟨k + 1, a, by omega, by go_num, rfl, Lib.hid HP1.out.symm, by omega, Lib.hid (HS.out (HKY.out (by trivial) (by omega) (by omega) (by omega) (by omega) (by omega) (by omega))), Below.trans ((hb.alloc hbw _).alloc (by simp; omega) _) (hb2.mono (by simp; omega))⟩
           case measure => simp [intOf]; omega)

theorem iRaise (a b c d l : Int) (w : World) (h : kindB ⟨a, b, c, d⟩ = true) (h0 : -10000 ≤ l) (h1 : l ≤ 10000) : Calls Try.prog 70 #[.agg #[.int .i64 a, .int .i64 b, .int .i64 c, .int .i64 d], .int .i64 l] w (RetV (.int .i64 (raiseI ⟨a, b, c, d⟩ l)) w) := by
  obtain ⟨⟨b0, b1⟩, ⟨c0, c1⟩, _⟩ := kindB_true h
  simp only at b0 b1 c0 c1
  clear h
  go_enter Try.func70, Try.ntmps70
  go_wp2
  all_goals
    go_ret
    exact retV (congrArg (Value.int .i64) (by unfold raiseI; simp only; rename_i hx; first | rw [if_pos h] at hx | rw [if_neg (by omega)] at hx
                                              omega)) ((Below.refl _ _).alloc (Nat.le_refl _) _)
theorem sMost (a b : Int) (w : World) : Calls Try.prog 84 #[.int .i64 a, .int .i64 b] w fun e w' => e = .returned (.int .i64 (max a b)) ∧ w = w' := by
  go_enter Try.func84, Try.ntmps84
  go_wp2
  all_goals go_ret
  all_goals exact ⟨ret_int_ (by omega), rfl⟩
theorem sLeast (a b : Int) (w : World) : Calls Try.prog 85 #[.int .i64 a, .int .i64 b] w fun e w' => e = .returned (.int .i64 (min a b)) ∧ w = w' := by
  go_enter Try.func85, Try.ntmps85
  go_wp2
  all_goals go_ret
  all_goals exact ⟨ret_int_ (by omega), rfl⟩
theorem sRaise (a b c d l : Int) (w : World) (h : kindB ⟨a, b, c, d⟩ = true) (h0 : -10000 ≤ l) (h1 : l ≤ 10000) : Calls Try.prog 68 #[.agg #[.int .i64 a, .int .i64 b, .int .i64 c, .int .i64 d], .int .i64 l] w (RetV (.int .i64 (raiseI ⟨a, b, c, d⟩ l)) w) := by
  obtain ⟨⟨b0, b1⟩, ⟨c0, c1⟩, _⟩ := kindB_true h
  simp only at b0 b1 c0 c1
  clear h
  go_enter Try.func68, Try.ntmps68
  go_wp2_with (first | (go_at_call 85; refine (sLeast _ _ _).mono ?_; rintro e w' ⟨rfl, rfl⟩) | (go_at_call 84; refine (sMost _ _ _).mono ?_; rintro e w' ⟨rfl, rfl⟩))
  go_ret
  exact retV (congrArg (Value.int .i64) (by unfold raiseI; simp only)) ((Below.refl _ _).alloc (Nat.le_refl _) _)

theorem iSpanLoss (a b c : Int) (w : World) : Calls Try.prog 17 #[.agg #[.int .i64 a, .int .i64 b, .int .i64 c]] w (RetV (slossR ⟨a, b, c⟩) w) := by
  have CL := Lib.hid (fun W => iLoss a b c W)
  have CS : Hid (∀ (W : World) (g c' : Nat), Rd W W.heap.size (some ⟨g, 0, none⟩) ([(⟨a, b, c⟩ : Q3)].flatMap Q3.cells) → Calls Try.prog 56 #[.slice (some ⟨g, 0, none⟩) 1 c'] W (RetV (.bool (spB ⟨a, b, c⟩)) W)) := Lib.hid (fun W g c' h => iSpan1 ⟨a, b, c⟩ h)
  obtain ⟨x, hx⟩ : ∃ x, lossI ⟨a, b, c⟩ = x := ⟨_, rfl⟩
  unfold slossR
  rw [hx] at CL ⊢
  cases h : spB ⟨a, b, c⟩ with
  | false =>
    rw [h] at CS
    clear h hx CL
    go_enter Try.func17, Try.ntmps17
    go_wp2_with fail
    refine (CS.out _ _ _ (rd_q3 (by simp) a b c _)).mono ?_
    rintro e w1 ⟨rfl, hb2⟩
    go_wp2
    go_ret2
    exact retV rfl (Below.trans (((Below.refl _ _).alloc (Nat.le_refl _) _).alloc (by simp) _) (hb2.mono (by simp; omega)))
  | true =>
    rw [h] at CS CL
    clear h hx
    go_enter Try.func17, Try.ntmps17
    go_wp2_with fail
    refine (CS.out _ _ _ (rd_q3 (by simp) a b c _)).mono ?_
    rintro e w1 ⟨rfl, hb2⟩
    have k0 : w1.cell? ⟨w.heap.size, 0, none⟩ = some (.int .i64 a) := (hb2.cell (p := ⟨w.heap.size, 0, none⟩) (by simp; omega)).trans (by simp [go_sem])
    have k1 : w1.cell? ⟨w.heap.size, 1, none⟩ = some (.int .i64 b) := (hb2.cell (p := ⟨w.heap.size, 1, none⟩) (by simp; omega)).trans (by simp [go_sem])
    have k2 : w1.cell? ⟨w.heap.size, 2, none⟩ = some (.int .i64 c) := (hb2.cell (p := ⟨w.heap.size, 2, none⟩) (by simp; omega)).trans (by simp [go_sem])
    go_wp2_with fail
    refine (CL.out _ (by trivial)).mono ?_
    rintro e w2 ⟨rfl, hb3⟩
    go_wp2
    go_ret2
    exact retV rfl (Below.trans (Below.trans (((Below.refl _ _).alloc (Nat.le_refl _) _).alloc (by simp) _) (hb2.mono (by simp; omega))) (hb3.mono (by have := hb2.size; simp at this; omega)))
end Go.Proofs.Ytgaankdmppoghaa
