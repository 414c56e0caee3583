/- Routes compared: the contract of spec.CompareRoutes; cmp.Compare and cmp.Or over ints. No condition but those typed. -/
import Derived.Test.YtlgkjidginibdaaCmp
namespace Go.Proofs.Ytlgkjidginibdaa
open Go.ChangeShapes Go.WideShapes Go.ChangeAt Go.RowKit

theorem routeB_st {ss : List ByteArray} {fs : List Q4} {st : Int} {fl : List Int} (h : routeB ss fs st fl = true) : 0 ≤ st ∧ st ≤ 1000000 := by
  obtain ⟨hv, vs, hvs⟩ := routeB_yes h
  have h8 := hv.1.2
  unfold routeN at hvs
  by_cases hc : (0 ≤ st ∧ st < (ss.length : Int)) ∧ ¬ fl = []
  · have := hc.1
    omega
  · rw [if_neg hc] at hvs
    cases hvs

set_option maxHeartbeats 1000000 in
theorem nan_ (x : Int) (w : World) : Calls Try.prog 218 #[.int .i64 x] w fun e w' => e = .returned (.bool false) ∧ w = w' := by
  go_enter Try.func218, Try.ntmps218
  go_wp2
  go_ret
  exact ⟨rfl, rfl⟩
set_option maxHeartbeats 1000000 in
theorem compare_ (a b : Int) (w : World) : Calls Try.prog 195 #[.int .i64 a, .int .i64 b] w fun e w' => e = .returned (.int .i64 (cmpI a b)) ∧ w = w' := by
  rcases Int.lt_trichotomy a b with h | h | h
  · rw [cmp_lt h]
    go_enter Try.func195, Try.ntmps195
    go_wp2_with fail
    refine (nan_ a _).mono ?_
    rintro e w' ⟨rfl, rfl⟩
    go_wp2_with fail
    refine (nan_ b _).mono ?_
    rintro e w' ⟨rfl, rfl⟩
    go_wp2
    go_ret
    exact ⟨rfl, rfl⟩
  · subst h
    rw [cmp_eq]
    go_enter Try.func195, Try.ntmps195
    go_wp2_with fail
    refine (nan_ a _).mono ?_
    rintro e w' ⟨rfl, rfl⟩
    go_wp2_with fail
    refine (nan_ a _).mono ?_
    rintro e w' ⟨rfl, rfl⟩
    go_wp2
    go_ret
    exact ⟨rfl, rfl⟩
  · rw [cmp_gt h]
    go_enter Try.func195, Try.ntmps195
    go_wp2_with fail
    refine (nan_ a _).mono ?_
    rintro e w' ⟨rfl, rfl⟩
    go_wp2_with fail
    refine (nan_ b _).mono ?_
    rintro e w' ⟨rfl, rfl⟩
    go_wp2
    go_ret
    exact ⟨rfl, rfl⟩
set_option maxHeartbeats 2000000 in
theorem or2_ (g c : Nat) (a b : Int) (w : World) (h0 : w.cell? ⟨g, 0, none⟩ = some (.int .i64 a)) (h1 : w.cell? ⟨g, 1, none⟩ = some (.int .i64 b)) :
    Calls Try.prog 209 #[.slice (some ⟨g, 0, none⟩) 2 c] w fun e w' => e = .returned (.int .i64 (orI a b)) ∧ w = w' := by
  obtain ⟨r, hr⟩ : ∃ r, orI a b = r := ⟨_, rfl⟩
  rw [hr]
  have HR := Lib.hid hr
  clear hr
  go_enter Try.func209, Try.ntmps209
  go_wp2
  go_loop [8] (fun i => ∃ k : Nat, i = .int .i64 k ∧ Hid (k = 0 ∨ (k = 1 ∧ a = 0) ∨ (k = 2 ∧ a = 0 ∧ b = 0))) (fun i => 2 - (intOf i).toNat)
  case atStart => exact ⟨0, rfl, Lib.hid (.inl rfl)⟩
  case round =>
    obtain ⟨k, rfl, HK⟩ := hrel
    rcases HK.out with hk | ⟨hk, ha⟩ | ⟨hk, ha, hb⟩
    · subst hk
      by_cases ha : a = 0
      · have HK1 : Hid ((1 : Nat) = 0 ∨ ((1 : Nat) = 1 ∧ a = 0) ∨ ((1 : Nat) = 2 ∧ a = 0 ∧ b = 0)) := Lib.hid (.inr (.inl ⟨rfl, ha⟩))
        have q : (a != 0) = false := by simp [ha]
        clear ha
        go_wp2
        go_round
        case rel => exact ⟨1, by go_num, HK1⟩
        case measure => simp [intOf]
      · have HE : Hid (a = r) := Lib.hid (by rw [← HR.out, or_ne ha])
        have q : (a != 0) = true := by simpa using ha
        clear ha
        go_wp2
        go_ret
        exact ⟨reti HE.out, rfl⟩
    · subst hk
      have HRB : Hid (b = r) := Lib.hid (by rw [← HR.out, ha, or_eq])
      by_cases hb : b = 0
      · have HK1 : Hid ((2 : Nat) = 0 ∨ ((2 : Nat) = 1 ∧ a = 0) ∨ ((2 : Nat) = 2 ∧ a = 0 ∧ b = 0)) := Lib.hid (.inr (.inr ⟨rfl, ha, hb⟩))
        have q : (b != 0) = false := by simp [hb]
        clear ha hb
        go_wp2
        go_round
        case rel => exact ⟨2, by go_num, HK1⟩
        case measure => simp [intOf]
      · have q : (b != 0) = true := by simpa using hb
        clear ha hb
        go_wp2
        go_ret
        exact ⟨reti HRB.out, rfl⟩
    · subst hk
      have HE : Hid ((0 : Int) = r) := Lib.hid (by rw [← HR.out, ha, hb, or_eq])
      clear ha hb
      go_wp2
      go_ret
      exact ⟨reti HE.out, rfl⟩
end Go.Proofs.Ytlgkjidginibdaa
