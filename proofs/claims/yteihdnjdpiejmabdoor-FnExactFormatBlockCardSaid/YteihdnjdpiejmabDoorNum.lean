/- Contract: spec.l1Num gives the decimal digits. Condition: the number lies within int64 and isn't its least. -/
import Derived.Test.YteihdnjdpiejmabDoorRd
import Derived.Lib.ItoaNum
import Derived.Deep.QuietTactic
import Derived.BigQuiet
import Derived.IntWalk
namespace Go.Proofs.YteihdnjdpiejmabDoor
open Go.ChangeShapes Go.WideShapes Go.ChangeAt Go.RowKit
open Go.Lib (decDigits itoa)

theorem decDigits_small (n : Nat) (h : n < 10) : decDigits n = [UInt8.ofNat (48 + n)] := by unfold decDigits; simp [h]
theorem decDigits_big (n : Nat) (h : 10 ≤ n) : decDigits n = decDigits (n / 10) ++ [UInt8.ofNat (48 + n % 10)] := by
  rw [decDigits]; simp [show ¬ n < 10 by omega]
theorem ten (m : Int) (h0 : 0 ≤ m) (h1 : m < 10) : m = 0 ∨ m = 1 ∨ m = 2 ∨ m = 3 ∨ m = 4 ∨ m = 5 ∨ m = 6 ∨ m = 7 ∨ m = 8 ∨ m = 9 := by omega

def NumP (m : Int) (w : World) (e : Ending) (w' : World) : Prop := e = .returned (.string ⟨(itoa m).toArray⟩) ∧ ∃ k, w' = w.drewN k

theorem ret_str {a b : ByteArray} (h : a = b) : Ending.returned (.string a) = .returned (.string b) := by rw [h]
theorem itoa_small (m : Int) (h0 : 0 ≤ m) (h1 : m < 10) : itoa m = [UInt8.ofNat (48 + m.toNat)] := by
  unfold itoa; rw [if_neg (by omega), decDigits_small _ (by omega)]
theorem itoa_big (m : Int) (h0 : 10 ≤ m) : itoa m = itoa (m / 10) ++ [UInt8.ofNat (48 + (m % 10).toNat)] := by
  unfold itoa; rw [if_neg (by omega), if_neg (by omega), decDigits_big _ (by omega)]
  rw [show (m / 10).toNat = m.toNat / 10 by omega, show (m % 10).toNat = m.toNat % 10 by omega]
theorem itoa_neg (m : Int) (h0 : m < 0) : itoa m = 45 :: itoa (-m) := by
  unfold itoa; rw [if_pos h0, if_neg (by omega), show m.natAbs = (-m).toNat by omega]
theorem bytes_app (a b : List UInt8) : (⟨a.toArray⟩ : ByteArray) ++ ⟨b.toArray⟩ = ⟨(a ++ b).toArray⟩ := by
  apply ByteArray.ext; rw [ByteArray.data_append]; simp
theorem itoa_len (fuel : Nat) : ∀ m : Int, 0 ≤ m → m.toNat ≤ fuel → (itoa m).length ≤ fuel + 1 := by
  induction fuel with
  | zero => intro m h0 hf; rw [itoa_small m h0 (by omega)]; simp
  | succ f ih =>
    intro m h0 hf
    by_cases hs : m < 10
    · rw [itoa_small m h0 hs]; simp
    · rw [itoa_big m (by omega), List.length_append]
      have := ih (m / 10) (by omega) (by omega)
      simp; omega

theorem itoa_dec (k : Nat) : ∀ m : Int, 0 ≤ m → m < 10 ^ (k + 1) → (itoa m).length ≤ k + 1 := by
  induction k with
  | zero => intro m h0 hf; rw [itoa_small m h0 (by simpa using hf)]; simp
  | succ f ih =>
    intro m h0 hf
    by_cases hs : m < 10
    · rw [itoa_small m h0 hs]; simp
    · rw [itoa_big m (by omega), List.length_append]
      have := ih (m / 10) (by omega) (by rw [Int.pow_succ] at hf; omega)
      simp; omega
theorem itoa_len19 (m : Int) (h0 : 0 ≤ m) (h1 : m ≤ 9223372036854775806) : (itoa m).length ≤ 19 := itoa_dec 18 m h0 (by omega)

set_option maxHeartbeats 1000000 in
theorem num_nat (fuel : Nat) : ∀ (m : Int) (w : World), 0 ≤ m → m ≤ 9223372036854775806 → m.toNat ≤ fuel →
    Calls Tryd.prog 47 #[.int .i64 m] w (NumP m w) := by
  induction fuel with
  | zero =>
    intro m w h0 h1 hf
    obtain rfl : m = 0 := by omega
    go_enter Tryd.func47, Tryd.ntmps47
    go_wp2_with fail
    go_ret
    exact ⟨ret_str (by rw [itoa_small 0 (by omega) (by omega)]; decide +kernel), 0, rfl⟩
  | succ f ih =>
    intro m w h0 h1 hf
    by_cases hs : m < 10
    · have H0 : Hid (itoa m = [UInt8.ofNat (48 + m.toNat)]) := Lib.hid (itoa_small m h0 hs)
      rcases ten m h0 hs with rfl | rfl | rfl | rfl | rfl | rfl | rfl | rfl | rfl | rfl
      all_goals
        go_enter Tryd.func47, Tryd.ntmps47
        go_wp2_with fail
        go_ret
        exact ⟨ret_str (by rw [H0.out]; decide +kernel), 0, rfl⟩
    · have hbig : 10 ≤ m := by omega
      clear hs
      have h63 := itoa_big m hbig
      have hq0 : 0 ≤ m / 10 := by omega
      have hq1 : m / 10 ≤ 922337203685477580 := by omega
      have ih' := fun W => ih (m / 10) W hq0 (by omega) (by omega)
      have hlen := itoa_len (m / 10).toNat (m / 10) hq0 (Nat.le_refl _)
      clear ih
      have hd3 : m.tdiv 10 = m / 10 := Int.tdiv_eq_ediv_of_nonneg h0
      have hd2 : m.tmod 10 = m % 10 := Int.tmod_eq_emod_of_nonneg h0
      have hr0 : 0 ≤ m % 10 := by omega
      have hr1 : m % 10 < 10 := by omega
      obtain ⟨q, hq⟩ : ∃ q, m / 10 = q := ⟨_, rfl⟩
      obtain ⟨d, hd⟩ : ∃ d, m % 10 = d := ⟨_, rfl⟩
      rw [hq] at h63 ih' hd3 hq0 hq1 hlen
      rw [hd] at h63 hd2 hr0 hr1
      clear hq hd
      have hw3 : IntKind.i64.wrap q = q := IntWalk.i64_in _ (by omega)
      obtain ⟨S, hS⟩ : ∃ S, itoa q = S := ⟨_, rfl⟩
      rw [hS] at h63 hlen
      have IH : Hid (∀ W, Calls Tryd.prog 47 #[.int .i64 q] W fun e w' => e = .returned (.string ⟨S.toArray⟩) ∧ ∃ k, w' = W.drewN k) := Lib.hid (fun W => (ih' W).mono fun e w' ⟨he, hk⟩ => ⟨by rw [he, hS], hk⟩)
      clear ih' hS
      have H0 := Lib.hid h63; clear h63
      have hsz : (⟨S.toArray⟩ : ByteArray).size = S.length := rfl
      have hsz' : (⟨S.toArray⟩ : ByteArray).size ≤ 9223372036854775800 := by omega
      clear hsz hlen
      obtain ⟨T, hT⟩ : ∃ T : ByteArray, ⟨S.toArray⟩ = T := ⟨_, rfl⟩
      rw [hT] at hsz' IH
      have HT := Lib.hid hT; clear hT
      rcases ten d hr0 hr1 with rfl | rfl | rfl | rfl | rfl | rfl | rfl | rfl | rfl | rfl
      all_goals
        clear hr0 hr1
        go_enter Tryd.func47, Tryd.ntmps47
        go_wp2_with fail
        go_quiet ((go_at_call 47; exact Calls.quiet_of (IH.out _)))
        go_wp2
        go_ret
        exact ⟨ret_str (by rw [H0.out, ← bytes_app, HT.out]; congr 1), _, rfl⟩

set_option maxHeartbeats 1000000 in
/-- the text of a number. -/
theorem num_any (m : Int) (w : World) (h0 : -9223372036854775806 ≤ m) (h1 : m ≤ 9223372036854775806) :
    Calls Tryd.prog 47 #[.int .i64 m] w (NumP m w) := by
  by_cases hn : 0 ≤ m
  · exact num_nat m.toNat m w hn h1 (Nat.le_refl _)
  · have hneg : m < 0 := by omega
    clear hn
    have h63 := itoa_neg m hneg
    have hq1 : -m ≤ 9223372036854775806 := by omega
    have ih' := fun W => num_nat (-m).toNat (-m) W (by omega) hq1 (Nat.le_refl _)
    obtain ⟨S, hS⟩ : ∃ S, itoa (-m) = S := ⟨_, rfl⟩
    have hlen := itoa_len19 (-m) (by omega) hq1
    rw [hS] at h63 hlen
    have hsz : (⟨S.toArray⟩ : ByteArray).size = S.length := rfl
    obtain ⟨T, hT⟩ : ∃ T : ByteArray, ⟨S.toArray⟩ = T := ⟨_, rfl⟩
    rw [hT] at hsz
    have hsz' : T.size ≤ 19 := by omega
    have IH : Hid (∀ W, Calls Tryd.prog 47 #[.int .i64 (-m)] W fun e w' => e = .returned (.string T) ∧ ∃ k, w' = W.drewN k) := Lib.hid (fun W => (ih' W).mono fun e w' ⟨he, hk⟩ => ⟨by rw [he, hS, hT], hk⟩)
    have HT := Lib.hid hT
    have H0 := Lib.hid h63
    clear ih' hS h63 hlen hsz hT
    go_enter Tryd.func47, Tryd.ntmps47
    go_wp2_with (go_at_call 47; refine (IH.out _).mono ?_; rintro e w' ⟨rfl, k, rfl⟩)
    go_ret
    exact ⟨ret_str (by rw [H0.out, ← HT.out]; exact bytes_app [45] S), _, rfl⟩
end Go.Proofs.YteihdnjdpiejmabDoor
