/- Contracts: impl.isName and spec.l2Name answer the same plain word. No condition but those typed. -/
import Derived.Test.YtcbjdfgmkiodkaaNetM
import Derived.Test.YtcbjdfgmkiodkaaFmtV
import Derived.Test.YtcbjdfgmkiodkaaFill
namespace Go.Proofs.Ytcbjdfgmkiodkaa
open Go.ChangeShapes Go.WideShapes Go.ChangeAt Go.RowKit

theorem tl_ne {a b : ByteArray} (h : a ≠ b) : (a.toList == b.toList) = false := by
  rw [beq_eq_false_iff_ne, ByteArray.toList_eq, ByteArray.toList_eq]
  exact fun e => h (Go.WideShapes.bytes_inj e)
theorem tl_not {a b : ByteArray} (h : a ≠ b) : (!a.toList == b.toList) = true := by rw [tl_ne h]; rfl
theorem tl_inj {a b : ByteArray} (h : a.toList = b.toList) : a = b := by
  rw [ByteArray.toList_eq, ByteArray.toList_eq] at h; exact Go.WideShapes.bytes_inj h

set_option maxHeartbeats 1000000 in
theorem implName (s : ByteArray) (w : World) (hs : s.size ≤ maxLen) :
    Calls Try.prog 213 #[.string s] w fun e w' => e = .returned (.bool (pb (nameP s))) ∧ w = w' := by
  unfold maxLen at hs
  by_cases h0 : s.size = 0
  · obtain rfl : s = ByteArray.empty := by
      apply ByteArray.ext
      exact Array.eq_empty_of_size_eq_zero h0
    have HF : Hid (pb (nameP ByteArray.empty) = false) := Lib.hid (pb_false fun h => by have := h.1; simp at this)
    clear h0 hs
    go_enter Try.func213, Try.ntmps213
    go_wp2
    go_ret
    exact ⟨retb HF.out.symm, rfl⟩
  have hneq : s ≠ ByteArray.empty := fun h => h0 (by rw [h]; rfl)
  have hne := tl_ne hneq
  have hne2 : s.toList.isEmpty = false := by
    rw [ByteArray.toList_eq]
    cases h : s.data.toList with
    | nil => exact absurd (by have := congrArg List.length h; simpa using this) h0
    | cons a b => rfl
  have hne3 : s.toList ≠ [] := by intro h; rw [h] at hne2; simp at hne2
  clear hneq
  by_cases h8 : 8 < s.size
  · have HF : Hid (pb (nameP s) = false) := Lib.hid (pb_false fun h => by have := h.2.1; omega)
    have h8' : 8 < (s.size : Int) := by omega
    go_enter Try.func213, Try.ntmps213
    go_wp2
    go_ret
    exact ⟨retb HF.out.symm, rfl⟩
  have h8' : (s.size : Int) ≤ 8 := by omega
  clear h8
  go_enter Try.func213, Try.ntmps213
  go_wp2
  clear hne hne2 hne3
  go_loop [15] (fun i => ∃ k : Nat, k ≤ s.size ∧ i = .int .i64 k ∧ (∀ j (h : j < s.size), j < k → signP j s[j])) (fun i => s.size - (intOf i).toNat)
  case atStart => exact ⟨0, Nat.zero_le _, rfl, fun j _ h => absurd h (by omega)⟩
  case round =>
    obtain ⟨k, hk, rfl, hall⟩ := hrel
    have HA := Lib.hid hall; clear hall
    by_cases hlt : k < s.size
    · obtain ⟨u, hu⟩ : ∃ u, s[k]'hlt = u := ⟨_, rfl⟩
      have HU := Lib.hid hu
      by_cases hl : 97 ≤ (u.toNat : Int) ∧ (u.toNat : Int) ≤ 122
      · have HS : Hid (∀ j (h : j < s.size), j < k + 1 → signP j s[j]) := Lib.hid (by
          intro j h hj
          by_cases hjk : j < k
          · exact HA.out j h hjk
          · obtain rfl : j = k := by omega
            rw [hu]; exact .inl hl)
        obtain ⟨hl1, hl2⟩ := hl
        go_wp2
        all_goals
          go_round
          case rel => exact ⟨k + 1, by omega, by go_num, HS.out⟩
          case measure => simp [intOf]; omega
      · by_cases hk0 : k = 0
        · have HF : Hid (pb (nameP s) = false) := Lib.hid (pb_false fun h => by
            have := h.2.2 k hlt
            rw [hu] at this
            rcases this with h | h
            · exact hl h
            · omega)
          subst hk0
          have hl' : (u.toNat : Int) < 97 ∨ 122 < (u.toNat : Int) := by omega
          clear hl
          rcases hl' with hl | hl
          all_goals
            (try have hx : decide ((u.toNat : Int) ≤ 122) = false := decide_eq_false (by omega))
            (try have hy : decide ((u.toNat : Int) ≤ 57) = false := decide_eq_false (by omega))
            (try have hy' : decide ((u.toNat : Int) ≤ 57) = true := decide_eq_true (by omega))
            go_wp2
            all_goals
              go_ret
              exact ⟨retb HF.out.symm, rfl⟩
        · have hl' : (u.toNat : Int) < 97 ∨ 122 < (u.toNat : Int) := by omega
          have hd0 : decide (0 < k) = true := decide_eq_true (by omega)
          have hkz : ((k : Int) == 0) = false := by simp; omega
          have hkz2 : decide (k = 0) = false := decide_eq_false hk0
          by_cases hdg : 48 ≤ (u.toNat : Int) ∧ (u.toNat : Int) ≤ 57
          · have HS : Hid (∀ j (h : j < s.size), j < k + 1 → signP j s[j]) := Lib.hid (by
              intro j h hj
              by_cases hjk : j < k
              · exact HA.out j h hjk
              · obtain rfl : j = k := by omega
                rw [hu]; exact .inr ⟨by omega, hdg⟩)
            obtain ⟨hd1, hd2⟩ := hdg
            have hlow : (u.toNat : Int) < 97 := by omega
            clear hl hl'
            (try have hx : decide ((u.toNat : Int) ≤ 122) = false := decide_eq_false (by omega))
            (try have hy : decide ((u.toNat : Int) ≤ 57) = false := decide_eq_false (by omega))
            (try have hy' : decide ((u.toNat : Int) ≤ 57) = true := decide_eq_true (by omega))
            go_wp2
            all_goals
              go_round
              case rel => exact ⟨k + 1, by omega, by go_num, HS.out⟩
              case measure => simp [intOf]; omega
          · have HF : Hid (pb (nameP s) = false) := Lib.hid (pb_false fun h => by
              have := h.2.2 k hlt
              rw [hu] at this
              rcases this with h | h
              · exact hl h
              · exact hdg h.2)
            have hdg' : (u.toNat : Int) < 48 ∨ 57 < (u.toNat : Int) := by omega
            clear hl hdg
            rcases hl' with hl | hl <;> rcases hdg' with hdg | hdg
            all_goals first | (exfalso; omega) | skip
            all_goals
              (try have hx : decide ((u.toNat : Int) ≤ 122) = false := decide_eq_false (by omega))
              (try have hy : decide ((u.toNat : Int) ≤ 57) = false := decide_eq_false (by omega))
              (try have hy' : decide ((u.toNat : Int) ≤ 57) = true := decide_eq_true (by omega))
              go_wp2
              all_goals
                go_ret
                exact ⟨retb HF.out.symm, rfl⟩
    · have hke : k = s.size := by omega
      have HT : Hid (pb (nameP s) = true) := Lib.hid (pb_true ⟨by omega, by omega, fun i h => HA.out i h (by omega)⟩)
      subst hke
      clear hlt
      go_wp2
      go_ret
      exact ⟨retb HT.out.symm, rfl⟩

theorem sign_any (c : UInt8) (w : World) : Calls Try.prog 249 #[.int .u8 c.toNat] w fun e w' => e = .returned (.bool (pb (letterP c ∨ digitP c))) ∧ w = w' := by
  by_cases hl : letterP c
  · have HT : Hid (pb (letterP c ∨ digitP c) = true) := Lib.hid (pb_true (.inl hl))
    obtain ⟨h1, h2⟩ := hl
    go_enter Try.func249, Try.ntmps249
    go_wp2
    all_goals
      go_ret
      exact ⟨retb HT.out.symm, rfl⟩
  · by_cases hd : digitP c
    · have HT : Hid (pb (letterP c ∨ digitP c) = true) := Lib.hid (pb_true (.inr hd))
      obtain ⟨h1, h2⟩ := hd
      have hl' : (c.toNat : Int) < 97 := by omega
      clear hl
      go_enter Try.func249, Try.ntmps249
      go_wp2
      all_goals
        go_ret
        exact ⟨retb HT.out.symm, rfl⟩
    · have HF : Hid (pb (letterP c ∨ digitP c) = false) := Lib.hid (pb_false fun h => h.elim hl hd)
      unfold letterP at hl
      unfold digitP at hd
      have hl' : (c.toNat : Int) < 97 ∨ 122 < (c.toNat : Int) := by omega
      have hd' : (c.toNat : Int) < 48 ∨ 57 < (c.toNat : Int) := by omega
      clear hl hd
      rcases hl' with hl | hl <;> rcases hd' with hd | hd
      all_goals first | (exfalso; omega) | skip
      all_goals
        (try have hx : decide ((c.toNat : Int) ≤ 122) = false := decide_eq_false (by omega))
        (try have hy : decide ((c.toNat : Int) ≤ 57) = false := decide_eq_false (by omega))
        (try have hy' : decide ((c.toNat : Int) ≤ 57) = true := decide_eq_true (by omega))
        go_enter Try.func249, Try.ntmps249
        go_wp2
        all_goals
          go_ret
          exact ⟨retb HF.out.symm, rfl⟩

set_option maxHeartbeats 1000000 in
theorem specName (s : ByteArray) (w : World) (hs : s.size ≤ maxLen) :
    Calls Try.prog 207 #[.string s] w fun e w' => e = .returned (.bool (pb (nameP s))) ∧ w = w' := by
  unfold maxLen at hs
  by_cases h8 : 1 ≤ s.size ∧ s.size ≤ 8
  · obtain ⟨ha, hb⟩ := h8
    have h0 : 0 < s.size := by omega
    obtain ⟨u, hu⟩ : ∃ u, s[0]'h0 = u := ⟨_, rfl⟩
    by_cases hl : 97 ≤ (u.toNat : Int) ∧ (u.toNat : Int) ≤ 122
    · have HL : Hid (signP 0 (s[0]'h0)) := Lib.hid (by rw [hu]; exact .inl hl)
      obtain ⟨hl1, hl2⟩ := hl
      have HU := Lib.hid hu
      go_enter Try.func207, Try.ntmps207
      go_wp2_with (refine (in_yes _ _ _ _ (by omega) (by omega)).mono ?_; rintro e w' ⟨rfl, rfl⟩)
      clear hu
      go_loop [3] (fun i => ∃ k : Nat, k ≤ s.size ∧ i = .int .i64 k ∧ (∀ j (h : j < s.size), j < k → signP j s[j])) (fun i => s.size - (intOf i).toNat)
      case atStart => exact ⟨0, Nat.zero_le _, rfl, fun j _ h => absurd h (by omega)⟩
      case round =>
        obtain ⟨k, hk, rfl, hall⟩ := hrel
        have HA := Lib.hid hall; clear hall
        by_cases hlt : k < s.size
        · obtain ⟨v, hv⟩ : ∃ v, s[k]'hlt = v := ⟨_, rfl⟩
          by_cases hp : letterP v ∨ digitP v
          · have hq : pb (letterP v ∨ digitP v) = true := pb_true hp
            have HS : Hid (∀ j (h : j < s.size), j < k + 1 → signP j s[j]) := Lib.hid (by
              intro j h hj
              by_cases hjk : j < k
              · exact HA.out j h hjk
              · obtain rfl : j = k := by omega
                by_cases hj0 : j = 0
                · subst hj0; exact HL.out
                · rw [hv]; exact hp.elim .inl fun h => .inr ⟨by omega, h⟩)
            have hc := fun W => sign_any v W
            rw [hq] at hc
            have HC := Lib.hid hc; clear hc hq hp
            go_wp2_with (refine (HC.out _).mono ?_; rintro e w' ⟨rfl, rfl⟩)
            go_round
            case rel => exact ⟨k + 1, by omega, by go_num, HS.out⟩
            case measure => simp [intOf]; omega
          · have hq : pb (letterP v ∨ digitP v) = false := pb_false hp
            have HF : Hid (pb (nameP s) = false) := Lib.hid (pb_false fun h => hp (by
              have := h.2.2 k hlt
              rw [hv] at this
              exact this.elim .inl fun h => .inr h.2))
            have hc := fun W => sign_any v W
            rw [hq] at hc
            have HC := Lib.hid hc; clear hc hq hp
            go_wp2_with (refine (HC.out _).mono ?_; rintro e w' ⟨rfl, rfl⟩)
            go_ret
            exact ⟨retb HF.out.symm, rfl⟩
        · have hke : k = s.size := by omega
          have HT : Hid (pb (nameP s) = true) := Lib.hid (pb_true ⟨by omega, by omega, fun i h => HA.out i h (by omega)⟩)
          subst hke
          clear hlt
          go_wp2
          go_ret
          exact ⟨retb HT.out.symm, rfl⟩
    · have HF : Hid (pb (nameP s) = false) := Lib.hid (pb_false fun h => by
        have := h.2.2 0 h0
        rw [hu] at this
        rcases this with h | h
        · exact hl h
        · omega)
      have hl' : (u.toNat : Int) < 97 ∨ 122 < (u.toNat : Int) := by omega
      clear hl
      rcases hl' with hl | hl
      all_goals
        go_enter Try.func207, Try.ntmps207
        go_wp2_with (refine (in_yes _ _ _ _ (by omega) (by omega)).mono ?_; rintro e w' ⟨rfl, rfl⟩)
        all_goals
          go_ret
          exact ⟨retb HF.out.symm, rfl⟩
  · have HF : Hid (pb (nameP s) = false) := Lib.hid (pb_false fun h => h8 ⟨h.1, h.2.1⟩)
    have h8' : (s.size : Int) < 1 ∨ 8 < (s.size : Int) := by omega
    clear h8
    go_enter Try.func207, Try.ntmps207
    go_wp2_with (refine (in_no _ _ _ _ (by omega)).mono ?_; rintro e w' ⟨rfl, rfl⟩)
    go_ret
    exact ⟨retb HF.out.symm, rfl⟩
end Go.Proofs.Ytcbjdfgmkiodkaa
