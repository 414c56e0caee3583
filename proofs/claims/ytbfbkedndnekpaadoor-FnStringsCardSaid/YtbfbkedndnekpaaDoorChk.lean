/- Contracts: spec.l1Sum and impl.Checksum reckon the same plain function. No condition. -/
import Derived.Test.YtbfbkedndnekpaaDoorRd
namespace Go.Proofs.YtbfbkedndnekpaaDoor
open Go.ChangeShapes Go.WideShapes Go.ChangeAt Go.RowKit

/-- the checksum of a list of bytes, from a start. -/
def sumFrom (h : Int) : List UInt8 → Int
  | [] => h
  | c :: r => sumFrom ((41 * h + (c.toNat : Int) + 1) % 999979) r
theorem sumFrom_snoc (h : Int) (l : List UInt8) (c : UInt8) : sumFrom h (l ++ [c]) = (41 * sumFrom h l + (c.toNat : Int) + 1) % 999979 := by
  induction l generalizing h with
  | nil => rfl
  | cons d r ih => exact ih _
theorem sumFrom_bd (h : Int) (l : List UInt8) (h0 : 0 ≤ h) (h1 : h < 999979) : 0 ≤ sumFrom h l ∧ sumFrom h l < 999979 := by
  induction l generalizing h with
  | nil => exact ⟨h0, h1⟩
  | cons d r ih => exact ih _ (by omega) (by omega)
theorem takeSnoc (s : ByteArray) (k : Nat) (h : k < s.size) : s.data.toList.take (k + 1) = s.data.toList.take k ++ [s[k]] := by
  rw [List.take_succ_eq_append_getElem (by simpa using h)]; rfl
theorem retInt {k : IntKind} {a b : Int} (h : a = b) : Ending.returned (.int k a) = .returned (.int k b) := by rw [h]
theorem l1sum (s : ByteArray) (w : World) (hs : s.size ≤ maxLen) :
    Calls Tryd.prog 57 #[.string s] w fun e w' => e = .returned (.int .i64 (sumFrom 7 s.data.toList)) ∧ w = w' := by
  unfold maxLen at hs
  go_enter Tryd.func57, Tryd.ntmps57
  go_wp2
  go_loop [3, 4] (fun n i => ∃ k : Nat, k ≤ s.size ∧ i = .int .i64 k ∧ n = .int .i64 (sumFrom 7 (s.data.toList.take k))) (fun _ i => s.size - (intOf i).toNat)
  case atStart => exact ⟨0, Nat.zero_le _, rfl, rfl⟩
  case round =>
    obtain ⟨k, hk, rfl, rfl⟩ := hrel
    have hd := sumFrom_bd 7 (s.data.toList.take k) (by omega) (by omega)
    obtain ⟨hd1, hd2⟩ := hd
    by_cases hlt : k < s.size
    · have hsn := sumFrom_snoc 7 (s.data.toList.take k) s[k]
      have hts := takeSnoc s k hlt
      have HS : Hid (sumFrom 7 (s.data.toList.take (k + 1)) = (41 * sumFrom 7 (s.data.toList.take k) + (s[k].toNat : Int) + 1) % 999979) := by rw [hts]; exact hsn
      clear hsn hts
      have hb0 : (0 : Int) ≤ s[k].toNat := by omega
      have hb1 : (s[k].toNat : Int) < 256 := by have := s[k].toNat_lt; omega
      go_wp2
      go_round
      case rel => exact ⟨k + 1, by omega, by go_num, by rw [HS.out]⟩
      case measure => simp [intOf]; omega
    · go_wp2
      go_ret
      exact ⟨retInt (by rw [List.take_of_length_le (by simp; omega)]), rfl⟩
def sumOf (s : ByteArray) : Int := if s.size ≤ 4000 then sumFrom 7 s.data.toList else 0
theorem impl_sum (s : ByteArray) (w : World) (hs : s.size ≤ maxLen) :
    Calls Tryd.prog 45 #[.string s] w fun e w' => e = .returned (.tuple #[.int .i64 (sumOf s), .bool (decide (s.size ≤ 4000))]) ∧ w = w' := by
  unfold maxLen at hs
  by_cases h : s.size ≤ 4000
  · have e1 : sumOf s = sumFrom 7 s.data.toList := if_pos h
    have e2 : decide (s.size ≤ 4000) = true := by simpa using h
    rw [e1, e2]; clear e1 e2
    go_enter Tryd.func45, Tryd.ntmps45
    go_wp2
    go_loop [4, 11] (fun n i => ∃ k : Nat, k ≤ s.size ∧ i = .int .i64 k ∧ n = .int .i64 (sumFrom 7 (s.data.toList.take k))) (fun _ i => s.size - (intOf i).toNat)
    case atStart => exact ⟨0, Nat.zero_le _, rfl, rfl⟩
    case round =>
      obtain ⟨k, hk, rfl, rfl⟩ := hrel
      have hd := sumFrom_bd 7 (s.data.toList.take k) (by omega) (by omega)
      obtain ⟨hd1, hd2⟩ := hd
      by_cases hlt : k < s.size
      · have hsn := sumFrom_snoc 7 (s.data.toList.take k) s[k]
        have hts := takeSnoc s k hlt
        have HS : Hid (sumFrom 7 (s.data.toList.take (k + 1)) = (41 * sumFrom 7 (s.data.toList.take k) + (s[k].toNat : Int) + 1) % 999979) := by rw [hts]; exact hsn
        clear hsn hts
        have hb0 : (0 : Int) ≤ s[k].toNat := by omega
        have hb1 : (s[k].toNat : Int) < 256 := by have := s[k].toNat_lt; omega
        go_wp2
        go_round
        case rel => exact ⟨k + 1, by omega, by go_num, by rw [HS.out]⟩
        case measure => simp [intOf]; omega
      · go_wp2
        go_ret2
        have e : s.data.toList.take k = s.data.toList := by rw [List.take_of_length_le (by simp; omega)]
        rw [e]; exact ⟨rfl, rfl⟩
  · have e1 : sumOf s = 0 := if_neg h
    have e2 : decide (s.size ≤ 4000) = false := by simpa using h
    rw [e1, e2]; clear e1 e2
    have h' : ¬ ((s.size : Int) ≤ 4000) := by omega
    go_enter Tryd.func45, Tryd.ntmps45
    go_wp2
    go_ret2
    exact ⟨rfl, rfl⟩

end Go.Proofs.YtbfbkedndnekpaaDoor
