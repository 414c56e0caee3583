/- Proved: at every string impl.Checksum answers as spec.Checksum does (the law FnExactChecksum returns true and leaves its argument alone). No condition. -/
import Derived.Test.YtbfbkedndnekpaaRows
import Derived.WalkKit
import Derived.Outline
import Derived.Lib.Hide
import Derived.LoopTactic
import Derived.ProofKit
import Derived.OpenShut
import Derived.ShutString
namespace Go.Proofs.Ytbfbkedndnekpaa.fnExactChecksum
open Go.ChangeShapes Go.WideShapes Go.ChangeAt Go.RowKit
open Go.ChangeMaps (open_string shut_string)
set_option linter.unusedVariables false      -- a walk need not use every 'w<i>' (that an integer argument fits its kind)

theorem own : ownKnob Try.prog.godebug = none := by kernel_rfl

/-- the checksum of a list of bytes, from a start. -/
def sumFrom (h : Int) : List UInt8 → Int
  | [] => h
  | c :: r => sumFrom ((41 * h + (c.toNat : Int) + 1) % 999979) r
theorem sumFrom_snoc (h : Int) (l : List UInt8) (c : UInt8) : sumFrom h (l ++ [c]) = (41 * sumFrom h l + (c.toNat : Int) + 1) % 999979 := by
  induction l generalizing h with
  | nil => rfl
  | cons d r ih => exact ih _
theorem sumFrom_bd (h : Int) (l : List UInt8) (h0 : 0 ≤ h) (h1 : h < 999979) : 0 ≤ sumFrom h l ∧ sumFrom h l < 999979 := by
  induction l generalizing h with
  | nil => exact ⟨h0, h1⟩
  | cons d r ih => exact ih _ (by omega) (by omega)
theorem take_snoc (s : ByteArray) (k : Nat) (h : k < s.size) : s.data.toList.take (k + 1) = s.data.toList.take k ++ [s[k]] := by
  rw [List.take_succ_eq_append_getElem (by simpa using h)]; rfl
theorem ret_int {k : IntKind} {a b : Int} (h : a = b) : Ending.returned (.int k a) = .returned (.int k b) := by rw [h]
theorem l1sum (s : ByteArray) (w : World) (hs : s.size ≤ maxLen) :
    Calls Try.prog 17 #[.string s] w fun e w' => e = .returned (.int .i64 (sumFrom 7 s.data.toList)) ∧ w = w' := by
  unfold maxLen at hs
  go_enter Try.func17, Try.ntmps17
  go_wp2
  go_loop [3, 4] (fun n i => ∃ k : Nat, k ≤ s.size ∧ i = .int .i64 k ∧ n = .int .i64 (sumFrom 7 (s.data.toList.take k))) (fun _ i => s.size - (intOf i).toNat)
  case atStart => exact ⟨0, Nat.zero_le _, rfl, rfl⟩
  case round =>
    obtain ⟨k, hk, rfl, rfl⟩ := hrel
    have hd := sumFrom_bd 7 (s.data.toList.take k) (by omega) (by omega)
    obtain ⟨hd1, hd2⟩ := hd
    by_cases hlt : k < s.size
    · have hsn := sumFrom_snoc 7 (s.data.toList.take k) s[k]
      have hts := take_snoc s k hlt
      have HS : Hid (sumFrom 7 (s.data.toList.take (k + 1)) = (41 * sumFrom 7 (s.data.toList.take k) + (s[k].toNat : Int) + 1) % 999979) := by rw [hts]; exact hsn
      clear hsn hts
      have hb0 : (0 : Int) ≤ s[k].toNat := by omega
      have hb1 : (s[k].toNat : Int) < 256 := by have := s[k].toNat_lt; omega
      go_wp2
      go_round
      case rel => exact ⟨k + 1, by omega, by go_num, by rw [HS.out]⟩
      case measure => simp [intOf]; omega
    · go_wp2
      go_ret
      exact ⟨ret_int (by rw [List.take_of_length_le (by simp; omega)]), rfl⟩
def sumOf (s : ByteArray) : Int := if s.size ≤ 4000 then sumFrom 7 s.data.toList else 0
theorem spec_sum (s : ByteArray) (w : World) (hs : s.size ≤ maxLen) :
    Calls Try.prog 13 #[.string s] w fun e w' => e = .returned (.tuple #[.int .i64 (sumOf s), .bool (decide (s.size ≤ 4000))]) ∧ w = w' := by
  have hl := l1sum s w hs
  unfold maxLen at hs
  by_cases h : s.size ≤ 4000
  · have e1 : sumOf s = sumFrom 7 s.data.toList := if_pos h
    have e2 : decide (s.size ≤ 4000) = true := by simpa using h
    rw [e1, e2]; clear e1 e2
    go_enter Try.func13, Try.ntmps13
    go_wp2_with (go_at_call 17; refine hl.mono ?_; rintro e w' ⟨rfl, rfl⟩)
    go_ret2
    exact ⟨rfl, rfl⟩
  · have e1 : sumOf s = 0 := if_neg h
    have e2 : decide (s.size ≤ 4000) = false := by simpa using h
    rw [e1, e2]; clear e1 e2
    have h' : ¬ ((s.size : Int) ≤ 4000) := by omega
    go_enter Try.func13, Try.ntmps13
    go_wp2
    go_ret2
    exact ⟨rfl, rfl⟩
theorem impl_sum (s : ByteArray) (w : World) (hs : s.size ≤ maxLen) :
    Calls Try.prog 14 #[.string s] w fun e w' => e = .returned (.tuple #[.int .i64 (sumOf s), .bool (decide (s.size ≤ 4000))]) ∧ w = w' := by
  unfold maxLen at hs
  by_cases h : s.size ≤ 4000
  · have e1 : sumOf s = sumFrom 7 s.data.toList := if_pos h
    have e2 : decide (s.size ≤ 4000) = true := by simpa using h
    rw [e1, e2]; clear e1 e2
    go_enter Try.func14, Try.ntmps14
    go_wp2
    go_loop [4, 11] (fun n i => ∃ k : Nat, k ≤ s.size ∧ i = .int .i64 k ∧ n = .int .i64 (sumFrom 7 (s.data.toList.take k))) (fun _ i => s.size - (intOf i).toNat)
    case atStart => exact ⟨0, Nat.zero_le _, rfl, rfl⟩
    case round =>
      obtain ⟨k, hk, rfl, rfl⟩ := hrel
      have hd := sumFrom_bd 7 (s.data.toList.take k) (by omega) (by omega)
      obtain ⟨hd1, hd2⟩ := hd
      by_cases hlt : k < s.size
      · have hsn := sumFrom_snoc 7 (s.data.toList.take k) s[k]
        have hts := take_snoc s k hlt
        have HS : Hid (sumFrom 7 (s.data.toList.take (k + 1)) = (41 * sumFrom 7 (s.data.toList.take k) + (s[k].toNat : Int) + 1) % 999979) := by rw [hts]; exact hsn
        clear hsn hts
        have hb0 : (0 : Int) ≤ s[k].toNat := by omega
        have hb1 : (s[k].toNat : Int) < 256 := by have := s[k].toNat_lt; omega
        go_wp2
        go_round
        case rel => exact ⟨k + 1, by omega, by go_num, by rw [HS.out]⟩
        case measure => simp [intOf]; omega
      · go_wp2
        go_ret2
        have e : s.data.toList.take k = s.data.toList := by rw [List.take_of_length_le (by simp; omega)]
        rw [e]; exact ⟨rfl, rfl⟩
  · have e1 : sumOf s = 0 := if_neg h
    have e2 : decide (s.size ≤ 4000) = false := by simpa using h
    rw [e1, e2]; clear e1 e2
    have h' : ¬ ((s.size : Int) ≤ 4000) := by omega
    go_enter Try.func14, Try.ntmps14
    go_wp2
    go_ret2
    exact ⟨rfl, rfl⟩

theorem walk (a0 : ByteArray) (w0 : a0.size ≤ maxLen) (w : World) :
    Calls Try.prog 5 #[.string a0] w fun e w' => e = .returned (.bool true) ∧ Grown w w' := by
  have c1 := spec_sum a0 w w0
  have c2 := impl_sum a0 w w0
  unfold maxLen at w0
  go_enter Try.func5, Try.ntmps5
  go_wp2_with (first | (go_at_call 13; refine c1.mono ?_; rintro e w' ⟨rfl, rfl⟩) | (go_at_call 14; refine c2.mono ?_; rintro e w' ⟨rfl, rfl⟩))
  all_goals
    go_ret
    exact ⟨rfl, by repeat (first | exact Grown.refl _ | apply Grown.drew | apply Grown.alloc)⟩

/-! ### THE ROW's STEP: WRITTEN OUT: LEAVE IT -/
set_option maxRecDepth 100000 in
theorem lifted (os : Os) (started : os.Started) (H : Type) (enc : TypeId × Value → H) :
    ReturnsInHanded {} Try.checked os 5 .any (Rows.fnExactChecksumSpec.pre6 enc Try.prog Try.f5 Rows.fnExactChecksumRow.domain false) (Rows.fnExactChecksumSpec.post enc Try.prog Try.f5 false true false false) := by
  refine returnsInHanded_of_change (C := Try.checked) own started (by kernel_rfl) Try.func5
    (ChangeSpec.witness6 (enc := enc) (C := Try.checked) false ⟨#[], #[.string ByteArray.empty], []⟩ 8 (by kernel_rfl) (by kernel_rfl) (by kernel_rfl) (by kernel_rfl)) ?_
  intro W base args ds gs before hval0 hW hcnd _
  have hval : ∀ (j : Nat) t v, Try.f5.params[j]? = some t → args[j]? = some v → Value.okWide Try.prog W .any base t v := hval0
  have hW' := hW
  obtain ⟨p, q, hA0, hV, rfl, hfz, hnd⟩ := hW
  have hA : DataW.TrodAll enc Try.prog W 0 (fun _ => true) true Try.f5.params.toList args.toList ds p := hA0
  rw [Try.params5] at hA hval
  obtain ⟨v0, vs0, d0, ds0, p0, q0, hargs, rfl, rfl, h0, r0⟩ := trodAll_cons hA
  obtain ⟨rfl, rfl, rfl⟩ := trodAll_nil r0
  obtain rfl : args = #[v0] := by cases args; simp_all
  obtain ⟨rfl, rfl⟩ := trodVars_none hV
  obtain ⟨a0, rfl, rfl, rfl, w0⟩ := open_string Try.underlying9 (hval 0 9 v0 rfl rfl) h0
  clear hA0 hval0
  simp only [List.append_nil] at hW'
  refine (walk a0 w0 W).mono fun e W' ⟨he, hg⟩ => ?_
  subst he
  exact ⟨_, rfl, post_of_same (pa := []) (pv := []) hW' (fun _ _ _ => (trodAll_cons_mk (shut_bool Try.underlying4 _) trodAll_mk0)) (fun sp _ => (trodAll_cons_mk (shut_string Try.underlying9 w0) trodAll_mk0)) (fun _ _ => rfl) rfl
    (hg.frame _) hg.2.1 (ok_one (by kernel_rfl) rfl (okWide_bool_mk Try.underlying4 _))⟩

theorem over : Rows.fnExactChecksumRow.holds Try.pinned (OpenSpec.ofChange Rows.fnExactChecksumSpec) :=
  OpenClaim.holds_of_wide 5 Try.f5 rfl rfl rfl rfl rfl rfl rfl ⟨rfl, rfl, rfl, rfl, rfl⟩ rfl rfl rfl rfl rfl (by kernel_rfl) Try.func5 (by kernel_rfl)
    (of_decide_eq_true (by kernel_rfl)) (by unfold Func.isWrapper; first | (rw [if_pos (by decide +kernel)]; kernel_rfl) | (rw [if_neg (by decide +kernel)]; exact ⟨rfl, rfl⟩))
    (fun os started H enc _ => lifted os started H enc)

/-- ████ THE STATEMENT ████ -/
theorem proved : Rows.FnExactChecksumSaid :=
  over
end Go.Proofs.Ytbfbkedndnekpaa.fnExactChecksum
