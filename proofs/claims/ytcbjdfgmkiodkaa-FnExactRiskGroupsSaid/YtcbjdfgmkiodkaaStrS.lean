/- Contracts of the law's helpers over a slice of strings (copy, compare, size). No condition but those typed. -/
import Derived.Test.YtcbjdfgmkiodkaaRd
import Derived.Deep.QuietTactic
import Derived.BigQuiet
import Derived.WalkLawsBesides
namespace Go.Proofs.Ytcbjdfgmkiodkaa
open Go.ChangeShapes Go.WideShapes Go.ChangeAt Go.RowKit
theorem Try.inf_str : (Try.prog.info? 9).map (fun i => (i.zero, i.size, i.bytes)) = some (some (.string ByteArray.empty), 1, 16) := by kernel_rfl

theorem set_fill (ss : List ByteArray) (k n : Nat) (hn : ss.length = n) (hk : k < n) :
    ((ss.take k).map Value.string ++ List.replicate (n - k) (Value.string ByteArray.empty)).set k (.string (ss[k]'(by omega))) =
      (ss.take (k + 1)).map Value.string ++ List.replicate (n - (k + 1)) (Value.string ByteArray.empty) := by
  have hl : ((ss.take k).map Value.string).length = k := by simp; omega
  have e : n - k = (n - (k + 1)) + 1 := by omega
  rw [List.set_append_right _ _ (by omega), hl, Nat.sub_self, e, List.replicate_succ, List.set_cons_zero, List.take_succ_eq_append_getElem (by omega)]
  simp only [List.map_append, List.map_cons, List.map_nil, List.append_assoc, List.cons_append, List.nil_append]
theorem get_fill (ss : List ByteArray) (k n : Nat) (hn : ss.length = n) (hk : k < n) :
    ((ss.take k).map Value.string ++ List.replicate (n - k) (Value.string ByteArray.empty))[k]? = some (.string ByteArray.empty) := by
  have hl : ((ss.take k).map Value.string).length = k := by simp; omega
  rw [List.getElem?_append_right (by omega), List.getElem?_replicate, if_pos (by omega)]

set_option maxHeartbeats 400000 in
theorem toStrS (A : Option Addr) (n c : Nat) (ss : List ByteArray) (w : World) (hn : ss.length = n) (hr : Rd w w.heap.size A (ss.map Value.string)) (hsz : n * 16 ≤ 140737488355328) :
    Calls Try.prog 118 #[.slice A n c] w fun e w' => e = .returned (.slice (some ⟨w.heap.size, 0, none⟩) n n) ∧
      w'.ownsRow w.heap.size 9 1 (.slice (some ⟨w.heap.size, 0, none⟩) n n) n (ss.map Value.string) ∧ Below w.heap.size w w' := by
  obtain ⟨i0, hi, hz0, hz1, hz2⟩ := info_parts Try.inf_str
  have hm : n ≤ 9223372036854775807 := by omega
  have HN := Lib.hid hn; clear hn
  go_enter Try.func118, Try.ntmps118
  go_wp2_with (at_make; refine wpList_make_full _ rfl _ _ 22 rfl w.heap.size 9 i0 (.string ByteArray.empty) 1 Try.underlying22 hi hz0 hz1 .i64 .i64 n n n rfl rfl rfl rfl (by rw [hz2]; omega) (by unfold maxLen; omega) (Nat.le_refl _) ?_)
  intro w1 hown hgrow
  have hb1 : Below w.heap.size w w1 := (Below.refl _ _).grown hgrow (Nat.le_refl _) (fun k h => by cases h)
  clear hgrow
  rw [toList_madeCells_one] at hown
  go_wp2
  go_loopw [4] (fun i wr => ∃ k : Nat, k ≤ n ∧ i = .int .i64 k ∧ wr.ownsRow w.heap.size 9 1 (.slice (some ⟨w.heap.size, 0, none⟩) n n) n ((ss.take k).map Value.string ++ List.replicate (n - k) (Value.string ByteArray.empty)) ∧ Below w.heap.size w wr) (fun i _ => n - (intOf i).toNat)
  case atStart => exact ⟨0, Nat.zero_le _, rfl, by simpa using hown, hb1⟩
  case round =>
    clear hown hb1
    obtain ⟨k, hk, rfl, hown, hb⟩ := hrel
    by_cases hlt : k < n
    · have hks : k < ss.length := by have := HN.out; omega
      obtain ⟨ad, rfl, hbl, hcell⟩ := hr.got (k := k) (by simpa using hks)
      rw [strGet ss k hks] at hcell
      rw [← hb.cell (by rw [addBlock]; exact hbl)] at hcell
      have hold := hown.cellAt k (by omega)
      rw [get_fill ss k n HN.out hlt] at hold
      have hfz := hown.frozenAt k
      have hst := hown.stored k (.string (ss[k]'hks))
      rw [set_fill ss k n HN.out hlt] at hst
      have HST := Lib.hid hst.1; clear hst
      clear hown
      go_wp2
      go_roundw
      case rel => exact ⟨k + 1, by omega, by go_num, HST.out, hb.setCell (Nat.le_refl _) _⟩
      case measure => simp [intOf]; omega
    · have hkn : k = n := by omega
      subst hkn
      have e : ss.take k = ss := List.take_of_length_le (by have := HN.out; omega)
      rw [e, Nat.sub_self, List.replicate_zero, List.append_nil] at hown
      clear e
      go_wp2
      go_ret
      exact ⟨rfl, hown, hb⟩

/-- what the size of a slice of strings leaves. -/
def SzPost (left : Int) (n tot : Nat) (w : World) (e : Ending) (w' : World) : Prop :=
  ∃ v : Int, e = .returned (.int .i64 v) ∧ w = w' ∧ -1 ≤ v ∧ v ≤ left ∧ (0 ≤ v → v + n + tot ≤ left)
def totS (ss : List ByteArray) : Nat := (ss.map ByteArray.size).sum
theorem totS_snoc (ss : List ByteArray) (k : Nat) (h : k < ss.length) : totS (ss.take (k + 1)) = totS (ss.take k) + ss[k].size := by
  unfold totS; rw [List.take_succ_eq_append_getElem h, List.map_append, List.sum_append]; simp only [List.map_cons, List.map_nil, List.sum_cons, List.sum_nil, Nat.add_zero]

set_option maxHeartbeats 400000 in
theorem szStrS (A : Option Addr) (n c : Nat) (left : Int) (ss : List ByteArray) (w : World) (hn : ss.length = n) (hr : Rd w w.heap.size A (ss.map Value.string)) (hws : ∀ s ∈ ss, s.size ≤ maxLen)
    (hm0 : n ≤ maxLen) (hl0 : 0 ≤ left) (hl1 : left ≤ 1048576) :
    Calls Try.prog 114 #[.slice A n c, .int .i64 left] w (SzPost left n (totS ss) w) := by
  have hm : n ≤ 9223372036854775807 := by unfold maxLen at hm0; exact hm0
  have HN := Lib.hid hn; clear hn
  by_cases hc : left - n < 0
  · go_enter Try.func114, Try.ntmps114
    go_wp2
    go_ret
    exact ⟨-1, rfl, rfl, by omega, by omega, by omega⟩
  have hc' : 0 ≤ left - n := by omega
  clear hc
  go_enter Try.func114, Try.ntmps114
  go_wp2
  go_loop [1, 5] (fun l i => ∃ (k : Nat) (v : Int), k ≤ n ∧ i = .int .i64 k ∧ l = .int .i64 v ∧ 0 ≤ v ∧ v ≤ left - n ∧ v + totS (ss.take k) ≤ left - n) (fun _ i => n - (intOf i).toNat)
  case atStart => exact ⟨0, left - n, Nat.zero_le _, rfl, rfl, hc', Int.le_refl _, by simp [totS]⟩
  case round =>
    obtain ⟨k, v, hk, rfl, rfl, hv0, hv1, hvt⟩ := hrel
    by_cases hlt : k < n
    · have hks : k < ss.length := by have := HN.out; omega
      obtain ⟨ad, rfl, hbl, hcell⟩ := hr.got (k := k) (by simpa using hks)
      rw [strGet ss k hks] at hcell
      have hw1 := hws _ (List.getElem_mem hks)
      unfold maxLen at hw1
      have hts := totS_snoc ss k hks
      obtain ⟨s, hs⟩ : ∃ s, ss[k] = s := ⟨_, rfl⟩
      rw [hs] at hcell hw1 hts; clear hs
      have HT := Lib.hid hts; clear hts
      by_cases hneg : v - s.size < 0
      · go_wp2
        go_ret
        exact ⟨-1, rfl, rfl, by omega, by omega, by omega⟩
      · have hneg' : 0 ≤ v - s.size := by omega
        clear hneg
        go_wp2
        go_round
        case rel => exact ⟨k + 1, v - s.size, by omega, by go_num, rfl, hneg', by omega, by have := HT.out; omega⟩
        case measure => simp [intOf]; omega
    · have hkn : k = n := by omega
      subst hkn
      have e : ss.take k = ss := List.take_of_length_le (by have := HN.out; omega)
      rw [e] at hvt; clear e
      go_wp2
      go_ret
      exact ⟨v, rfl, rfl, by omega, by omega, by omega⟩

set_option maxHeartbeats 400000 in
theorem eqStrS (A A' : Option Addr) (n c c' : Nat) (ss : List ByteArray) (w : World) (hn : ss.length = n) (hr : Rd w w.heap.size A (ss.map Value.string)) (hr' : Rd w w.heap.size A' (ss.map Value.string)) (hsz : n * 16 ≤ 140737488355328) :
    Calls Try.prog 122 #[.slice A n c, .slice A' n c'] w fun e w' => e = .returned (.bool true) ∧ Below w.heap.size w w' := by
  have hm : n ≤ 9223372036854775807 := by omega
  have HN := Lib.hid hn; clear hn
  go_enter Try.func122, Try.ntmps122
  go_wp2
  go_loopw [5] (fun i wr => ∃ k : Nat, k ≤ n ∧ i = .int .i64 k ∧ Below w.heap.size w wr) (fun i _ => n - (intOf i).toNat)
  case atStart => exact ⟨0, Nat.zero_le _, rfl, Below.refl _ _⟩
  case round =>
    obtain ⟨k, hk, rfl, hb⟩ := hrel
    by_cases hlt : k < n
    · have hks : k < ss.length := by have := HN.out; omega
      obtain ⟨ad, rfl, _, hcell⟩ := (hr.over hb).got (k := k) (by simpa using hks)
      obtain ⟨ad', rfl, _, hcell'⟩ := (hr'.over hb).got (k := k) (by simpa using hks)
      rw [strGet ss k hks] at hcell hcell'
      obtain ⟨s, hs⟩ : ∃ s, ss[k] = s := ⟨_, rfl⟩
      rw [hs] at hcell hcell'; clear hs
      go_wp2
      go_quiet (fail)
      go_wp2
      go_roundw
      case rel => exact ⟨k + 1, by omega, by go_num, drewN_below hb _⟩
      case measure => simp [intOf]; omega
    · go_wp2
      go_ret
      exact ⟨rfl, hb⟩
end Go.Proofs.Ytcbjdfgmkiodkaa
