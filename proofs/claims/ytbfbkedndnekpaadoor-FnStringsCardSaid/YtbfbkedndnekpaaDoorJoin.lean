/- Contracts: spec.JoinStrings and impl.JoinStrings over a slice of strings answer the same plain function 'jres'. No condition but those typed (the sizes that every reading pays). -/
import Derived.Test.YtbfbkedndnekpaaDoorRd
import Derived.Deep.QuietTactic
import Derived.BigQuiet
import Derived.WalkLawsBesides
import Derived.Test.YtbfbkedndnekpaaDoorShelf
import Derived.Lib.AppendStr
import Derived.Laws.IdiomStrings
namespace Go.Proofs.YtbfbkedndnekpaaDoor
open Go.ChangeShapes Go.WideShapes Go.ChangeAt Go.RowKit

/-- a byte stands in a text. -/
def standsB (s : ByteArray) (b : UInt8) : Bool := s.data.toList.contains b
/-- joining from the middle: 'first' nothing has come yet; acc: what has come. -/
def jn (sep : ByteArray) (b : UInt8) : Bool → ByteArray → List ByteArray → Option ByteArray
  | _, acc, [] => some acc
  | first, acc, s :: r =>
    if standsB s b then none else
    let a := if first then acc ++ s else (acc ++ sep) ++ s
    if 4000 < a.size then none else jn sep b false a r
def jout : Option ByteArray → ByteArray × Bool
  | some a => (a, true)
  | none => (ByteArray.empty, false)
/-- what joining answers. -/
def jres (sep : ByteArray) (ss : List ByteArray) : ByteArray × Bool :=
  if sep.size = 1 ∧ 0 < ss.length then
    jout (jn sep (sep.data.toList.getD 0 0) true ByteArray.empty ss)
  else (ByteArray.empty, false)

theorem standsB_iff (s : ByteArray) (b : UInt8) : standsB s b = true ↔ ∃ k, ∃ h : k < s.size, s[k] = b := by
  unfold standsB
  rw [List.contains_iff_mem, List.mem_iff_getElem]
  constructor
  · rintro ⟨k, h, e⟩; exact ⟨k, by simpa using h, e⟩
  · rintro ⟨k, h, e⟩; exact ⟨k, by simpa using h, e⟩
theorem ret_bool {a b : Bool} (h : a = b) : Ending.returned (.bool a) = .returned (.bool b) := by rw [h]

set_option maxHeartbeats 400000 in
theorem stands_any (s : ByteArray) (b : UInt8) (w : World) (hs : s.size ≤ maxLen) :
    Calls Tryd.prog 46 #[.string s, .int .u8 (b.toNat : Int)] w fun e w' => e = .returned (.bool (standsB s b)) ∧ w = w' := by
  unfold maxLen at hs
  go_enter Tryd.func46, Tryd.ntmps46
  go_wp2
  go_loop [5] (fun i => ∃ k : Nat, k ≤ s.size ∧ i = .int .i64 k ∧ ∀ j (h : j < s.size), j < k → s[j] ≠ b) (fun i => s.size - (intOf i).toNat)
  case atStart => exact ⟨0, Nat.zero_le _, rfl, fun j h hj => by omega⟩
  case round =>
    obtain ⟨k, hk, rfl, hno⟩ := hrel
    have HNO := Lib.hid hno; clear hno
    by_cases hlt : k < s.size
    · by_cases he : s[k] = b
      · have hb : ((s[k].toNat : Int) == (b.toNat : Int)) = true := by rw [he]; simp
        have HE := Lib.hid he; clear he
        go_wp2
        go_ret
        exact ⟨ret_bool ((standsB_iff s b).2 ⟨k, hlt, HE.out⟩).symm, rfl⟩
      · have hb : ((s[k].toNat : Int) == (b.toNat : Int)) = false := by
          rw [beq_eq_false_iff_ne]; intro h; exact he (UInt8.toNat_inj.1 (by omega))
        have HE := Lib.hid he; clear he
        go_wp2
        go_round
        case rel => exact ⟨k + 1, by omega, by go_num, fun j h hj => by
          rcases Nat.lt_or_ge j k with h1 | h1
          · exact HNO.out j h h1
          · obtain rfl : j = k := by omega
            exact HE.out⟩
        case measure => simp [intOf]; omega
    · go_wp2
      go_ret
      have e : standsB s b = false := by
        rw [← Bool.not_eq_true, standsB_iff]; rintro ⟨j, h, e⟩; exact HNO.out j h (by omega) e
      exact ⟨ret_bool e.symm, rfl⟩

theorem jn_cons (sep : ByteArray) (b : UInt8) (f : Bool) (acc s : ByteArray) (r : List ByteArray) :
    jn sep b f acc (s :: r) = if standsB s b then none else if 4000 < ((if f then acc else acc ++ sep) ++ s).size then none else jn sep b false ((if f then acc else acc ++ sep) ++ s) r := by
  cases f <;> rfl
theorem drop_at (ss : List ByteArray) (k : Nat) (h : k < ss.length) : ss.drop k = ss[k] :: ss.drop (k + 1) := List.drop_eq_getElem_cons h

theorem succ_ne (k : Nat) : (k + 1 == 0) = false := by simp
def JP (sep : ByteArray) (ss : List ByteArray) (w : World) (e : Ending) (w' : World) : Prop :=
  e = .returned (.tuple #[.string (jres sep ss).1, .bool (jres sep ss).2]) ∧ Below w.heap.size w w'
theorem jp_none {sep : ByteArray} {ss : List ByteArray} {w w' : World} (h : jres sep ss = (ByteArray.empty, false)) (hb : Below w.heap.size w w') : JP sep ss w (.returned (.tuple #[.string ByteArray.empty, .bool false])) w' := by
  unfold JP; rw [h]; exact ⟨rfl, hb⟩
theorem jp_some {sep a : ByteArray} {ss : List ByteArray} {w w' : World} (h : jres sep ss = (a, true)) (hb : Below w.heap.size w w') : JP sep ss w (.returned (.tuple #[.string a, .bool true])) w' := by
  unfold JP; rw [h]; exact ⟨rfl, hb⟩
theorem jres_of {sep : ByteArray} {ss : List ByteArray} (h1 : sep.size = 1) (h2 : 0 < ss.length) {o : Option ByteArray} (h : jn sep (sep.data.toList.getD 0 0) true ByteArray.empty ss = o) :
    jres sep ss = jout o := by
  unfold jres; rw [if_pos ⟨h1, h2⟩, h]
theorem sep0 (sep : ByteArray) (h : 0 < sep.size) : sep.data.toList.getD 0 0 = sep[0] := by
  rw [List.getD_eq_getElem?_getD, List.getElem?_eq_getElem (by simpa using h)]; rfl

set_option maxHeartbeats 1000000 in
theorem specJoin (A : Option Addr) (n c : Nat) (sep : ByteArray) (ss : List ByteArray) (w : World) (hn : ss.length = n) (hr : Rd w w.heap.size A (ss.map Value.string)) (hws : ∀ s ∈ ss, s.size ≤ maxLen)
    (hsz : n * 16 ≤ 140737488355328) (hw1 : sep.size ≤ maxLen) (hbig : ∀ s ∈ ss, s.size ≤ 140737488355328) :
    Calls Tryd.prog 26 #[.slice A n c, .string sep] w (JP sep ss w) := by
  have hm : n ≤ 9223372036854775807 := by omega
  unfold maxLen at hw1
  by_cases h1 : sep.size = 1
  · by_cases h2 : 0 < n
    · have HN := Lib.hid hn; clear hn
      have hp : ∀ o, jn sep (sep.data.toList.getD 0 0) true ByteArray.empty ss = o → jres sep ss = jout o := fun o h => jres_of h1 (by have := HN.out; omega) h
      have hs0 : 0 < sep.size := by omega
      rw [sep0 sep hs0] at hp
      have t1 : ((sep.size : Int) == 1) = true := by rw [beq_iff_eq]; omega
      have t1' : ((sep.size : Int) != 1) = false := by simp [h1]
      have t2 : ((n : Int) == 0) = false := by rw [beq_eq_false_iff_ne]; omega
      have H1 := Lib.hid h1; clear h1
      have HP := Lib.hid hp; clear hp
      go_enter Tryd.func26, Tryd.ntmps26
      go_wp2
      clear t1 t1' t2
      go_loopw [6, 7] (fun o i wr => ∃ (k : Nat) (acc : ByteArray), k ≤ n ∧ i = .int .i64 k ∧ o = .string acc ∧ acc.size ≤ 4000 ∧ Hid (jn sep sep[0] true ByteArray.empty ss = jn sep sep[0] (k == 0) acc (ss.drop k)) ∧ Below w.heap.size w wr) (fun _ i _ => n - (intOf i).toNat)
      case atStart => exact ⟨0, _, Nat.zero_le _, rfl, rfl, by decide, Lib.hid rfl, Below.refl _ _⟩
      case round =>
        obtain ⟨k, acc, hk, rfl, rfl, hacc, HJ, hb⟩ := hrel
        by_cases hlt : k < n
        · have hks : k < ss.length := by have := HN.out; omega
          obtain ⟨ad, rfl, _, hcell⟩ := (hr.over hb).got (k := k) (by simpa using hks)
          rw [strGet ss k hks] at hcell
          have hj := HJ.out
          rw [drop_at ss k hks, jn_cons] at hj
          have hw2 := hbig _ (List.getElem_mem hks)
          obtain ⟨s, hs⟩ : ∃ s, ss[k] = s := ⟨_, rfl⟩
          rw [hs] at hcell hw2 hj; clear hs HJ
          by_cases hst : standsB s sep[0] = true
          · rw [if_pos hst] at hj
            have HF := Lib.hid (HP.out _ hj); clear hj
            have HS := Lib.hid hst; clear hst
            have hcall : ∀ W, Calls Tryd.prog 46 #[.string s, .int .u8 (sep[0].toNat : Int)] W fun e w' => e = .returned (.bool true) ∧ w' = W := fun W => (stands_any s sep[0] W (by unfold maxLen; omega)).mono fun e w' ⟨h, h'⟩ => ⟨by rw [h, HS.out], h'.symm⟩
            have HC := Lib.hid hcall; clear hcall
            go_wp2_with fail
            go_quiet ((go_at_call 46; exact Calls.quiet_of_same (HC.out _)))
            go_wp2
            go_ret2
            exact jp_none HF.out (drewN_below hb _)
          · have hst' : standsB s sep[0] = false := by simpa using hst
            clear hst
            rw [if_neg (by rw [hst']; decide)] at hj
            have hcall : ∀ W, Calls Tryd.prog 46 #[.string s, .int .u8 (sep[0].toNat : Int)] W fun e w' => e = .returned (.bool false) ∧ w' = W := fun W => (stands_any s sep[0] W (by unfold maxLen; omega)).mono fun e w' ⟨h, h'⟩ => ⟨by rw [h, hst'], h'.symm⟩
            have HC := Lib.hid hcall; clear hcall hst'
            have hsum1 : (acc ++ sep).size = acc.size + sep.size := ByteArray.size_append
            have hsum2 : (acc ++ s).size = acc.size + s.size := ByteArray.size_append
            have hsum3 : ((acc ++ sep) ++ s).size = acc.size + sep.size + s.size := by rw [ByteArray.size_append, ByteArray.size_append]
            by_cases hk0 : k = 0
            · have hb0 : (k == 0) = true := by simpa using hk0
              rw [hb0] at hj; clear hb0
              have hk1 : (k : Int) < 1 := by omega
              clear hk0
              simp only [if_true] at hj
              by_cases hbg : 4000 < (acc ++ s).size
              · rw [if_pos hbg] at hj
                have HF := Lib.hid (HP.out _ hj); clear hj hsum1 hsum3
                have hbg' : 4000 < (acc.size : Int) + s.size := by omega
                clear hsum2 hbg
                go_wp2_with fail
                go_quiet ((go_at_call 46; exact Calls.quiet_of_same (HC.out _)))
                go_wp2
                go_ret2
                exact jp_none HF.out (drewN_below hb _)
              · rw [if_neg hbg] at hj
                have hbg' : (acc.size : Int) + s.size ≤ 4000 := by omega
                have HB := Lib.hid hsum2
                have HJ := Lib.hid hj; clear hj hsum1 hsum3 hsum2 hbg
                go_wp2_with fail
                go_quiet ((go_at_call 46; exact Calls.quiet_of_same (HC.out _)))
                go_wp2
                go_roundw
                case rel => exact ⟨k + 1, acc ++ s, by omega, by go_num, rfl, by rw [HB.out]; omega, Lib.hid (HJ.out.trans (by rw [succ_ne])), drewN_below hb _⟩
                case measure => simp [intOf]; omega
            · have hb0 : (k == 0) = false := by simpa using hk0
              rw [hb0] at hj; clear hb0
              have hk1 : (0 : Int) < k := by omega
              clear hk0
              simp only [Bool.false_eq_true, if_false] at hj
              have HSEP := Lib.hid (hsum1.trans (by rw [H1.out]))
              have hsp : (sep.size : Int) ≤ 1 := by have := H1.out; omega
              by_cases hbg : 4000 < ((acc ++ sep) ++ s).size
              · rw [if_pos hbg] at hj
                have HF := Lib.hid (HP.out _ hj); clear hj
                have hbg' : 4000 < (acc.size : Int) + sep.size + s.size := by omega
                clear hsum1 hsum2 hsum3 hbg
                go_wp2_with fail
                go_quiet ((go_at_call 46; exact Calls.quiet_of_same (HC.out _)))
                go_wp2
                go_ret2
                exact jp_none HF.out (drewN_below hb _)
              · rw [if_neg hbg] at hj
                have hbg' : (acc.size : Int) + sep.size + s.size ≤ 4000 := by omega
                have HB := Lib.hid hsum3
                have HJ := Lib.hid hj; clear hj hsum1 hsum3 hsum2 hbg
                go_wp2_with fail
                go_quiet ((go_at_call 46; exact Calls.quiet_of_same (HC.out _)))
                go_wp2
                go_roundw
                case rel => exact ⟨k + 1, (acc ++ sep) ++ s, by omega, by go_num, rfl, by rw [HB.out]; omega, Lib.hid (HJ.out.trans (by rw [succ_ne])), drewN_below hb _⟩
                case measure => simp [intOf]; omega
        · have hkn : k = n := by omega
          have HJ2 : Hid (jres sep ss = jout (some acc)) := Lib.hid (HP.out _ (HJ.out.trans (by rw [List.drop_eq_nil_of_le (by have := HN.out; omega)]; rfl)))
          clear HJ
          go_wp2
          go_ret2
          exact jp_some HJ2.out hb
    · have t1 : ((sep.size : Int) != 1) = false := by simp [h1]
      have t2 : ((n : Int) == 0) = true := by rw [beq_iff_eq]; omega
      have HE : Hid (jres sep ss = (ByteArray.empty, false)) := Lib.hid (by unfold jres; rw [if_neg (by omega)])
      have H1 := Lib.hid h1; clear h1
      have HN := Lib.hid hn; clear hn
      go_enter Tryd.func26, Tryd.ntmps26
      go_wp2
      go_ret2
      exact jp_none HE.out (Below.refl _ _)
  · have t1 : ((sep.size : Int) != 1) = true := by rw [bne_iff_ne]; omega
    have HE : Hid (jres sep ss = (ByteArray.empty, false)) := Lib.hid (by unfold jres; rw [if_neg (by omega)])
    have HN := Lib.hid hn; clear hn
    go_enter Tryd.func26, Tryd.ntmps26
    go_wp2
    go_ret2
    exact jp_none HE.out (Below.refl _ _)
end Go.Proofs.YtbfbkedndnekpaaDoor
