/- Contracts: spec.l8Count, spec.l8Longest: how many slots a mask occupies and how long its longest free run is. No condition but the mask's bound. -/
import Derived.Test.YtnbeomnlobfpfaaDoorOnes2
import Derived.Test.YtnbeomnlobfpfaaDoorBest
namespace Go.Proofs.YtnbeomnlobfpfaaDoor
open Go.ChangeShapes Go.WideShapes Go.ChangeAt Go.RowKit

set_option maxHeartbeats 1000000 in
theorem count_ (m : Nat) (w : World) (h : m ≤ 16777215) : Calls Tryd.prog 94 #[.int .i64 (m : Int)] w fun e w' => e = .returned (.int .i64 (popN m 24 : Int)) ∧ w = w' := by
  go_enter Tryd.func94, Tryd.ntmps94
  go_wp2
  go_loopw [3, 4] (fun v i wr => ∃ k : Nat, k ≤ 24 ∧ i = .int .i64 k ∧ v = .int .i64 (popN m k : Int) ∧ w = wr) (fun _ i _ => 24 - (intOf i).toNat)
  case atStart => exact ⟨0, Nat.zero_le _, rfl, rfl, rfl⟩
  case round =>
    obtain ⟨k, hk, rfl, rfl, rfl⟩ := hrel
    by_cases hlt : k < 24
    case pos =>
      have HB1 := Lib.hid (bit1 m k h)
      have hst : popN m (k + 1) = popN m k + m / 2 ^ k % 2 := rfl
      have hpl := popN_le m k
      obtain ⟨b, hbb⟩ : ∃ b, m / 2 ^ k % 2 = b := ⟨_, rfl⟩
      have hb1 : b ≤ 1 := by omega
      have hq : bits .and .i64 ((m : Int) / 2 ^ k) 1 = (b : Int) := by rw [HB1.out, hbb]
      rw [hbb] at hst
      obtain ⟨n, hn⟩ : ∃ n, popN m k = n := ⟨_, rfl⟩
      rw [hn] at hst hpl ⊢
      have HST := Lib.hid hst
      have hlt' : (k : Int) < 24 := by omega
      have hn24 : (n : Int) ≤ 24 := by omega
      have hb1' : (b : Int) ≤ 1 := by omega
      clear HB1 hst hbb hn
      go_wp2
      go_roundw
      case rel => exact ⟨k + 1, by omega, by go_num, by rw [HST.out]; go_num, by first | rfl | trivial⟩
      case measure => simp [intOf]; omega
    case neg =>
      have hk24 : k = 24 := by omega
      subst hk24
      go_wp2
      go_ret
      exact ⟨rfl, rfl⟩

/-- the longest of the first k runs. -/
def mxN (l : List (Nat × Nat)) (k : Nat) : Nat := (l.take k).foldl (fun a q => if a < q.2 then q.2 else a) 0
theorem mxN_step (l : List (Nat × Nat)) (k : Nat) (h : k < l.length) : mxN l (k + 1) = if mxN l k < l[k].2 then l[k].2 else mxN l k := by
  unfold mxN; rw [List.take_succ_eq_append_getElem h, List.foldl_append]; rfl
theorem mxN_le (l : List (Nat × Nat)) (B : Nat) (hl : ∀ q, q ∈ l → q.2 ≤ B) : ∀ k, k ≤ l.length → mxN l k ≤ B
  | 0, _ => by unfold mxN; simp
  | k + 1, h => by
    have ih := mxN_le l B hl k (by omega)
    rw [mxN_step l k (by omega)]
    split
    · exact hl _ (List.getElem_mem _)
    · exact ih
/-- the longest free run of a mask. -/
def lonN (m : Nat) : Nat := mxN (sp (fr m) 25).1 (sp (fr m) 25).1.length
theorem lonN_le (m : Nat) : lonN m ≤ 25 := by
  unfold lonN
  exact mxN_le _ 25 (fun q hq => by have := (sp_runs (fr m) 25 q hq).2.1; omega) _ (Nat.le_refl _)
theorem popN_all (m : Nat) : ∀ k, popN m k = k → ∀ i, i < k → m / 2 ^ i % 2 = 1
  | 0, _, i, hi => by omega
  | k + 1, h, i, hi => by
    have h1 := popN_le m k
    have h2 : popN m k + m / 2 ^ k % 2 = k + 1 := h
    have h3 : popN m k = k := by omega
    by_cases e : i = k
    · subst e; omega
    · exact popN_all m k h3 i (by omega)
theorem lonN_full (m : Nat) (h : popN m 24 = 24) : lonN m = 0 := by
  have hf : ∀ i, fr m i = false := fun i => fr_no m i fun hh => by have := popN_all m 24 h i hh.1; omega
  have h0 := sp_end (fr m) 0 25 [] rfl (fun i => by rw [hf i]; rfl) (Nat.zero_le _)
  unfold lonN
  rw [h0]; rfl

theorem most_ (x y : Int) (w : World) : Calls Tryd.prog 55 #[.int .i64 x, .int .i64 y] w fun e w' => e = .returned (.int .i64 (if x < y then y else x)) ∧ w = w' := by
  by_cases h : y < x
  · have h' : ¬ x < y := by omega
    rw [if_neg h']
    clear h'
    go_enter Tryd.func55, Tryd.ntmps55
    go_wp2
    go_ret
    exact ⟨rfl, rfl⟩
  · have h' : (if x < y then y else x) = y := by split <;> omega
    rw [h']
    have h2 : decide (y < x) = false := decide_eq_false h
    clear h'
    go_enter Tryd.func55, Tryd.ntmps55
    go_wp2
    go_ret
    exact ⟨rfl, rfl⟩

set_option maxRecDepth 100000 in
set_option maxHeartbeats 4000000 in
theorem longest_ (m : Nat) (w : World) (hm : m ≤ 16777215) : Calls Tryd.prog 95 #[.int .i64 (m : Int)] w (RetP (.int .i64 (lonN m : Int)) w) := by
  have HL : Hid (lonN m = mxN (sp (fr m) 25).1 (sp (fr m) 25).1.length) := Lib.hid rfl
  obtain ⟨l, hl⟩ : ∃ l, (sp (fr m) 25).1 = l := ⟨_, rfl⟩
  have HRU := Lib.hid (fun W => specRuns m W hm)
  rw [hl] at HL HRU
  clear hl
  obtain ⟨r, hr⟩ : ∃ r, lonN m = r := ⟨_, rfl⟩
  rw [hr] at HL ⊢
  clear hr
  go_enter Tryd.func95, Tryd.ntmps95
  go_wp2_with fail
  refine (HRU.out _).mono ?_
  rintro e w1 ⟨A, N, cc, rfl, HN, hown, hb1⟩
  have HO := Lib.hid hown
  have HB1 := Lib.hid hb1
  clear hown hb1
  go_wp2
  go_loopw [4, 5] (fun v i wr => ∃ (k : Nat) (y : Int), k ≤ N ∧ i = .int .i64 k ∧ v = .int .i64 y ∧ Hid (y = (mxN l k : Int)) ∧ Hid (wr.ownsRow w.heap.size 121 2 (.slice A N cc) N (bcells l)) ∧ Below w.heap.size w wr) (fun _ i _ => N - (intOf i).toNat)
  case atStart => exact ⟨0, 0, Nat.zero_le _, rfl, rfl, Lib.hid rfl, HO, HB1.out⟩
  case round =>
    obtain ⟨k, y, hk, rfl, rfl, HY, HQ, hb⟩ := hrel
    have hN24 : N ≤ 9223372036854775807 := by
      have h1 := HQ.out
      rcases h1.2 with ⟨hv, h0⟩ | ⟨g, cap, cur, hv, hg, hh, hle, hm, _⟩
      · omega
      · unfold maxLen at hm; omega
    by_cases hlt : k < N
    case pos =>
      have hkl : k < l.length := by have := HN.out; omega
      obtain ⟨g, hA, hg0, hg1, f0, f1⟩ := blk_at HQ.out hkl
      subst hA
      obtain ⟨x2, hx2⟩ : ∃ x2 : Int, ((l[k]'hkl).2 : Int) = x2 := ⟨_, rfl⟩
      rw [hx2] at f1
      have HX : Hid ((if y < x2 then x2 else y) = (mxN l (k + 1) : Int)) := Lib.hid (by
        rw [mxN_step l k hkl, ← hx2, HY.out]
        split <;> split <;> omega)
      clear hx2 f0
      have CM := Lib.hid (fun W => most_ y x2 W)
      obtain ⟨z, hz⟩ : ∃ z, (if y < x2 then x2 else y) = z := ⟨_, rfl⟩
      rw [hz] at HX CM
      clear hz
      go_wp2_with fail
      refine (CM.out _).mono ?_
      rintro e w2 ⟨rfl, rfl⟩
      go_wp2
      go_roundw
      case rel => exact ⟨k + 1, z, by omega, by go_num, rfl, HX, HQ, hb⟩
      case measure => simp [intOf]; omega
    case neg =>
      have hkn : k = l.length := by have := HN.out; omega
      have HE1 : Hid (y = (r : Int)) := Lib.hid (by rw [HL.out, ← hkn]; exact HY.out)
      clear hkn
      go_wp2
      go_ret
      exact ⟨by rw [← HE1.out]; rfl, hb⟩
end Go.Proofs.YtnbeomnlobfpfaaDoor
