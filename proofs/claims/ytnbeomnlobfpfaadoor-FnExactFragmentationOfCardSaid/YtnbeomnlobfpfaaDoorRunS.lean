/- Contract of spec.l8Runs: the runs that the pass finds, a slice of blocks of the call's own. No condition but those typed. -/
import Derived.Test.YtnbeomnlobfpfaaDoorRunC
namespace Go.Proofs.YtnbeomnlobfpfaaDoor
open Go.ChangeShapes Go.WideShapes Go.ChangeAt Go.RowKit

theorem Tryd.inf_Blk : (Tryd.prog.info? 121).map (fun i => (i.zero, i.size, i.bytes)) = some (some (.agg #[.int .i64 0, .int .i64 0]), 2, 16) := by kernel_rfl
def bcells (l : List (Nat × Nat)) : List Value := l.flatMap fun q => [.int .i64 (q.1 : Int), .int .i64 (q.2 : Int)]
def BlksP (l : List (Nat × Nat)) (w : World) (e : Ending) (w' : World) : Prop :=
  ∃ (A : Option Addr) (N c : Nat), e = .returned (.slice A N c) ∧ Hid (N = l.length) ∧ w'.ownsRow w.heap.size 121 2 (.slice A N c) N (bcells l) ∧ Below w.heap.size w w'
theorem bcells_snoc (l : List (Nat × Nat)) (t c : Nat) : bcells (l ++ [(t, c)]) = bcells l ++ [.int .i64 (t : Int), .int .i64 (c : Int)] := by
  unfold bcells; rw [List.flatMap_append]; rfl
theorem bit1 (m k : Nat) (hm : m ≤ 16777215) : bits .and .i64 ((m : Int) / 2 ^ k) 1 = ((m / 2 ^ k % 2 : Nat) : Int) := by
  have e : (m : Int) / 2 ^ k = ((m / 2 ^ k : Nat) : Int) := by simp
  have h1 : m / 2 ^ k ≤ m := Nat.div_le_self _ _
  rw [e]
  have := and_i64 (m / 2 ^ k) 1 (by omega) (by omega)
  have e1 : ((1 : Nat) : Int) = 1 := rfl
  rw [e1] at this
  rw [this, Nat.and_one_is_mod]
theorem fr_yes (m k : Nat) (hk : k < 24) (h : m / 2 ^ k % 2 = 0) : fr m k = true := by
  unfold fr
  rw [freeN_bit, Nat.testBit_eq_decide_div_mod_eq, h, decide_eq_true hk]
  rfl
theorem fr_no (m k : Nat) (h : ¬ (k < 24 ∧ m / 2 ^ k % 2 = 0)) : fr m k = false := by
  unfold fr
  rw [freeN_bit, Nat.testBit_eq_decide_div_mod_eq]
  by_cases hk : k < 24
  · have h1 : m / 2 ^ k % 2 = 1 := by
      have := Nat.mod_two_eq_zero_or_one (m / 2 ^ k)
      rcases this with h0 | h1
      · exact absurd ⟨hk, h0⟩ h
      · exact h1
    rw [h1, decide_eq_true hk]
    rfl
  · rw [decide_eq_false hk]; rfl
theorem new_blk (x y : Int) : ∀ u ∈ [Value.int .i64 x, Value.int .i64 y], u.oneCell' = true := by
  intro u hu
  simp at hu
  rcases hu with rfl | rfl <;> rfl
theorem new_two (w : World) (E : TypeId) (u0 u1 : Value) : ∀ (j : Nat) (u : Value), [u0, u1][j]? = some u → (w.alloc (.cells #[u0, u1] E)).cell? ((⟨w.heap.size, 0, none⟩ : Addr).add j) = some u := by
  intro j u hu
  match j, hu with
  | 0, hu => simp at hu; subst hu; exact cell_of_row _ w.heap.size 0 #[u0, u1] E (0, 0) (heap_alloc_new w _)
  | 1, hu => simp at hu; subst hu; exact cell_of_row _ w.heap.size 1 #[u0, u1] E (0, 0) (heap_alloc_new w _)
set_option maxRecDepth 100000 in
set_option maxHeartbeats 4000000 in
theorem specRuns (m : Nat) (w : World) (hm : m ≤ 16777215) : Calls Tryd.prog 126 #[.int .i64 (m : Int)] w (BlksP (sp (fr m) 25).1 w) := by
  obtain ⟨i0, hi, hz0_, hz1_, hz2_⟩ := info_parts Tryd.inf_Blk
  have HI := Lib.hid hi; have HZ0 := Lib.hid hz0_; have HZ1 := Lib.hid hz1_; have HZ2 := Lib.hid hz2_
  clear hi hz0_ hz1_ hz2_
  go_enter Tryd.func126, Tryd.ntmps126
  go_wp2_with fail
  obtain ⟨W0, hW0⟩ : ∃ W0, (w.alloc (Obj.cells #[] 121)) = W0 := ⟨_, rfl⟩
  have hown0 : W0.ownsRow w.heap.size 121 2 (.slice (some ⟨w.heap.size, 0, none⟩) 0 0) 0 [] := by
    rw [← hW0]
    have := World.ownsRow_lit (base := w.heap.size) (e := 121) (size := 2) w #[] 0 (by simp) (by unfold maxLen; omega) rfl
    simpa using this
  have HB0 := Lib.hid ((Below.refl w.heap.size w).alloc (Nat.le_refl _) (Obj.cells #[] 121))
  rw [hW0] at HB0 ⊢
  clear hW0
  have HO0 := Lib.hid hown0; clear hown0
  go_loopw [3, 4, 5] (fun v cn i wr => ∃ (k c : Nat) (l : List (Nat × Nat)) (A : Option Addr) (N cc : Nat), k ≤ 25 ∧ i = .int .i64 k ∧ cn = .int .i64 c ∧ v = .slice A N cc ∧ Hid (sp (fr m) k = (l, c)) ∧ c ≤ k ∧ N ≤ k ∧ Hid (N = l.length) ∧ Hid (wr.ownsRow w.heap.size 121 2 (.slice A N cc) N (bcells l)) ∧ Below w.heap.size w wr) (fun _ _ i _ => 25 - (intOf i).toNat)
  case atStart => exact ⟨0, 0, [], _, 0, _, Nat.zero_le _, rfl, rfl, rfl, Lib.hid rfl, Nat.zero_le _, Nat.zero_le _, Lib.hid rfl, HO0, HB0.out⟩
  case round =>
    obtain ⟨k, c, l, A, N, cc, hk, rfl, rfl, rfl, HSP, hck, hNk, HNN, HOW, hb⟩ := hrel
    by_cases hlt : k < 25
    · have hlt' : (k : Int) ≤ 24 := by omega
      have HB1 := Lib.hid (bit1 m k hm)
      obtain ⟨b, hbb⟩ : ∃ b, m / 2 ^ k % 2 = b := ⟨_, rfl⟩
      have hb1 : b ≤ 1 := by omega
      have hq : bits .and .i64 ((m : Int) / 2 ^ k) 1 = (b : Int) := by rw [HB1.out, hbb]
      clear HB1
      have hsz := hb.size
      have hown := HOW.out
      by_cases hfree : k < 24 ∧ b = 0
      · obtain ⟨hk24, rfl⟩ := hfree
        have hk24' : (k : Int) < 24 := by omega
        have HS1 : Hid (sp (fr m) (k + 1) = (l, c + 1)) := Lib.hid (by rw [sp, fr_yes m k hk24 hbb, HSP.out]; rfl)
        have hq' : bits .and .i64 ((m : Int) / 2 ^ k) 1 = 0 := hq
        clear hbb hq
        go_wp2
        exact ⟨⟨k + 1, c + 1, l, A, N, cc, by omega, by go_num, by go_num, rfl, HS1, by omega, by omega, HNN, HOW, hb⟩, by simp [intOf]; omega⟩
      · have hno : fr m k = false := fr_no m k (by rw [hbb]; exact hfree)
        have hte : (decide ((k : Int) < 24) && decide ((b : Int) = 0)) = false := by
          rw [Bool.and_eq_false_iff]
          by_cases h1 : k < 24
          · right; exact decide_eq_false (fun h => hfree ⟨h1, by omega⟩)
          · left; exact decide_eq_false (by omega)
        by_cases hc0 : c = 0
        · subst hc0
          have HS1 : Hid (sp (fr m) (k + 1) = (l, 0)) := Lib.hid (by rw [sp, hno, HSP.out]; rfl)
          by_cases hk24 : k < 24
          · have hb1' : b = 1 := by
              have : b ≠ 0 := fun h => hfree ⟨hk24, h⟩
              omega
            subst hb1'
            have hk24' : (k : Int) < 24 := by omega
            have hq' : bits .and .i64 ((m : Int) / 2 ^ k) 1 = 1 := hq
            clear hbb hq hte hno hfree
            go_wp2
            exact ⟨⟨k + 1, 0, l, A, N, cc, by omega, by go_num, rfl, rfl, HS1, Nat.zero_le _, by omega, HNN, HOW, hb⟩, by simp [intOf]; omega⟩
          · obtain rfl : k = 24 := by omega
            clear hbb hq hte hno hfree
            go_wp2
            exact ⟨⟨24 + 1, 0, l, A, N, cc, by omega, by go_num, rfl, rfl, HS1, Nat.zero_le _, by omega, HNN, HOW, hb⟩, by simp [intOf]⟩
        · have HS1 : Hid (sp (fr m) (k + 1) = (l ++ [(k - c, c)], 0)) := Lib.hid (by
            rw [sp, hno, HSP.out]
            simp only [Bool.false_eq_true, if_false]
            rw [if_pos (by omega)])
          have hc1 : 0 < (c : Int) := by omega
          by_cases hk24 : k < 24
          · have hb1' : b = 1 := by
              have : b ≠ 0 := fun h => hfree ⟨hk24, h⟩
              omega
            subst hb1'
            have hk24' : (k : Int) < 24 := by omega
            have hq' : bits .and .i64 ((m : Int) / 2 ^ k) 1 = 1 := hq
            clear hbb hq hte hno hfree
            go_wp2_with (at_builtin; refine wpList_append_own _ rfl _ _ 143 rfl w.heap.size 121 i0 (.agg #[.int .i64 0, .int .i64 0]) 2 16 Tryd.underlying143 HI.out HZ0.out HZ1.out HZ2.out rfl (by decide) _ N _ rfl (hown.alloc _) ⟨wr.heap.size, 0, none⟩ 1 1 [.int .i64 ((k : Int) - (c : Int)), .int .i64 (c : Int)] rfl rfl (new_two _ _ _ _) (new_blk _ _) (by unfold maxLen; omega) (by omega) (by simp; omega) ?_)
            intro v1 w3 hown1 hgrow1 _
            have hB3 : Below w.heap.size w w3 := (hb.alloc hsz _).grown hgrow1 (by simp; omega) (fun g hg => (hown.lt g hg).1)
            obtain ⟨N1, hN1⟩ : ∃ N1, N + 1 = N1 := ⟨_, rfl⟩
            rw [hN1] at hown1
            obtain ⟨A1, c1', rfl⟩ := formOf hown1
            have hkc : ((k - c : Nat) : Int) = (k : Int) - (c : Int) := by omega
            have hxs : bcells l ++ [.int .i64 ((k : Int) - (c : Int)), .int .i64 (c : Int)] = bcells (l ++ [(k - c, c)]) := by rw [bcells_snoc, hkc]
            rw [hxs] at hown1
            have HOW1 := Lib.hid hown1
            have HN1' : Hid (N1 = (l ++ [(k - c, c)]).length) := Lib.hid (by rw [List.length_append, ← HNN.out, ← hN1]; rfl)
            clear hxs hown1 hgrow1 hown hkc
            go_wp2
            exact ⟨⟨k + 1, 0, _, A1, N1, c1', by omega, by go_num, rfl, rfl, HS1, Nat.zero_le _, by omega, HN1', HOW1, hB3⟩, by simp [intOf]; omega⟩
          · obtain rfl : k = 24 := by omega
            clear hbb hq hte hno hfree
            go_wp2_with (at_builtin; refine wpList_append_own _ rfl _ _ 143 rfl w.heap.size 121 i0 (.agg #[.int .i64 0, .int .i64 0]) 2 16 Tryd.underlying143 HI.out HZ0.out HZ1.out HZ2.out rfl (by decide) _ N _ rfl (hown.alloc _) ⟨wr.heap.size, 0, none⟩ 1 1 [.int .i64 ((24 : Int) - (c : Int)), .int .i64 (c : Int)] rfl rfl (new_two _ _ _ _) (new_blk _ _) (by unfold maxLen; omega) (by omega) (by simp; omega) ?_)
            intro v1 w3 hown1 hgrow1 _
            have hB3 : Below w.heap.size w w3 := (hb.alloc hsz _).grown hgrow1 (by simp; omega) (fun g hg => (hown.lt g hg).1)
            obtain ⟨N1, hN1⟩ : ∃ N1, N + 1 = N1 := ⟨_, rfl⟩
            rw [hN1] at hown1
            obtain ⟨A1, c1', rfl⟩ := formOf hown1
            have hkc : ((24 - c : Nat) : Int) = (24 : Int) - (c : Int) := by omega
            have hxs : bcells l ++ [.int .i64 ((24 : Int) - (c : Int)), .int .i64 (c : Int)] = bcells (l ++ [(24 - c, c)]) := by rw [bcells_snoc, hkc]
            rw [hxs] at hown1
            have HOW1 := Lib.hid hown1
            have HN1' : Hid (N1 = (l ++ [(24 - c, c)]).length) := Lib.hid (by rw [List.length_append, ← HNN.out, ← hN1]; rfl)
            clear hxs hown1 hgrow1 hown hkc
            go_wp2
            exact ⟨⟨24 + 1, 0, _, A1, N1, c1', by omega, by go_num, rfl, rfl, HS1, Nat.zero_le _, by omega, HN1', HOW1, hB3⟩, by simp [intOf]⟩
    · obtain rfl : k = 25 := by omega
      go_wp2
      go_ret
      exact ⟨A, N, cc, rfl, Lib.hid (by rw [HSP.out]; exact HNN.out), by rw [HSP.out]; exact HOW.out, hb⟩
end Go.Proofs.YtnbeomnlobfpfaaDoor
