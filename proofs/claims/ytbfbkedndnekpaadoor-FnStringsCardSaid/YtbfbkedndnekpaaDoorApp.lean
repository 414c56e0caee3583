/- Contracts: spec.AppendChecksum and impl.AppendChecksum answer the same plain function. Condition: strconv's table of powers of ten is in place (for impl's). -/
import Derived.Test.YtbfbkedndnekpaaDoorJoinI
import Derived.Test.YtbfbkedndnekpaaDoorChk
import Derived.Test.YtbfbkedndnekpaaDoorDec
import Derived.Test.YtbfbkedndnekpaaDoorFmt
namespace Go.Proofs.YtbfbkedndnekpaaDoor
open Go.ChangeShapes Go.WideShapes Go.ChangeAt Go.RowKit
open Go.Lib (decDigits itoa)

def digsOf (s : ByteArray) : ByteArray := ⟨(itoa (sumFrom 7 s.data.toList)).toArray⟩
def sumd (s : ByteArray) : ByteArray := (s ++ ⟨#[35]⟩) ++ digsOf s
def sealB (s : ByteArray) : Bool := decide (s.size ≤ 4000) && !standsB s 35 && decide ((sumd s).size ≤ 4000)
def sealS (s : ByteArray) : ByteArray := if sealB s then sumd s else ByteArray.empty
def AP (s : ByteArray) (w : World) (e : Ending) (w' : World) : Prop := e = .returned (.tuple #[.string (sealS s), .bool (sealB s)]) ∧ Below w.heap.size w w'
theorem ap_no {s : ByteArray} {w w' : World} (h : sealB s = false) (hb : Below w.heap.size w w') : AP s w (.returned (.tuple #[.string ByteArray.empty, .bool false])) w' := by
  unfold AP sealS; rw [h]; exact ⟨rfl, hb⟩
theorem ap_yes {s : ByteArray} {w w' : World} (h : sealB s = true) (hb : Below w.heap.size w w') : AP s w (.returned (.tuple #[.string (sumd s), .bool true])) w' := by
  unfold AP sealS; rw [h]; exact ⟨rfl, hb⟩
theorem sum_bd (s : ByteArray) : 0 ≤ sumFrom 7 s.data.toList ∧ sumFrom 7 s.data.toList < 999979 := sumFrom_bd 7 _ (by omega) (by omega)
theorem digs_facts (s : ByteArray) : 1 ≤ (digsOf s).size ∧ (digsOf s).size ≤ 6 ∧ standsB (digsOf s) 35 = false := by
  obtain ⟨a, b⟩ := sum_bd s
  obtain ⟨h1, h2, h3, _⟩ := itoa_pos _ a (by omega)
  have e : (digsOf s).size = (itoa (sumFrom 7 s.data.toList)).length := rfl
  refine ⟨by omega, by omega, ?_⟩
  unfold standsB digsOf
  rw [Bool.eq_false_iff]
  intro h
  rw [List.contains_iff_mem] at h
  have := List.all_eq_true.1 h3 35 h
  exact absurd this (by decide)
theorem seal_size (s : ByteArray) : (sumd s).size = s.size + 1 + (digsOf s).size := by
  unfold sumd; rw [ByteArray.size_append, ByteArray.size_append]; rfl
theorem empty_app (s : ByteArray) : ByteArray.empty ++ s = s := by
  apply ByteArray.ext; rw [ByteArray.data_append]
  show #[] ++ s.data = s.data
  simp
theorem jres_seal (s : ByteArray) : jres ⟨#[35]⟩ [s, digsOf s] = (sealS s, sealB s) := by
  obtain ⟨d1, d2, d3⟩ := digs_facts s
  have hs := seal_size s
  unfold jres
  rw [if_pos ⟨rfl, by simp⟩]
  show jout (jn ⟨#[35]⟩ 35 true ByteArray.empty [s, digsOf s]) = _
  unfold sealS sealB
  by_cases h1 : standsB s 35 = true
  · rw [jn_cons, if_pos h1, h1]; simp [jout]
  · have h1' : standsB s 35 = false := by simpa using h1
    rw [jn_cons, if_neg h1, if_pos rfl, empty_app, h1']
    by_cases h2 : 4000 < s.size
    · rw [if_pos h2, show decide (s.size ≤ 4000) = false by simpa using h2]; simp [jout]
    · rw [if_neg h2, jn_cons, if_neg (by rw [d3]; decide), show decide (s.size ≤ 4000) = true by simpa using h2]
      simp only [Bool.false_eq_true, if_false]
      show jout (if 4000 < (sumd s).size then none else some (sumd s)) = _
      by_cases h3 : 4000 < (sumd s).size
      · rw [if_pos h3, show decide ((sumd s).size ≤ 4000) = false by simpa using h3]; simp [jout]
      · rw [if_neg h3, show decide ((sumd s).size ≤ 4000) = true by simpa using h3]; rfl

set_option maxHeartbeats 1000000 in
theorem seal_any (s : ByteArray) (w : World) (hs : s.size ≤ 1000000) : Calls Tryd.prog 47 #[.string s] w fun e w' => e = .returned (.string (sumd s)) ∧ ∃ k, w' = w.drewN k := by
  obtain ⟨a, b⟩ := sum_bd s
  have HL := Lib.hid (l1sum s w (by unfold maxLen; omega))
  obtain ⟨d1, d2, _⟩ := digs_facts s
  obtain ⟨v, hv⟩ : ∃ v, sumFrom 7 s.data.toList = v := ⟨_, rfl⟩
  obtain ⟨D, hD⟩ : ∃ D, digsOf s = D := ⟨_, rfl⟩
  have hn : ∀ W, Calls Tryd.prog 39 #[.int .i64 v] W fun e w' => e = .returned (.string D) ∧ ∃ k, w' = W.drewN k := fun W => by
    rw [← hD]; unfold digsOf; rw [hv]; exact num_any v W (by omega) (by omega)
  have HE : Hid (sumd s = (s ++ ⟨#[35]⟩) ++ D) := Lib.hid (by unfold sumd; rw [hD])
  rw [hv] at HL
  rw [hD] at d1 d2
  have HN := Lib.hid hn
  have hsz : (s ++ ⟨#[35]⟩ : ByteArray).size = s.size + 1 := by rw [ByteArray.size_append]; rfl
  have HSZ := Lib.hid hsz
  clear hn hv hD a b hsz
  go_enter Tryd.func47, Tryd.ntmps47
  go_wp2_with (first | (go_at_call 57; refine HL.out.mono ?_; rintro e w' ⟨rfl, rfl⟩) | (go_at_call 39; refine (HN.out _).mono ?_; rintro e w' ⟨rfl, k, rfl⟩))
  go_ret
  exact ⟨ret_str HE.out.symm, _, rfl⟩

set_option maxHeartbeats 1000000 in
theorem specApp (s : ByteArray) (w : World) (hs : s.size ≤ maxLen) : Calls Tryd.prog 19 #[.string s] w (AP s w) := by
  have HST := Lib.hid (stands_any s 35 w hs)
  unfold maxLen at hs
  by_cases h1 : s.size ≤ 4000
  · have HSE := Lib.hid (fun W => seal_any s W (by omega))
    by_cases h2 : standsB s 35 = true
    · have HB : Hid (sealB s = false) := Lib.hid (by unfold sealB; rw [h2]; simp)
      rw [h2] at HST; clear h2
      go_enter Tryd.func19, Tryd.ntmps19
      go_wp2_with (go_at_call 46; refine HST.out.mono ?_; rintro e w' ⟨rfl, rfl⟩)
      go_ret2
      exact ap_no HB.out (Below.refl _ _)
    · have h2' : standsB s 35 = false := by simpa using h2
      rw [h2'] at HST
      obtain ⟨S, hS⟩ : ∃ S, sumd s = S := ⟨_, rfl⟩
      have hes : sealB s = decide (S.size ≤ 4000) := by unfold sealB; rw [h2', hS]; simp [h1]
      rw [hS] at HSE
      have HS := Lib.hid hS
      clear h2 h2' hS
      by_cases h3 : S.size ≤ 4000
      · have HB : Hid (sealB s = true) := Lib.hid (by rw [hes]; simpa using h3)
        clear hes
        go_enter Tryd.func19, Tryd.ntmps19
        go_wp2_with (first | (go_at_call 46; refine HST.out.mono ?_; rintro e w' ⟨rfl, rfl⟩) | (go_at_call 47; refine (HSE.out _).mono ?_; rintro e w' ⟨rfl, k, rfl⟩))
        go_ret2
        rw [← HS.out]
        exact ap_yes HB.out (drewN_below (Below.refl _ _) _)
      · have HB : Hid (sealB s = false) := Lib.hid (by rw [hes]; simpa using h3)
        have h3' : 4000 < (S.size : Int) := by omega
        clear hes h3
        go_enter Tryd.func19, Tryd.ntmps19
        go_wp2_with (first | (go_at_call 46; refine HST.out.mono ?_; rintro e w' ⟨rfl, rfl⟩) | (go_at_call 47; refine (HSE.out _).mono ?_; rintro e w' ⟨rfl, k, rfl⟩))
        go_ret2
        exact ap_no HB.out (drewN_below (Below.refl _ _) _)
  · have HB : Hid (sealB s = false) := Lib.hid (by unfold sealB; simp [h1])
    have h1' : 4000 < (s.size : Int) := by omega
    clear h1
    go_enter Tryd.func19, Tryd.ntmps19
    go_wp2_with fail
    go_ret2
    exact ap_no HB.out (Below.refl _ _)

set_option maxHeartbeats 1000000 in
theorem implApp (s : ByteArray) (w : World) (hs : s.size ≤ 140737488355328) (hp : Pow w) : Calls Tryd.prog 18 #[.string s] w (AP s w) := by
  have hsum := impl_sum s w (by unfold maxLen; omega)
  by_cases h1 : s.size ≤ 4000
  · rw [show sumOf s = sumFrom 7 s.data.toList from if_pos h1, show decide (s.size ≤ 4000) = true by simpa using h1] at hsum
    obtain ⟨a, b⟩ := sum_bd s
    have hj := jres_seal s
    obtain ⟨d1, d2, _⟩ := digs_facts s
    have hf := implFmt (sumFrom 7 s.data.toList) w hp
    have hfB : fmtB (sumFrom 7 s.data.toList) = true := by unfold fmtB; rw [decide_eq_true_iff]; omega
    have hfS : fmtS (sumFrom 7 s.data.toList) = digsOf s := by unfold fmtS digsOf; rw [hfB]; rfl
    unfold FP at hf
    rw [hfB, hfS] at hf
    clear hfB hfS
    obtain ⟨v, hv⟩ : ∃ v, sumFrom 7 s.data.toList = v := ⟨_, rfl⟩
    obtain ⟨D, hD⟩ : ∃ D, digsOf s = D := ⟨_, rfl⟩
    rw [hv] at hsum hf
    rw [hD] at hj hf d2
    have HSUM := Lib.hid hsum; have HF := Lib.hid hf; have HJ := Lib.hid hj
    clear hsum hf hj hv hD a b d1
    go_enter Tryd.func18, Tryd.ntmps18
    go_wp2_with (first | (go_at_call 45; refine HSUM.out.mono ?_; rintro e w' ⟨rfl, rfl⟩) | (go_at_call 12; refine HF.out.mono ?_; rintro e w1 ⟨rfl, hb1⟩))
    have hrd : Rd (w1.alloc (.cells #[.string s, .string D] 9)) (w1.alloc (.cells #[.string s, .string D] 9)).heap.size (some ⟨w1.heap.size, 0, none⟩) ([s, D].map Value.string) :=
      Rd.ofOwn (World.ownsRow_lit (base := 0) (e := 9) (size := 1) w1 #[.string s, .string D] 2 (Nat.zero_le _) (by unfold maxLen; omega) rfl)
    refine (implJoin (some ⟨w1.heap.size, 0, none⟩) 2 2 ⟨#[35]⟩ [s, D] _ rfl hrd (by omega) (by unfold maxLen; decide) (by intro t ht; simp at ht; rcases ht with rfl | rfl <;> omega)).mono ?_
    rintro e w2 ⟨rfl, hb2⟩
    rw [HJ.out]
    have hb02 : Below w.heap.size w w2 := (hb1.alloc hb1.size _).trans (hb2.mono (by have := hb1.size; simp; omega))
    go_wp2
    go_ret2
    exact ⟨rfl, hb02⟩
  · rw [show sumOf s = 0 from if_neg h1, show decide (s.size ≤ 4000) = false by simpa using h1] at hsum
    have HB : Hid (sealB s = false) := Lib.hid (by unfold sealB; simp [h1])
    have hf := implFmt 0 w hp
    unfold FP at hf
    obtain ⟨f1, hf1⟩ : ∃ f1, fmtS 0 = f1 := ⟨_, rfl⟩
    obtain ⟨f2, hf2⟩ : ∃ f2, fmtB 0 = f2 := ⟨_, rfl⟩
    rw [hf1, hf2] at hf
    have HSUM := Lib.hid hsum; have HF := Lib.hid hf
    clear hsum hf h1 hf1 hf2
    go_enter Tryd.func18, Tryd.ntmps18
    go_wp2_with (first | (go_at_call 45; refine HSUM.out.mono ?_; rintro e w' ⟨rfl, rfl⟩) | (go_at_call 12; refine HF.out.mono ?_; rintro e w1 ⟨rfl, hb1⟩))
    go_ret2
    exact ap_no HB.out hb1
end Go.Proofs.YtbfbkedndnekpaaDoor
