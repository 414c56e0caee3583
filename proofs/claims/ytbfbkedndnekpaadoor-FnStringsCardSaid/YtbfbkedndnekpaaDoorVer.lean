/- Contracts: spec.VerifyChecksum and impl.VerifyChecksum answer the same plain function. Condition: strconv's table of powers of ten is in place (for impl's). -/
import Derived.Test.YtbfbkedndnekpaaDoorApp
import Derived.Test.YtbfbkedndnekpaaDoorSplit
namespace Go.Proofs.YtbfbkedndnekpaaDoor
open Go.ChangeShapes Go.WideShapes Go.ChangeAt Go.RowKit
open Go.Lib (decDigits itoa)

def upTo (c : UInt8) (l : List UInt8) : List UInt8 := l.takeWhile (· != c)
theorem upTo_cons (c d : UInt8) (l : List UInt8) : upTo c (d :: l) = if d = c then [] else d :: upTo c l := by
  unfold upTo
  rw [List.takeWhile_cons]
  by_cases h : d = c <;> simp [h]
theorem upTo_take (c : UInt8) : ∀ (l : List UInt8) (o : Nat), l[o]? = some c → (∀ k, k < o → l[k]? ≠ some c) → upTo c l = l.take o
  | [], o, h, _ => by simp at h
  | d :: l, 0, h, _ => by
    simp at h; rw [upTo_cons, if_pos h]; rfl
  | d :: l, o + 1, h, hk => by
    have h0 : d ≠ c := fun e => hk 0 (by omega) (by simp [e])
    rw [upTo_cons, if_neg h0, List.take_succ_cons, upTo_take c l o (by simpa using h) (fun k hlt => by have := hk (k + 1) (by omega); simpa using this)]
theorem upTo_no (c : UInt8) (l : List UInt8) : (upTo c l).contains c = false := by
  rw [Bool.eq_false_iff]; intro h
  rw [List.contains_iff_mem] at h
  have := List.all_eq_true.1 (List.all_takeWhile (p := (· != c)) (l := l)) c h
  simp at this
theorem upTo_len (c : UInt8) (l : List UInt8) : (upTo c l).length ≤ l.length := (List.takeWhile_prefix (p := (· != c)) (l := l)).length_le
theorem spl_head (b : UInt8) : ∀ (l cur : List UInt8), ∃ r, spl b cur l = (cur ++ upTo b l) :: r
  | [], cur => ⟨[], by simp [spl, upTo]⟩
  | c :: l, cur => by
    unfold spl
    rw [upTo_cons]
    by_cases h : c = b
    · rw [if_pos h, if_pos h]; exact ⟨_, by rw [List.append_nil]⟩
    · rw [if_neg h, if_neg h]
      obtain ⟨r, hr⟩ := spl_head b l (cur ++ [c])
      exact ⟨r, by rw [hr]; simp⟩
theorem mem_sum (t : ByteArray) : standsB (sumd t) 35 = true := by
  unfold standsB sumd
  rw [List.contains_iff_mem, ByteArray.data_append, ByteArray.data_append, Array.toList_append, Array.toList_append]
  simp
/-- the text before the mark. -/
def front (s : ByteArray) : ByteArray := mkS (upTo 35 s.data.toList)
theorem front_size (s : ByteArray) : (front s).size ≤ s.size := by
  have : (front s).size = (upTo 35 s.data.toList).length := rfl
  rw [this]; exact upTo_len 35 s.data.toList
theorem front_no (s : ByteArray) : standsB (front s) 35 = false := by
  unfold standsB front mkS; exact upTo_no 35 s.data.toList
def verB (s : ByteArray) : Bool := decide (s.size ≤ 4000 ∧ sumd (front s) = s)
def verS (s : ByteArray) : ByteArray := if verB s then front s else ByteArray.empty
def VP (s : ByteArray) (w : World) (e : Ending) (w' : World) : Prop := e = .returned (.tuple #[.string (verS s), .bool (verB s)]) ∧ Below w.heap.size w w'
theorem vp_no {s : ByteArray} {w w' : World} (h : verB s = false) (hb : Below w.heap.size w w') : VP s w (.returned (.tuple #[.string ByteArray.empty, .bool false])) w' := by
  unfold VP verS; rw [h]; exact ⟨rfl, hb⟩
theorem vp_yes {s : ByteArray} {w w' : World} (h : verB s = true) (hb : Below w.heap.size w w') : VP s w (.returned (.tuple #[.string (front s), .bool true])) w' := by
  unfold VP verS; rw [h]; exact ⟨rfl, hb⟩
theorem ver_of (s : ByteArray) : verB s = (standsB s 35 && sealB (front s) && decide (sumd (front s) = s)) := by
  unfold verB
  by_cases h : sumd (front s) = s
  · have h1 : standsB s 35 = true := by rw [← h]; exact mem_sum _
    have hf := front_size s
    rw [h1]
    unfold sealB
    rw [front_no s, h]
    by_cases h4 : s.size ≤ 4000
    · simp [h4]; omega
    · simp [h4]
  · simp [h]

set_option maxHeartbeats 1000000 in
theorem specVer (s : ByteArray) (w : World) (hs : s.size ≤ maxLen) : Calls Tryd.prog 34 #[.string s] w (VP s w) := by
  unfold maxLen at hs
  by_cases h1 : s.size ≤ 4000
  · have hsp : Hid (∀ W, Calls Tryd.prog 53 #[.string s, .int .u8 35] W fun e w' => ∃ A N c, e = .returned (.slice (some A) N c) ∧ 0 < N ∧ w'.cell? A = some (.string (front s)) ∧ Below W.heap.size W w') := Lib.hid (fun W => (split_any s 35 W (by omega)).mono fun e w' ⟨v, he, A, N, c, hv, hN, hown, hb⟩ => by
      obtain ⟨r, hr⟩ := spl_head 35 s.data.toList []
      rw [hr] at hN hown
      have hN0 : 0 < N := by rw [hN.out]; simp
      have hrd := Rd.ofOwn hown
      obtain ⟨ad, rfl, _, hc⟩ := hrd 0 (.string (front s)) (by simp [strVals, front])
      have e0 : ad.add 0 = ad := by unfold Addr.add; rw [if_pos rfl]
      rw [e0] at hc
      exact ⟨ad, N, c, by rw [he, hv], hN0, hc, hb⟩)
    have hse := fun W => seal_any (front s) W (by have := front_size s; omega)
    obtain ⟨F, hF⟩ : ∃ F, front s = F := ⟨_, rfl⟩
    obtain ⟨S, hS⟩ : ∃ S, sumd F = S := ⟨_, rfl⟩
    rw [hF] at hsp hse
    rw [hS] at hse
    have HSE := Lib.hid hse; clear hse
    have hv : verB s = decide (S = s) := by unfold verB; rw [hF, hS]; simp [h1]
    have HF := Lib.hid hF; clear hF hS
    by_cases hq : S = s
    · have HV : Hid (verB s = true) := Lib.hid (by rw [hv]; simp [hq])
      clear hv
      subst hq
      go_enter Tryd.func34, Tryd.ntmps34
      go_wp2_with (first | (go_at_call 53; refine (hsp.out _).mono ?_; rintro e w1 ⟨A, N, c, rfl, hN, hc, hb⟩) | (go_at_call 47; refine (HSE.out _).mono ?_; rintro e w' ⟨rfl, k, rfl⟩))
      go_ret2
      rw [← HF.out]
      exact vp_yes HV.out (drewN_below hb _)
    · have HV : Hid (verB s = false) := Lib.hid (by rw [hv]; simp [hq])
      have t1 := tl_ne hq
      have t2 := tl_not hq
      clear hv hq
      go_enter Tryd.func34, Tryd.ntmps34
      go_wp2_with (first | (go_at_call 53; refine (hsp.out _).mono ?_; rintro e w1 ⟨A, N, c, rfl, hN, hc, hb⟩) | (go_at_call 47; refine (HSE.out _).mono ?_; rintro e w' ⟨rfl, k, rfl⟩))
      go_ret2
      exact vp_no HV.out (drewN_below hb _)
  · have HV : Hid (verB s = false) := Lib.hid (by unfold verB; simp [h1])
    have h1' : 4000 < (s.size : Int) := by omega
    clear h1
    go_enter Tryd.func34, Tryd.ntmps34
    go_wp2
    go_ret2
    exact vp_no HV.out (Below.refl _ _)

set_option maxHeartbeats 1000000 in
theorem cut_in (s : ByteArray) (w : World) (hs : s.size ≤ maxLen) : Calls Tryd.prog 58 #[.string s, .string ⟨#[35]⟩] w fun e w' => ∃ t a, e = .returned (.tuple #[.string t, .string a, .bool (standsB s 35)]) ∧ (standsB s 35 = true → t = front s) ∧ ∃ k, w' = w.drewN k := by
  have hi := Tryd.stringslite_Index_one s 35 w
  have hst := stands_index s 35
  unfold maxLen at hs
  by_cases h : 0 ≤ Lib.indexByte s.data.toList 35
  · obtain ⟨o, ho⟩ := Int.eq_ofNat_of_zero_le h
    have hB : Hid (standsB s 35 = true) := Lib.hid (by rw [← hst]; simpa using h)
    obtain ⟨h1, h2⟩ := Lib.indexByte_some ho
    have hol : o < s.size := by
      have := (List.getElem?_eq_some_iff.1 h1).1; simpa using this
    have hfr : Hid (s.extract 0 o = front s) := Lib.hid (by rw [cutList]; unfold front; rw [upTo_take 35 _ o h1 h2]; simp)
    rw [ho] at hi
    have HI := Lib.hid hi
    clear hi hst h ho h1 h2
    have a1 : (0 : Int) ≤ o := by omega
    have a2 : (o : Int) + 1 ≤ s.size := by omega
    have hw1 : IntKind.i64.wrap ((o : Int) + 1) = (o : Int) + 1 := IntWalk.i64_in _ (by omega)
    go_enter Tryd.func58, Tryd.ntmps58
    go_wp2_with (go_at_call 65; refine HI.out.mono ?_; rintro e w' ⟨rfl, rfl⟩)
    go_quiet (fail)
    go_wp2
    go_ret3
    rw [hB.out]
    exact ⟨_, _, rfl, fun _ => hfr.out, _, rfl⟩
  · have hB : Hid (standsB s 35 = false) := Lib.hid (by rw [← hst]; simpa using h)
    have hge := Lib.indexByte_ge s.data.toList 35
    have he : Lib.indexByte s.data.toList 35 = -1 := by omega
    rw [he] at hi
    have HI := Lib.hid hi
    clear hi hst h hge he
    go_enter Tryd.func58, Tryd.ntmps58
    go_wp2_with (go_at_call 65; refine HI.out.mono ?_; rintro e w' ⟨rfl, rfl⟩)
    go_ret3
    rw [hB.out]
    exact ⟨_, _, rfl, fun h => absurd h (by decide), 0, rfl⟩

theorem cut_any (s : ByteArray) (w : World) (hs : s.size ≤ maxLen) : Calls Tryd.prog 48 #[.string s, .string ⟨#[35]⟩] w fun e w' => ∃ t a, e = .returned (.tuple #[.string t, .string a, .bool (standsB s 35)]) ∧ (standsB s 35 = true → t = front s) ∧ ∃ k, w' = w.drewN k := by
  have HC := Lib.hid (cut_in s w hs); clear hs
  obtain ⟨b, hb⟩ : ∃ b, standsB s 35 = b := ⟨_, rfl⟩
  rw [hb] at HC ⊢
  clear hb
  go_enter Tryd.func48, Tryd.ntmps48
  go_wp2_with (go_at_call 58; refine HC.out.mono ?_; rintro e w' ⟨t, a, rfl, ht, k, rfl⟩; have HT := Lib.hid ht; clear ht)
  go_ret3
  exact ⟨_, _, rfl, HT.out, _, rfl⟩

theorem clone_any (s : ByteArray) (w : World) (hs : s.size ≤ 281474976710656) : Calls Tryd.prog 49 #[.string s] w fun e w' => e = .returned (.string s) ∧ Below w.heap.size w w' := by
  have HC := Lib.hid (Tryd.stringslite_Clone s w hs); clear hs
  go_enter Tryd.func49, Tryd.ntmps49
  go_wp2_with (go_at_call 59; refine HC.out.mono ?_; rintro e w' ⟨rfl, hb⟩)
  go_ret
  exact ⟨rfl, hb⟩

set_option maxHeartbeats 1000000 in
theorem implVer (s : ByteArray) (w : World) (hs : s.size ≤ 140737488355328) (hp : Pow w) : Calls Tryd.prog 20 #[.string s] w (VP s w) := by
  have HCUT := Lib.hid (cut_any s w (by unfold maxLen; omega))
  have hvo := ver_of s
  have HPW := Lib.hid hp; clear hp
  by_cases h1 : standsB s 35 = true
  · rw [h1] at HCUT hvo
    have hfs := front_size s
    obtain ⟨F, hF⟩ : ∃ F, front s = F := ⟨_, rfl⟩
    rw [hF] at HCUT hvo hfs
    have HF := Lib.hid hF
    clear h1 hF
    have happ : ∀ W, Pow W → Calls Tryd.prog 18 #[.string F] W fun e w' => e = .returned (.tuple #[.string (sealS F), .bool (sealB F)]) ∧ Below W.heap.size W w' := fun W hW => implApp F W (by omega) hW
    by_cases h2 : sealB F = true
    · have hS : sealS F = sumd F := by unfold sealS; rw [h2]; rfl
      rw [hS, h2] at happ
      obtain ⟨S, hSe⟩ : ∃ S, sumd F = S := ⟨_, rfl⟩
      rw [h2, hSe] at hvo
      rw [hSe] at happ
      have HAPP := Lib.hid happ
      clear happ h2 hS hSe
      by_cases hq : S = s
      · have HV : Hid (verB s = true) := Lib.hid (by rw [hvo]; simp [hq])
        clear hvo
        subst hq
        go_enter Tryd.func20, Tryd.ntmps20
        go_wp2_with (go_at_call 48; refine HCUT.out.mono ?_; rintro e w1 ⟨t, a, rfl, ht, k, rfl⟩; obtain rfl := ht rfl; clear ht)
        go_wp2_with (go_at_call 18; refine (HAPP.out _ (HPW.out.over (drewN_below (Below.refl _ _) _))).mono ?_; rintro e w2 ⟨rfl, hb2⟩)
        go_wp2_with (go_at_call 49; refine (clone_any _ _ (by omega)).mono ?_; rintro e w3 ⟨rfl, hb3⟩)
        go_ret2
        rw [← HF.out]
        have hb2' : Below w.heap.size w w2 := (drewN_below (Below.refl _ _) k).trans hb2
        exact vp_yes HV.out (hb2'.trans (hb3.mono hb2'.size))
      · have HV : Hid (verB s = false) := Lib.hid (by rw [hvo]; simp [hq])
        have t1 := tl_ne hq
        have t2 := tl_not hq
        clear hvo hq
        go_enter Tryd.func20, Tryd.ntmps20
        go_wp2_with (go_at_call 48; refine HCUT.out.mono ?_; rintro e w1 ⟨t, a, rfl, ht, k, rfl⟩; obtain rfl := ht rfl; clear ht)
        go_wp2_with (go_at_call 18; refine (HAPP.out _ (HPW.out.over (drewN_below (Below.refl _ _) _))).mono ?_; rintro e w2 ⟨rfl, hb2⟩)
        go_ret2
        have hb2' : Below w.heap.size w w2 := (drewN_below (Below.refl _ _) k).trans hb2
        exact vp_no HV.out hb2'
    · have h2' : sealB F = false := by simpa using h2
      have HV : Hid (verB s = false) := Lib.hid (by rw [hvo, h2']; simp)
      have hS : sealS F = ByteArray.empty := by unfold sealS; rw [h2']; rfl
      rw [hS, h2'] at happ
      have HAPP := Lib.hid happ
      clear happ h2 hS h2' hvo
      go_enter Tryd.func20, Tryd.ntmps20
      go_wp2_with (go_at_call 48; refine HCUT.out.mono ?_; rintro e w1 ⟨t, a, rfl, ht, k, rfl⟩; obtain rfl := ht rfl; clear ht)
      go_wp2_with (go_at_call 18; refine (HAPP.out _ (HPW.out.over (drewN_below (Below.refl _ _) _))).mono ?_; rintro e w2 ⟨rfl, hb2⟩)
      go_ret2
      have hb2' : Below w.heap.size w w2 := (drewN_below (Below.refl _ _) k).trans hb2
      exact vp_no HV.out hb2'
  · have h1' : standsB s 35 = false := by simpa using h1
    rw [h1'] at HCUT hvo
    have HV : Hid (verB s = false) := Lib.hid (by rw [hvo]; simp)
    clear hvo h1 h1'
    go_enter Tryd.func20, Tryd.ntmps20
    go_wp2_with (go_at_call 48; refine HCUT.out.mono ?_; rintro e w1 ⟨t, a, rfl, ht, k, rfl⟩; clear ht)
    go_ret2
    exact vp_no HV.out (drewN_below (Below.refl _ _) _)
end Go.Proofs.YtbfbkedndnekpaaDoor
