/- Plain facts: a checksummed text with one byte changed is not accepted; the text of a checksummed text is recovered. No condition. -/
import Derived.Test.YtbfbkedndnekpaaDoorVer
import Derived.Laws.BitsAllLaws
import Derived.Laws.BitsLemmas
namespace Go.Proofs.YtbfbkedndnekpaaDoor
open Go.Lib (itoa)

theorem step_inj (h h' c : Int) (a : 0 ≤ h) (b : h < 999979) (a' : 0 ≤ h') (b' : h' < 999979) (e : (41 * h + c + 1) % 999979 = (41 * h' + c + 1) % 999979) : h = h' := by omega
theorem sum_inj : ∀ (l : List UInt8) (h h' : Int), 0 ≤ h → h < 999979 → 0 ≤ h' → h' < 999979 → sumFrom h l = sumFrom h' l → h = h'
  | [], _, _, _, _, _, _, e => e
  | c :: r, h, h', a, b, a', b', e =>
    step_inj h h' c.toNat a b a' b' (sum_inj r _ _ (by omega) (by omega) (by omega) (by omega) e)
theorem sum_ne : ∀ (l : List UInt8) (k : Nat) (v : UInt8) (h : Int), 0 ≤ h → h < 999979 → (hk : k < l.length) → v ≠ l[k] → sumFrom h (l.set k v) ≠ sumFrom h l
  | [], k, _, _, _, _, hk, _ => by simp at hk
  | c :: r, 0, v, h, a, b, _, hv => by
    intro e
    simp only [List.set_cons_zero, sumFrom] at e
    have := sum_inj r _ _ (by omega) (by omega) (by omega) (by omega) e
    have h1 : (v.toNat : Int) < 256 := by have := v.toNat_lt; omega
    have h2 : (c.toNat : Int) < 256 := by have := c.toNat_lt; omega
    exact hv (UInt8.toNat_inj.1 (by simp; omega))
  | c :: r, k + 1, v, h, a, b, hk, hv => by
    simp only [List.set_cons_succ, sumFrom]
    exact sum_ne r k v _ (by omega) (by omega) (by simpa using hk) (by simpa using hv)

def digsL (l : List UInt8) : List UInt8 := itoa (sumFrom 7 l)
theorem sumd_list (s : ByteArray) : (sumd s).data.toList = s.data.toList ++ 35 :: digsL s.data.toList := by
  unfold sumd digsOf digsL
  rw [ByteArray.data_append, ByteArray.data_append, Array.toList_append, Array.toList_append]
  simp
theorem upTo_app (c : UInt8) (l r : List UInt8) (h : l.contains c = false) : upTo c (l ++ c :: r) = l := by
  induction l with
  | nil => simp [upTo]
  | cons d l ih =>
    have hd : d ≠ c := by intro e; subst e; simp at h
    have hl : l.contains c = false := by
      rw [Bool.eq_false_iff] at h ⊢; intro h'; exact h (by rw [List.contains_iff_mem] at h' ⊢; exact List.mem_cons_of_mem _ h')
    rw [List.cons_append, upTo_cons, if_neg hd, ih hl]
theorem front_sumd (x : ByteArray) (h : standsB x 35 = false) : front (sumd x) = x := by
  unfold front
  rw [sumd_list, upTo_app 35 _ _ h]; rfl
theorem ver_sumd (x : ByteArray) (h : sealB x = true) : verB (sumd x) = true ∧ verS (sumd x) = x := by
  unfold sealB at h
  simp only [Bool.and_eq_true, decide_eq_true_eq, Bool.not_eq_true'] at h
  have hv : verB (sumd x) = true := by unfold verB; rw [front_sumd x h.1.2]; simp; exact h.2
  exact ⟨hv, by unfold verS; rw [hv, if_pos rfl, front_sumd x h.1.2]⟩
theorem digs_no (l : List UInt8) : (digsL l).contains 35 = false := by
  have hb := sumFrom_bd 7 l (by omega) (by omega)
  obtain ⟨_, _, h3, _⟩ := itoa_pos (sumFrom 7 l) hb.1 (by omega)
  rw [Bool.eq_false_iff]; intro h
  rw [List.contains_iff_mem] at h
  have := List.all_eq_true.1 h3 35 h
  exact absurd this (by decide)
theorem digs_inj {l l' : List UInt8} (h : digsL l = digsL l') : sumFrom 7 l = sumFrom 7 l' := by
  have a := sumFrom_bd 7 l (by omega) (by omega)
  have b := sumFrom_bd 7 l' (by omega) (by omega)
  exact itoa_inj _ _ ⟨by omega, by omega⟩ ⟨by omega, by omega⟩ h
theorem no_mem {c : UInt8} {l : List UInt8} (h : l.contains c = false) : c ∉ l := by
  intro hm; rw [← List.contains_iff_mem] at hm; rw [h] at hm; cases hm

/-- one byte changed is detected. -/
theorem detect (x : ByteArray) (hx : standsB x 35 = false) (k : Nat) (v : UInt8) (hk : k < (sumd x).data.toList.length) (hv : v ≠ (sumd x).data.toList[k]) (y : ByteArray) (hy : y.data.toList = (sumd x).data.toList.set k v) : verB y = false := by
  unfold verB
  rw [decide_eq_false_iff_not]
  rintro ⟨_, e⟩
  have he : (sumd (front y)).data.toList = y.data.toList := by rw [e]
  rw [sumd_list] at he
  have hf : (front y).data.toList = upTo 35 y.data.toList := by simp [front, mkS]
  rw [hf] at he
  obtain ⟨X, hX⟩ : ∃ X, x.data.toList = X := ⟨_, rfl⟩
  obtain ⟨D, hD⟩ : ∃ D, digsL X = D := ⟨_, rfl⟩
  have hxn : X.contains 35 = false := by rw [← hX]; exact hx
  have hdn : D.contains 35 = false := by rw [← hD]; exact digs_no X
  have hS : (sumd x).data.toList = X ++ 35 :: D := by rw [sumd_list, hX, hD]
  simp only [hS] at hk hv hy
  rcases Nat.lt_trichotomy k X.length with h | h | h
  · rw [List.set_append_left _ _ h] at hy
    rw [List.getElem_append_left h] at hv
    by_cases h35 : v = 35
    · subst h35
      have e1 : X.set k 35 = X.take k ++ 35 :: X.drop (k + 1) := List.set_eq_take_append_cons_drop .. |>.trans (if_pos h)
      have hn : (X.take k).contains 35 = false := by
        rw [Bool.eq_false_iff]; intro h'; rw [List.contains_iff_mem] at h'; exact no_mem hxn (List.mem_of_mem_take h')
      rw [hy, e1, List.append_assoc, List.cons_append, upTo_app 35 _ _ hn] at he
      have h2 := List.append_cancel_left he
      have h3 : digsL (X.take k) = X.drop (k + 1) ++ 35 :: D := by simpa using h2
      exact no_mem (digs_no (X.take k)) (by rw [h3]; simp)
    · have hn : (X.set k v).contains 35 = false := by
        rw [Bool.eq_false_iff]; intro h'; rw [List.contains_iff_mem] at h'
        rcases List.mem_or_eq_of_mem_set h' with h'' | h''
        · exact no_mem hxn h''
        · exact h35 h''.symm
      rw [hy, upTo_app 35 _ _ hn] at he
      have h2 := List.append_cancel_left he
      have h3 : digsL (X.set k v) = D := by simpa using h2
      rw [← hD] at h3
      exact sum_ne X k v 7 (by omega) (by omega) h hv (digs_inj h3)
  · have e1 : (X ++ 35 :: D).set k v = X ++ v :: D := by
      rw [List.set_append_right _ _ (by omega), show k - X.length = 0 by omega]; rfl
    have e2 : (X ++ 35 :: D)[k] = 35 := by
      rw [List.getElem_append_right (by omega)]; simp [h]
    rw [e1] at hy
    rw [e2] at hv
    have hm : (35 : UInt8) ∈ y.data.toList := by rw [← he]; simp
    rw [hy] at hm
    rcases List.mem_append.1 hm with h' | h'
    · exact no_mem hxn h'
    · rcases List.mem_cons.1 h' with h'' | h''
      · exact hv h''.symm
      · exact no_mem hdn h''
  · have e1 : (X ++ 35 :: D).set k v = X ++ 35 :: D.set (k - X.length - 1) v := by
      rw [List.set_append_right _ _ (by omega)]
      congr 1
      obtain ⟨j, hj⟩ : ∃ j, k - X.length = j + 1 := ⟨k - X.length - 1, by omega⟩
      rw [hj]; rfl
    rw [e1] at hy
    rw [hy, upTo_app 35 _ _ hxn, hD] at he
    have h2 := List.append_cancel_left he
    have h3 : D = D.set (k - X.length - 1) v := by simpa using h2
    have hlen : k - X.length - 1 < D.length := by simp at hk; omega
    have h4 : D[k - X.length - 1] = v := by
      have : (D.set (k - X.length - 1) v)[k - X.length - 1]'(by simpa using hlen) = v := by simp
      rw [← this]; congr 1
    apply hv
    rw [List.getElem_append_right (by omega)]
    rw [← h4]
    rw [List.getElem_cons, dif_neg (by omega)]

theorem xor_byte (a : UInt8) (d : Int) (h0 : 1 ≤ d) (h1 : d ≤ 255) : ∃ v : UInt8, bits .xor .u8 (a.toNat : Int) d = (v.toNat : Int) ∧ v ≠ a := by
  refine ⟨⟨BitVec.ofInt 8 (a.toNat : Int) ^^^ BitVec.ofInt 8 d⟩, ?_, ?_⟩
  · show IntKind.u8.wrap ((BitVec.ofInt 8 (a.toNat : Int) ^^^ BitVec.ofInt 8 d).toNat : Int) = ((BitVec.ofInt 8 (a.toNat : Int) ^^^ BitVec.ofInt 8 d).toNat : Int)
    have := (BitVec.ofInt 8 (a.toNat : Int) ^^^ BitVec.ofInt 8 d).isLt
    rw [IntKind.wrap_u8]; omega
  · intro e
    have e2 : (BitVec.ofInt 8 (a.toNat : Int) ^^^ BitVec.ofInt 8 d) = a.toBitVec := congrArg UInt8.toBitVec e
    have e3 : BitVec.ofInt 8 (a.toNat : Int) = a.toBitVec := by
      apply BitVec.eq_of_toNat_eq
      rw [BitVec.ofInt_natCast, BitVec.toNat_ofNat]
      exact Nat.mod_eq_of_lt a.toNat_lt
    rw [e3] at e2
    have e4 : BitVec.ofInt 8 d = 0#8 := by
      have h := congrArg (fun z => a.toBitVec ^^^ z) e2
      simpa [← BitVec.xor_assoc] using h
    have e5 := congrArg BitVec.toNat e4
    rw [BitVec.toNat_ofInt] at e5
    simp at e5
    omega
end Go.Proofs.YtbfbkedndnekpaaDoor
