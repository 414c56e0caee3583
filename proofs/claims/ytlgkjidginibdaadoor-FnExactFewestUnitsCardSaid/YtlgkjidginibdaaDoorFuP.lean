/- The fewest units: plain words: the best packing of every set of rates. No condition. -/
import Derived.Test.YtlgkjidginibdaaDoorFf
namespace Go.Proofs.YtlgkjidginibdaaDoor
open Go.ChangeShapes Go.WideShapes Go.ChangeAt Go.RowKit

/-- a packing: how many units are closed, and the load of the open one. -/
structure Pk where
  u : Int
  l : Int
def stp (cap r : Int) (q : Pk) : Pk := if cap < q.l + r then ⟨q.u + 1, r⟩ else ⟨q.u, q.l + r⟩
def lsP (c b : Pk) : Bool := decide (c.u < b.u ∨ (c.u = b.u ∧ c.l < b.l))
def cdP (cap : Int) (L : List Int) (g : Nat → Pk) (s k : Nat) : Pk := stp cap (L.getD k 0) (g (s - 2 ^ k))
def btr (c b : Pk) : Pk := if lsP c b then c else b
def cdF (cap : Int) (L : List Int) (g : Nat → Pk) (s : Nat) : Nat → Pk
  | 0 => ⟨1000, 0⟩
  | k + 1 => if s.testBit k then btr (cdP cap L g s k) (cdF cap L g s k) else cdF cap L g s k
def dpT (cap : Int) (L : List Int) : Nat → Nat → Pk
  | 0 => fun _ => ⟨0, 0⟩
  | s + 1 => fun x => if x = s + 1 then cdF cap L (dpT cap L s) (s + 1) L.length else dpT cap L s x
def ratesT (cap : Int) (L : List Int) : Prop := L.length ≤ 10 ∧ (1 ≤ cap ∧ cap ≤ 10000) ∧ ∀ k, k < L.length → 1 ≤ L.getD k 0 ∧ L.getD k 0 ≤ cap
theorem ratesT_iff {cap : Int} {L : List Int} : ratesT cap L ↔ ratesP cap L ∧ L.length ≤ 10 := ⟨fun h => ⟨⟨by have := h.1; omega, h.2⟩, h.1⟩, fun h => ⟨h.2, h.1.2⟩⟩
noncomputable def fuV (cap : Int) (L : List Int) : Int := if pb (ratesT cap L) then (if L.length = 0 then 0 else (dpT cap L (2 ^ L.length - 1) (2 ^ L.length - 1)).u + 1) else 0
noncomputable def fuR (cap : Int) (L : List Int) : Value := .tuple #[.int .i64 (fuV cap L), .bool (pb (ratesT cap L))]
theorem fu_no {cap : Int} {L : List Int} (h : pb (ratesT cap L) = false) : (.tuple #[.int .i64 0, .bool false] : Value) = fuR cap L := by unfold fuR fuV; rw [h]; rfl
theorem fu_zero {cap : Int} {L : List Int} (h : pb (ratesT cap L) = true) (h0 : L.length = 0) : (.tuple #[.int .i64 0, .bool true] : Value) = fuR cap L := by unfold fuR fuV; rw [h, if_pos rfl, if_pos h0]
theorem fu_yes {cap : Int} {L : List Int} (h : pb (ratesT cap L) = true) (h0 : L.length ≠ 0) : (.tuple #[.int .i64 ((dpT cap L (2 ^ L.length - 1) (2 ^ L.length - 1)).u + 1), .bool true] : Value) = fuR cap L := by unfold fuR fuV; rw [h, if_pos rfl, if_neg h0]
def anF (x y : Nat) : Nat := x - (x &&& y)
theorem bit_fin : ∀ s : Fin 1024, ∀ i : Fin 10, s.val.testBit i.val = true → s.val ^^^ 2 ^ i.val = s.val - 2 ^ i.val ∧ s.val &&& 2 ^ i.val = 2 ^ i.val ∧ 2 ^ i.val ≤ s.val := by decide +kernel
theorem top_fin : ∀ s : Fin 1024, s.val = 0 ∨ ∃ i : Fin 10, s.val.testBit i.val = true ∧ s.val - 2 ^ i.val < 2 ^ i.val ∧ 2 ^ i.val ≤ s.val := by decide +kernel
theorem bit_at {s i : Nat} (hs : s < 1024) (hi : i < 10) (h : s.testBit i = true) : s ^^^ 2 ^ i = s - 2 ^ i ∧ s &&& 2 ^ i = 2 ^ i ∧ 2 ^ i ≤ s := bit_fin ⟨s, hs⟩ ⟨i, hi⟩ h
theorem top_at {s : Nat} (hs : s < 1024) (h0 : s ≠ 0) : ∃ i, i < 10 ∧ s.testBit i = true ∧ s - 2 ^ i < 2 ^ i ∧ 2 ^ i ≤ s := by
  rcases top_fin ⟨s, hs⟩ with h | ⟨i, h⟩
  · exact absurd h h0
  · exact ⟨i.val, i.isLt, h⟩
theorem btr_or (c b : Pk) : btr c b = c ∨ btr c b = b := by unfold btr; split <;> simp
theorem btr_le (c b : Pk) : (btr c b).u ≤ c.u ∧ (btr c b).u ≤ b.u := by
  unfold btr
  by_cases h : c.u < b.u ∨ (c.u = b.u ∧ c.l < b.l)
  · rw [if_pos (by unfold lsP; exact decide_eq_true h)]; omega
  · rw [if_neg (by unfold lsP; rw [decide_eq_false h]; decide)]; omega
theorem stp_in {cap r : Int} {q : Pk} (hr : 1 ≤ r ∧ r ≤ cap) (hq : 0 ≤ q.u ∧ 0 ≤ q.l ∧ q.l ≤ cap) : q.u ≤ (stp cap r q).u ∧ (stp cap r q).u ≤ q.u + 1 ∧ 0 ≤ (stp cap r q).l ∧ (stp cap r q).l ≤ cap := by
  unfold stp
  split
  · dsimp only; omega
  · dsimp only; omega
theorem cdF_le {cap : Int} {L : List Int} {g : Nat → Pk} {s : Nat} {i : Nat} (hb : s.testBit i = true) : ∀ k, i < k → (cdF cap L g s k).u ≤ (cdP cap L g s i).u
  | 0, h => absurd h (by omega)
  | k + 1, h => by
    rw [cdF]
    by_cases e : i = k
    · subst e; rw [if_pos hb]; exact (btr_le _ _).1
    · have ih := cdF_le (cap := cap) (L := L) (g := g) hb k (by omega)
      split
      · exact Int.le_trans (btr_le _ _).2 ih
      · exact ih
theorem cdF_in {cap : Int} {L : List Int} {g : Nat → Pk} {s : Nat} (hL : ratesT cap L) (hg : ∀ x, 0 ≤ (g x).u ∧ 0 ≤ (g x).l ∧ (g x).l ≤ cap) : ∀ k, k ≤ L.length → 0 ≤ (cdF cap L g s k).u ∧ 0 ≤ (cdF cap L g s k).l ∧ (cdF cap L g s k).l ≤ cap
  | 0, _ => ⟨by show (0 : Int) ≤ 1000; decide, Int.le_refl 0, by show (0 : Int) ≤ cap; have := hL.2.1; omega⟩
  | k + 1, hk => by
    have ih := cdF_in (s := s) hL hg k (by omega)
    rw [cdF]
    split
    · rcases btr_or (cdP cap L g s k) (cdF cap L g s k) with e | e
      · rw [e]
        have h1 := hg (s - 2 ^ k)
        have := stp_in (hL.2.2 k (by omega)) h1
        unfold cdP
        omega
      · rw [e]; exact ih
    · exact ih
theorem dpT_in {cap : Int} {L : List Int} (hL : ratesT cap L) : ∀ s x, 0 ≤ (dpT cap L s x).u ∧ 0 ≤ (dpT cap L s x).l ∧ (dpT cap L s x).l ≤ cap
  | 0, x => ⟨Int.le_refl 0, Int.le_refl 0, by show (0 : Int) ≤ cap; have := hL.2.1; omega⟩
  | s + 1, x => by
    have e : dpT cap L (s + 1) x = if x = s + 1 then cdF cap L (dpT cap L s) (s + 1) L.length else dpT cap L s x := rfl
    rw [e]
    split
    · exact cdF_in hL (dpT_in hL s) _ (Nat.le_refl _)
    · exact dpT_in hL s x
theorem dpT_u {cap : Int} {L : List Int} (hL : ratesT cap L) : ∀ s : Nat, s < 2 ^ L.length → ∀ m x : Nat, x < 2 ^ m → (dpT cap L s x).u ≤ (m : Int)
  | 0, _, m, x, _ => by show (0 : Int) ≤ m; omega
  | s + 1, hs, m, x, hx => by
    have ih := dpT_u hL s (by omega)
    have e9 : dpT cap L (s + 1) x = if x = s + 1 then cdF cap L (dpT cap L s) (s + 1) L.length else dpT cap L s x := rfl
    rw [e9]
    split
    · rename_i e
      subst e
      have hp : 2 ^ L.length ≤ 2 ^ 10 := Nat.pow_le_pow_right (by decide) hL.1
      obtain ⟨i, hi, hb, h1, h2⟩ := top_at (s := s + 1) (by omega) (by omega)
      have him : i < m := Nat.lt_of_not_le (fun hle => by have := Nat.pow_le_pow_right (show 0 < 2 by decide) hle; omega)
      have hil : i < L.length := Nat.lt_of_not_le (fun hle => by have := Nat.pow_le_pow_right (show 0 < 2 by decide) hle; omega)
      have h3 := cdF_le (cap := cap) (L := L) (g := dpT cap L s) hb L.length hil
      have h4 := ih i (s + 1 - 2 ^ i) h1
      have h5 := stp_in (hL.2.2 i hil) (dpT_in hL s (s + 1 - 2 ^ i))
      unfold cdP at h3
      omega
    · exact ih m x hx
theorem dpT_ten {cap : Int} {L : List Int} (hL : ratesT cap L) {s x : Nat} (hs : s < 2 ^ L.length) (hx : x < 2 ^ L.length) : (dpT cap L s x).u ≤ 10 := by
  have := dpT_u hL s hs L.length x hx
  have := hL.1
  omega
/-- a later table keeps the earlier sets. -/
theorem dpT_old {cap : Int} {L : List Int} (s x : Nat) (h : x ≠ s + 1) : dpT cap L (s + 1) x = dpT cap L s x := if_neg h
theorem dpT_new {cap : Int} {L : List Int} (s : Nat) : dpT cap L (s + 1) (s + 1) = cdF cap L (dpT cap L s) (s + 1) L.length := if_pos rfl
theorem dpT_off {cap : Int} {L : List Int} : ∀ (s x : Nat), s < x → dpT cap L s x = ⟨0, 0⟩
  | 0, _, _ => rfl
  | s + 1, x, h => by rw [dpT_old s x (by omega)]; exact dpT_off s x (by omega)
theorem dpT_nil {cap : Int} {L : List Int} : ∀ s : Nat, dpT cap L s 0 = ⟨0, 0⟩
  | 0 => rfl
  | s + 1 => by rw [dpT_old s 0 (by omega)]; exact dpT_nil s
/-- a row of the table. -/
def rwT (f : Nat → Int) (n : Nat) : List Int := (List.range n).map f
theorem rwT_len (f : Nat → Int) (n : Nat) : (rwT f n).length = n := by unfold rwT; simp
theorem rwT_get (f : Nat → Int) (n i : Nat) (h : i < (rwT f n).length) : (rwT f n)[i]'h = f i := by
  have hi : i < n := by rwa [rwT_len] at h
  have h9 := List.getElem?_eq_getElem h
  have h8 : (rwT f n)[i]? = some (f i) := by unfold rwT; simp [hi]
  rw [h8] at h9
  exact (Option.some.inj h9).symm
theorem rwT_zero (n : Nat) : rwT (fun _ => 0) n = List.replicate n 0 := by
  apply List.ext_getElem
  · rw [rwT_len, List.length_replicate]
  · intro i h1 h2
    rw [rwT_get, List.getElem_replicate]
theorem rwT_set {f g : Nat → Int} {n s : Nat} {v : Int} (hv : v = g s) (h : ∀ x, x ≠ s → f x = g x) : (rwT f n).set s v = rwT g n := by
  apply List.ext_getElem
  · rw [List.length_set, rwT_len, rwT_len]
  · intro i h1 h2
    rw [List.getElem_set, rwT_get, rwT_get]
    split
    · rename_i e; rw [← e]; exact hv
    · rename_i e; exact h i (fun x => e x.symm)
end Go.Proofs.YtlgkjidginibdaaDoor
