/- A fiber more: plain words. No condition. -/
import Derived.Test.YtkpendpjdemknaaGA
namespace Go.Proofs.Ytkpendpjdemknaa
open Go.ChangeShapes Go.WideShapes Go.ChangeAt Go.RowKit

def leF (q f : Q4) : Prop := q = f ∨ lexLt q f
theorem lex_irr (f : Q4) : ¬ lexLt f f := by unfold lexLt; omega
theorem lex_asym {f g : Q4} (h : lexLt f g) : ¬ lexLt g f := by unfold lexLt at h ⊢; omega
theorem lex_tot {f g : Q4} (h : ¬ lexLt f g) : leF g f := by
  by_cases e : lexLt g f
  · exact .inr e
  · refine .inl ?_
    obtain ⟨a, b, c, d⟩ := f
    obtain ⟨a', b', c', d'⟩ := g
    unfold lexLt at h e
    simp only at h e
    have h1 : a' = a := by omega
    have h2 : b' = b := by omega
    have h3 : c' = c := by omega
    have h4 : d' = d := by omega
    rw [h1, h2, h3, h4]
theorem le_iff (q f : Q4) : leF q f ↔ ¬ lexLt f q := ⟨fun h => by
  rcases h with rfl | h
  · exact lex_irr _
  · exact lex_asym h, lex_tot⟩
noncomputable def posF (f : Q4) : List Q4 → Nat
  | [] => 0
  | q :: r => if pb (leF q f) then posF f r + 1 else 0
theorem posF_le (f : Q4) : ∀ fs : List Q4, posF f fs ≤ fs.length
  | [] => Nat.le_refl _
  | q :: r => by
    unfold posF
    split
    · have := posF_le f r; simpa using this
    · exact Nat.zero_le _
theorem posF_is {f : Q4} : ∀ {fs : List Q4} {k : Nat} (hk : k ≤ fs.length), (∀ j (hj : j < k), leF (fs[j]'(by omega)) f) → (∀ h : k < fs.length, ¬ leF fs[k] f) → posF f fs = k
  | [], k, hk, _, _ => by simp at hk; subst hk; rfl
  | q :: r, 0, _, _, h2 => by
    unfold posF
    have h9 : ¬ leF q f := h2 (by simp)
    rw [pb_false h9]; rfl
  | q :: r, k + 1, hk, h1, h2 => by
    unfold posF
    have h9 : leF q f := h1 0 (by omega)
    rw [pb_true h9, if_pos rfl, posF_is (fs := r) (k := k) (by simpa using hk) (fun j hj => h1 (j + 1) (by omega)) (fun h => h2 (by simpa using h))]
theorem posF_before {f : Q4} : ∀ {fs : List Q4} {j : Nat} (hj : j < posF f fs), leF (fs[j]'(Nat.lt_of_lt_of_le hj (posF_le f fs))) f
  | [], j, hj => by simp [posF] at hj
  | q :: r, j, hj => by
    have hq : leF q f := by
      by_cases h : leF q f
      · exact h
      · exfalso; unfold posF at hj; rw [pb_false h] at hj; simp at hj
    cases j with
    | zero => exact hq
    | succ j =>
      have hj2 : j < posF f r := by unfold posF at hj; rw [pb_true hq, if_pos rfl] at hj; omega
      exact posF_before hj2
theorem posF_at {f : Q4} : ∀ {fs : List Q4} (h : posF f fs < fs.length), ¬ leF (fs[posF f fs]'h) f
  | [], h => by simp [posF] at h
  | q :: r, h => by
    by_cases hq : leF q f
    · have e : posF f (q :: r) = posF f r + 1 := by rw [posF, pb_true hq, if_pos rfl]
      have h2 : posF f r < r.length := by rw [e] at h; simpa using h
      have h3 := posF_at h2
      intro h9
      apply h3
      have h10 : (q :: r)[posF f (q :: r)]'h = r[posF f r]'h2 := by
        simp only [e, List.getElem_cons_succ]
      rw [h10] at h9; exact h9
    · have e : posF f (q :: r) = 0 := by rw [posF, pb_false hq]; rfl
      intro h9
      have h10 : (q :: r)[posF f (q :: r)]'h = q := by simp only [e, List.getElem_cons_zero]
      rw [h10] at h9; exact hq h9
noncomputable def afF (fs : List Q4) (f : Q4) : List Q4 := fs.take (posF f fs) ++ f :: fs.drop (posF f fs)
theorem afF_len (fs : List Q4) (f : Q4) : (afF fs f).length = fs.length + 1 := by
  unfold afF
  have := posF_le f fs
  simp; omega
theorem afF_lt {fs : List Q4} {f : Q4} {i : Nat} (h : i < posF f fs) : (afF fs f)[i]? = fs[i]? := by
  have := posF_le f fs
  unfold afF
  rw [List.getElem?_append_left (by rw [List.length_take]; omega), List.getElem?_take_of_lt h]
theorem afF_eq {fs : List Q4} {f : Q4} : (afF fs f)[posF f fs]? = some f := by
  have := posF_le f fs
  unfold afF
  rw [List.getElem?_append_right (by rw [List.length_take]; omega), List.length_take, show posF f fs - min (posF f fs) fs.length = 0 by omega]
  rfl
theorem afF_gt {fs : List Q4} {f : Q4} {i : Nat} (h : posF f fs < i) : (afF fs f)[i]? = fs[i - 1]? := by
  have := posF_le f fs
  unfold afF
  rw [List.getElem?_append_right (by rw [List.length_take]; omega), List.length_take, show i - min (posF f fs) fs.length = (i - 1 - posF f fs) + 1 by omega, List.getElem?_cons_succ, List.getElem?_drop, show posF f fs + (i - 1 - posF f fs) = i - 1 by omega]
theorem get_of {α : Type} {l : List α} {i : Nat} {x : α} (h : i < l.length) (e : l[i]? = some x) : l[i] = x := by
  rw [List.getElem?_eq_getElem h] at e; exact Option.some.inj e
theorem af_net {ss : List ByteArray} {fs : List Q4} {f : Q4} (h : netP ss fs) : netP ss (afF fs f) ↔ (fibP f ss.length ∧ fs.length ≠ 14) := by
  have hp := posF_le f fs
  constructor
  · intro h9
    have hl := h9.2.1
    rw [afF_len] at hl
    have h1 := h9.2.2.2 (posF f fs) (by rw [afF_len]; omega) (by rw [afF_len]; omega)
    rw [get_of (by rw [afF_len]; omega) afF_eq] at h1
    exact ⟨h1.1, by omega⟩
  · rintro ⟨hf, hl⟩
    have hl2 := h.2.1
    refine ⟨h.1, by rw [afF_len]; omega, h.2.2.1, fun i hi => fun hi2 => ?_⟩
    rw [afF_len] at hi
    have hfib : ∀ j (hj : j < fs.length), fibP fs[j] ss.length := fun j hj => (h.2.2.2 j hj hj).1
    have hord : ∀ j (hj : j < fs.length) (h0 : 0 < j), ¬ lexLt fs[j] fs[j - 1] := fun j hj h0 => (h.2.2.2 j hj hj).2 h0
    rcases Nat.lt_trichotomy i (posF f fs) with h1 | h1 | h1
    · have e1 : (afF fs f)[i] = fs[i]'(by omega) := get_of hi2 (by rw [afF_lt h1, List.getElem?_eq_getElem (by omega)])
      rw [e1]
      refine ⟨hfib i (by omega), fun h0 => ?_⟩
      have e2 : (afF fs f)[i - 1]'(by rw [afF_len]; omega) = fs[i - 1]'(by omega) := get_of _ (by rw [afF_lt (by omega), List.getElem?_eq_getElem (by omega)])
      rw [e2]; exact hord i (by omega) h0
    · subst h1
      have e1 : (afF fs f)[posF f fs]'hi2 = f := get_of hi2 afF_eq
      rw [e1]
      refine ⟨hf, fun h0 => ?_⟩
      have e2 : (afF fs f)[posF f fs - 1]'(by rw [afF_len]; omega) = fs[posF f fs - 1]'(by omega) := get_of _ (by rw [afF_lt (by omega), List.getElem?_eq_getElem (by omega)])
      rw [e2]
      exact (le_iff _ _).1 (posF_before (by omega))
    · have e1 : (afF fs f)[i] = fs[i - 1]'(by omega) := get_of hi2 (by rw [afF_gt h1, List.getElem?_eq_getElem (by omega)])
      rw [e1]
      refine ⟨hfib _ (by omega), fun h0 => ?_⟩
      by_cases h2 : i - 1 = posF f fs
      · have e2 : (afF fs f)[i - 1]'(by rw [afF_len]; omega) = f := get_of _ (by rw [h2]; exact afF_eq)
        rw [e2]
        intro h3
        have h4 := posF_at (f := f) (fs := fs) (by omega)
        apply h4
        refine .inr ?_
        have e3 : fs[posF f fs]'(by omega) = fs[i - 1]'(by omega) := by congr 1; exact h2.symm
        rw [e3]; exact h3
      · have e2 : (afF fs f)[i - 1]'(by rw [afF_len]; omega) = fs[i - 1 - 1]'(by omega) := get_of _ (by rw [afF_gt (by omega), List.getElem?_eq_getElem (by omega)])
        rw [e2]; exact hord (i - 1) (by omega) (by omega)
def afP (ss : List ByteArray) (fs : List Q4) (f : Q4) : Prop := netP ss fs ∧ fibP f ss.length ∧ fs.length ≠ 14
noncomputable def afLS (ss : List ByteArray) (fs : List Q4) (f : Q4) : List ByteArray := if pb (afP ss fs f) then ss else []
noncomputable def afLF (ss : List ByteArray) (fs : List Q4) (f : Q4) : List Q4 := if pb (afP ss fs f) then afF fs f else []
noncomputable def afI (ss : List ByteArray) (fs : List Q4) (f : Q4) : Int := if pb (afP ss fs f) then (posF f fs : Int) else 0
theorem af_no {ss : List ByteArray} {fs : List Q4} {f : Q4} (h : ¬ afP ss fs f) : afLS ss fs f = [] ∧ afLF ss fs f = [] ∧ afI ss fs f = 0 ∧ pb (afP ss fs f) = false := by
  have e := pb_false h
  unfold afLS afLF afI; rw [e]; exact ⟨rfl, rfl, rfl, rfl⟩
theorem af_yes {ss : List ByteArray} {fs : List Q4} {f : Q4} (h : afP ss fs f) : afLS ss fs f = ss ∧ afLF ss fs f = afF fs f ∧ afI ss fs f = (posF f fs : Int) ∧ pb (afP ss fs f) = true := by
  have e := pb_true h
  unfold afLS afLF afI; rw [e]; exact ⟨rfl, rfl, rfl, rfl⟩
theorem afL_len (ss : List ByteArray) (fs : List Q4) (f : Q4) : (afLS ss fs f).length ≤ ss.length ∧ (afLF ss fs f).length ≤ fs.length + 1 := by
  by_cases h : afP ss fs f
  · obtain ⟨a, b, _⟩ := af_yes h
    rw [a, b, afF_len]; exact ⟨Nat.le_refl _, Nat.le_refl _⟩
  · obtain ⟨a, b, _⟩ := af_no h
    rw [a, b]; exact ⟨Nat.zero_le _, Nat.zero_le _⟩
end Go.Proofs.Ytkpendpjdemknaa
