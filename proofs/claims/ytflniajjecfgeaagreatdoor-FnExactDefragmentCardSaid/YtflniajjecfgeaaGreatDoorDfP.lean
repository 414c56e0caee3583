/- Lights: the steps of defragmentation: plain words. No condition. -/
import Derived.Test.YtflniajjecfgeaaGreatDoorLowP
import Derived.Test.YtflniajjecfgeaaGreatDoorPlt
namespace Go.Proofs.YtflniajjecfgeaaGreatDoor
open Go.ChangeShapes Go.WideShapes Go.ChangeAt Go.RowKit

def stepR (q : Nat → Bool) : Nat → Option Nat
  | 0 => none
  | n + 1 => match stepR q n with
    | some i => some i
    | none => if q n = true then some n else none
theorem stepR_none {q : Nat → Bool} : ∀ {n : Nat}, (∀ j, j < n → q j = false) → stepR q n = none
  | 0, _ => rfl
  | n + 1, h => by rw [stepR, stepR_none (fun j hj => h j (by omega))]; simp [h n (by omega)]
theorem stepR_some {q : Nat → Bool} {i : Nat} (hq : q i = true) (ha : ∀ j, j < i → q j = false) : ∀ {n : Nat}, i < n → stepR q n = some i
  | 0, h => absurd h (by omega)
  | n + 1, h => by
    rw [stepR]
    by_cases hi : i < n
    · rw [stepR_some hq ha hi]
    · obtain rfl : i = n := by omega
      rw [stepR_none ha]; simp [hq]
theorem stepR_is {q : Nat → Bool} : ∀ {n i : Nat}, stepR q n = some i → i < n ∧ q i = true
  | 0, _, h => by simp [stepR] at h
  | n + 1, i, h => by
    rw [stepR] at h
    cases hs : stepR q n with
    | some j =>
      rw [hs] at h
      simp only [Option.some.injEq] at h
      subst h
      have := stepR_is hs
      exact ⟨by omega, this.2⟩
    | none =>
      rw [hs] at h
      by_cases hq : q n = true
      · simp [hq] at h; subst h; exact ⟨by omega, hq⟩
      · simp [hq] at h
def canB (ds : List LtD) (hl : Bool) (i : Nat) : Bool := decide (lowV ds i hl < (dn ds i).q0.toNat)
def stepF (ds : List LtD) (hl : Bool) : Option Nat := stepR (canB ds hl) ds.length
def mvX (ds : List LtD) (hl : Bool) (i : Nat) : LtD := ⟨(dn ds i).p0, (dn ds i).p1, (dn ds i).zs, (lowV ds i hl : Int), (dn ds i).q1⟩
def mvD (ds : List LtD) (hl : Bool) (i : Nat) : List LtD := ds.set i (mvX ds hl i)
def dgD (ds : List LtD) (hl : Bool) : Nat → List LtD
  | 0 => ds
  | t + 1 => match stepF (dgD ds hl t) hl with
    | none => dgD ds hl t
    | some i => mvD (dgD ds hl t) hl i
def dgL (ds : List LtD) (hl : Bool) : Nat → List Int
  | 0 => []
  | t + 1 => match stepF (dgD ds hl t) hl with
    | none => dgL ds hl t
    | some i => dgL ds hl t ++ [(dn (dgD ds hl t) i).p0]
theorem dg_stop {ds : List LtD} {hl : Bool} {t : Nat} (h : stepF (dgD ds hl t) hl = none) : ∀ s, dgD ds hl (t + s) = dgD ds hl t ∧ dgL ds hl (t + s) = dgL ds hl t
  | 0 => ⟨rfl, rfl⟩
  | s + 1 => by
    obtain ⟨a, b⟩ := dg_stop h s
    show dgD ds hl ((t + s) + 1) = _ ∧ dgL ds hl ((t + s) + 1) = _
    rw [dgD, dgL, a, b, h]; exact ⟨rfl, rfl⟩
theorem dg_end {ds : List LtD} {hl : Bool} {t m : Nat} (h : stepF (dgD ds hl t) hl = none) (hm : t ≤ m) : dgD ds hl m = dgD ds hl t ∧ dgL ds hl m = dgL ds hl t := by
  obtain ⟨s, rfl⟩ : ∃ s, m = t + s := ⟨m - t, by omega⟩
  exact dg_stop h s
theorem dg_next {ds : List LtD} {hl : Bool} {t i : Nat} (h : stepF (dgD ds hl t) hl = some i) : dgD ds hl (t + 1) = mvD (dgD ds hl t) hl i ∧ dgL ds hl (t + 1) = dgL ds hl t ++ [(dn (dgD ds hl t) i).p0] := by
  rw [dgD, dgL, h]; exact ⟨rfl, rfl⟩
theorem dn_set {ds : List LtD} {i t : Nat} {x : LtD} (hi : i < ds.length) : dn (ds.set i x) t = if t = i then x else dn ds t := by
  unfold dn
  rw [List.getD_eq_getElem?_getD, List.getD_eq_getElem?_getD, List.getElem?_set]
  by_cases h : i = t
  · subst h; simp [hi]
  · have h2 : ¬ t = i := fun e => h e.symm
    simp [h, h2]
theorem lowV_le (ds : List LtD) (a : Nat) (hl : Bool) : lowV ds a hl ≤ (dn ds a).q0.toNat := (lowF_is _ _).1
/-- the lights after some steps: as they were but for the starts of their blocks. -/
structure DgP (ds es : List LtD) : Prop where
  len : es.length = ds.length
  zs : ∀ t, t < ds.length → (dn es t).zs = (dn ds t).zs
  p0 : ∀ t, t < ds.length → (dn es t).p0 = (dn ds t).p0
  blk : ∀ t, t < ds.length → blkP (dn es t).q0 (dn es t).q1
theorem DgP.init {ds : List LtD} (h : ∀ t, t < ds.length → blkP (dn ds t).q0 (dn ds t).q1) : DgP ds ds := ⟨rfl, fun _ _ => rfl, fun _ _ => rfl, h⟩
theorem DgP.mv {ds es : List LtD} (h : DgP ds es) (hl : Bool) {i : Nat} (hi : i < es.length) : DgP ds (mvD es hl i) := by
  have hid : i < ds.length := by have := h.len; omega
  refine ⟨by unfold mvD; rw [List.length_set]; exact h.len, fun t ht => ?_, fun t ht => ?_, fun t ht => ?_⟩
  · unfold mvD; rw [dn_set hi]
    by_cases e : t = i
    · subst e; rw [if_pos rfl]; exact h.zs t ht
    · rw [if_neg e]; exact h.zs t ht
  · unfold mvD; rw [dn_set hi]
    by_cases e : t = i
    · subst e; rw [if_pos rfl]; exact h.p0 t ht
    · rw [if_neg e]; exact h.p0 t ht
  · unfold mvD; rw [dn_set hi]
    by_cases e : t = i
    · subst e
      rw [if_pos rfl]
      have h1 := h.blk t ht
      have h2 := lowV_le es t hl
      show blkP (lowV es t hl : Int) (dn es t).q1
      unfold blkP at h1 ⊢
      omega
    · rw [if_neg e]; exact h.blk t ht
theorem dg_inv {ds : List LtD} (h : ∀ t, t < ds.length → blkP (dn ds t).q0 (dn ds t).q1) (hl : Bool) : ∀ t, DgP ds (dgD ds hl t)
  | 0 => DgP.init h
  | t + 1 => by
    have ih := dg_inv h hl t
    cases hs : stepF (dgD ds hl t) hl with
    | none => rw [(dg_end hs (m := t + 1) (by omega)).1]; exact ih
    | some i => rw [(dg_next hs).1]; exact ih.mv hl (stepR_is hs).1
theorem DgP.zsAll {ds es : List LtD} (h : DgP ds es) {p : List Int → Prop} (hp : ∀ d ∈ ds, p d.zs) : ∀ d ∈ es, p d.zs := by
  intro d hd
  obtain ⟨i, hi, e⟩ := List.getElem_of_mem hd
  have hid : i < ds.length := by have := h.len; omega
  have h1 := h.zs i hid
  rw [dn_eq hi, dn_eq hid] at h1
  rw [← e, h1]
  exact hp _ (List.getElem_mem hid)
theorem dgL_len (ds : List LtD) (hl : Bool) : ∀ t, (dgL ds hl t).length ≤ t
  | 0 => Nat.le_refl _
  | t + 1 => by
    have ih := dgL_len ds hl t
    cases hs : stepF (dgD ds hl t) hl with
    | none => rw [(dg_end hs (m := t + 1) (by omega)).2]; omega
    | some i => rw [(dg_next hs).2, List.length_append]; simp; omega
end Go.Proofs.YtflniajjecfgeaaGreatDoor
