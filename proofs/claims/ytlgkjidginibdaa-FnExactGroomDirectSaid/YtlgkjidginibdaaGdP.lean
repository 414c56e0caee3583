/- Direct grooming: plain words: the rates of a pair of nodes, their units. No condition. -/
import Derived.Test.YtlgkjidginibdaaPdP
import Derived.Test.YtlgkjidginibdaaTri
namespace Go.Proofs.Ytlgkjidginibdaa
open Go.ChangeShapes Go.WideShapes Go.ChangeAt Go.RowKit

theorem max_ge (l : List Int) : ∀ a : Int, a ≤ l.foldl max a ∧ (∀ x ∈ l, x ≤ l.foldl max a) ∧ (l.foldl max a = a ∨ l.foldl max a ∈ l) := by
  induction l with
  | nil => intro a; exact ⟨Int.le_refl _, fun x hx => by simp at hx, .inl rfl⟩
  | cons b t ih =>
    intro a
    obtain ⟨h1, h2, h3⟩ := ih (max a b)
    rw [List.foldl_cons]
    refine ⟨by omega, fun x hx => ?_, ?_⟩
    · rcases List.mem_cons.1 hx with rfl | hx
      · omega
      · exact h2 x hx
    · rcases h3 with h3 | h3
      · rw [h3]
        by_cases hb : b ≤ a
        · left; omega
        · right; have : max a b = b := by omega
          rw [this]; simp
      · right; exact List.mem_cons_of_mem _ h3
theorem maxOf_is {l : List Int} {A : Int} (hA : A ∈ l) (h : ∀ v ∈ l, v ≤ A) : Lib.maxOf l = A := by
  unfold Lib.maxOf
  obtain ⟨h1, h2, h3⟩ := max_ge l (l.headD 0)
  have hh : l.headD 0 ∈ l := by
    cases l with
    | nil => simp at hA
    | cons a r => simp
  have h4 := h2 A hA
  rcases h3 with h3 | h3
  · have := h _ hh; omega
  · have := h _ h3; omega
theorem ordD_nodup (L : List Int) : ∀ i, (ordD L i).Nodup
  | 0 => List.nodup_nil
  | i + 1 => by
    unfold ordD
    have ih := ordD_nodup L i
    have hm := ordD_mem L i
    generalize posD L (ordD L i) (L.getD i 0) i = j
    have hp : ((ordD L i).take j ++ (i : Int) :: (ordD L i).drop j).Perm ((i : Int) :: ordD L i) := by
      have h1 := List.perm_middle (a := (i : Int)) (l₁ := (ordD L i).take j) (l₂ := (ordD L i).drop j)
      rwa [List.take_append_drop] at h1
    rw [hp.nodup_iff, List.nodup_cons]
    exact ⟨fun h => by have := hm _ h; omega, ih⟩
theorem ix_inj {os : List Int} {n j k : Nat} (h : ordP n os) (hd : os.Nodup) (hj : j < n) (hk : k < n) (he : ix os j = ix os k) : j = k := by
  have h1 := (h.at_ hj).2
  have h2 := (h.at_ hk).2
  rw [he] at h1
  have hjl : j < os.length := by rw [h.1]; exact hj
  have hkl : k < os.length := by rw [h.1]; exact hk
  rw [List.getElem?_eq_getElem hjl] at h1
  rw [List.getElem?_eq_getElem hkl] at h2
  exact (List.getElem_inj hd).1 ((Option.some.inj h1).trans (Option.some.inj h2).symm)
theorem roomK_step (cap : Int) (L : List Int) (k : Nat) : (unitK cap L k = ((roomK cap L k).length : Int) ∧ (roomK cap L (k + 1)).length = (roomK cap L k).length + 1) ∨ (0 ≤ unitK cap L k ∧ unitK cap L k < ((roomK cap L k).length : Int) ∧ (roomK cap L (k + 1)).length = (roomK cap L k).length) := by
  have h1 := fit_le (roomK cap L k) (L.getD k 0)
  have e1 : unitK cap L k = (fitK (roomK cap L k) (L.getD k 0) : Int) := rfl
  have e2 : roomK cap L (k + 1) = roomS cap (L.getD k 0) (roomK cap L k) := rfl
  by_cases e : fitK (roomK cap L k) (L.getD k 0) = (roomK cap L k).length
  · left
    rw [e1, e2, room_new e]
    exact ⟨by rw [e], by simp⟩
  · right
    rw [e1, e2, room_old rfl (by omega)]
    exact ⟨by omega, by omega, by simp⟩
/-- every unit's number lies below the number of units, and the last unit is in use. -/
theorem unP_max {cap : Int} {L os : List Int} (ho : ordP L.length os) (hd : os.Nodup) : ∀ k, k ≤ L.length → (∀ v ∈ unP cap L os k, 0 ≤ v ∧ (v < ((roomK cap (ratM L os) k).length : Int) ∨ v = 0)) ∧ (0 < k → 0 < (roomK cap (ratM L os) k).length ∧ ∃ j, j < k ∧ (unP cap L os k)[ix os j]? = some (((roomK cap (ratM L os) k).length : Int) - 1))
  | 0, _ => ⟨fun v hv => by unfold unP at hv; have := (List.mem_replicate.1 hv).2; omega, fun h => by omega⟩
  | k + 1, hk => by
    obtain ⟨h1, h2⟩ := unP_max (cap := cap) ho hd k (by omega)
    have hix := (ho.at_ (k := k) (by omega)).1
    have hst := roomK_step cap (ratM L os) k
    have hul := unP_len cap L os k
    unfold unP
    constructor
    · intro v hv
      rcases List.mem_or_eq_of_mem_set hv with hv | hv
      · have := h1 v hv; omega
      · subst hv; omega
    · intro _
      rcases hst with ⟨e1, e2⟩ | ⟨e0, e1, e2⟩
      · refine ⟨by omega, k, by omega, ?_⟩
        rw [List.getElem?_set_self (by rw [hul]; exact hix), e1, e2]
        congr 1; omega
      · by_cases hk0 : k = 0
        · subst hk0
          exfalso
          have : (roomK cap (ratM L os) 0).length = 0 := rfl
          omega
        · obtain ⟨h3, j, hj, h4⟩ := h2 (by omega)
          rw [e2]
          refine ⟨h3, j, by omega, ?_⟩
          rw [List.getElem?_set_ne (fun e => by have := ix_inj ho hd (j := k) (k := j) (by omega) (by omega) e; omega)]
          exact h4
/-- how many units descending packing uses. -/
def gdN (cap : Int) (L : List Int) : Int := ((roomK cap (ratM L (ordD L L.length)) L.length).length : Int)
theorem unP_top {cap : Int} {L : List Int} (h : 0 < L.length) : Lib.maxOf (unP cap L (ordD L L.length) L.length) + 1 = gdN cap L := by
  obtain ⟨h1, h2⟩ := unP_max (cap := cap) (ordD_ok L L.length) (ordD_nodup L L.length) L.length (Nat.le_refl _)
  obtain ⟨h3, j, hj, h4⟩ := h2 h
  rw [maxOf_is (List.mem_of_getElem? h4) (fun v hv => by have := h1 v hv; omega)]
  unfold gdN; omega
theorem gdN_in (cap : Int) (L : List Int) : 0 ≤ gdN cap L ∧ gdN cap L ≤ L.length := by
  have := roomK_len cap (ratM L (ordD L L.length)) L.length
  unfold gdN; omega
/-- the rates of the first t tributaries between two nodes. -/
def q3n (qs : List Q3) (t : Nat) : Q3 := qs.getD t ⟨0, 0, 0⟩
theorem q3n_at {qs : List Q3} {k : Nat} (hk : k < qs.length) {q : Q3} (hq : qs[k] = q) : q3n qs k = q := by
  unfold q3n; rw [List.getD_eq_getElem?_getD, List.getElem?_eq_getElem hk, hq]; rfl
def gdB (q : Q3) (a b : Int) : Bool := (q.a == a && q.b == b) || (q.a == b && q.b == a)
def gdK (qs : List Q3) (a b : Int) : Nat → List Int
  | 0 => []
  | t + 1 => if gdB (q3n qs t) a b then gdK qs a b t ++ [(q3n qs t).c] else gdK qs a b t
theorem gdK_len (qs : List Q3) (a b : Int) : ∀ t, (gdK qs a b t).length ≤ t
  | 0 => Nat.le_refl _
  | t + 1 => by have := gdK_len qs a b t; unfold gdK; split <;> simp <;> omega
theorem gdK_in {qs : List Q3} {a b lo hi : Int} (h : ∀ t, t < qs.length → lo ≤ (q3n qs t).c ∧ (q3n qs t).c ≤ hi) : ∀ t, t ≤ qs.length → ∀ v ∈ gdK qs a b t, lo ≤ v ∧ v ≤ hi
  | 0, _, v, hv => by simp [gdK] at hv
  | t + 1, ht, v, hv => by
    unfold gdK at hv
    split at hv
    · rcases List.mem_append.1 hv with hv | hv
      · exact gdK_in h t (by omega) v hv
      · rw [List.mem_singleton.1 hv]; exact h t (by omega)
    · exact gdK_in h t (by omega) v hv
/-- the row of a pair of nodes. -/
def gdW (cap : Int) (qs : List Q3) (a b : Int) : List (List Int) := if gdK qs a b qs.length = [] then [] else [[a, b, gdN cap (gdK qs a b qs.length)]]
def gdJ (cap : Int) (qs : List Q3) (a : Int) : Nat → List (List Int)
  | 0 => []
  | j + 1 => gdJ cap qs a j ++ gdW cap qs a (a + 1 + (j : Int))
def gdI (cap : Int) (qs : List Q3) (n : Int) : Nat → List (List Int)
  | 0 => []
  | i + 1 => gdI cap qs n i ++ gdJ cap qs (i : Int) (n - 1 - (i : Int)).toNat
theorem gdW_len (cap : Int) (qs : List Q3) (a b : Int) : (gdW cap qs a b).length ≤ 1 ∧ ((gdW cap qs a b).map List.length).sum ≤ 3 := by
  unfold gdW; split <;> simp
theorem gdJ_len (cap : Int) (qs : List Q3) (a : Int) : ∀ j, (gdJ cap qs a j).length ≤ j ∧ ((gdJ cap qs a j).map List.length).sum ≤ 3 * j
  | 0 => ⟨Nat.le_refl _, Nat.le_refl _⟩
  | j + 1 => by
    have h1 := gdJ_len cap qs a j
    have h2 := gdW_len cap qs a (a + 1 + (j : Int))
    unfold gdJ
    rw [List.length_append, List.map_append, List.sum_append]
    omega
theorem gdI_len (cap : Int) (qs : List Q3) (n : Int) (hn : n ≤ 8) : ∀ i, (gdI cap qs n i).length ≤ 8 * i ∧ ((gdI cap qs n i).map List.length).sum ≤ 24 * i
  | 0 => ⟨Nat.le_refl _, Nat.le_refl _⟩
  | i + 1 => by
    have h1 := gdI_len cap qs n hn i
    have h2 := gdJ_len cap qs (i : Int) (n - 1 - (i : Int)).toNat
    unfold gdI
    rw [List.length_append, List.map_append, List.sum_append]
    omega
def capAll (qs : List Q3) (cap : Int) : Bool := inB cap 1 10000 && qs.all fun q => decide (q.c ≤ cap)
def gdOk (qs : List Q3) (n cap : Int) : Bool := triB qs n && capAll qs cap
def gdL (qs : List Q3) (n cap : Int) : List (List Int) := if gdOk qs n cap then gdI cap qs n n.toNat else []
theorem gd_no {qs : List Q3} {n cap : Int} (h : gdOk qs n cap = false) : gdL qs n cap = [] ∧ gdOk qs n cap = false := by unfold gdL; rw [h]; exact ⟨rfl, rfl⟩
theorem gd_yes {qs : List Q3} {n cap : Int} (h : gdOk qs n cap = true) : gdL qs n cap = gdI cap qs n n.toNat ∧ gdOk qs n cap = true := by unfold gdL; rw [h]; exact ⟨rfl, rfl⟩
theorem triB_n8 {qs : List Q3} {n : Int} (h : triB qs n = true) : 2 ≤ n ∧ n ≤ 8 := by
  unfold triB at h
  rw [Bool.and_eq_true, Bool.and_eq_true] at h
  exact inB_true h.1.1
theorem gdL_len (qs : List Q3) (n cap : Int) : (gdL qs n cap).length ≤ 1048576 ∧ ((gdL qs n cap).map List.length).sum ≤ 1048576 := by
  unfold gdL
  split
  · have h : gdOk qs n cap = true := by assumption
    unfold gdOk at h
    rw [Bool.and_eq_true] at h
    have h1 := triB_n8 h.1
    have h2 := gdI_len cap qs n h1.2 n.toNat
    omega
  · simp
end Go.Proofs.Ytlgkjidginibdaa
