/- Plain words: the risk groups of a network, as lists and as masks. No condition. -/
import Derived.Test.YtlgkjidginibdaaFail
import Derived.Test.YtlgkjidginibdaaGB
namespace Go.Proofs.Ytlgkjidginibdaa
open Go.RowKit

def grpI (fs : List Q4) (a : Int) : List Int := grpL fs a.toNat (fibI fs a)
theorem grp_len (fs : List Q4) (a : Int) : (grpI fs a).length ≤ fs.length + 1 := by
  unfold grpI grpL
  split
  · simp
  · exact Nat.le_succ_of_le (rkK_len _ _ _)
/-- the groups of the risks up to r. -/
def rgA (fs : List Q4) : Nat → List (List Int)
  | 0 => []
  | r + 1 => if (rkK fs ((r : Int) + 1) fs.length) = [] then rgA fs r else rgA fs r ++ [rkK fs ((r : Int) + 1) fs.length]
theorem rgA_no {fs : List Q4} {r : Nat} (h : rkK fs ((r : Int) + 1) fs.length = []) : rgA fs (r + 1) = rgA fs r := by rw [rgA, if_pos h]
theorem rgA_yes {fs : List Q4} {r : Nat} (h : rkK fs ((r : Int) + 1) fs.length ≠ []) : rgA fs (r + 1) = rgA fs r ++ [rkK fs ((r : Int) + 1) fs.length] := by rw [rgA, if_neg h]
def rgZ (l : List Int) : List (List Int) := l.map fun i => [i]
def rgL (fs : List Q4) : List (List Int) := rgA fs 9 ++ rgZ (rkK fs 0 fs.length)
theorem rk_mem {fs : List Q4} {r : Int} {k : Nat} {x : Int} : x ∈ rkK fs r k ↔ ∃ i : Nat, x = (i : Int) ∧ i < k ∧ (fs.getD i ⟨0, 0, 0, 0⟩).d = r := by
  unfold rkK
  rw [List.mem_map]
  constructor
  · rintro ⟨i, hi, rfl⟩
    rw [List.mem_filter, List.mem_range] at hi
    exact ⟨i, rfl, hi.1, of_decide_eq_true hi.2⟩
  · rintro ⟨i, rfl, hi, hd⟩
    exact ⟨i, by rw [List.mem_filter, List.mem_range]; exact ⟨hi, decide_eq_true hd⟩, rfl⟩
theorem rgA_mem {fs : List Q4} {g : List Int} : ∀ {r : Nat}, g ∈ rgA fs r → ∃ j : Nat, j < r ∧ g = rkK fs ((j : Int) + 1) fs.length ∧ g ≠ []
  | 0, h => by simp [rgA] at h
  | r + 1, h => by
    by_cases he : rkK fs ((r : Int) + 1) fs.length = []
    · rw [rgA_no he] at h
      obtain ⟨j, hj, e⟩ := rgA_mem h
      exact ⟨j, by omega, e⟩
    · rw [rgA_yes he] at h
      rcases List.mem_append.1 h with h | h
      · obtain ⟨j, hj, e⟩ := rgA_mem h
        exact ⟨j, by omega, e⟩
      · have h := List.mem_singleton.1 h
        exact ⟨r, by omega, h, by rw [h]; exact he⟩
theorem rgA_has {fs : List Q4} {j : Nat} (hne : rkK fs ((j : Int) + 1) fs.length ≠ []) : ∀ {r : Nat}, j < r → rkK fs ((j : Int) + 1) fs.length ∈ rgA fs r
  | 0, h => by omega
  | r + 1, h => by
    by_cases hj : j = r
    · subst hj
      rw [rgA_yes hne]
      exact List.mem_append_right _ (List.mem_singleton.2 rfl)
    · have h1 := rgA_has hne (r := r) (by omega)
      by_cases he : rkK fs ((r : Int) + 1) fs.length = []
      · rw [rgA_no he]; exact h1
      · rw [rgA_yes he]; exact List.mem_append_left _ h1
theorem rgp_eq {fs : List Q4} {g : List Int} {x : Int} (hg : g ∈ rgL fs) (hx : x ∈ g) : (0 ≤ x ∧ x < fs.length) ∧ grpI fs x = g := by
  unfold rgL at hg
  rcases List.mem_append.1 hg with h | h
  · obtain ⟨j, _, rfl, _⟩ := rgA_mem h
    obtain ⟨i, rfl, hi, hd⟩ := rk_mem.1 hx
    refine ⟨⟨by omega, by omega⟩, ?_⟩
    unfold grpI grpL
    have e : (fibI fs (i : Int)).d = (j : Int) + 1 := hd
    rw [e, if_neg (by omega)]
  · unfold rgZ at h
    obtain ⟨i, hi, rfl⟩ := List.mem_map.1 h
    have hx := List.mem_singleton.1 hx
    subst hx
    obtain ⟨m, rfl, hm, hd⟩ := rk_mem.1 hi
    refine ⟨⟨by omega, by omega⟩, ?_⟩
    unfold grpI grpL
    have e : (fibI fs (m : Int)).d = 0 := hd
    rw [e, if_pos rfl]
    rfl
theorem rgp_has {fs : List Q4} {x : Int} (h0 : 0 ≤ x) (h1 : x < fs.length) (hd0 : 0 ≤ (fibI fs x).d) (hd1 : (fibI fs x).d ≤ 9) : grpI fs x ∈ rgL fs ∧ x ∈ grpI fs x := by
  obtain ⟨m, rfl⟩ : ∃ m : Nat, x = m := ⟨x.toNat, by omega⟩
  have hm : m < fs.length := by omega
  by_cases hz : (fibI fs (m : Int)).d = 0
  · have e : grpI fs (m : Int) = [(m : Int)] := by unfold grpI grpL; rw [if_pos hz]; rfl
    rw [e]
    refine ⟨List.mem_append_right _ ?_, List.mem_singleton.2 rfl⟩
    unfold rgZ
    exact List.mem_map.2 ⟨(m : Int), rk_mem.2 ⟨m, rfl, hm, hz⟩, rfl⟩
  · obtain ⟨j, hj⟩ : ∃ j : Nat, (fibI fs (m : Int)).d = (j : Int) + 1 := ⟨((fibI fs (m : Int)).d - 1).toNat, by omega⟩
    have e : grpI fs (m : Int) = rkK fs ((j : Int) + 1) fs.length := by unfold grpI grpL; rw [hj, if_neg (by omega)]
    have hx : (m : Int) ∈ rkK fs ((j : Int) + 1) fs.length := rk_mem.2 ⟨m, rfl, hm, hj⟩
    rw [e]
    exact ⟨List.mem_append_left _ (rgA_has (fun hn => by rw [hn] at hx; simp at hx) (by omega)), hx⟩
theorem net_risk {ss : List ByteArray} {fs : List Q4} (hv : netP ss fs) {x : Int} (h0 : 0 ≤ x) (h1 : x < fs.length) : 0 ≤ (fibI fs x).d ∧ (fibI fs x).d ≤ 9 := by
  obtain ⟨m, rfl⟩ : ∃ m : Nat, x = m := ⟨x.toNat, by omega⟩
  have hm : m < fs.length := by omega
  have h := (hv.2.2.2 m hm hm).1
  have e : fibI fs (m : Int) = fs[m] := by unfold fibI; rw [show ((m : Int)).toNat = m by omega, List.getD_eq_getElem?_getD, List.getElem?_eq_getElem hm]; rfl
  rw [e]
  exact ⟨h.2.2.2.2.2.1, h.2.2.2.2.2.2⟩
/-- the sizes of the groups add up to no more than the fibers. -/
def rkS (fs : List Q4) (k : Nat) : Nat → Nat
  | 0 => 0
  | m + 1 => rkS fs k m + (rkK fs (m : Int) k).length
theorem rkS_zero (fs : List Q4) : ∀ m, rkS fs 0 m = 0
  | 0 => rfl
  | m + 1 => by rw [rkS, rkS_zero fs m]; rfl
theorem rkS_step (fs : List Q4) (k : Nat) (q : Q4) (hk : k < fs.length) (hq : fs[k] = q) : ∀ m : Nat, rkS fs (k + 1) m = rkS fs k m + (if 0 ≤ q.d ∧ q.d < (m : Int) then 1 else 0)
  | 0 => by rw [rkS, rkS, if_neg (by omega)]
  | m + 1 => by
    rw [rkS, rkS, rkS_step fs k q hk hq m, rkK_step fs _ k q hk hq, List.length_append]
    by_cases h : q.d = (m : Int)
    · rw [if_pos h, if_neg (by omega), if_pos (by omega)]; simp; omega
    · rw [if_neg h]
      by_cases h2 : 0 ≤ q.d ∧ q.d < (m : Int)
      · rw [if_pos h2, if_pos (by omega)]; simp; omega
      · rw [if_neg h2, if_neg (by omega)]; simp
theorem rkS_le (fs : List Q4) (m : Nat) : ∀ k, k ≤ fs.length → rkS fs k m ≤ k
  | 0, _ => by rw [rkS_zero]; omega
  | k + 1, h => by
    have h1 := rkS_le fs m k (by omega)
    rw [rkS_step fs k _ (by omega) rfl m]
    split <;> omega
theorem rgA_size (fs : List Q4) : ∀ r : Nat, ((rgA fs r).map List.length).sum + (rkK fs 0 fs.length).length = rkS fs fs.length (r + 1)
  | 0 => by rw [rkS, rkS, rgA]; simp
  | r + 1 => by
    rw [rkS]
    have h := rgA_size fs r
    have e : ((r + 1 : Nat) : Int) = (r : Int) + 1 := by omega
    rw [e]
    by_cases he : rkK fs ((r : Int) + 1) fs.length = []
    · rw [rgA_no he, he]; simpa using h
    · rw [rgA_yes he, List.map_append, List.sum_append]; simp; omega
theorem rgZ_size (l : List Int) : ((rgZ l).map List.length).sum = l.length := by
  unfold rgZ
  induction l with
  | nil => rfl
  | cons x xs ih => simp only [List.map_cons, List.sum_cons, List.length_cons, ih, List.length_nil]; omega
theorem rgp_size (fs : List Q4) : ((rgL fs).map List.length).sum ≤ fs.length := by
  unfold rgL
  rw [List.map_append, List.sum_append, rgZ_size, rgA_size]
  exact rkS_le fs _ _ (Nat.le_refl _)
theorem rgp_ne {fs : List Q4} {g : List Int} (hg : g ∈ rgL fs) : g ≠ [] := by
  unfold rgL at hg
  rcases List.mem_append.1 hg with h | h
  · exact (rgA_mem h).choose_spec.2.2
  · unfold rgZ at h
    obtain ⟨i, _, rfl⟩ := List.mem_map.1 h
    simp
theorem len_sum {L : List (List Int)} (h : ∀ g ∈ L, g ≠ []) : L.length ≤ (L.map List.length).sum := by
  induction L with
  | nil => simp
  | cons g L ih =>
    have h1 := ih (fun g' hg' => h g' (List.mem_cons_of_mem _ hg'))
    have h2 := List.length_pos_iff.2 (h g List.mem_cons_self)
    simp only [List.length_cons, List.map_cons, List.sum_cons]
    omega
theorem rgp_len (fs : List Q4) : (rgL fs).length ≤ fs.length := Nat.le_trans (len_sum fun _ h => rgp_ne h) (rgp_size fs)
theorem rgp_le {fs : List Q4} {g : List Int} (hg : g ∈ rgL fs) : g.length ≤ fs.length := by
  refine Nat.le_trans ?_ (rgp_size fs)
  have : ∀ L : List (List Int), g ∈ L → g.length ≤ (L.map List.length).sum := by
    intro L
    induction L with
    | nil => intro h; simp at h
    | cons a L ih =>
      intro h
      simp only [List.map_cons, List.sum_cons]
      rcases List.mem_cons.1 h with rfl | h
      · omega
      · have := ih h; omega
  exact this _ hg
noncomputable def rgV (ss : List ByteArray) (fs : List Q4) : List (List Int) := if pb (netP ss fs) then rgL fs else []
theorem rgV_no {ss : List ByteArray} {fs : List Q4} (h : ¬ netP ss fs) : rgV ss fs = [] ∧ pb (netP ss fs) = false := by
  refine ⟨?_, pb_false h⟩
  unfold rgV; rw [pb_false h]; rfl
theorem rgV_yes {ss : List ByteArray} {fs : List Q4} (h : netP ss fs) : rgV ss fs = rgL fs ∧ pb (netP ss fs) = true := by
  refine ⟨?_, pb_true h⟩
  unfold rgV; rw [pb_true h]; rfl
theorem rgV_size (ss : List ByteArray) (fs : List Q4) : ((rgV ss fs).map List.length).sum ≤ fs.length := by
  unfold rgV
  split
  · exact rgp_size fs
  · simp
theorem rgV_len (ss : List ByteArray) (fs : List Q4) : (rgV ss fs).length ≤ fs.length := by
  unfold rgV
  split
  · exact rgp_len fs
  · simp
/-- the groups' masks. -/
def mkN (g : List Int) : Nat := maskN g g.length
def gmL (fs : List Q4) : List Int := (rgL fs).map fun g => (mkN g : Int)
noncomputable def gmV (ss : List ByteArray) (fs : List Q4) : List Int := (rgV ss fs).map fun g => (mkN g : Int)
theorem gmV_yes {ss : List ByteArray} {fs : List Q4} (h : netP ss fs) : gmV ss fs = gmL fs := by unfold gmV gmL; rw [(rgV_yes h).1]
theorem gmV_no {ss : List ByteArray} {fs : List Q4} (h : ¬ netP ss fs) : gmV ss fs = [] := by unfold gmV; rw [(rgV_no h).1]; rfl
/-- what two lists meet of a group. -/
def bothQ (gs : List (List Int)) (xs ys : List Int) (k : Nat) : Bool := (xs.any fun f => decide (f ∈ gs.getD k [])) && (ys.any fun f => decide (f ∈ gs.getD k []))
def bothK (gs : List (List Int)) (xs ys : List Int) (n : Nat) : List Int := selK (bothQ gs xs ys) n
def apP (fs : List Q4) (xs ys : List Int) : Prop := ∀ i, i < xs.length → ∀ j, j < ys.length → ¬ ys.getD j 0 ∈ grpI fs (xs.getD i 0)
theorem getD_mem {l : List Int} {i : Nat} (h : i < l.length) : l.getD i 0 ∈ l := by rw [List.getD_eq_getElem?_getD, List.getElem?_eq_getElem h]; exact List.getElem_mem h
theorem mem_getD {l : List Int} {x : Int} (h : x ∈ l) : ∃ i, i < l.length ∧ l.getD i 0 = x := by
  obtain ⟨i, hi, e⟩ := List.mem_iff_getElem.1 h
  exact ⟨i, hi, by rw [List.getD_eq_getElem?_getD, List.getElem?_eq_getElem hi]; exact e⟩
theorem ap_iff {ss : List ByteArray} {fs : List Q4} (hv : netP ss fs) {xs ys : List Int} (hx : ∀ x ∈ xs, 0 ≤ x ∧ x < fs.length) : apP fs xs ys ↔ bothK (rgL fs) xs ys (rgL fs).length = [] := by
  unfold bothK
  rw [sel_nil]
  constructor
  · intro h k hk
    cases hq : bothQ (rgL fs) xs ys k with
    | false => rfl
    | true =>
      exfalso
      unfold bothQ at hq
      rw [Bool.and_eq_true, List.any_eq_true, List.any_eq_true] at hq
      obtain ⟨⟨x, hx1, hx2⟩, ⟨y, hy1, hy2⟩⟩ := hq
      have hx2 := of_decide_eq_true hx2
      have hy2 := of_decide_eq_true hy2
      have hg : (rgL fs).getD k [] ∈ rgL fs := by rw [List.getD_eq_getElem?_getD, List.getElem?_eq_getElem hk]; exact List.getElem_mem hk
      obtain ⟨i, hi, e1⟩ := mem_getD hx1
      obtain ⟨j, hj, e2⟩ := mem_getD hy1
      refine h i hi j hj ?_
      rw [e1, e2, (rgp_eq hg hx2).2]
      exact hy2
  · intro h i hi j hj hm
    have hx1 := hx _ (getD_mem hi)
    have hd := net_risk hv hx1.1 hx1.2
    obtain ⟨hg, hin⟩ := rgp_has hx1.1 hx1.2 hd.1 hd.2
    obtain ⟨k, hk, e⟩ := List.mem_iff_getElem.1 hg
    have h1 := h k hk
    have e2 : (rgL fs).getD k [] = grpI fs (xs.getD i 0) := by rw [List.getD_eq_getElem?_getD, List.getElem?_eq_getElem hk]; exact e
    have : bothQ (rgL fs) xs ys k = true := by
      unfold bothQ
      rw [e2, Bool.and_eq_true, List.any_eq_true, List.any_eq_true]
      exact ⟨⟨_, getD_mem hi, decide_eq_true hin⟩, ⟨_, getD_mem hj, decide_eq_true hm⟩⟩
    rw [this] at h1
    cases h1
end Go.Proofs.Ytlgkjidginibdaa
