/- First fit in an order of the rates: plain words. No condition. -/
import Derived.Test.YtlgkjidginibdaaFfP
namespace Go.Proofs.Ytlgkjidginibdaa
open Go.ChangeShapes Go.WideShapes Go.ChangeAt Go.RowKit

def ix (os : List Int) (k : Nat) : Nat := (os.getD k 0).toNat
def ordP (n : Nat) (os : List Int) : Prop := os.length = n ∧ ∀ k, k < n → 0 ≤ os.getD k 0 ∧ os.getD k 0 < n
theorem ordP.at_ {n k : Nat} {os : List Int} (h : ordP n os) (hk : k < n) : ix os k < n ∧ os[k]? = some ((ix os k : Nat) : Int) := by
  have h1 := h.2 k hk
  unfold ix
  refine ⟨by omega, ?_⟩
  rw [List.getElem?_eq_getElem (by rw [h.1]; exact hk)]
  rw [List.getD_eq_getElem?_getD, List.getElem?_eq_getElem (by rw [h.1]; exact hk)] at h1 ⊢
  simp only [Option.getD_some] at h1 ⊢
  congr 1; omega
def ratM (L os : List Int) : List Int := os.map fun o => L.getD o.toNat 0
theorem ratM_len (L os : List Int) : (ratM L os).length = os.length := by unfold ratM; simp
theorem ratM_at {L os : List Int} {k : Nat} (hk : k < os.length) : (ratM L os).getD k 0 = L.getD (ix os k) 0 := by
  unfold ratM ix
  rw [List.getD_eq_getElem?_getD, List.getElem?_map, List.getElem?_eq_getElem hk, List.getD_eq_getElem?_getD (l := os), List.getElem?_eq_getElem hk]
  rfl
theorem ratM_ok {cap : Int} {L os : List Int} (hp : ratesP cap L) (ho : ordP L.length os) : ratesP cap (ratM L os) := by
  refine ⟨by rw [ratM_len, ho.1]; exact hp.1, hp.2.1, fun k hk => ?_⟩
  rw [ratM_len] at hk
  rw [ratM_at hk]
  exact hp.2.2 _ (ho.at_ (by rw [← ho.1]; exact hk)).1
def unP (cap : Int) (L os : List Int) : Nat → List Int
  | 0 => List.replicate L.length 0
  | k + 1 => (unP cap L os k).set (ix os k) (unitK cap (ratM L os) k)
theorem unP_len (cap : Int) (L os : List Int) : ∀ k, (unP cap L os k).length = L.length
  | 0 => by unfold unP; simp
  | k + 1 => by unfold unP; rw [List.length_set]; exact unP_len cap L os k
def posD (L O : List Int) (x : Int) : Nat → Nat
  | 0 => 0
  | k + 1 => if L.getD (ix O k) 0 < x then posD L O x k else k + 1
theorem posD_le (L O : List Int) (x : Int) : ∀ k, posD L O x k ≤ k
  | 0 => Nat.le_refl _
  | k + 1 => by
    unfold posD
    split
    · have := posD_le L O x k; omega
    · exact Nat.le_refl _
theorem posD_is {L O : List Int} {x : Int} {k0 : Nat} : ∀ {k : Nat}, k0 ≤ k → (∀ j, k0 ≤ j → j < k → L.getD (ix O j) 0 < x) → (0 < k0 → ¬ L.getD (ix O (k0 - 1)) 0 < x) → posD L O x k = k0
  | 0, h, _, _ => by unfold posD; omega
  | k + 1, h, h1, h2 => by
    unfold posD
    by_cases e : k0 = k + 1
    · subst e
      rw [if_neg (by simpa using h2 (by omega))]
    · rw [if_pos (h1 k (by omega) (by omega))]
      exact posD_is (by omega) (fun j hj hj2 => h1 j hj (by omega)) h2
def ordD (L : List Int) : Nat → List Int
  | 0 => []
  | i + 1 => (ordD L i).take (posD L (ordD L i) (L.getD i 0) i) ++ (i : Int) :: (ordD L i).drop (posD L (ordD L i) (L.getD i 0) i)
theorem ordD_len (L : List Int) : ∀ i, (ordD L i).length = i
  | 0 => rfl
  | i + 1 => by
    unfold ordD
    rw [List.length_append, List.length_cons, List.length_take, List.length_drop, ordD_len L i]
    have := posD_le L (ordD L i) (L.getD i 0) i
    omega
theorem ordD_mem (L : List Int) : ∀ i, ∀ v ∈ ordD L i, 0 ≤ v ∧ v < i
  | 0, v, h => by simp [ordD] at h
  | i + 1, v, h => by
    unfold ordD at h
    have ih := ordD_mem L i
    rcases List.mem_append.1 h with h | h
    · have := ih v (List.mem_of_mem_take h); omega
    · rcases List.mem_cons.1 h with h | h
      · omega
      · have := ih v (List.mem_of_mem_drop h); omega
theorem ordD_ok (L : List Int) (i : Nat) : ordP i (ordD L i) := ⟨ordD_len L i, fun k hk => by
  have hk2 : k < (ordD L i).length := by rw [ordD_len]; exact hk
  rw [List.getD_eq_getElem?_getD, List.getElem?_eq_getElem hk2]
  exact ordD_mem L i _ (List.getElem_mem hk2)⟩
noncomputable def pdL (cap : Int) (L : List Int) : List Int := if pb (ratesP cap L) then unP cap L (ordD L L.length) L.length else []
theorem pd_no {cap : Int} {L : List Int} (h : ¬ ratesP cap L) : pdL cap L = [] ∧ pb (ratesP cap L) = false := by
  have e := pb_false h
  unfold pdL; rw [e]; exact ⟨rfl, rfl⟩
theorem pd_yes {cap : Int} {L : List Int} (h : ratesP cap L) : pdL cap L = unP cap L (ordD L L.length) L.length ∧ pb (ratesP cap L) = true := by
  have e := pb_true h
  unfold pdL; rw [e]; exact ⟨rfl, rfl⟩
theorem pdL_len (cap : Int) (L : List Int) : (pdL cap L).length ≤ L.length := by
  unfold pdL
  split
  · rw [unP_len]; exact Nat.le_refl _
  · exact Nat.zero_le _
end Go.Proofs.Ytlgkjidginibdaa
