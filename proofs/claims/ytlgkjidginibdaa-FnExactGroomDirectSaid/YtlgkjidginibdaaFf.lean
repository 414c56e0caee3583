/- First fit: the pure side, and contracts of spec.l18Rates, impl.canPack, impl.numbersBelow. No condition but those typed. -/
import Derived.Test.YtlgkjidginibdaaGB
import Derived.Test.YtlgkjidginibdaaOwn
import Derived.Test.YtlgkjidginibdaaGA
namespace Go.Proofs.Ytlgkjidginibdaa
open Go.ChangeShapes Go.WideShapes Go.ChangeAt Go.RowKit

def fitK : List Int → Int → Nat
  | [], _ => 0
  | h :: t, x => if h < x then fitK t x + 1 else 0
theorem fit_le : ∀ (R : List Int) (x : Int), fitK R x ≤ R.length
  | [], _ => Nat.le_refl _
  | h :: t, x => by unfold fitK; have := fit_le t x; split <;> simp only [List.length_cons] <;> omega
theorem fit_is : ∀ {R : List Int} {x : Int} {k : Nat}, k ≤ R.length → (∀ j, j < k → R.getD j 0 < x) → (k < R.length → ¬ R.getD k 0 < x) → fitK R x = k
  | [], x, k, h, _, _ => by
    obtain rfl : k = 0 := by simpa using h
    rfl
  | h :: t, x, 0, _, _, h2 => by
    have h3 : ¬ h < x := h2 (by simp)
    unfold fitK; rw [if_neg h3]
  | h :: t, x, k + 1, hk, h1, h2 => by
    have h3 : h < x := h1 0 (by omega)
    have ih := fit_is (R := t) (x := x) (k := k) (by simpa using hk) (fun j hj => h1 (j + 1) (by omega)) (fun h9 => h2 (by simpa using h9))
    unfold fitK; rw [if_pos h3, ih]
/-- the rooms behind one more rate. -/
def roomS (cap x : Int) (R : List Int) : List Int := if fitK R x = R.length then R ++ [cap - x] else R.set (fitK R x) (R.getD (fitK R x) 0 - x)
def roomK (cap : Int) (L : List Int) : Nat → List Int
  | 0 => []
  | k + 1 => roomS cap (L.getD k 0) (roomK cap L k)
def unitK (cap : Int) (L : List Int) (k : Nat) : Int := (fitK (roomK cap L k) (L.getD k 0) : Int)
def unL (cap : Int) (L : List Int) : List Int := (List.range L.length).map (unitK cap L)
theorem unL_len (cap : Int) (L : List Int) : (unL cap L).length = L.length := by unfold unL; simp
theorem unL_at (cap : Int) (L : List Int) (k : Nat) (h : k < L.length) : (unL cap L)[k]'(by rw [unL_len]; exact h) = unitK cap L k := by unfold unL; simp
theorem room_new {cap x : Int} {R : List Int} (h : fitK R x = R.length) : roomS cap x R = R ++ [cap - x] := if_pos h
theorem room_old {cap x : Int} {R : List Int} {k : Nat} (h : fitK R x = k) (hk : k < R.length) : roomS cap x R = R.set k (R.getD k 0 - x) := by
  unfold roomS; rw [if_neg (by omega), h]
theorem roomS_len (cap x : Int) (R : List Int) : (roomS cap x R).length ≤ R.length + 1 := by
  unfold roomS; split <;> simp
theorem roomK_len (cap : Int) (L : List Int) : ∀ k, (roomK cap L k).length ≤ k
  | 0 => Nat.le_refl _
  | k + 1 => by have := roomK_len cap L k; have := roomS_len cap (L.getD k 0) (roomK cap L k); show (roomS cap (L.getD k 0) (roomK cap L k)).length ≤ _; omega
theorem getD_app (R : List Int) (v : Int) (j : Nat) : (R ++ [v]).getD j 0 = if j < R.length then R.getD j 0 else if j = R.length then v else 0 := by
  rw [List.getD_eq_getElem?_getD]
  by_cases h : j < R.length
  · rw [if_pos h, List.getElem?_append_left h, List.getD_eq_getElem?_getD]
  · rw [if_neg h, List.getElem?_append_right (by omega)]
    by_cases e : j = R.length
    · rw [if_pos e, e, Nat.sub_self]; rfl
    · rw [if_neg e, List.getElem?_eq_none (by simp; omega)]; rfl
theorem getD_set_ (R : List Int) (v : Int) (k j : Nat) (hk : k < R.length) : (R.set k v).getD j 0 = if j = k then v else R.getD j 0 := by
  rw [List.getD_eq_getElem?_getD, List.getElem?_set]
  by_cases e : j = k
  · subst e; rw [if_pos rfl, if_pos rfl, if_pos hk]; rfl
  · rw [if_neg (fun h => e h.symm), if_neg e, List.getD_eq_getElem?_getD]
theorem fit_stop : ∀ {R : List Int} {x : Int}, fitK R x < R.length → ¬ R.getD (fitK R x) 0 < x
  | [], _, h => by simp [fitK] at h
  | h :: t, x, hl => by
    unfold fitK at hl ⊢
    by_cases e : h < x
    · rw [if_pos e] at hl ⊢
      exact fit_stop (R := t) (x := x) (by simpa using hl)
    · rw [if_neg e]; exact e
theorem fit_go : ∀ {R : List Int} {x : Int} {j : Nat}, j < fitK R x → R.getD j 0 < x
  | [], _, j, h => by simp [fitK] at h
  | h :: t, x, j, hl => by
    unfold fitK at hl
    by_cases e : h < x
    · rw [if_pos e] at hl
      cases j with
      | zero => exact e
      | succ j => exact fit_go (R := t) (x := x) (by omega)
    · rw [if_neg e] at hl; omega
theorem roomS_in {cap x : Int} {R : List Int} (hx : 1 ≤ x ∧ x ≤ cap) (h : ∀ j, j < R.length → 0 ≤ R.getD j 0 ∧ R.getD j 0 ≤ cap) : ∀ j, j < (roomS cap x R).length → 0 ≤ (roomS cap x R).getD j 0 ∧ (roomS cap x R).getD j 0 ≤ cap := by
  intro j hj
  by_cases e : fitK R x = R.length
  · rw [room_new e] at hj ⊢
    rw [getD_app]
    split
    · exact h j (by assumption)
    · split <;> omega
  · have hl : fitK R x < R.length := by have := fit_le R x; omega
    rw [room_old rfl hl] at hj ⊢
    rw [List.length_set] at hj
    rw [getD_set_ _ _ _ _ hl]
    split
    · have := fit_stop hl; have := h _ hl; omega
    · exact h j hj
def ratesP (cap : Int) (L : List Int) : Prop := L.length ≤ 12 ∧ (1 ≤ cap ∧ cap ≤ 10000) ∧ ∀ k, k < L.length → 1 ≤ L.getD k 0 ∧ L.getD k 0 ≤ cap
theorem roomK_in {cap : Int} {L : List Int} (h : ratesP cap L) : ∀ k, k ≤ L.length → ∀ j, j < (roomK cap L k).length → 0 ≤ (roomK cap L k).getD j 0 ∧ (roomK cap L k).getD j 0 ≤ cap
  | 0, _, j, hj => by simp [roomK] at hj
  | k + 1, hk, j, hj => roomS_in (h.2.2 k (by omega)) (roomK_in h k (by omega)) j hj
noncomputable def pkL (cap : Int) (L : List Int) : List Int := if pb (ratesP cap L) then unL cap L else []
theorem pk_no {cap : Int} {L : List Int} (h : ¬ ratesP cap L) : pkL cap L = [] ∧ pb (ratesP cap L) = false := by
  have hb := pb_false h
  exact ⟨by unfold pkL; rw [hb]; rfl, hb⟩
theorem pk_yes {cap : Int} {L : List Int} (h : ratesP cap L) : pkL cap L = unL cap L ∧ pb (ratesP cap L) = true := by
  have hb := pb_true h
  exact ⟨by unfold pkL; rw [hb]; rfl, hb⟩
theorem pkL_len (cap : Int) (L : List Int) : (pkL cap L).length ≤ L.length := by
  by_cases h : ratesP cap L
  · rw [(pk_yes h).1, unL_len]; exact Nat.le_refl _
  · rw [(pk_no h).1]; simp
def numL (n : Nat) : List Int := (List.range n).map (fun j : Nat => (j : Int))
theorem numL_len (n : Nat) : (numL n).length = n := by unfold numL; simp
theorem numL_at (n k : Nat) (h : k < n) : (numL n)[k]'(by rw [numL_len]; exact h) = (k : Int) := by unfold numL; simp
theorem numL_snoc (n : Nat) : numL (n + 1) = numL n ++ [(n : Int)] := by unfold numL; rw [List.range_succ, List.map_append]; rfl

set_option maxHeartbeats 2000000 in
theorem canPack_ {A : Option Addr} {n c : Nat} {L : List Int} {w : World} (cap : Int) (hn : L.length = n) (hr : Rd w w.heap.size A (L.map (Value.int .i64))) (hs : n ≤ 1048576) :
    Calls Try.prog 191 #[.slice A n c, .int .i64 cap, .int .i64 12] w fun e w' => e = .returned (.bool (pb (ratesP cap L))) ∧ w = w' := by
  have HN := Lib.hid hn
  obtain ⟨r, hr_⟩ : ∃ r, pb (ratesP cap L) = r := ⟨_, rfl⟩
  have HNO : Hid (¬ ratesP cap L → r = false) := Lib.hid (fun e => by rw [← hr_]; exact pb_false e)
  have HYES : Hid (ratesP cap L → r = true) := Lib.hid (fun e => by rw [← hr_]; exact pb_true e)
  rw [hr_]
  clear hr_ hn
  by_cases hp : 1 ≤ cap ∧ cap ≤ 10000 ∧ n ≤ 12
  case neg =>
    have HE := Lib.hid (HNO.out (fun e => hp ⟨e.2.1.1, e.2.1.2, by have := e.1; have := HN.out; omega⟩))
    by_cases h1 : cap < 1
    · go_enter Try.func191, Try.ntmps191
      go_wp2
      go_ret
      exact ⟨retb HE.out.symm, rfl⟩
    · by_cases h2 : 10000 < cap
      · go_enter Try.func191, Try.ntmps191
        go_wp2
        go_ret
        exact ⟨retb HE.out.symm, rfl⟩
      · have h3 : 12 < (n : Int) := by omega
        clear hp
        go_enter Try.func191, Try.ntmps191
        go_wp2
        go_ret
        exact ⟨retb HE.out.symm, rfl⟩
  case pos =>
    obtain ⟨h1, h2, h3⟩ := hp
    have h3I : (n : Int) ≤ 12 := by omega
    go_enter Try.func191, Try.ntmps191
    go_wp2
    go_loop [23] (fun i => ∃ k : Nat, k ≤ n ∧ i = .int .i64 k ∧ Hid (∀ j, j < k → 1 ≤ L.getD j 0 ∧ L.getD j 0 ≤ cap)) (fun i => n - (intOf i).toNat)
    case atStart => exact ⟨0, Nat.zero_le _, rfl, Lib.hid (fun j hj => by omega)⟩
    case round =>
      obtain ⟨k, hk, rfl, HA⟩ := hrel
      by_cases hlt : k < n
      case neg =>
        obtain rfl : k = n := by omega
        have HE := Lib.hid (HYES.out ⟨by have := HN.out; omega, ⟨h1, h2⟩, fun j hj => HA.out j (by have := HN.out; omega)⟩)
        go_wp2
        go_ret
        exact ⟨retb HE.out.symm, rfl⟩
      case pos =>
        have hks : k < L.length := by have := HN.out; omega
        obtain ⟨ad, rfl, hb, cx⟩ := ints_at hr (k := k) hks
        obtain ⟨x, hx⟩ : ∃ x, L[k]'hks = x := ⟨_, rfl⟩
        have HX : Hid (L.getD k 0 = x) := Lib.hid (by rw [List.getD_eq_getElem?_getD, List.getElem?_eq_getElem hks, hx]; rfl)
        rw [hx] at cx
        clear hx
        by_cases hx1 : x < 1
        case pos =>
          have HE := Lib.hid (HNO.out (fun e => by have := e.2.2 k hks; rw [HX.out] at this; omega))
          go_wp2
          go_ret
          exact ⟨retb HE.out.symm, rfl⟩
        case neg =>
          by_cases hx2 : cap < x
          case pos =>
            have HE := Lib.hid (HNO.out (fun e => by have := e.2.2 k hks; rw [HX.out] at this; omega))
            go_wp2
            go_ret
            exact ⟨retb HE.out.symm, rfl⟩
          case neg =>
            have HA2 : Hid (∀ j, j < k + 1 → 1 ≤ L.getD j 0 ∧ L.getD j 0 ≤ cap) := Lib.hid (fun j hj => by
              by_cases e : j = k
              · subst e; rw [HX.out]; omega
              · exact HA.out j (by omega))
            go_wp2
            go_round
            case rel => exact ⟨k + 1, by omega, by go_num, HA2⟩
            case measure => simp [intOf]; omega

set_option maxHeartbeats 2000000 in
theorem numbersBelow_ (n : Nat) (w : World) (hs : n ≤ 1048576) :
    Calls Try.prog 192 #[.int .i64 (n : Int)] w fun e w' => e = .returned (.slice (some ⟨w.heap.size, 0, none⟩) n n) ∧
      w'.ownsRow w.heap.size 3 1 (.slice (some ⟨w.heap.size, 0, none⟩) n n) n ((numL n).map (Value.int .i64)) ∧ Below w.heap.size w w' := by
  obtain ⟨i0, hi, hz0, hz1, hz2⟩ := info_parts Try.inf_int
  go_enter Try.func192, Try.ntmps192
  go_wp2_with (at_make; refine wpList_make_full _ rfl _ _ 26 rfl w.heap.size 3 i0 (.int .i64 0) 1 Try.underlying26 hi hz0 hz1 .i64 .i64 n n n rfl rfl rfl rfl (by rw [hz2]; omega) (by unfold maxLen; omega) (Nat.le_refl _) ?_)
  intro w1 hown hgrow
  have hb1 : Below w.heap.size w w1 := (Below.refl _ _).grown hgrow (Nat.le_refl _) (fun k h => by cases h)
  clear hgrow
  rw [toList_madeCells_one] at hown
  clear hi hz0 hz1 hz2
  go_wp2
  go_loopw [9] (fun i wr => ∃ k : Nat, k ≤ n ∧ i = .int .i64 k ∧ wr.ownsRow w.heap.size 3 1 (.slice (some ⟨w.heap.size, 0, none⟩) n n) n (((numL n).take k).map (Value.int .i64) ++ List.replicate (n - k) z0) ∧ Below w.heap.size w wr) (fun i _ => n - (intOf i).toNat)
  case atStart => exact ⟨0, Nat.zero_le _, rfl, by simpa using hown, hb1⟩
  case round =>
    clear hown hb1
    obtain ⟨k, hk, rfl, hown, hb⟩ := hrel
    by_cases hlt : k < n
    · have hold := hown.cellAt k (by omega)
      rw [iget_fill (numL n) k n (numL_len n) hlt] at hold
      have hfz := hown.frozenAt k
      have hst := hown.stored k (.int .i64 ((numL n)[k]'(by rw [numL_len]; exact hlt)))
      rw [iset_fill (numL n) k n (numL_len n) hlt, numL_at n k hlt] at hst
      have HST := Lib.hid hst.1; clear hst
      clear hown
      go_wp2
      go_roundw
      case rel => exact ⟨k + 1, by omega, by go_num, HST.out, hb.setCell (Nat.le_refl _) _⟩
      case measure => simp [intOf]; omega
    · have hkn : k = n := by omega
      subst hkn
      have e : (numL k).take k = numL k := List.take_of_length_le (by rw [numL_len]; omega)
      rw [e, Nat.sub_self, List.replicate_zero, List.append_nil] at hown
      clear e
      go_wp2
      go_ret
      exact ⟨rfl, hown, hb⟩
end Go.Proofs.Ytlgkjidginibdaa
