/- Contracts: impl.UnionMasks and spec.UnionMasks answer the same plain words. No condition but those typed. -/
import Derived.Test.YthmmhhoaplbfgabInts
import Derived.Test.YthmmhhoaplbfgabBlk
namespace Go.Proofs.Ythmmhhoaplbfgab
open Go.ChangeShapes Go.WideShapes Go.ChangeAt Go.RowKit

theorem mask_yes (x : Int) (w : World) (h0 : 0 ≤ x) (h1 : x ≤ 16777215) : Calls Try.prog 40 #[.int .i64 x] w fun e w' => e = .returned (.bool true) ∧ w = w' := by
  have C := Lib.hid (in_yes x 0 16777215 w h0 h1)
  go_enter Try.func40, Try.ntmps40
  go_wp2_with (refine C.out.mono ?_; rintro e w' ⟨rfl, rfl⟩)
  go_ret
  exact ⟨rfl, rfl⟩
theorem mask_no (x : Int) (w : World) (h : x < 0 ∨ 16777215 < x) : Calls Try.prog 40 #[.int .i64 x] w fun e w' => e = .returned (.bool false) ∧ w = w' := by
  have C := Lib.hid (in_no x 0 16777215 w h)
  clear h
  go_enter Try.func40, Try.ntmps40
  go_wp2_with (refine C.out.mono ?_; rintro e w' ⟨rfl, rfl⟩)
  go_ret
  exact ⟨rfl, rfl⟩
theorem imask_yes (x : Int) (w : World) (h0 : 0 ≤ x) (h1 : x ≤ 16777215) : Calls Try.prog 41 #[.int .i64 x] w fun e w' => e = .returned (.bool true) ∧ w = w' := by
  go_enter Try.func41, Try.ntmps41
  go_wp2
  go_ret
  exact ⟨rfl, rfl⟩
theorem imask_no (x : Int) (w : World) (h : x < 0 ∨ 16777215 < x) : Calls Try.prog 41 #[.int .i64 x] w fun e w' => e = .returned (.bool false) ∧ w = w' := by
  by_cases h0 : x < 0
  · clear h
    go_enter Try.func41, Try.ntmps41
    go_wp2
    go_ret
    exact ⟨rfl, rfl⟩
  · have h1 : decide (x ≤ 16777215) = false := decide_eq_false (by omega)
    have h2 : 0 ≤ x := by omega
    clear h h0
    go_enter Try.func41, Try.ntmps41
    go_wp2
    go_ret
    exact ⟨rfl, rfl⟩

def inMask (x : Int) : Prop := 0 ≤ x ∧ x ≤ 16777215
def uniP (zs : List Int) : Prop := zs.length ≤ 40 ∧ ∀ i (h : i < zs.length), inMask zs[i]

def orF (zs : List Int) : Int := zs.foldl (fun u z => bits .or .i64 u z) 0
theorem orF_snoc (zs : List Int) (k : Nat) (h : k < zs.length) : orF (zs.take (k + 1)) = bits .or .i64 (orF (zs.take k)) zs[k] := by
  unfold orF; rw [List.take_succ_eq_append_getElem h, List.foldl_append]; rfl
noncomputable def uniB (zs : List Int) : Bool := pb (uniP zs)
noncomputable def uniI (zs : List Int) : Int := if uniB zs then orF zs else 0
noncomputable def uniR (zs : List Int) : Value := .tuple #[.int .i64 (uniI zs), .bool (uniB zs)]
theorem uni_no {zs : List Int} (h : ¬ uniP zs) : (.tuple #[.int .i64 0, .bool false] : Value) = uniR zs := by
  unfold uniR uniI uniB; rw [pb_false h, if_neg Bool.false_ne_true]
theorem uni_yes {zs : List Int} (h : uniP zs) : (.tuple #[.int .i64 (orF zs), .bool true] : Value) = uniR zs := by
  unfold uniR uniI uniB; rw [pb_true h, if_pos rfl]

set_option maxHeartbeats 1000000 in
theorem specUni (g n c : Nat) (zs : List Int) (w : World) (hn : zs.length = n) (hr : Rd w w.heap.size (some ⟨g, 0, none⟩) (zs.map (Value.int .i64))) (hsz : n ≤ 1048576) :
    Calls Try.prog 21 #[.slice (some ⟨g, 0, none⟩) n c] w (RetP (uniR zs) w) := by
  have HN := Lib.hid hn; clear hn
  go_enter Try.func21, Try.ntmps21
  go_wp2
  go_loop [4, 5] (fun u i => ∃ (k : Nat) (o : Int), k ≤ n ∧ k ≤ 41 ∧ i = .int .i64 k ∧ u = .int .i64 o ∧ o = orF (zs.take k) ∧ ∀ j (h : j < zs.length), j < k → inMask zs[j]) (fun _ i => n - (intOf i).toNat)
  case atStart => exact ⟨0, 0, Nat.zero_le _, by omega, rfl, rfl, rfl, fun j _ h => absurd h (by omega)⟩
  case round =>
    obtain ⟨k, o, hk, hk4, rfl, rfl, ho, hall⟩ := hrel
    have HO := Lib.hid ho; have HA := Lib.hid hall; clear ho hall
    by_cases hlt : k < n
    · have hks : k < zs.length := by have := HN.out; omega
      obtain ⟨_, hcell⟩ := hr.intc hks
      rw [Nat.zero_add] at hcell
      obtain ⟨z, hz⟩ : ∃ z, zs[k]'hks = z := ⟨_, rfl⟩
      rw [hz] at hcell
      by_cases h40 : k ≤ 40
      · have h40' : (k : Int) ≤ 40 := by omega
        by_cases hm : 0 ≤ z ∧ z ≤ 16777215
        · have C := Lib.hid (fun W => mask_yes z W hm.1 hm.2)
          have HS : Hid (bits .or .i64 o z = orF (zs.take (k + 1))) := Lib.hid (by rw [orF_snoc zs k hks, hz, HO.out])
          have HT : Hid (∀ j (h : j < zs.length), j < k + 1 → inMask zs[j]) := Lib.hid (by
            intro j h hj
            by_cases hjk : j < k
            · exact HA.out j h hjk
            · obtain rfl : j = k := by omega
              rw [hz]; exact hm)
          clear hz hm
          go_wp2_with (refine (C.out _).mono ?_; rintro e w' ⟨rfl, rfl⟩)
          go_round
          case rel => exact ⟨k + 1, _, by omega, by omega, by go_num, rfl, HS.out, HT.out⟩
          case measure => simp [intOf]; omega
        · have C := Lib.hid (fun W => mask_no z W (by omega))
          have HR := Lib.hid (uni_no (zs := zs) fun h => hm (by have := h.2 k hks; rw [hz] at this; exact this))
          clear hz hm
          go_wp2_with (refine (C.out _).mono ?_; rintro e w' ⟨rfl, rfl⟩)
          go_ret2
          exact retP HR.out (Below.refl _ _)
      · have HR := Lib.hid (uni_no (zs := zs) fun h => by have := h.1; omega)
        have q : 40 < (k : Int) := by omega
        have q2 : 40 < (n : Int) := by omega
        clear h40 hz
        go_wp2
        go_ret2
        exact retP HR.out (Below.refl _ _)
    · have hkn : k = n := by omega
      subst hkn
      by_cases h40 : k ≤ 40
      · have HR : Hid ((.tuple #[.int .i64 o, .bool true] : Value) = uniR zs) := Lib.hid (by
          have hl := HN.out
          rw [← uni_yes (zs := zs) ⟨by omega, fun i h => HA.out i h (by omega)⟩, HO.out, List.take_of_length_le (by omega)])
        have q : (k : Int) ≤ 40 := by omega
        clear hlt h40
        go_wp2
        go_ret2
        exact retP HR.out (Below.refl _ _)
      · have HR := Lib.hid (uni_no (zs := zs) fun h => by have := h.1; have := HN.out; omega)
        have q : 40 < (k : Int) := by omega
        clear hlt h40
        go_wp2
        go_ret2
        exact retP HR.out (Below.refl _ _)

set_option maxHeartbeats 1000000 in
theorem implUni (g n c : Nat) (zs : List Int) (w : World) (hn : zs.length = n) (hr : Rd w w.heap.size (some ⟨g, 0, none⟩) (zs.map (Value.int .i64))) (hsz : n ≤ 1048576) :
    Calls Try.prog 23 #[.slice (some ⟨g, 0, none⟩) n c] w (RetP (uniR zs) w) := by
  have HN := Lib.hid hn; clear hn
  by_cases h40 : n ≤ 40
  · have h40' : (n : Int) ≤ 40 := by omega
    go_enter Try.func23, Try.ntmps23
    go_wp2
    go_loop [4, 12] (fun u i => ∃ (k : Nat) (o : Int), k ≤ n ∧ i = .int .i64 k ∧ u = .int .i64 o ∧ o = orF (zs.take k) ∧ ∀ j (h : j < zs.length), j < k → inMask zs[j]) (fun _ i => n - (intOf i).toNat)
    case atStart => exact ⟨0, 0, Nat.zero_le _, rfl, rfl, rfl, fun j _ h => absurd h (by omega)⟩
    case round =>
      obtain ⟨k, o, hk, rfl, rfl, ho, hall⟩ := hrel
      have HO := Lib.hid ho; have HA := Lib.hid hall; clear ho hall
      by_cases hlt : k < n
      · have hks : k < zs.length := by have := HN.out; omega
        obtain ⟨_, hcell⟩ := hr.intc hks
        rw [Nat.zero_add] at hcell
        obtain ⟨z, hz⟩ : ∃ z, zs[k]'hks = z := ⟨_, rfl⟩
        rw [hz] at hcell
        by_cases hm : 0 ≤ z ∧ z ≤ 16777215
        · have C := Lib.hid (fun W => imask_yes z W hm.1 hm.2)
          have HS : Hid (bits .or .i64 o z = orF (zs.take (k + 1))) := Lib.hid (by rw [orF_snoc zs k hks, hz, HO.out])
          have HT : Hid (∀ j (h : j < zs.length), j < k + 1 → inMask zs[j]) := Lib.hid (by
            intro j h hj
            by_cases hjk : j < k
            · exact HA.out j h hjk
            · obtain rfl : j = k := by omega
              rw [hz]; exact hm)
          clear hz hm
          go_wp2_with (refine (C.out _).mono ?_; rintro e w' ⟨rfl, rfl⟩)
          go_round
          case rel => exact ⟨k + 1, _, by omega, by go_num, rfl, HS.out, HT.out⟩
          case measure => simp [intOf]; omega
        · have C := Lib.hid (fun W => imask_no z W (by omega))
          have HR := Lib.hid (uni_no (zs := zs) fun h => hm (by have := h.2 k hks; rw [hz] at this; exact this))
          clear hz hm
          go_wp2_with (refine (C.out _).mono ?_; rintro e w' ⟨rfl, rfl⟩)
          go_ret2
          exact retP HR.out (Below.refl _ _)
      · have hkn : k = n := by omega
        subst hkn
        have HR : Hid ((.tuple #[.int .i64 o, .bool true] : Value) = uniR zs) := Lib.hid (by
          have hl := HN.out
          rw [← uni_yes (zs := zs) ⟨by omega, fun i h => HA.out i h (by omega)⟩, HO.out, List.take_of_length_le (by omega)])
        clear hlt
        go_wp2
        go_ret2
        exact retP HR.out (Below.refl _ _)
  · have HR := Lib.hid (uni_no (zs := zs) fun h => by have := h.1; have := HN.out; omega)
    have q : 40 < (n : Int) := by omega
    clear h40
    go_enter Try.func23, Try.ntmps23
    go_wp2
    go_ret2
    exact retP HR.out (Below.refl _ _)
end Go.Proofs.Ythmmhhoaplbfgab
