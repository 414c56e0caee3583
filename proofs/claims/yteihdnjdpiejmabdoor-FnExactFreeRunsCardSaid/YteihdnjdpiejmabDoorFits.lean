/- Contracts: which mask and count are asked for, where blocks fit: specification and implementation. No condition but those typed. -/
import Derived.Test.YteihdnjdpiejmabDoorBits
import Derived.Test.YteihdnjdpiejmabDoorDBase
import Derived.Laws.OwnMore
namespace Go.Proofs.YteihdnjdpiejmabDoor
open Go.ChangeShapes Go.WideShapes Go.ChangeAt Go.RowKit

def askP (m c : Int) : Prop := (0 ≤ m ∧ m ≤ 16777215) ∧ 1 ≤ c ∧ c ≤ 24
theorem ask_yes (m c : Int) (w : World) (h : askP m c) : Calls Tryd.prog 28 #[.int .i64 m, .int .i64 c] w fun e w' => e = .returned (.bool true) ∧ w = w' := by
  obtain ⟨⟨h1, h2⟩, h3, h4⟩ := h
  have C1 := Lib.hid (fun W => mask_yes m W h1 h2)
  have C2 := Lib.hid (fun W => (in_yes c 1 24 W h3 h4).mono (fun e w' (h : e = _ ∧ w' = W) => (⟨h.1, h.2.symm⟩ : e = _ ∧ W = w')))
  clear h1 h2 h3 h4
  go_enter Tryd.func28, Tryd.ntmps28
  go_wp2_with fail
  refine (C1.out _).mono ?_
  rintro e w' ⟨rfl, rfl⟩
  go_wp2_with fail
  refine (C2.out _).mono ?_
  rintro e w' ⟨rfl, rfl⟩
  go_wp2
  go_ret
  exact ⟨rfl, rfl⟩
theorem ask_no (m c : Int) (w : World) (h : ¬ askP m c) : Calls Tryd.prog 28 #[.int .i64 m, .int .i64 c] w fun e w' => e = .returned (.bool false) ∧ w = w' := by
  by_cases h1 : 0 ≤ m ∧ m ≤ 16777215
  · have C1 := Lib.hid (fun W => mask_yes m W h1.1 h1.2)
    have C2 := Lib.hid (fun W => (in_no c 1 24 W (by
      by_cases h3 : 1 ≤ c
      · exact .inr (by have : ¬ c ≤ 24 := fun h4 => h ⟨h1, h3, h4⟩
                       omega)
      · exact .inl (by omega))).mono (fun e w' (h : e = _ ∧ w' = W) => (⟨h.1, h.2.symm⟩ : e = _ ∧ W = w')))
    clear h1 h
    go_enter Tryd.func28, Tryd.ntmps28
    go_wp2_with fail
    refine (C1.out _).mono ?_
    rintro e w' ⟨rfl, rfl⟩
    go_wp2_with fail
    refine (C2.out _).mono ?_
    rintro e w' ⟨rfl, rfl⟩
    go_wp2
    go_ret
    exact ⟨rfl, rfl⟩
  · have C1 := Lib.hid (fun W => mask_no m W (by omega))
    clear h1 h
    go_enter Tryd.func28, Tryd.ntmps28
    go_wp2_with fail
    refine (C1.out _).mono ?_
    rintro e w' ⟨rfl, rfl⟩
    go_wp2
    go_ret
    exact ⟨rfl, rfl⟩

/-- a list of ints in memory of the call's own. -/
def RowP (zs : List Int) (w : World) (e : Ending) (w' : World) : Prop :=
  ∃ (A : Option Addr) (N c : Nat), e = .returned (.slice A N c) ∧ Hid (N = zs.length) ∧ w'.ownsRow w.heap.size 3 1 (.slice A N c) N (zs.map (Value.int .i64)) ∧ Below w.heap.size w w'
theorem formOf {w : World} {base : Nat} {e : TypeId} {size : Nat} {v : Value} {n : Nat} {xs : List Value} (h : w.ownsRow base e size v n xs) : ∃ A c, v = .slice A n c := by
  rcases h.2 with ⟨rfl, rfl⟩ | ⟨g, cap, cur, rfl, _⟩
  · exact ⟨none, 0, rfl⟩
  · exact ⟨_, _, rfl⟩
theorem new_one (w : World) (E : TypeId) (u0 : Value) : ∀ (j : Nat) (u : Value), [u0][j]? = some u → (w.alloc (.cells #[u0] E)).cell? ((⟨w.heap.size, 0, none⟩ : Addr).add j) = some u := by
  intro j u hu
  match j, hu with
  | 0, hu => simp at hu; subst hu; exact cell_of_row _ w.heap.size 0 #[u0] E (0, 0) (heap_alloc_new w _)
theorem new_int (z : Int) : ∀ u ∈ [Value.int .i64 z], u.oneCell' = true := by
  intro u hu; simp at hu; subst hu; rfl
theorem fits_no (m c : Int) (w : World) (h : ¬ askP m c) : Calls Tryd.prog 30 #[.int .i64 m, .int .i64 c] w fun e w' => e = .returned (.tuple #[.int .i64 0, .bool false]) ∧ w = w' := by
  by_cases h1 : 0 ≤ m ∧ m ≤ 16777215
  · have C1 := Lib.hid (fun W => imask_yes m W h1.1 h1.2)
    by_cases h3 : c < 1
    · clear h1 h
      go_enter Tryd.func30, Tryd.ntmps30
      go_wp2_with fail
      refine (C1.out _).mono ?_
      rintro e w' ⟨rfl, rfl⟩
      go_wp2
      go_ret2
      exact ⟨rfl, rfl⟩
    · have h4 : 24 < c := by have : ¬ c ≤ 24 := fun h4 => h ⟨h1, by omega, h4⟩
                             omega
      have h5 : 1 ≤ c := by omega
      clear h1 h h3
      go_enter Tryd.func30, Tryd.ntmps30
      go_wp2_with fail
      refine (C1.out _).mono ?_
      rintro e w' ⟨rfl, rfl⟩
      go_wp2
      go_ret2
      exact ⟨rfl, rfl⟩
  · have C1 := Lib.hid (fun W => imask_no m W (by omega))
    clear h1 h
    go_enter Tryd.func30, Tryd.ntmps30
    go_wp2_with fail
    refine (C1.out _).mono ?_
    rintro e w' ⟨rfl, rfl⟩
    go_wp2
    go_ret2
    exact ⟨rfl, rfl⟩

set_option maxHeartbeats 1000000 in
theorem fits_yes (m c : Nat) (w : World) (h : askP m c) : Calls Tryd.prog 30 #[.int .i64 (m : Int), .int .i64 (c : Int)] w fun e w' => e = .returned (.tuple #[.int .i64 (begN m (c - 1) : Int), .bool true]) ∧ w = w' := by
  obtain ⟨⟨h1, h2⟩, h3, h4⟩ := h
  have C1 := Lib.hid (fun W => imask_yes m W h1 h2)
  have HF := Lib.hid (bits_free m)
  obtain ⟨f, hf⟩ : ∃ f, freeN m = f := ⟨_, rfl⟩
  have hfl : f < 16777216 := by rw [← hf]; exact freeN_lt m
  rw [hf] at HF
  obtain ⟨r, hr⟩ : ∃ r, begN m (c - 1) = r := ⟨_, rfl⟩
  have HR := Lib.hid hr
  rw [hr]
  clear hr
  go_enter Tryd.func30, Tryd.ntmps30
  go_wp2_with fail
  refine (C1.out _).mono ?_
  rintro e w' ⟨rfl, rfl⟩
  go_wp2
  rw [HF.out]
  go_loop [7, 8] (fun b i => ∃ k : Nat, k + 1 ≤ c ∧ i = .int .i64 ((k + 1 : Nat) : Int) ∧ b = .int .i64 (begN m k : Int)) (fun _ i => c - (intOf i).toNat)
  case atStart => exact ⟨0, by omega, rfl, by rw [← hf]; rfl⟩
  case round =>
    obtain ⟨k, hk, rfl, rfl⟩ := hrel
    by_cases hlt : k + 1 < c
    · have hlt' : ((k + 1 : Nat) : Int) < (c : Int) := by omega
      have hk24 : k + 1 ≤ 24 := by omega
      have HS := Lib.hid (beg_step m k f hf)
      go_wp2
      rw [HS.out]
      exact ⟨⟨k + 1, by omega, by go_num, rfl⟩, by simp [intOf]; omega⟩
    · have hlt' : ¬ ((k + 1 : Nat) : Int) < (c : Int) := by omega
      have HE : Hid (begN m k = r) := Lib.hid (by rw [← HR.out, show c - 1 = k from by omega])
      obtain ⟨b, hb⟩ : ∃ b, begN m k = b := ⟨_, rfl⟩
      rw [hb] at HE ⊢
      obtain rfl : b = r := HE.out
      go_wp2
      go_ret2
      exact ⟨rfl, rfl⟩

end Go.Proofs.YteihdnjdpiejmabDoor
