/- Contracts of the law's helpers over a slice of blocks (marks, compare, nil let in) and of slices.Clone over one. No condition but those typed. -/
import Derived.Test.YteihdnjdpiejmabDoorBkS
import Derived.Test.YteihdnjdpiejmabDoorUse3
namespace Go.Proofs.YteihdnjdpiejmabDoor
open Go.ChangeShapes Go.WideShapes Go.ChangeAt Go.RowKit

def blkQ (l : List (Nat × Nat)) : List Q2 := l.map fun q => ⟨(q.1 : Int), (q.2 : Int)⟩
theorem blkQ_cells (l : List (Nat × Nat)) : (blkQ l).flatMap Q2.cells = bcells l := by
  unfold blkQ bcells; rw [List.flatMap_map]; rfl
theorem blkQ_len (l : List (Nat × Nat)) : (blkQ l).length = l.length := by unfold blkQ; simp
theorem bcells_ints (l : List (Nat × Nat)) : ∃ zs : List Int, bcells l = zs.map (Value.int .i64) ∧ zs.length = 2 * l.length := by
  refine ⟨l.flatMap fun q => [(q.1 : Int), (q.2 : Int)], ?_, ?_⟩
  · unfold bcells
    induction l with
    | nil => rfl
    | cons q r ih => rw [List.flatMap_cons, List.flatMap_cons, List.map_append, ih]; rfl
  · induction l with
    | nil => rfl
    | cons q r ih => rw [List.flatMap_cons, List.length_append, ih, List.length_cons]; simp; omega

set_option maxHeartbeats 1000000 in
theorem markBk (g n c : Nat) (zs : List Int) (w : World) (ho : w.ownsRow 0 29 2 (.slice (some ⟨g, 0, none⟩) n c) n (zs.map (Value.int .i64))) (hn : n ≤ 1048576) :
    Calls Tryd.prog 11 #[.slice (some ⟨g, 0, none⟩) n c, .int .i64 1] w fun e w' => e = .returned (.int .i64 (1 + 2 * (n : Int))) ∧ Off (· = g) w w' ∧ w'.ownsRow 0 29 2 (.slice (some ⟨g, 0, none⟩) n c) n ((marks 1 (2 * n)).map (Value.int .i64)) := by
  have HO := Lib.hid ho; clear ho
  have hzl : zs.length = n * 2 := by have := HO.out.1; simpa using this
  have HZL := Lib.hid hzl; clear hzl
  go_enter Tryd.func11, Tryd.ntmps11
  go_wp2
  go_loopw [1, 5] (fun q i wr => ∃ j : Nat, j ≤ n ∧ i = .int .i64 j ∧ q = .int .i64 (1 + 2 * (j : Int)) ∧ Off (· = g) w wr ∧ wr.ownsRow 0 29 2 (.slice (some ⟨g, 0, none⟩) n c) n ((marks 1 (2 * j) ++ zs.drop (2 * j)).map (Value.int .i64))) (fun _ i _ => n - (intOf i).toNat)
  case atStart => exact ⟨0, Nat.zero_le _, rfl, by simp, Off.refl _ _, by have h := HO.out; simpa [marks] using h⟩
  case round =>
    obtain ⟨j, hj, rfl, rfl, hoff, hown⟩ := hrel
    have HF := Lib.hid hoff; clear hoff
    by_cases hlt : j < n
    · have hjl : 2 * j < zs.length := by have := HZL.out; omega
      have hjl1 : 2 * j + 1 < zs.length := by have := HZL.out; omega
      have hold := hown.cellAt (2 * j) (by omega)
      have hold1 := hown.cellAt (2 * j + 1) (by omega)
      have hml := marks_len 1 (2 * j)
      rw [List.getElem?_map, List.getElem?_append_right (by omega), hml, Nat.sub_self, List.getElem?_drop, Nat.add_zero, List.getElem?_eq_getElem hjl] at hold
      rw [List.getElem?_map, List.getElem?_append_right (by omega), hml, show 2 * j + 1 - 2 * j = 1 by omega, List.getElem?_drop, List.getElem?_eq_getElem hjl1] at hold1
      have hfz := hown.frozenAt (2 * j)
      have hfz1 := hown.frozenAt (2 * j + 1)
      have hst := ((hown.stored (2 * j) (.int .i64 (1 + 2 * (j : Int)))).1.stored (2 * j + 1) (.int .i64 (1 + 2 * (j : Int) + 1))).1
      have e : (((marks 1 (2 * j) ++ zs.drop (2 * j)).map (Value.int .i64)).set (2 * j) (.int .i64 (1 + 2 * (j : Int)))).set (2 * j + 1) (.int .i64 (1 + 2 * (j : Int) + 1)) = (marks 1 (2 * (j + 1)) ++ zs.drop (2 * (j + 1))).map (Value.int .i64) := by
        rw [List.drop_eq_getElem_cons hjl, List.drop_eq_getElem_cons hjl1, List.map_append, List.map_cons, List.map_cons, List.set_append_right _ _ (by simp [hml]), List.length_map, hml, Nat.sub_self, List.set_cons_zero, List.set_append_right _ _ (by simp [hml]), List.length_map, hml, show 2 * j + 1 - 2 * j = 1 by omega, List.set_cons_succ, List.set_cons_zero]
        have em : marks 1 (2 * (j + 1)) = marks 1 (2 * j) ++ [((1 + 2 * j : Nat) : Int), ((1 + (2 * j + 1) : Nat) : Int)] := by
          unfold marks; rw [show 2 * (j + 1) = 2 * j + 1 + 1 by omega, List.range_succ, List.range_succ, List.map_append, List.map_append, List.append_assoc]; rfl
        rw [em, show 2 * (j + 1) = 2 * j + 1 + 1 by omega]
        simp
        omega
      rw [e] at hst
      have HST := Lib.hid hst
      obtain ⟨old, ho⟩ : ∃ v, zs[2 * j]'hjl = v := ⟨_, rfl⟩
      obtain ⟨old1, ho1⟩ : ∃ v, zs[2 * j + 1]'hjl1 = v := ⟨_, rfl⟩
      rw [ho] at hold; rw [ho1] at hold1
      simp only [Option.map_some] at hold hold1
      have hj2 : 2 * j = j * 2 := by omega
      rw [hj2] at hold hold1 hfz hfz1 HST
      clear hown hst e hml ho ho1
      go_wp2
      go_roundw
      case rel => exact ⟨j + 1, by omega, by go_num, by go_num, (HF.out.set_ (p := ⟨g, _, none⟩) rfl _).set_ (p := ⟨g, _, none⟩) rfl _, by have h := HST.out; exact h⟩
      case measure => simp [intOf]; omega
    · have hjn : j = n := by omega
      subst hjn
      have e : marks 1 (2 * j) ++ zs.drop (2 * j) = marks 1 (2 * j) := by rw [List.drop_of_length_le (by have := HZL.out; omega), List.append_nil]
      rw [e] at hown
      have HW := Lib.hid hown
      clear hlt hown e
      go_wp2
      go_ret
      exact ⟨rfl, HF.out, HW.out⟩
theorem markBk_nil (w : World) :
    Calls Tryd.prog 11 #[.slice none 0 0, .int .i64 1] w fun e w' => e = .returned (.int .i64 1) ∧ w = w' := by
  go_enter Tryd.func11, Tryd.ntmps11
  go_wp2
  go_loop [1, 5] (fun q i => q = .int .i64 1 ∧ i = .int .i64 0) (fun _ _ => 0)
  case atStart => exact ⟨rfl, rfl⟩
  case round =>
    obtain ⟨rfl, rfl⟩ := hrel
    go_wp2
    go_ret
    exact ⟨rfl, rfl⟩
theorem markBkA (A : Option Addr) (n c : Nat) (zs : List Int) (w : World) {B : Nat} (ho : w.ownsRow B 29 2 (.slice A n c) n (zs.map (Value.int .i64))) (hn : n ≤ 1048576) :
    Calls Tryd.prog 11 #[.slice A n c, .int .i64 1] w fun e w' => e = .returned (.int .i64 (1 + 2 * (n : Int))) ∧ Off (fun b => B ≤ b) w w' ∧ w'.ownsRow B 29 2 (.slice A n c) n ((marks 1 (2 * n)).map (Value.int .i64)) := by
  rcases ho.2 with ⟨hv, h0⟩ | ⟨g, cap, cur, hv, hg, _⟩
  · injection hv with hA hN hC
    subst hA h0 hC
    refine (markBk_nil w).mono ?_
    rintro e w' ⟨rfl, rfl⟩
    exact ⟨rfl, Off.refl _ _, World.ownsRow_nil _ _ _ _⟩
  · injection hv with hA _ hC
    subst hA hC
    refine (markBk g n c zs w (own_base ho (Nat.zero_le _)) hn).mono ?_
    rintro e w' ⟨rfl, hoff, hown⟩
    refine ⟨rfl, hoff.wider (fun k h => by have h' : k = g := h; omega), ?_⟩
    refine ⟨hown.1, ?_⟩
    rcases hown.2 with hn' | ⟨g', cap', cur', e', _, rest⟩
    · exact .inl hn'
    · have e2 := e'
      injection e2 with e1; injection e1 with e1; injection e1 with e1
      exact .inr ⟨g', cap', cur', e', by omega, rest⟩

set_option maxHeartbeats 1000000 in
theorem heldBk (A : Option Addr) (n c : Nat) (w : World) (hr : Rd w w.heap.size A ((marks 1 (2 * n)).map (Value.int .i64))) (hn : n ≤ 1048576) :
    Calls Tryd.prog 12 #[.slice A n c, .int .i64 1] w fun e w' => e = .returned (.int .i64 (1 + 2 * (n : Int))) ∧ w = w' := by
  go_enter Tryd.func12, Tryd.ntmps12
  go_wp2
  go_loop [1, 5] (fun q i => ∃ j : Nat, j ≤ n ∧ i = .int .i64 j ∧ q = .int .i64 (1 + 2 * (j : Int))) (fun _ i => n - (intOf i).toNat)
  case atStart => exact ⟨0, Nat.zero_le _, rfl, by simp⟩
  case round =>
    obtain ⟨j, hj, rfl, rfl⟩ := hrel
    by_cases hlt : j < n
    · obtain ⟨ad, rfl, _, hcell⟩ := hr (j * 2 + 0) (.int .i64 (1 + 2 * (j : Int))) (by rw [List.getElem?_map, marks_get 1 (2 * n) (j * 2 + 0) (by omega)]; simp; omega)
      obtain ⟨ad1, e1, _, hcell1⟩ := hr (j * 2 + 1) (.int .i64 (1 + 2 * (j : Int) + 1)) (by rw [List.getElem?_map, marks_get 1 (2 * n) (j * 2 + 1) (by omega)]; simp; omega)
      injection e1 with e1; subst e1
      rw [add_next] at hcell1
      rw [Nat.add_zero] at hcell
      go_wp2
      go_round
      case rel => exact ⟨j + 1, by omega, by go_num, by go_num⟩
      case measure => simp [intOf]; omega
    · have hjn : j = n := by omega
      subst hjn
      clear hlt
      go_wp2
      go_ret
      exact ⟨rfl, rfl⟩

theorem eqBk_nil (A A' : Option Addr) (c c' : Nat) (w : World) :
    Calls Tryd.prog 10 #[.slice A 0 c, .slice A' 0 c'] w fun e w' => e = .returned (.bool true) ∧ Below w.heap.size w w' := by
  go_enter Tryd.func10, Tryd.ntmps10
  go_wp2
  go_loop [5] (fun i => i = .int .i64 0) (fun _ => 0)
  case atStart => rfl
  case round =>
    obtain rfl := hrel
    go_wp2
    go_ret
    exact ⟨rfl, Below.refl _ _⟩
theorem eqBkA {B B' n c c' : Nat} {A A' : Option Addr} (l : List (Nat × Nat)) (w : World) (hn : l.length = n) (hr : w.ownsRow B 29 2 (.slice A n c) n (bcells l)) (hr' : w.ownsRow B' 29 2 (.slice A' n c') n (bcells l)) (hsz : n ≤ 1048576) :
    Calls Tryd.prog 10 #[.slice A n c, .slice A' n c'] w fun e w' => e = .returned (.bool true) ∧ Below w.heap.size w w' := by
  by_cases h0 : n = 0
  · subst h0; exact eqBk_nil A A' c c' w
  · rcases hr.2 with ⟨hv, h⟩ | ⟨g, cap, cur, hv, _⟩
    · omega
    rcases hr'.2 with ⟨hv', h⟩ | ⟨g', cap', cur', hv', _⟩
    · omega
    injection hv with hA _ hC
    injection hv' with hA' _ hC'
    have h1 := Rd.ofOwnK hr
    have h2 := Rd.ofOwnK hr'
    subst hA hA' hC hC'
    rw [← blkQ_cells] at h1 h2
    exact eqBkS g g' n _ _ (blkQ l) w (by rw [blkQ_len, hn]) h1 h2 hsz
end Go.Proofs.YteihdnjdpiejmabDoor
