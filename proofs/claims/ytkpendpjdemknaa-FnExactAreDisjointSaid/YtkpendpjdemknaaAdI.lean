/- The trace of a walk, and what compares two: contracts of the implementation. No condition but those typed. -/
import Derived.Test.YtkpendpjdemknaaAdP
import Derived.Test.YtkpendpjdemknaaWk8
import Derived.Test.YtkpendpjdemknaaRf
import Derived.Deep.RegionHeld3
namespace Go.Proofs.Ytkpendpjdemknaa
open Go.ChangeShapes Go.WideShapes Go.ChangeAt Go.RowKit

theorem rd_mid {w : World} {B : Nat} {g n c : Nat} {zs : List Int} {T : TypeId} (h : w.ownsRow B T 1 (.slice (some ⟨g, 0, none⟩) n c) n (zs.map (Value.int .i64))) (hn : zs.length = n) (m : Nat) : Rd w w.heap.size (some ⟨g, 1, none⟩) (((zs.drop 1).take m).map (Value.int .i64)) := by
  intro k u hu
  rw [List.getElem?_map, List.getElem?_take] at hu
  split at hu
  · rw [List.getElem?_drop] at hu
    cases hz : zs[1 + k]? with
    | none => rw [hz] at hu; simp at hu
    | some z =>
      rw [hz] at hu
      have hl : 1 + k < zs.length := (List.getElem?_eq_some_iff.1 hz).1
      refine ⟨_, rfl, (h.lt g rfl).2, ?_⟩
      have e : (⟨g, 1, none⟩ : Addr).add k = ⟨g, 1 + k, none⟩ := by unfold Addr.add; by_cases h0 : k = 0 <;> simp [h0]
      rw [e]
      have h9 := h.cellAt (1 + k) (by omega)
      rw [List.getElem?_map, hz] at h9
      exact h9.trans hu
  · simp at hu
theorem one_row5 (w : World) (a b c d e : Value) {base : Nat} (hb : base ≤ w.heap.size) : (w.alloc (.cells #[a, b, c, d, e] 150)).ownsRow base 150 5 (.slice (some ⟨w.heap.size, 0, none⟩) 1 1) 1 [a, b, c, d, e] := by
  have := World.ownsRow_lit (base := base) (e := 150) (size := 5) w #[a, b, c, d, e] 1 hb (by unfold maxLen; omega) rfl
  simpa using this
theorem tr_facts {u : World} {B b : Nat} {v0 v1 v2 v3 v4 : Value} (h : u.ownsRow B 150 5 (.slice (some ⟨b, 0, none⟩) 1 1) 1 [v0, v1, v2, v3, v4]) :
    (u.cell? ⟨b, 0, none⟩ = some v0 ∧ u.cell? ⟨b, 1, none⟩ = some v1 ∧ u.cell? ⟨b, 2, none⟩ = some v2 ∧ u.cell? ⟨b, 3, none⟩ = some v3 ∧ u.cell? ⟨b, 4, none⟩ = some v4) ∧ (u.frozen? ⟨b, 0, none⟩ = false ∧ u.frozen? ⟨b, 1, none⟩ = false ∧ u.frozen? ⟨b, 2, none⟩ = false ∧ u.frozen? ⟨b, 3, none⟩ = false ∧ u.frozen? ⟨b, 4, none⟩ = false) ∧ b < u.heap.size := by
  have c0 := h.cellAt 0 (by decide); have c1 := h.cellAt 1 (by decide); have c2 := h.cellAt 2 (by decide); have c3 := h.cellAt 3 (by decide); have c4 := h.cellAt 4 (by decide)
  simp only [List.getElem?_cons_zero, List.getElem?_cons_succ] at c0 c1 c2 c3 c4
  exact ⟨⟨c0, c1, c2, c3, c4⟩, ⟨h.frozenAt 0, h.frozenAt 1, h.frozenAt 2, h.frozenAt 3, h.frozenAt 4⟩, (h.lt b rfl).2⟩
def TrV (a b : Int) (f g i : Nat) : List Value := [.int .i64 a, .int .i64 b, .int .i64 (f : Int), .int .i64 (g : Int), .int .i64 (i : Int)]
def trA (a b : Int) (f g i : Nat) : Value := .agg #[.int .i64 a, .int .i64 b, .int .i64 (f : Int), .int .i64 (g : Int), .int .i64 (i : Int)]
theorem tr_and {f g : Nat} (hf : f < 2 ^ 20) (hg : g < 2 ^ 20) : bits .and .i64 (f : Int) (g : Int) = ((f &&& g : Nat) : Int) := and_i64t f g (by omega) (by omega)
theorem trD {a b : Nat} {x : Bool} (h : (a &&& b = 0) ↔ x = false) : ((((a &&& b : Nat) : Int)) == 0) = !x := by
  cases x with
  | false => have := h.2 rfl; rw [this]; rfl
  | true =>
    have : ¬ (a &&& b = 0) := fun e => by have := h.1 e; simp at this
    simp; omega

set_option maxHeartbeats 400000 in
theorem dis1_ (a b : Int) (f g i : Nat) (a' b' : Int) (f' g' i' : Nat) (w : World) (hf : f < 2 ^ 20) (hf' : f' < 2 ^ 20) :
    Calls Try.prog 144 #[trA a b f g i, trA a' b' f' g' i'] w fun e w' => e = .returned (.bool (((f &&& f' : Nat) : Int) == 0)) ∧ Below w.heap.size w w' := by
  have HA := tr_and hf hf'
  obtain ⟨m, hm⟩ : ∃ m : Int, ((f &&& f' : Nat) : Int) = m := ⟨_, rfl⟩
  rw [hm] at HA ⊢
  clear hm
  unfold trA
  go_enter Try.func144, Try.ntmps144
  go_wp2
  go_ret
  exact ⟨rfl, ((Below.refl _ _).alloc (Nat.le_refl _) _).alloc (by simp) _⟩
set_option maxHeartbeats 400000 in
theorem dis2_ (a b : Int) (f g i : Nat) (a' b' : Int) (f' g' i' : Nat) (w : World) (hf : g < 2 ^ 20) (hf' : g' < 2 ^ 20) :
    Calls Try.prog 145 #[trA a b f g i, trA a' b' f' g' i'] w fun e w' => e = .returned (.bool (((g &&& g' : Nat) : Int) == 0)) ∧ Below w.heap.size w w' := by
  have HA := tr_and hf hf'
  obtain ⟨m, hm⟩ : ∃ m : Int, ((g &&& g' : Nat) : Int) = m := ⟨_, rfl⟩
  rw [hm] at HA ⊢
  clear hm
  unfold trA
  go_enter Try.func145, Try.ntmps145
  go_wp2
  go_ret
  exact ⟨rfl, ((Below.refl _ _).alloc (Nat.le_refl _) _).alloc (by simp) _⟩
set_option maxHeartbeats 400000 in
theorem dis3_ (a b : Int) (f g i : Nat) (a' b' : Int) (f' g' i' : Nat) (w : World) (hf : f < 2 ^ 20) (hf' : f' < 2 ^ 20) (hi : i < 2 ^ 20) (hi' : i' < 2 ^ 20) :
    Calls Try.prog 146 #[trA a b f g i, trA a' b' f' g' i'] w fun e w' => e = .returned (.bool ((((f &&& f' : Nat) : Int) == 0) && (((i &&& i' : Nat) : Int) == 0))) ∧ Below w.heap.size w w' := by
  have HA := tr_and hf hf'; have HI := tr_and hi hi'
  obtain ⟨m, hm⟩ : ∃ m : Int, ((f &&& f' : Nat) : Int) = m := ⟨_, rfl⟩
  obtain ⟨k, hk⟩ : ∃ m : Int, ((i &&& i' : Nat) : Int) = m := ⟨_, rfl⟩
  rw [hm] at HA ⊢; rw [hk] at HI ⊢
  clear hm hk
  unfold trA
  by_cases h0 : m = 0
  · subst h0
    go_enter Try.func146, Try.ntmps146
    go_wp2
    go_ret
    exact ⟨rfl, ((Below.refl _ _).alloc (Nat.le_refl _) _).alloc (by simp) _⟩
  · have hm0 : (m == 0) = false := beq_eq_false_iff_ne.2 h0
    rw [hm0, Bool.false_and]
    go_enter Try.func146, Try.ntmps146
    go_wp2
    go_ret
    exact ⟨rfl, ((Below.refl _ _).alloc (Nat.le_refl _) _).alloc (by simp) _⟩
end Go.Proofs.Ytkpendpjdemknaa
