/- The claims of a service: contracts of the implementation. No condition but those typed. -/
import Derived.Test.YtlgkjidginibdaaDoorSvK
import Derived.Test.YtlgkjidginibdaaDoorCaH
import Derived.Deep.RegionHeld3
namespace Go.Proofs.YtlgkjidginibdaaDoor
open Go.ChangeShapes Go.WideShapes Go.ChangeAt Go.RowKit

theorem bSeB {B : Nat} {w X : World} {b j : Nat} {v : Value} (hb : B ≤ b) (h : Below B w X) : Below B w (X.setCell ⟨b, j, none⟩ v) := h.setCell (p := ⟨b, j, none⟩) hb _

set_option maxRecDepth 100000 in
set_option maxHeartbeats 1000000 in
theorem wclm_ (i k s1 x1 y1 s2 x2 y2 : Int) (A : Option Addr) (n c : Nat) (A2 : Option Addr) (m c2 : Nat) {zs : List Int} (w : World) (hn : zs.length = n) (hs : n ≤ 1048576) (hr : Rd w w.heap.size A (zs.map (Value.int .i64))) (hz : ∀ j, j < n → 0 ≤ nth zs j ∧ nth zs j < 20) :
    Calls Tryd.prog 33 #[.agg #[.int .i64 i, .int .i64 k, .int .i64 s1, .slice A n c, .int .i64 x1, .int .i64 y1, .int .i64 s2, .slice A2 m c2, .int .i64 x2, .int .i64 y2]] w fun e w' => e = .returned (.agg #[.int .i64 x1, .int .i64 y1, .int .i64 (maskN zs n : Nat)]) ∧ Below w.heap.size w w' := by
  obtain ⟨W0, hW0⟩ : ∃ W0, (w.alloc (Obj.cells #[.int .i64 i, .int .i64 k, .int .i64 s1, .slice A n c, .int .i64 x1, .int .i64 y1, .int .i64 s2, .slice A2 m c2, .int .i64 x2, .int .i64 y2] 67)).alloc (Obj.cells #[.int .i64 0, .int .i64 0, .int .i64 0] 70) = W0 := ⟨_, rfl⟩
  have hb0 : Below w.heap.size w W0 := by rw [← hW0]; exact ((Below.refl _ _).alloc (Nat.le_refl _) _).alloc (by simp) _
  have k0 : W0.cell? ⟨w.heap.size, 3, none⟩ = some (.slice A n c) := by rw [← hW0]; simp [go_sem]
  have k1 : W0.cell? ⟨w.heap.size, 4, none⟩ = some (.int .i64 x1) := by rw [← hW0]; simp [go_sem]
  have k2 : W0.cell? ⟨w.heap.size, 5, none⟩ = some (.int .i64 y1) := by rw [← hW0]; simp [go_sem]
  have z0 : W0.cell? ⟨w.heap.size + 1, 0, none⟩ = some (.int .i64 0) := by rw [← hW0]; simp [go_sem]
  have z1 : W0.cell? ⟨w.heap.size + 1, 1, none⟩ = some (.int .i64 0) := by rw [← hW0]; simp [go_sem]
  have z2 : W0.cell? ⟨w.heap.size + 1, 2, none⟩ = some (.int .i64 0) := by rw [← hW0]; simp [go_sem]
  have f0 : W0.frozen? ⟨w.heap.size + 1, 0, none⟩ = false := by rw [← hW0]; simp [go_sem]
  have f1 : W0.frozen? ⟨w.heap.size + 1, 1, none⟩ = false := by rw [← hW0]; simp [go_sem]
  have f2 : W0.frozen? ⟨w.heap.size + 1, 2, none⟩ = false := by rw [← hW0]; simp [go_sem]
  have hz0 : w.heap.size + 1 < W0.heap.size := by rw [← hW0]; simp
  have HKS : Hid (∀ U, Below (w.heap.size + 1) W0 U → (U.cell? ⟨w.heap.size, 3, none⟩ = some (.slice A n c) ∧ U.cell? ⟨w.heap.size, 4, none⟩ = some (.int .i64 x1) ∧ U.cell? ⟨w.heap.size, 5, none⟩ = some (.int .i64 y1) ∧ w.heap.size < U.heap.size)) := Lib.hid fun U hU => ⟨(hU.cell (p := ⟨w.heap.size, 3, none⟩) (by show w.heap.size < _; omega)).trans k0, (hU.cell (p := ⟨w.heap.size, 4, none⟩) (by show w.heap.size < _; omega)).trans k1, (hU.cell (p := ⟨w.heap.size, 5, none⟩) (by show w.heap.size < _; omega)).trans k2, by have := hU.size; omega⟩
  have HB0 := Lib.hid hb0
  have CM : Hid (∀ U, Below W0.heap.size W0 U → Calls Tryd.prog 65 #[.slice A n c] U fun e w' => e = .returned (.int .i64 (maskN zs n : Nat)) ∧ U = w') := Lib.hid fun U hU => maskOf_ A n c zs U hn hs (hr.moved (hb0.trans (hU.mono hb0.size))) hz
  obtain ⟨M, hM⟩ : ∃ M, maskN zs n = M := ⟨_, rfl⟩
  rw [hM] at CM ⊢
  clear hM hb0 hn hr hz
  go_enter Tryd.func33, Tryd.ntmps33
  go_upto_region 1 with fail
  try rw [hW0]
  clear hW0
  go_region_held3 (fun U => U.cell? ⟨w.heap.size, 3, none⟩ = some (.slice A n c) ∧ U.cell? ⟨w.heap.size, 4, none⟩ = some (.int .i64 x1) ∧ U.cell? ⟨w.heap.size, 5, none⟩ = some (.int .i64 y1) ∧ w.heap.size < U.heap.size)
    ((refine HKS.out _ ?_; (repeat (first | with_reducible exact Below.refl _ _ | with_reducible refine Below.drew ?_ | with_reducible refine bSeB (Nat.le_refl _) ?_))))
    (first
    | (go_at_call 65; (with_reducible refine (CM.out _ ?_).mono ?_); (focus (first | with_reducible exact Below.refl _ _ | with_reducible exact (Below.refl _ _).drew)); rintro e u9 ⟨rfl, rfl⟩))
  all_goals
    go_wp2
    refine bodyPost_ret (v := .agg #[.int .i64 x1, .int .i64 y1, .int .i64 (M : Int)]) ?_ rfl ?_
    · simp [results, Tryd.results33, go_sem, z0, z1, z2, f0, f1, f2, hz0]
    · exact ⟨rfl, by repeat (first | with_reducible exact HB0.out | with_reducible exact HB0.out.drew | with_reducible refine bSeB (Nat.le_succ _) ?_ | with_reducible refine Below.drew ?_)⟩

set_option maxRecDepth 100000 in
set_option maxHeartbeats 1000000 in
theorem sclm_ (i k s1 x1 y1 s2 x2 y2 : Int) (A : Option Addr) (n c : Nat) (A2 : Option Addr) (m c2 : Nat) {us : List Int} (w : World) (hn : us.length = m) (hs : m ≤ 1048576) (hr : Rd w w.heap.size A2 (us.map (Value.int .i64))) (hz : ∀ j, j < m → 0 ≤ nth us j ∧ nth us j < 20) :
    Calls Tryd.prog 35 #[.agg #[.int .i64 i, .int .i64 k, .int .i64 s1, .slice A n c, .int .i64 x1, .int .i64 y1, .int .i64 s2, .slice A2 m c2, .int .i64 x2, .int .i64 y2]] w fun e w' => e = .returned (.agg #[.int .i64 x2, .int .i64 y2, .int .i64 (maskN us m : Nat)]) ∧ Below w.heap.size w w' := by
  obtain ⟨W0, hW0⟩ : ∃ W0, (w.alloc (Obj.cells #[.int .i64 i, .int .i64 k, .int .i64 s1, .slice A n c, .int .i64 x1, .int .i64 y1, .int .i64 s2, .slice A2 m c2, .int .i64 x2, .int .i64 y2] 67)).alloc (Obj.cells #[.int .i64 0, .int .i64 0, .int .i64 0] 70) = W0 := ⟨_, rfl⟩
  have hb0 : Below w.heap.size w W0 := by rw [← hW0]; exact ((Below.refl _ _).alloc (Nat.le_refl _) _).alloc (by simp) _
  have k0 : W0.cell? ⟨w.heap.size, 7, none⟩ = some (.slice A2 m c2) := by rw [← hW0]; simp [go_sem]
  have k1 : W0.cell? ⟨w.heap.size, 8, none⟩ = some (.int .i64 x2) := by rw [← hW0]; simp [go_sem]
  have k2 : W0.cell? ⟨w.heap.size, 9, none⟩ = some (.int .i64 y2) := by rw [← hW0]; simp [go_sem]
  have z0 : W0.cell? ⟨w.heap.size + 1, 0, none⟩ = some (.int .i64 0) := by rw [← hW0]; simp [go_sem]
  have z1 : W0.cell? ⟨w.heap.size + 1, 1, none⟩ = some (.int .i64 0) := by rw [← hW0]; simp [go_sem]
  have z2 : W0.cell? ⟨w.heap.size + 1, 2, none⟩ = some (.int .i64 0) := by rw [← hW0]; simp [go_sem]
  have f0 : W0.frozen? ⟨w.heap.size + 1, 0, none⟩ = false := by rw [← hW0]; simp [go_sem]
  have f1 : W0.frozen? ⟨w.heap.size + 1, 1, none⟩ = false := by rw [← hW0]; simp [go_sem]
  have f2 : W0.frozen? ⟨w.heap.size + 1, 2, none⟩ = false := by rw [← hW0]; simp [go_sem]
  have hz0 : w.heap.size + 1 < W0.heap.size := by rw [← hW0]; simp
  have HKS : Hid (∀ U, Below (w.heap.size + 1) W0 U → (U.cell? ⟨w.heap.size, 7, none⟩ = some (.slice A2 m c2) ∧ U.cell? ⟨w.heap.size, 8, none⟩ = some (.int .i64 x2) ∧ U.cell? ⟨w.heap.size, 9, none⟩ = some (.int .i64 y2) ∧ w.heap.size < U.heap.size)) := Lib.hid fun U hU => ⟨(hU.cell (p := ⟨w.heap.size, 7, none⟩) (by show w.heap.size < _; omega)).trans k0, (hU.cell (p := ⟨w.heap.size, 8, none⟩) (by show w.heap.size < _; omega)).trans k1, (hU.cell (p := ⟨w.heap.size, 9, none⟩) (by show w.heap.size < _; omega)).trans k2, by have := hU.size; omega⟩
  have HB0 := Lib.hid hb0
  have CM : Hid (∀ U, Below W0.heap.size W0 U → Calls Tryd.prog 65 #[.slice A2 m c2] U fun e w' => e = .returned (.int .i64 (maskN us m : Nat)) ∧ U = w') := Lib.hid fun U hU => maskOf_ A2 m c2 us U hn hs (hr.moved (hb0.trans (hU.mono hb0.size))) hz
  obtain ⟨M, hM⟩ : ∃ M, maskN us m = M := ⟨_, rfl⟩
  rw [hM] at CM ⊢
  clear hM hb0 hn hr hz
  go_enter Tryd.func35, Tryd.ntmps35
  go_upto_region 1 with fail
  try rw [hW0]
  clear hW0
  go_region_held3 (fun U => U.cell? ⟨w.heap.size, 7, none⟩ = some (.slice A2 m c2) ∧ U.cell? ⟨w.heap.size, 8, none⟩ = some (.int .i64 x2) ∧ U.cell? ⟨w.heap.size, 9, none⟩ = some (.int .i64 y2) ∧ w.heap.size < U.heap.size)
    ((refine HKS.out _ ?_; (repeat (first | with_reducible exact Below.refl _ _ | with_reducible refine Below.drew ?_ | with_reducible refine bSeB (Nat.le_refl _) ?_))))
    (first
    | (go_at_call 65; (with_reducible refine (CM.out _ ?_).mono ?_); (focus (first | with_reducible exact Below.refl _ _ | with_reducible exact (Below.refl _ _).drew)); rintro e u9 ⟨rfl, rfl⟩))
  all_goals
    go_wp2
    refine bodyPost_ret (v := .agg #[.int .i64 x2, .int .i64 y2, .int .i64 (M : Int)]) ?_ rfl ?_
    · simp [results, Tryd.results35, go_sem, z0, z1, z2, f0, f1, f2, hz0]
    · exact ⟨rfl, by repeat (first | with_reducible exact HB0.out | with_reducible exact HB0.out.drew | with_reducible refine bSeB (Nat.le_succ _) ?_ | with_reducible refine Below.drew ?_)⟩

set_option maxHeartbeats 1000000 in
theorem meets_ {p q : Q2} {M N : Nat} (hM : M < 2 ^ 20) (hN : N < 2 ^ 20) (hp : blkP p.a p.b) (hq : blkP q.a q.b) (w : World) :
    Calls Tryd.prog 105 #[.agg #[.int .i64 p.a, .int .i64 p.b, .int .i64 (M : Int)], .agg #[.int .i64 q.a, .int .i64 q.b, .int .i64 (N : Int)]] w fun e w' => e = .returned (.bool (decide ((M &&& N) ≠ 0) && pb (ovP p q))) ∧ Below w.heap.size w w' := by
  have hb0 : Below w.heap.size w ((w.alloc (Obj.cells #[.int .i64 p.a, .int .i64 p.b, .int .i64 (M : Int)] 70)).alloc (Obj.cells #[.int .i64 q.a, .int .i64 q.b, .int .i64 (N : Int)] 70)) := ((Below.refl _ _).alloc (Nat.le_refl _) _).alloc (by simp) _
  have CO := Lib.hid (fun (U : World) => ovl_ hp hq U)
  obtain ⟨a, b⟩ := p
  obtain ⟨c, d⟩ := q
  simp only at CO hb0 ⊢
  have HB0 := Lib.hid hb0
  have eab := and_i64t M N (by omega) (by omega)
  obtain ⟨z, hz⟩ : ∃ z, pb (ovP ⟨a, b⟩ ⟨c, d⟩) = z := ⟨_, rfl⟩
  obtain ⟨u, hu⟩ : ∃ u, M &&& N = u := ⟨_, rfl⟩
  rw [hz] at CO
  rw [hu] at eab
  rw [hz, hu]
  clear hz hu hb0 hp hq
  by_cases h0 : u = 0
  · subst h0
    rw [show (decide ((0 : Nat) ≠ 0) && z) = false by rfl]
    go_enter Tryd.func105, Tryd.ntmps105
    go_wp2
    go_ret
    exact ⟨rfl, HB0.out⟩
  · rw [show (decide (u ≠ 0) && z) = z by rw [decide_eq_true h0, Bool.true_and]]
    have hu1 : ¬ ((u : Int) = 0) := by omega
    have hu2 : ((u : Int) == 0) = false := beq_eq_false_iff_ne.2 hu1
    have hu3 : ((u : Int) != 0) = true := bne_iff_ne.2 hu1
    go_enter Tryd.func105, Tryd.ntmps105
    go_wp2_with fail
    refine (CO.out _).mono ?_
    rintro e w1 ⟨rfl, hb1⟩
    have HB1 := Lib.hid (HB0.out.trans (hb1.mono HB0.out.size))
    clear hb1
    go_wp2
    go_ret
    exact ⟨rfl, HB1.out⟩
end Go.Proofs.YtlgkjidginibdaaDoor
