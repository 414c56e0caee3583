/- A law's argument of kind Service: copied. No condition but those typed. -/
import Derived.Test.YtlgkjidginibdaaDoorSvK
import Derived.Test.YtlgkjidginibdaaDoorRf
namespace Go.Proofs.YtlgkjidginibdaaDoor
open Go.ChangeShapes Go.WideShapes Go.ChangeAt Go.RowKit

theorem sv_row (w : World) (v0 v1 v2 v3 v4 v5 v6 v7 v8 v9 : Value) {base : Nat} (hb : base ≤ w.heap.size) : (w.alloc (.cells #[v0, v1, v2, v3, v4, v5, v6, v7, v8, v9] 67)).ownsRow base 67 10 (.slice (some ⟨w.heap.size, 0, none⟩) 1 1) 1 [v0, v1, v2, v3, v4, v5, v6, v7, v8, v9] := by
  have := World.ownsRow_lit (base := base) (e := 67) (size := 10) w #[v0, v1, v2, v3, v4, v5, v6, v7, v8, v9] 1 hb (by unfold maxLen; omega) rfl
  simpa using this
theorem sv_facts {u : World} {B b : Nat} {v0 v1 v2 v3 v4 v5 v6 v7 v8 v9 : Value} (h : u.ownsRow B 67 10 (.slice (some ⟨b, 0, none⟩) 1 1) 1 [v0, v1, v2, v3, v4, v5, v6, v7, v8, v9]) : (u.cell? ⟨b, 0, none⟩ = some v0 ∧ u.cell? ⟨b, 1, none⟩ = some v1 ∧ u.cell? ⟨b, 2, none⟩ = some v2 ∧ u.cell? ⟨b, 3, none⟩ = some v3 ∧ u.cell? ⟨b, 4, none⟩ = some v4 ∧ u.cell? ⟨b, 5, none⟩ = some v5 ∧ u.cell? ⟨b, 6, none⟩ = some v6 ∧ u.cell? ⟨b, 7, none⟩ = some v7 ∧ u.cell? ⟨b, 8, none⟩ = some v8 ∧ u.cell? ⟨b, 9, none⟩ = some v9) ∧ (u.frozen? ⟨b, 0, none⟩ = false ∧ u.frozen? ⟨b, 1, none⟩ = false ∧ u.frozen? ⟨b, 2, none⟩ = false ∧ u.frozen? ⟨b, 3, none⟩ = false ∧ u.frozen? ⟨b, 4, none⟩ = false ∧ u.frozen? ⟨b, 5, none⟩ = false ∧ u.frozen? ⟨b, 6, none⟩ = false ∧ u.frozen? ⟨b, 7, none⟩ = false ∧ u.frozen? ⟨b, 8, none⟩ = false ∧ u.frozen? ⟨b, 9, none⟩ = false) ∧ b < u.heap.size := by
  have c0 := h.cellAt 0 (by decide)
  have c1 := h.cellAt 1 (by decide)
  have c2 := h.cellAt 2 (by decide)
  have c3 := h.cellAt 3 (by decide)
  have c4 := h.cellAt 4 (by decide)
  have c5 := h.cellAt 5 (by decide)
  have c6 := h.cellAt 6 (by decide)
  have c7 := h.cellAt 7 (by decide)
  have c8 := h.cellAt 8 (by decide)
  have c9 := h.cellAt 9 (by decide)
  simp only [List.getElem?_cons_zero, List.getElem?_cons_succ] at c0 c1 c2 c3 c4 c5 c6 c7 c8 c9
  exact ⟨⟨c0, c1, c2, c3, c4, c5, c6, c7, c8, c9⟩, ⟨h.frozenAt 0, h.frozenAt 1, h.frozenAt 2, h.frozenAt 3, h.frozenAt 4, h.frozenAt 5, h.frozenAt 6, h.frozenAt 7, h.frozenAt 8, h.frozenAt 9⟩, (h.lt b rfl).2⟩
set_option maxRecDepth 100000 in
set_option maxHeartbeats 2000000 in
theorem toSv (i k s1 x1 y1 s2 x2 y2 : Int) (A : Option Addr) (n c : Nat) (A2 : Option Addr) (m c2 : Nat) (zs us : List Int) (w : World) (hn : zs.length = n) (hr : Rd w w.heap.size A (zs.map (Value.int .i64))) (hs : n ≤ 1048576) (hm : us.length = m) (hq : Rd w w.heap.size A2 (us.map (Value.int .i64))) (hsm : m ≤ 1048576) :
    Calls Tryd.prog 31 #[.agg #[.int .i64 i, .int .i64 k, .int .i64 s1, .slice A n c, .int .i64 x1, .int .i64 y1, .int .i64 s2, .slice A2 m c2, .int .i64 x2, .int .i64 y2]] w fun e w' => ∃ g1 g2 : Nat, e = .returned (.agg #[.int .i64 i, .int .i64 k, .int .i64 s1, .slice (some ⟨g1, 0, none⟩) n n, .int .i64 x1, .int .i64 y1, .int .i64 s2, .slice (some ⟨g2, 0, none⟩) m m, .int .i64 x2, .int .i64 y2]) ∧ w'.ownsRow w.heap.size 3 1 (.slice (some ⟨g1, 0, none⟩) n n) n (zs.map (Value.int .i64)) ∧ w'.ownsRow w.heap.size 3 1 (.slice (some ⟨g2, 0, none⟩) m m) m (us.map (Value.int .i64)) ∧ g1 < g2 ∧ Below w.heap.size w w' := by
  obtain ⟨W0, hW0⟩ : ∃ W0, ((w.alloc (Obj.cells #[.int .i64 i, .int .i64 k, .int .i64 s1, .slice A n c, .int .i64 x1, .int .i64 y1, .int .i64 s2, .slice A2 m c2, .int .i64 x2, .int .i64 y2] 58)).alloc (Obj.cells #[.int .i64 0, .int .i64 0, .int .i64 0, .slice none 0 0, .int .i64 0, .int .i64 0, .int .i64 0, .slice none 0 0, .int .i64 0, .int .i64 0] 67)).alloc (Obj.cells #[.int .i64 i, .int .i64 k, .int .i64 0, .slice none 0 0, .int .i64 0, .int .i64 0, .int .i64 0, .slice none 0 0, .int .i64 0, .int .i64 0] 67) = W0 := ⟨_, rfl⟩
  have hb0 : Below w.heap.size w W0 := by rw [← hW0]; exact (((Below.refl _ _).alloc (Nat.le_refl _) _).alloc (by simp) _).alloc (by simp; omega) _
  have k0 : W0.cell? ⟨w.heap.size, 0, none⟩ = some (.int .i64 i) := by rw [← hW0]; simp [go_sem]
  have k1 : W0.cell? ⟨w.heap.size, 1, none⟩ = some (.int .i64 k) := by rw [← hW0]; simp [go_sem]
  have k2 : W0.cell? ⟨w.heap.size, 2, none⟩ = some (.int .i64 s1) := by rw [← hW0]; simp [go_sem]
  have k3 : W0.cell? ⟨w.heap.size, 3, none⟩ = some (.slice A n c) := by rw [← hW0]; simp [go_sem]
  have k4 : W0.cell? ⟨w.heap.size, 4, none⟩ = some (.int .i64 x1) := by rw [← hW0]; simp [go_sem]
  have k5 : W0.cell? ⟨w.heap.size, 5, none⟩ = some (.int .i64 y1) := by rw [← hW0]; simp [go_sem]
  have k6 : W0.cell? ⟨w.heap.size, 6, none⟩ = some (.int .i64 s2) := by rw [← hW0]; simp [go_sem]
  have k7 : W0.cell? ⟨w.heap.size, 7, none⟩ = some (.slice A2 m c2) := by rw [← hW0]; simp [go_sem]
  have k8 : W0.cell? ⟨w.heap.size, 8, none⟩ = some (.int .i64 x2) := by rw [← hW0]; simp [go_sem]
  have k9 : W0.cell? ⟨w.heap.size, 9, none⟩ = some (.int .i64 y2) := by rw [← hW0]; simp [go_sem]
  have z0 : W0.cell? ⟨w.heap.size + 1, 0, none⟩ = some (.int .i64 0) := by rw [← hW0]; simp [go_sem]
  have f0 : W0.frozen? ⟨w.heap.size + 1, 0, none⟩ = false := by rw [← hW0]; simp [go_sem]
  have z1 : W0.cell? ⟨w.heap.size + 1, 1, none⟩ = some (.int .i64 0) := by rw [← hW0]; simp [go_sem]
  have f1 : W0.frozen? ⟨w.heap.size + 1, 1, none⟩ = false := by rw [← hW0]; simp [go_sem]
  have z2 : W0.cell? ⟨w.heap.size + 1, 2, none⟩ = some (.int .i64 0) := by rw [← hW0]; simp [go_sem]
  have f2 : W0.frozen? ⟨w.heap.size + 1, 2, none⟩ = false := by rw [← hW0]; simp [go_sem]
  have z3 : W0.cell? ⟨w.heap.size + 1, 3, none⟩ = some (.slice none 0 0) := by rw [← hW0]; simp [go_sem]
  have f3 : W0.frozen? ⟨w.heap.size + 1, 3, none⟩ = false := by rw [← hW0]; simp [go_sem]
  have z4 : W0.cell? ⟨w.heap.size + 1, 4, none⟩ = some (.int .i64 0) := by rw [← hW0]; simp [go_sem]
  have f4 : W0.frozen? ⟨w.heap.size + 1, 4, none⟩ = false := by rw [← hW0]; simp [go_sem]
  have z5 : W0.cell? ⟨w.heap.size + 1, 5, none⟩ = some (.int .i64 0) := by rw [← hW0]; simp [go_sem]
  have f5 : W0.frozen? ⟨w.heap.size + 1, 5, none⟩ = false := by rw [← hW0]; simp [go_sem]
  have z6 : W0.cell? ⟨w.heap.size + 1, 6, none⟩ = some (.int .i64 0) := by rw [← hW0]; simp [go_sem]
  have f6 : W0.frozen? ⟨w.heap.size + 1, 6, none⟩ = false := by rw [← hW0]; simp [go_sem]
  have z7 : W0.cell? ⟨w.heap.size + 1, 7, none⟩ = some (.slice none 0 0) := by rw [← hW0]; simp [go_sem]
  have f7 : W0.frozen? ⟨w.heap.size + 1, 7, none⟩ = false := by rw [← hW0]; simp [go_sem]
  have z8 : W0.cell? ⟨w.heap.size + 1, 8, none⟩ = some (.int .i64 0) := by rw [← hW0]; simp [go_sem]
  have f8 : W0.frozen? ⟨w.heap.size + 1, 8, none⟩ = false := by rw [← hW0]; simp [go_sem]
  have z9 : W0.cell? ⟨w.heap.size + 1, 9, none⟩ = some (.int .i64 0) := by rw [← hW0]; simp [go_sem]
  have f9 : W0.frozen? ⟨w.heap.size + 1, 9, none⟩ = false := by rw [← hW0]; simp [go_sem]
  have hz : W0.heap.size = w.heap.size + 1 + 1 + 1 := by rw [← hW0]; simp
  have HR0 : Hid (W0.ownsRow w.heap.size 67 10 (.slice (some ⟨w.heap.size + 1 + 1, 0, none⟩) 1 1) 1 [.int .i64 i, .int .i64 k, .int .i64 0, .slice none 0 0, .int .i64 0, .int .i64 0, .int .i64 0, .slice none 0 0, .int .i64 0, .int .i64 0]) := Lib.hid (by
    rw [← hW0]
    have := sv_row ((w.alloc (Obj.cells #[.int .i64 i, .int .i64 k, .int .i64 s1, .slice A n c, .int .i64 x1, .int .i64 y1, .int .i64 s2, .slice A2 m c2, .int .i64 x2, .int .i64 y2] 58)).alloc (Obj.cells #[.int .i64 0, .int .i64 0, .int .i64 0, .slice none 0 0, .int .i64 0, .int .i64 0, .int .i64 0, .slice none 0 0, .int .i64 0, .int .i64 0] 67)) (.int .i64 i) (.int .i64 k) (.int .i64 0) (.slice none 0 0) (.int .i64 0) (.int .i64 0) (.int .i64 0) (.slice none 0 0) (.int .i64 0) (.int .i64 0) (base := w.heap.size) (by simp; omega)
    simpa using this)
  have HK : Hid (∀ U, Below (w.heap.size + 2) W0 U → U.cell? ⟨w.heap.size, 0, none⟩ = some (.int .i64 i) ∧ U.cell? ⟨w.heap.size, 1, none⟩ = some (.int .i64 k) ∧ U.cell? ⟨w.heap.size, 2, none⟩ = some (.int .i64 s1) ∧ U.cell? ⟨w.heap.size, 3, none⟩ = some (.slice A n c) ∧ U.cell? ⟨w.heap.size, 4, none⟩ = some (.int .i64 x1) ∧ U.cell? ⟨w.heap.size, 5, none⟩ = some (.int .i64 y1) ∧ U.cell? ⟨w.heap.size, 6, none⟩ = some (.int .i64 s2) ∧ U.cell? ⟨w.heap.size, 7, none⟩ = some (.slice A2 m c2) ∧ U.cell? ⟨w.heap.size, 8, none⟩ = some (.int .i64 x2) ∧ U.cell? ⟨w.heap.size, 9, none⟩ = some (.int .i64 y2) ∧ U.cell? ⟨w.heap.size + 1, 0, none⟩ = some (.int .i64 0) ∧ U.frozen? ⟨w.heap.size + 1, 0, none⟩ = false ∧ U.cell? ⟨w.heap.size + 1, 1, none⟩ = some (.int .i64 0) ∧ U.frozen? ⟨w.heap.size + 1, 1, none⟩ = false ∧ U.cell? ⟨w.heap.size + 1, 2, none⟩ = some (.int .i64 0) ∧ U.frozen? ⟨w.heap.size + 1, 2, none⟩ = false ∧ U.cell? ⟨w.heap.size + 1, 3, none⟩ = some (.slice none 0 0) ∧ U.frozen? ⟨w.heap.size + 1, 3, none⟩ = false ∧ U.cell? ⟨w.heap.size + 1, 4, none⟩ = some (.int .i64 0) ∧ U.frozen? ⟨w.heap.size + 1, 4, none⟩ = false ∧ U.cell? ⟨w.heap.size + 1, 5, none⟩ = some (.int .i64 0) ∧ U.frozen? ⟨w.heap.size + 1, 5, none⟩ = false ∧ U.cell? ⟨w.heap.size + 1, 6, none⟩ = some (.int .i64 0) ∧ U.frozen? ⟨w.heap.size + 1, 6, none⟩ = false ∧ U.cell? ⟨w.heap.size + 1, 7, none⟩ = some (.slice none 0 0) ∧ U.frozen? ⟨w.heap.size + 1, 7, none⟩ = false ∧ U.cell? ⟨w.heap.size + 1, 8, none⟩ = some (.int .i64 0) ∧ U.frozen? ⟨w.heap.size + 1, 8, none⟩ = false ∧ U.cell? ⟨w.heap.size + 1, 9, none⟩ = some (.int .i64 0) ∧ U.frozen? ⟨w.heap.size + 1, 9, none⟩ = false ∧ w.heap.size < U.heap.size ∧ w.heap.size + 1 < U.heap.size) := Lib.hid fun U hU => ⟨(hU.cell (p := ⟨w.heap.size, 0, none⟩) (by show w.heap.size < _; omega)).trans k0, (hU.cell (p := ⟨w.heap.size, 1, none⟩) (by show w.heap.size < _; omega)).trans k1, (hU.cell (p := ⟨w.heap.size, 2, none⟩) (by show w.heap.size < _; omega)).trans k2, (hU.cell (p := ⟨w.heap.size, 3, none⟩) (by show w.heap.size < _; omega)).trans k3, (hU.cell (p := ⟨w.heap.size, 4, none⟩) (by show w.heap.size < _; omega)).trans k4, (hU.cell (p := ⟨w.heap.size, 5, none⟩) (by show w.heap.size < _; omega)).trans k5, (hU.cell (p := ⟨w.heap.size, 6, none⟩) (by show w.heap.size < _; omega)).trans k6, (hU.cell (p := ⟨w.heap.size, 7, none⟩) (by show w.heap.size < _; omega)).trans k7, (hU.cell (p := ⟨w.heap.size, 8, none⟩) (by show w.heap.size < _; omega)).trans k8, (hU.cell (p := ⟨w.heap.size, 9, none⟩) (by show w.heap.size < _; omega)).trans k9, (hU.cell (p := ⟨w.heap.size + 1, 0, none⟩) (by show w.heap.size + 1 < _; omega)).trans z0, (hU.frozen (p := ⟨w.heap.size + 1, 0, none⟩) (by show w.heap.size + 1 < _; omega)).trans f0, (hU.cell (p := ⟨w.heap.size + 1, 1, none⟩) (by show w.heap.size + 1 < _; omega)).trans z1, (hU.frozen (p := ⟨w.heap.size + 1, 1, none⟩) (by show w.heap.size + 1 < _; omega)).trans f1, (hU.cell (p := ⟨w.heap.size + 1, 2, none⟩) (by show w.heap.size + 1 < _; omega)).trans z2, (hU.frozen (p := ⟨w.heap.size + 1, 2, none⟩) (by show w.heap.size + 1 < _; omega)).trans f2, (hU.cell (p := ⟨w.heap.size + 1, 3, none⟩) (by show w.heap.size + 1 < _; omega)).trans z3, (hU.frozen (p := ⟨w.heap.size + 1, 3, none⟩) (by show w.heap.size + 1 < _; omega)).trans f3, (hU.cell (p := ⟨w.heap.size + 1, 4, none⟩) (by show w.heap.size + 1 < _; omega)).trans z4, (hU.frozen (p := ⟨w.heap.size + 1, 4, none⟩) (by show w.heap.size + 1 < _; omega)).trans f4, (hU.cell (p := ⟨w.heap.size + 1, 5, none⟩) (by show w.heap.size + 1 < _; omega)).trans z5, (hU.frozen (p := ⟨w.heap.size + 1, 5, none⟩) (by show w.heap.size + 1 < _; omega)).trans f5, (hU.cell (p := ⟨w.heap.size + 1, 6, none⟩) (by show w.heap.size + 1 < _; omega)).trans z6, (hU.frozen (p := ⟨w.heap.size + 1, 6, none⟩) (by show w.heap.size + 1 < _; omega)).trans f6, (hU.cell (p := ⟨w.heap.size + 1, 7, none⟩) (by show w.heap.size + 1 < _; omega)).trans z7, (hU.frozen (p := ⟨w.heap.size + 1, 7, none⟩) (by show w.heap.size + 1 < _; omega)).trans f7, (hU.cell (p := ⟨w.heap.size + 1, 8, none⟩) (by show w.heap.size + 1 < _; omega)).trans z8, (hU.frozen (p := ⟨w.heap.size + 1, 8, none⟩) (by show w.heap.size + 1 < _; omega)).trans f8, (hU.cell (p := ⟨w.heap.size + 1, 9, none⟩) (by show w.heap.size + 1 < _; omega)).trans z9, (hU.frozen (p := ⟨w.heap.size + 1, 9, none⟩) (by show w.heap.size + 1 < _; omega)).trans f9, by have := hU.size; omega, by have := hU.size; omega⟩
  have HZ := Lib.hid hz; have HB0 := Lib.hid hb0; have HN := Lib.hid hn; have HM := Lib.hid hm
  have HRA : Hid (∀ U, Below w.heap.size w U → Rd U U.heap.size A (zs.map (Value.int .i64))) := Lib.hid fun U hU => hr.moved hU
  have HRQ : Hid (∀ U, Below w.heap.size w U → Rd U U.heap.size A2 (us.map (Value.int .i64))) := Lib.hid fun U hU => hq.moved hU
  clear k0 z0 f0 k1 z1 f1 k2 z2 f2 k3 z3 f3 k4 z4 f4 k5 z5 f5 k6 z6 f6 k7 z7 f7 k8 z8 f8 k9 z9 f9 hz hb0 hn hm hr hq
  go_enter Tryd.func31, Tryd.ntmps31
  obtain ⟨q0, q1, q2, q3, q4, q5, q6, q7, q8, q9, q10, q11, q12, q13, q14, q15, q16, q17, q18, q19, q20, q21, q22, q23, q24, q25, q26, q27, q28, q29, q30, q31⟩ := HK.out W0 (Below.refl _ _)
  obtain ⟨⟨r0, r1, r2, r3, r4, r5, r6, r7, r8, r9⟩, ⟨r10, r11, r12, r13, r14, r15, r16, r17, r18, r19⟩, r20⟩ := sv_facts HR0.out
  go_wp2_with fail
  try rw [hW0]
  clear hW0 q0 q1 q2 q3 q4 q5 q6 q7 q8 q9 q10 q11 q12 q13 q14 q15 q16 q17 q18 q19 q20 q21 q22 q23 q24 q25 q26 q27 q28 q29 q30 q31 r0 r1 r2 r3 r4 r5 r6 r7 r8 r9 r10 r11 r12 r13 r14 r15 r16 r17 r18 r19 r20
  refine (toRt s1 A n c zs W0 HN.out (HRA.out _ HB0.out) hs).mono ?_
  rintro e u1 ⟨g1, rfl, hg1, ho1, hb⟩
  have HB := Lib.hid hb
  have HSZ1 : Hid (w.heap.size + 1 + 1 < u1.heap.size) := Lib.hid (by have := HZ.out; have := HB.out.size; omega)
  have HA1 : Hid (Below w.heap.size w u1) := Lib.hid (HB0.out.trans (HB.out.mono (HB0.out).size))
  have HP1 : Hid (Below (w.heap.size + 2) W0 u1) := Lib.hid ((Below.refl _ _).trans (HB.out.mono (by have := HZ.out; omega)))
  have HR0b := Lib.hid (ownB HR0.out HB.out)
  have HO1a := Lib.hid ho1; clear ho1
  clear hb HB
  obtain ⟨q0, q1, q2, q3, q4, q5, q6, q7, q8, q9, q10, q11, q12, q13, q14, q15, q16, q17, q18, q19, q20, q21, q22, q23, q24, q25, q26, q27, q28, q29, q30, q31⟩ := HK.out u1 HP1.out
  obtain ⟨⟨r0, r1, r2, r3, r4, r5, r6, r7, r8, r9⟩, ⟨r10, r11, r12, r13, r14, r15, r16, r17, r18, r19⟩, r20⟩ := sv_facts HR0b.out
  obtain ⟨W1, hW1⟩ : ∃ V, (u1.setCell ⟨w.heap.size + 1 + 1, 2, none⟩ (.int .i64 s1)).setCell ⟨w.heap.size + 1 + 1, 3, none⟩ (.slice (some ⟨g1, 0, none⟩) n n) = V := ⟨_, rfl⟩
  have HR1 : Hid (W1.ownsRow w.heap.size 67 10 (.slice (some ⟨w.heap.size + 1 + 1, 0, none⟩) 1 1) 1 [.int .i64 i, .int .i64 k, .int .i64 s1, .slice (some ⟨g1, 0, none⟩) n n, .int .i64 0, .int .i64 0, .int .i64 0, .slice none 0 0, .int .i64 0, .int .i64 0]) := Lib.hid (by
    have h9 := ((HR0b.out.stored 2 (.int .i64 s1)).1.stored 3 (.slice (some ⟨g1, 0, none⟩) n n)).1
    rw [← hW1]; simpa using h9)
  have HW1a : Hid (Below w.heap.size w W1) := Lib.hid (by rw [← hW1]; exact (HA1.out.setCell (p := ⟨w.heap.size + 1 + 1, 2, none⟩) (by show w.heap.size ≤ w.heap.size + 1 + 1; omega) _).setCell (p := ⟨w.heap.size + 1 + 1, 3, none⟩) (by show w.heap.size ≤ w.heap.size + 1 + 1; omega) _)
  have HW1p : Hid (Below (w.heap.size + 2) W0 W1) := Lib.hid (by rw [← hW1]; exact (HP1.out.setCell (p := ⟨w.heap.size + 1 + 1, 2, none⟩) (by show w.heap.size + 2 ≤ w.heap.size + 1 + 1; omega) _).setCell (p := ⟨w.heap.size + 1 + 1, 3, none⟩) (by show w.heap.size + 2 ≤ w.heap.size + 1 + 1; omega) _)
  have HSW1 : Hid (w.heap.size + 1 + 1 < W1.heap.size) := Lib.hid (by rw [← hW1]; have := HSZ1.out; simpa using this)
  have HO1 := Lib.hid (show W1.ownsRow W0.heap.size _ _ _ _ _ from by rw [← hW1]; exact ownsRow_setCell_below (ownsRow_setCell_below HO1a.out (a := ⟨w.heap.size + 1 + 1, 2, none⟩) (by show w.heap.size + 1 + 1 < _; have := HZ.out; omega) _) (a := ⟨w.heap.size + 1 + 1, 3, none⟩) (by show w.heap.size + 1 + 1 < _; have := HZ.out; omega) _)
  obtain ⟨p0, p1, p2, p3, p4, p5, p6, p7, p8, p9, p10, p11, p12, p13, p14, p15, p16, p17, p18, p19, p20, p21, p22, p23, p24, p25, p26, p27, p28, p29, p30, p31⟩ := HK.out W1 HW1p.out
  go_wp2_with fail
  try rw [hW1]
  clear hW1 q0 q1 q2 q3 q4 q5 q6 q7 q8 q9 q10 q11 q12 q13 q14 q15 q16 q17 q18 q19 q20 q21 q22 q23 q24 q25 q26 q27 q28 q29 q30 q31 r0 r1 r2 r3 r4 r5 r6 r7 r8 r9 r10 r11 r12 r13 r14 r15 r16 r17 r18 r19 r20 p0 p1 p2 p3 p4 p5 p6 p7 p8 p9 p10 p11 p12 p13 p14 p15 p16 p17 p18 p19 p20 p21 p22 p23 p24 p25 p26 p27 p28 p29 p30 p31
  refine (toBlk x1 y1 _).mono ?_
  rintro e u2 ⟨rfl, hb⟩
  have HB := Lib.hid hb
  have HSZ2 : Hid (w.heap.size + 1 + 1 < u2.heap.size) := Lib.hid (by have := HSW1.out; have := HB.out.size; omega)
  have HA2 : Hid (Below w.heap.size w u2) := Lib.hid (HW1a.out.trans (HB.out.mono (HW1a.out).size))
  have HP2 : Hid (Below (w.heap.size + 2) W0 u2) := Lib.hid (HW1p.out.trans (HB.out.mono (by have := HSW1.out; omega)))
  have HR1b := Lib.hid (ownB HR1.out HB.out)
  have HO1a := Lib.hid (ownB HO1.out HB.out)
  clear hb HB
  obtain ⟨q0, q1, q2, q3, q4, q5, q6, q7, q8, q9, q10, q11, q12, q13, q14, q15, q16, q17, q18, q19, q20, q21, q22, q23, q24, q25, q26, q27, q28, q29, q30, q31⟩ := HK.out u2 HP2.out
  obtain ⟨⟨r0, r1, r2, r3, r4, r5, r6, r7, r8, r9⟩, ⟨r10, r11, r12, r13, r14, r15, r16, r17, r18, r19⟩, r20⟩ := sv_facts HR1b.out
  obtain ⟨W2, hW2⟩ : ∃ V, (u2.setCell ⟨w.heap.size + 1 + 1, 4, none⟩ (.int .i64 x1)).setCell ⟨w.heap.size + 1 + 1, 5, none⟩ (.int .i64 y1) = V := ⟨_, rfl⟩
  have HR2 : Hid (W2.ownsRow w.heap.size 67 10 (.slice (some ⟨w.heap.size + 1 + 1, 0, none⟩) 1 1) 1 [.int .i64 i, .int .i64 k, .int .i64 s1, .slice (some ⟨g1, 0, none⟩) n n, .int .i64 x1, .int .i64 y1, .int .i64 0, .slice none 0 0, .int .i64 0, .int .i64 0]) := Lib.hid (by
    have h9 := ((HR1b.out.stored 4 (.int .i64 x1)).1.stored 5 (.int .i64 y1)).1
    rw [← hW2]; simpa using h9)
  have HW2a : Hid (Below w.heap.size w W2) := Lib.hid (by rw [← hW2]; exact (HA2.out.setCell (p := ⟨w.heap.size + 1 + 1, 4, none⟩) (by show w.heap.size ≤ w.heap.size + 1 + 1; omega) _).setCell (p := ⟨w.heap.size + 1 + 1, 5, none⟩) (by show w.heap.size ≤ w.heap.size + 1 + 1; omega) _)
  have HW2p : Hid (Below (w.heap.size + 2) W0 W2) := Lib.hid (by rw [← hW2]; exact (HP2.out.setCell (p := ⟨w.heap.size + 1 + 1, 4, none⟩) (by show w.heap.size + 2 ≤ w.heap.size + 1 + 1; omega) _).setCell (p := ⟨w.heap.size + 1 + 1, 5, none⟩) (by show w.heap.size + 2 ≤ w.heap.size + 1 + 1; omega) _)
  have HSW2 : Hid (w.heap.size + 1 + 1 < W2.heap.size) := Lib.hid (by rw [← hW2]; have := HSZ2.out; simpa using this)
  have HO1 := Lib.hid (show W2.ownsRow W0.heap.size _ _ _ _ _ from by rw [← hW2]; exact ownsRow_setCell_below (ownsRow_setCell_below HO1a.out (a := ⟨w.heap.size + 1 + 1, 4, none⟩) (by show w.heap.size + 1 + 1 < _; have := HZ.out; omega) _) (a := ⟨w.heap.size + 1 + 1, 5, none⟩) (by show w.heap.size + 1 + 1 < _; have := HZ.out; omega) _)
  obtain ⟨p0, p1, p2, p3, p4, p5, p6, p7, p8, p9, p10, p11, p12, p13, p14, p15, p16, p17, p18, p19, p20, p21, p22, p23, p24, p25, p26, p27, p28, p29, p30, p31⟩ := HK.out W2 HW2p.out
  go_wp2_with fail
  try rw [hW2]
  clear hW2 q0 q1 q2 q3 q4 q5 q6 q7 q8 q9 q10 q11 q12 q13 q14 q15 q16 q17 q18 q19 q20 q21 q22 q23 q24 q25 q26 q27 q28 q29 q30 q31 r0 r1 r2 r3 r4 r5 r6 r7 r8 r9 r10 r11 r12 r13 r14 r15 r16 r17 r18 r19 r20 p0 p1 p2 p3 p4 p5 p6 p7 p8 p9 p10 p11 p12 p13 p14 p15 p16 p17 p18 p19 p20 p21 p22 p23 p24 p25 p26 p27 p28 p29 p30 p31
  have HL1 := Lib.hid (HO1.out.lt g1 rfl).2
  refine (toRt s2 A2 m c2 us W2 HM.out (HRQ.out _ HW2a.out) hsm).mono ?_
  rintro e u3 ⟨g2, rfl, hg2, ho2, hb⟩
  have HB := Lib.hid hb
  have HSZ3 : Hid (w.heap.size + 1 + 1 < u3.heap.size) := Lib.hid (by have := HSW2.out; have := HB.out.size; omega)
  have HA3 : Hid (Below w.heap.size w u3) := Lib.hid (HW2a.out.trans (HB.out.mono (HW2a.out).size))
  have HP3 : Hid (Below (w.heap.size + 2) W0 u3) := Lib.hid (HW2p.out.trans (HB.out.mono (by have := HSW2.out; omega)))
  have HR2b := Lib.hid (ownB HR2.out HB.out)
  have HO1a := Lib.hid (ownB HO1.out HB.out)
  have HO2a := Lib.hid ho2; clear ho2
  clear hb HB
  obtain ⟨q0, q1, q2, q3, q4, q5, q6, q7, q8, q9, q10, q11, q12, q13, q14, q15, q16, q17, q18, q19, q20, q21, q22, q23, q24, q25, q26, q27, q28, q29, q30, q31⟩ := HK.out u3 HP3.out
  obtain ⟨⟨r0, r1, r2, r3, r4, r5, r6, r7, r8, r9⟩, ⟨r10, r11, r12, r13, r14, r15, r16, r17, r18, r19⟩, r20⟩ := sv_facts HR2b.out
  obtain ⟨W3, hW3⟩ : ∃ V, (u3.setCell ⟨w.heap.size + 1 + 1, 6, none⟩ (.int .i64 s2)).setCell ⟨w.heap.size + 1 + 1, 7, none⟩ (.slice (some ⟨g2, 0, none⟩) m m) = V := ⟨_, rfl⟩
  have HR3 : Hid (W3.ownsRow w.heap.size 67 10 (.slice (some ⟨w.heap.size + 1 + 1, 0, none⟩) 1 1) 1 [.int .i64 i, .int .i64 k, .int .i64 s1, .slice (some ⟨g1, 0, none⟩) n n, .int .i64 x1, .int .i64 y1, .int .i64 s2, .slice (some ⟨g2, 0, none⟩) m m, .int .i64 0, .int .i64 0]) := Lib.hid (by
    have h9 := ((HR2b.out.stored 6 (.int .i64 s2)).1.stored 7 (.slice (some ⟨g2, 0, none⟩) m m)).1
    rw [← hW3]; simpa using h9)
  have HW3a : Hid (Below w.heap.size w W3) := Lib.hid (by rw [← hW3]; exact (HA3.out.setCell (p := ⟨w.heap.size + 1 + 1, 6, none⟩) (by show w.heap.size ≤ w.heap.size + 1 + 1; omega) _).setCell (p := ⟨w.heap.size + 1 + 1, 7, none⟩) (by show w.heap.size ≤ w.heap.size + 1 + 1; omega) _)
  have HW3p : Hid (Below (w.heap.size + 2) W0 W3) := Lib.hid (by rw [← hW3]; exact (HP3.out.setCell (p := ⟨w.heap.size + 1 + 1, 6, none⟩) (by show w.heap.size + 2 ≤ w.heap.size + 1 + 1; omega) _).setCell (p := ⟨w.heap.size + 1 + 1, 7, none⟩) (by show w.heap.size + 2 ≤ w.heap.size + 1 + 1; omega) _)
  have HSW3 : Hid (w.heap.size + 1 + 1 < W3.heap.size) := Lib.hid (by rw [← hW3]; have := HSZ3.out; simpa using this)
  have HO1 := Lib.hid (show W3.ownsRow W0.heap.size _ _ _ _ _ from by rw [← hW3]; exact ownsRow_setCell_below (ownsRow_setCell_below HO1a.out (a := ⟨w.heap.size + 1 + 1, 6, none⟩) (by show w.heap.size + 1 + 1 < _; have := HZ.out; omega) _) (a := ⟨w.heap.size + 1 + 1, 7, none⟩) (by show w.heap.size + 1 + 1 < _; have := HZ.out; omega) _)
  have HO2 := Lib.hid (show W3.ownsRow W2.heap.size _ _ _ _ _ from by rw [← hW3]; exact ownsRow_setCell_below (ownsRow_setCell_below HO2a.out (a := ⟨w.heap.size + 1 + 1, 6, none⟩) (by show w.heap.size + 1 + 1 < _; have := HSW2.out; omega) _) (a := ⟨w.heap.size + 1 + 1, 7, none⟩) (by show w.heap.size + 1 + 1 < _; have := HSW2.out; omega) _)
  obtain ⟨p0, p1, p2, p3, p4, p5, p6, p7, p8, p9, p10, p11, p12, p13, p14, p15, p16, p17, p18, p19, p20, p21, p22, p23, p24, p25, p26, p27, p28, p29, p30, p31⟩ := HK.out W3 HW3p.out
  go_wp2_with fail
  try rw [hW3]
  clear hW3 q0 q1 q2 q3 q4 q5 q6 q7 q8 q9 q10 q11 q12 q13 q14 q15 q16 q17 q18 q19 q20 q21 q22 q23 q24 q25 q26 q27 q28 q29 q30 q31 r0 r1 r2 r3 r4 r5 r6 r7 r8 r9 r10 r11 r12 r13 r14 r15 r16 r17 r18 r19 r20 p0 p1 p2 p3 p4 p5 p6 p7 p8 p9 p10 p11 p12 p13 p14 p15 p16 p17 p18 p19 p20 p21 p22 p23 p24 p25 p26 p27 p28 p29 p30 p31
  refine (toBlk x2 y2 _).mono ?_
  rintro e u4 ⟨rfl, hb⟩
  have HB := Lib.hid hb
  have HSZ4 : Hid (w.heap.size + 1 + 1 < u4.heap.size) := Lib.hid (by have := HSW3.out; have := HB.out.size; omega)
  have HA4 : Hid (Below w.heap.size w u4) := Lib.hid (HW3a.out.trans (HB.out.mono (HW3a.out).size))
  have HP4 : Hid (Below (w.heap.size + 2) W0 u4) := Lib.hid (HW3p.out.trans (HB.out.mono (by have := HSW3.out; omega)))
  have HR3b := Lib.hid (ownB HR3.out HB.out)
  have HO1a := Lib.hid (ownB HO1.out HB.out)
  have HO2a := Lib.hid (ownB HO2.out HB.out)
  clear hb HB
  obtain ⟨q0, q1, q2, q3, q4, q5, q6, q7, q8, q9, q10, q11, q12, q13, q14, q15, q16, q17, q18, q19, q20, q21, q22, q23, q24, q25, q26, q27, q28, q29, q30, q31⟩ := HK.out u4 HP4.out
  obtain ⟨⟨r0, r1, r2, r3, r4, r5, r6, r7, r8, r9⟩, ⟨r10, r11, r12, r13, r14, r15, r16, r17, r18, r19⟩, r20⟩ := sv_facts HR3b.out
  have e1 : ¬ (w.heap.size + 1 = w.heap.size + 1 + 1) := by omega
  go_wp2
  refine bodyPost_ret (v := .agg #[.int .i64 i, .int .i64 k, .int .i64 s1, .slice (some ⟨g1, 0, none⟩) n n, .int .i64 x1, .int .i64 y1, .int .i64 s2, .slice (some ⟨g2, 0, none⟩) m m, .int .i64 x2, .int .i64 y2]) ?_ rfl ?_
  · simp [results, Tryd.results31, go_sem, q0, q1, q2, q3, q4, q5, q6, q7, q8, q9, q10, q11, q12, q13, q14, q15, q16, q17, q18, q19, q20, q21, q22, q23, q24, q25, q26, q27, q28, q29, q30, q31, r0, r1, r2, r3, r4, r5, r6, r7, r8, r9, r10, r11, r12, r13, r14, r15, r16, r17, r18, r19, r20]
  · refine ⟨g1, g2, rfl, ?_, ?_, Nat.lt_of_lt_of_le HL1.out (HO2a.out.lt g2 rfl).1, ?_⟩
    · refine own_base (B := W0.heap.size) ?_ (HB0.out.size)
      repeat (first | with_reducible exact HO1a.out | refine ownsRow_setCell_below ?_ (a := ⟨_, _, none⟩) (by show _ < W0.heap.size; have := HZ.out; simp; omega) _)
    · refine own_base (B := W2.heap.size) ?_ (HW2a.out.size)
      repeat (first | with_reducible exact HO2a.out | refine ownsRow_setCell_below ?_ (a := ⟨_, _, none⟩) (by show _ < W2.heap.size; have := HSW2.out; simp; omega) _)
    · repeat (first | with_reducible exact HA4.out | refine Below.setCell ?_ (p := ⟨_, _, none⟩) (by simp; omega) _ | refine Below.setCell ?_ (p := ⟨_, _, none⟩) (by simp) _)
end Go.Proofs.YtlgkjidginibdaaDoor
