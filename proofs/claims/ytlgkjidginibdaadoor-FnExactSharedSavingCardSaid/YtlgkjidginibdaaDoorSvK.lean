/- A law's argument of kind Service: weighed, compared. No condition but those typed. -/
import Derived.Test.YtlgkjidginibdaaDoorGC
namespace Go.Proofs.YtlgkjidginibdaaDoor
open Go.ChangeShapes Go.WideShapes Go.ChangeAt Go.RowKit

def SvSz (left : Int) (n m : Nat) (w : World) (e : Ending) (w' : World) : Prop := ∃ v : Int, e = .returned (.int .i64 v) ∧ Below w.heap.size w w' ∧ -1 ≤ v ∧ v ≤ left ∧ (0 ≤ v → v + n + m ≤ left)
set_option maxHeartbeats 1000000 in
theorem szSv (i k s1 x1 y1 s2 x2 y2 : Int) (A : Option Addr) (n c : Nat) (A2 : Option Addr) (m c2 : Nat) (left : Int) (w : World) (hm : n ≤ maxLen) (hm2 : m ≤ maxLen) (hl0 : 0 ≤ left) (hl1 : left ≤ 1048576) :
    Calls Tryd.prog 26 #[.agg #[.int .i64 i, .int .i64 k, .int .i64 s1, .slice A n c, .int .i64 x1, .int .i64 y1, .int .i64 s2, .slice A2 m c2, .int .i64 x2, .int .i64 y2], .int .i64 left] w (SvSz left n m w) := by
  obtain ⟨W0, hW0⟩ : ∃ W0, w.alloc (Obj.cells #[.int .i64 i, .int .i64 k, .int .i64 s1, .slice A n c, .int .i64 x1, .int .i64 y1, .int .i64 s2, .slice A2 m c2, .int .i64 x2, .int .i64 y2] 58) = W0 := ⟨_, rfl⟩
  have hb0 : Below w.heap.size w W0 := by rw [← hW0]; exact (Below.refl _ _).alloc (Nat.le_refl _) _
  have k2 : W0.cell? ⟨w.heap.size, 2, none⟩ = some (.int .i64 s1) := by rw [← hW0]; simp [go_sem]
  have k3 : W0.cell? ⟨w.heap.size, 3, none⟩ = some (.slice A n c) := by rw [← hW0]; simp [go_sem]
  have k6 : W0.cell? ⟨w.heap.size, 6, none⟩ = some (.int .i64 s2) := by rw [← hW0]; simp [go_sem]
  have k7 : W0.cell? ⟨w.heap.size, 7, none⟩ = some (.slice A2 m c2) := by rw [← hW0]; simp [go_sem]
  have hz : w.heap.size < W0.heap.size := by rw [← hW0]; simp
  have HB0 := Lib.hid hb0
  have CS := Lib.hid (szRt s1 A n c left W0 hm hl0 hl1)
  clear hb0
  go_enter Tryd.func26, Tryd.ntmps26
  go_wp2_with fail
  try rw [hW0]
  clear hW0
  refine CS.out.mono ?_
  rintro e w1 ⟨v, rfl, hb1, h1, h2, h3⟩
  have HB1 := Lib.hid (HB0.out.trans (hb1.mono HB0.out.size))
  have l6 := (hb1.cell (p := ⟨w.heap.size, 6, none⟩) hz).trans k6
  have l7 := (hb1.cell (p := ⟨w.heap.size, 7, none⟩) hz).trans k7
  have hz1 : w.heap.size < w1.heap.size := Nat.lt_of_lt_of_le hz hb1.size
  clear hb1 k2 k3 k6 k7 hz
  by_cases hv : v < 0
  · have hvd : decide (v < 0) = true := decide_eq_true hv
    have H := Lib.hid HB1.out
    clear h1 h2 h3 l6 l7 hz1
    go_wp2
    go_ret
    exact ⟨-1, rfl, H.out, by omega, by omega, by omega⟩
  · have hvd : decide (v < 0) = false := decide_eq_false hv
    have CT := Lib.hid (szRt s2 A2 m c2 v w1 hm2 (by omega) (by omega))
    have H := Lib.hid h2; have H3 := Lib.hid (h3 (by omega)); have HV := Lib.hid hv
    clear h1 h2 h3
    go_wp2_with fail
    clear l6 l7 hz1
    refine CT.out.mono ?_
    rintro e w2 ⟨u, rfl, hb2, g1, g2, g3⟩
    have HB2 := Lib.hid (HB1.out.trans (hb2.mono HB1.out.size))
    clear hb2
    by_cases hu : u < 0
    · have hud : decide (u < 0) = true := decide_eq_true hu
      clear g1 g2 g3
      go_wp2
      go_ret
      exact ⟨-1, rfl, HB2.out, by omega, by omega, by omega⟩
    · have hud : decide (u < 0) = false := decide_eq_false hu
      have G2 := Lib.hid g2; have G3 := Lib.hid (g3 (by omega)); have G1 := Lib.hid g1
      clear g1 g2 g3
      go_wp2
      go_ret
      exact ⟨u, rfl, HB2.out, G1.out, by have := G2.out; have := H.out; omega, fun _ => by have := G3.out; have := H3.out; omega⟩
set_option maxRecDepth 100000 in
set_option maxHeartbeats 2000000 in
theorem eqSv (i k s1 x1 y1 s2 x2 y2 : Int) (g g' n c c' h h' m d d' : Nat) (zs us : List Int) (w : World) (hn : zs.length = n) (hs : n ≤ 1048576) (hr : Rd w w.heap.size (some ⟨g, 0, none⟩) (zs.map (Value.int .i64))) (hr' : Rd w w.heap.size (some ⟨g', 0, none⟩) (zs.map (Value.int .i64))) (hm : us.length = m) (hsm : m ≤ 1048576) (hq : Rd w w.heap.size (some ⟨h, 0, none⟩) (us.map (Value.int .i64))) (hq' : Rd w w.heap.size (some ⟨h', 0, none⟩) (us.map (Value.int .i64))) :
    Calls Tryd.prog 38 #[.agg #[.int .i64 i, .int .i64 k, .int .i64 s1, .slice (some ⟨g, 0, none⟩) n c, .int .i64 x1, .int .i64 y1, .int .i64 s2, .slice (some ⟨h, 0, none⟩) m d, .int .i64 x2, .int .i64 y2], .agg #[.int .i64 i, .int .i64 k, .int .i64 s1, .slice (some ⟨g', 0, none⟩) n c', .int .i64 x1, .int .i64 y1, .int .i64 s2, .slice (some ⟨h', 0, none⟩) m d', .int .i64 x2, .int .i64 y2]] w fun e w' => e = .returned (.bool true) ∧ Below w.heap.size w w' := by
  obtain ⟨W0, hW0⟩ : ∃ W0, (w.alloc (Obj.cells #[.int .i64 i, .int .i64 k, .int .i64 s1, .slice (some ⟨g, 0, none⟩) n c, .int .i64 x1, .int .i64 y1, .int .i64 s2, .slice (some ⟨h, 0, none⟩) m d, .int .i64 x2, .int .i64 y2] 67)).alloc (Obj.cells #[.int .i64 i, .int .i64 k, .int .i64 s1, .slice (some ⟨g', 0, none⟩) n c', .int .i64 x1, .int .i64 y1, .int .i64 s2, .slice (some ⟨h', 0, none⟩) m d', .int .i64 x2, .int .i64 y2] 67) = W0 := ⟨_, rfl⟩
  have hb0 : Below w.heap.size w W0 := by rw [← hW0]; exact ((Below.refl _ _).alloc (Nat.le_refl _) _).alloc (by simp) _
  have k0_0 : W0.cell? ⟨w.heap.size, 0, none⟩ = some (.int .i64 i) := by rw [← hW0]; simp [go_sem]
  have k0_1 : W0.cell? ⟨w.heap.size, 1, none⟩ = some (.int .i64 k) := by rw [← hW0]; simp [go_sem]
  have k0_2 : W0.cell? ⟨w.heap.size, 2, none⟩ = some (.int .i64 s1) := by rw [← hW0]; simp [go_sem]
  have k0_3 : W0.cell? ⟨w.heap.size, 3, none⟩ = some (.slice (some ⟨g, 0, none⟩) n c) := by rw [← hW0]; simp [go_sem]
  have k0_4 : W0.cell? ⟨w.heap.size, 4, none⟩ = some (.int .i64 x1) := by rw [← hW0]; simp [go_sem]
  have k0_5 : W0.cell? ⟨w.heap.size, 5, none⟩ = some (.int .i64 y1) := by rw [← hW0]; simp [go_sem]
  have k0_6 : W0.cell? ⟨w.heap.size, 6, none⟩ = some (.int .i64 s2) := by rw [← hW0]; simp [go_sem]
  have k0_7 : W0.cell? ⟨w.heap.size, 7, none⟩ = some (.slice (some ⟨h, 0, none⟩) m d) := by rw [← hW0]; simp [go_sem]
  have k0_8 : W0.cell? ⟨w.heap.size, 8, none⟩ = some (.int .i64 x2) := by rw [← hW0]; simp [go_sem]
  have k0_9 : W0.cell? ⟨w.heap.size, 9, none⟩ = some (.int .i64 y2) := by rw [← hW0]; simp [go_sem]
  have k1_0 : W0.cell? ⟨w.heap.size + 1, 0, none⟩ = some (.int .i64 i) := by rw [← hW0]; simp [go_sem]
  have k1_1 : W0.cell? ⟨w.heap.size + 1, 1, none⟩ = some (.int .i64 k) := by rw [← hW0]; simp [go_sem]
  have k1_2 : W0.cell? ⟨w.heap.size + 1, 2, none⟩ = some (.int .i64 s1) := by rw [← hW0]; simp [go_sem]
  have k1_3 : W0.cell? ⟨w.heap.size + 1, 3, none⟩ = some (.slice (some ⟨g', 0, none⟩) n c') := by rw [← hW0]; simp [go_sem]
  have k1_4 : W0.cell? ⟨w.heap.size + 1, 4, none⟩ = some (.int .i64 x1) := by rw [← hW0]; simp [go_sem]
  have k1_5 : W0.cell? ⟨w.heap.size + 1, 5, none⟩ = some (.int .i64 y1) := by rw [← hW0]; simp [go_sem]
  have k1_6 : W0.cell? ⟨w.heap.size + 1, 6, none⟩ = some (.int .i64 s2) := by rw [← hW0]; simp [go_sem]
  have k1_7 : W0.cell? ⟨w.heap.size + 1, 7, none⟩ = some (.slice (some ⟨h', 0, none⟩) m d') := by rw [← hW0]; simp [go_sem]
  have k1_8 : W0.cell? ⟨w.heap.size + 1, 8, none⟩ = some (.int .i64 x2) := by rw [← hW0]; simp [go_sem]
  have k1_9 : W0.cell? ⟨w.heap.size + 1, 9, none⟩ = some (.int .i64 y2) := by rw [← hW0]; simp [go_sem]
  have hz : w.heap.size + 1 < W0.heap.size := by rw [← hW0]; simp
  have HK : Hid (∀ U, Below W0.heap.size W0 U → U.cell? ⟨w.heap.size, 0, none⟩ = some (.int .i64 i) ∧ U.cell? ⟨w.heap.size, 1, none⟩ = some (.int .i64 k) ∧ U.cell? ⟨w.heap.size, 2, none⟩ = some (.int .i64 s1) ∧ U.cell? ⟨w.heap.size, 3, none⟩ = some (.slice (some ⟨g, 0, none⟩) n c) ∧ U.cell? ⟨w.heap.size, 4, none⟩ = some (.int .i64 x1) ∧ U.cell? ⟨w.heap.size, 5, none⟩ = some (.int .i64 y1) ∧ U.cell? ⟨w.heap.size, 6, none⟩ = some (.int .i64 s2) ∧ U.cell? ⟨w.heap.size, 7, none⟩ = some (.slice (some ⟨h, 0, none⟩) m d) ∧ U.cell? ⟨w.heap.size, 8, none⟩ = some (.int .i64 x2) ∧ U.cell? ⟨w.heap.size, 9, none⟩ = some (.int .i64 y2) ∧ U.cell? ⟨w.heap.size + 1, 0, none⟩ = some (.int .i64 i) ∧ U.cell? ⟨w.heap.size + 1, 1, none⟩ = some (.int .i64 k) ∧ U.cell? ⟨w.heap.size + 1, 2, none⟩ = some (.int .i64 s1) ∧ U.cell? ⟨w.heap.size + 1, 3, none⟩ = some (.slice (some ⟨g', 0, none⟩) n c') ∧ U.cell? ⟨w.heap.size + 1, 4, none⟩ = some (.int .i64 x1) ∧ U.cell? ⟨w.heap.size + 1, 5, none⟩ = some (.int .i64 y1) ∧ U.cell? ⟨w.heap.size + 1, 6, none⟩ = some (.int .i64 s2) ∧ U.cell? ⟨w.heap.size + 1, 7, none⟩ = some (.slice (some ⟨h', 0, none⟩) m d') ∧ U.cell? ⟨w.heap.size + 1, 8, none⟩ = some (.int .i64 x2) ∧ U.cell? ⟨w.heap.size + 1, 9, none⟩ = some (.int .i64 y2) ∧ w.heap.size < U.heap.size ∧ w.heap.size + 1 < U.heap.size) := Lib.hid fun U hU => ⟨(hU.cell (p := ⟨w.heap.size, 0, none⟩) (by show w.heap.size < _; omega)).trans k0_0, (hU.cell (p := ⟨w.heap.size, 1, none⟩) (by show w.heap.size < _; omega)).trans k0_1, (hU.cell (p := ⟨w.heap.size, 2, none⟩) (by show w.heap.size < _; omega)).trans k0_2, (hU.cell (p := ⟨w.heap.size, 3, none⟩) (by show w.heap.size < _; omega)).trans k0_3, (hU.cell (p := ⟨w.heap.size, 4, none⟩) (by show w.heap.size < _; omega)).trans k0_4, (hU.cell (p := ⟨w.heap.size, 5, none⟩) (by show w.heap.size < _; omega)).trans k0_5, (hU.cell (p := ⟨w.heap.size, 6, none⟩) (by show w.heap.size < _; omega)).trans k0_6, (hU.cell (p := ⟨w.heap.size, 7, none⟩) (by show w.heap.size < _; omega)).trans k0_7, (hU.cell (p := ⟨w.heap.size, 8, none⟩) (by show w.heap.size < _; omega)).trans k0_8, (hU.cell (p := ⟨w.heap.size, 9, none⟩) (by show w.heap.size < _; omega)).trans k0_9, (hU.cell (p := ⟨w.heap.size + 1, 0, none⟩) (by show w.heap.size + 1 < _; omega)).trans k1_0, (hU.cell (p := ⟨w.heap.size + 1, 1, none⟩) (by show w.heap.size + 1 < _; omega)).trans k1_1, (hU.cell (p := ⟨w.heap.size + 1, 2, none⟩) (by show w.heap.size + 1 < _; omega)).trans k1_2, (hU.cell (p := ⟨w.heap.size + 1, 3, none⟩) (by show w.heap.size + 1 < _; omega)).trans k1_3, (hU.cell (p := ⟨w.heap.size + 1, 4, none⟩) (by show w.heap.size + 1 < _; omega)).trans k1_4, (hU.cell (p := ⟨w.heap.size + 1, 5, none⟩) (by show w.heap.size + 1 < _; omega)).trans k1_5, (hU.cell (p := ⟨w.heap.size + 1, 6, none⟩) (by show w.heap.size + 1 < _; omega)).trans k1_6, (hU.cell (p := ⟨w.heap.size + 1, 7, none⟩) (by show w.heap.size + 1 < _; omega)).trans k1_7, (hU.cell (p := ⟨w.heap.size + 1, 8, none⟩) (by show w.heap.size + 1 < _; omega)).trans k1_8, (hU.cell (p := ⟨w.heap.size + 1, 9, none⟩) (by show w.heap.size + 1 < _; omega)).trans k1_9, by have := hU.size; omega, by have := hU.size; omega⟩
  have HB0 := Lib.hid hb0
  have CE1 := Lib.hid (fun (U : World) (hU : Below W0.heap.size W0 U) => eqRt s1 g g' n c c' zs U hn hs (hr.moved (hb0.trans (hU.mono hb0.size))) (hr'.moved (hb0.trans (hU.mono hb0.size))))
  have CE2 := Lib.hid (fun (U : World) (hU : Below W0.heap.size W0 U) => eqRt s2 h h' m d d' us U hm hsm (hq.moved (hb0.trans (hU.mono hb0.size))) (hq'.moved (hb0.trans (hU.mono hb0.size))))
  clear k0_0 k0_1 k0_2 k0_3 k0_4 k0_5 k0_6 k0_7 k0_8 k0_9 k1_0 k1_1 k1_2 k1_3 k1_4 k1_5 k1_6 k1_7 k1_8 k1_9 hb0 hz
  go_enter Tryd.func38, Tryd.ntmps38
  obtain ⟨q0, q1, q2, q3, q4, q5, q6, q7, q8, q9, q10, q11, q12, q13, q14, q15, q16, q17, q18, q19, q20, q21⟩ := HK.out W0 (Below.refl _ _)
  go_wp2_with fail
  try rw [hW0]
  clear hW0 q0 q1 q2 q3 q4 q5 q6 q7 q8 q9 q10 q11 q12 q13 q14 q15 q16 q17 q18 q19 q20 q21
  refine (CE1.out _ (Below.refl _ _)).mono ?_
  rintro e w1 ⟨rfl, hb1⟩
  have HU1 : Hid (Below W0.heap.size W0 w1) := Lib.hid (hb1)
  clear hb1
  obtain ⟨q0, q1, q2, q3, q4, q5, q6, q7, q8, q9, q10, q11, q12, q13, q14, q15, q16, q17, q18, q19, q20, q21⟩ := HK.out w1 HU1.out
  go_wp2_with fail
  clear q0 q1 q2 q3 q4 q5 q6 q7 q8 q9 q10 q11 q12 q13 q14 q15 q16 q17 q18 q19 q20 q21
  refine (eqBlk x1 y1 _).mono ?_
  rintro e w2 ⟨rfl, hb2⟩
  have HU2 : Hid (Below W0.heap.size W0 w2) := Lib.hid (HU1.out.trans (hb2.mono HU1.out.size))
  clear hb2
  obtain ⟨q0, q1, q2, q3, q4, q5, q6, q7, q8, q9, q10, q11, q12, q13, q14, q15, q16, q17, q18, q19, q20, q21⟩ := HK.out w2 HU2.out
  go_wp2_with fail
  clear q0 q1 q2 q3 q4 q5 q6 q7 q8 q9 q10 q11 q12 q13 q14 q15 q16 q17 q18 q19 q20 q21
  refine (CE2.out _ HU2.out).mono ?_
  rintro e w3 ⟨rfl, hb3⟩
  have HU3 : Hid (Below W0.heap.size W0 w3) := Lib.hid (HU2.out.trans (hb3.mono HU2.out.size))
  clear hb3
  obtain ⟨q0, q1, q2, q3, q4, q5, q6, q7, q8, q9, q10, q11, q12, q13, q14, q15, q16, q17, q18, q19, q20, q21⟩ := HK.out w3 HU3.out
  go_wp2_with fail
  clear q0 q1 q2 q3 q4 q5 q6 q7 q8 q9 q10 q11 q12 q13 q14 q15 q16 q17 q18 q19 q20 q21
  refine (eqBlk x2 y2 _).mono ?_
  rintro e w4 ⟨rfl, hb4⟩
  have HU4 : Hid (Below W0.heap.size W0 w4) := Lib.hid (HU3.out.trans (hb4.mono HU3.out.size))
  clear hb4
  go_wp2
  go_ret
  exact ⟨rfl, HB0.out.trans (HU4.out.mono HB0.out.size)⟩
end Go.Proofs.YtlgkjidginibdaaDoor
