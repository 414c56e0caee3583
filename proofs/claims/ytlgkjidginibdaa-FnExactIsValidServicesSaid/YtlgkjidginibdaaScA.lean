/- Whether two services are compatible: contracts of both sides. No condition but those typed. -/
import Derived.Test.YtlgkjidginibdaaScK
import Derived.Test.YtlgkjidginibdaaScJ
import Derived.Test.YtlgkjidginibdaaScS
namespace Go.Proofs.Ytlgkjidginibdaa
open Go.ChangeShapes Go.WideShapes Go.ChangeAt Go.RowKit


noncomputable def acB (ss : List ByteArray) (fs : List Q4) (d e : SvD) : Bool := pb (netP ss fs) && (pb (svP ss fs d) && pb (svP ss fs e))
noncomputable def acV (ss : List ByteArray) (fs : List Q4) (d e : SvD) : Bool := acB ss fs d e && coD fs d e
noncomputable def acR (ss : List ByteArray) (fs : List Q4) (d e : SvD) : Value := .tuple #[.bool (acV ss fs d e), .bool (acB ss fs d e)]
theorem ac_no {ss : List ByteArray} {fs : List Q4} {d e : SvD} (h : acB ss fs d e = false) : (.tuple #[.bool false, .bool false] : Value) = acR ss fs d e := by unfold acR acV; rw [h]; rfl
theorem ac_yes {ss : List ByteArray} {fs : List Q4} {d e : SvD} (h : acB ss fs d e = true) : (.tuple #[.bool (coD fs d e), .bool true] : Value) = acR ss fs d e := by unfold acR acV; rw [h]; rfl
set_option maxRecDepth 100000 in
set_option maxHeartbeats 4000000 in
theorem specAC {g1 g2 n1 n2 c1 c2_ : Nat} {ss : List ByteArray} {fs : List Q4} {w : World} (h : NetAt g1 g2 n1 n2 c1 c2_ ss fs w) (x y : Sv) (hx : SvAt w x) (hy : SvAt w y) :
    Calls Try.prog 14 #[.agg #[.slice (some ⟨g1, 0, none⟩) n1 c1, .slice (some ⟨g2, 0, none⟩) n2 c2_], .agg #[.int .i64 x.i, .int .i64 x.k, .int .i64 x.s1, .slice x.A x.n x.c, .int .i64 x.x1, .int .i64 x.y1, .int .i64 x.s2, .slice x.A2 x.m x.c2, .int .i64 x.x2, .int .i64 x.y2], .agg #[.int .i64 y.i, .int .i64 y.k, .int .i64 y.s1, .slice y.A y.n y.c, .int .i64 y.x1, .int .i64 y.y1, .int .i64 y.s2, .slice y.A2 y.m y.c2, .int .i64 y.x2, .int .i64 y.y2]] w (RetP (acR ss fs x.d y.d) w) := by
  have HNT := Lib.hid h
  obtain ⟨R, hRR⟩ : ∃ R, acR ss fs x.d y.d = R := ⟨_, rfl⟩
  rw [hRR]
  have HNO : Hid (acB ss fs x.d y.d = false → (.tuple #[.bool false, .bool false] : Value) = R) := Lib.hid (fun e => by rw [← hRR]; exact ac_no e)
  have HYES : Hid (acB ss fs x.d y.d = true → (.tuple #[.bool (coD fs x.d y.d), .bool true] : Value) = R) := Lib.hid (fun e => by rw [← hRR]; exact ac_yes e)
  clear hRR h
  have CN := Lib.hid (fun (U : World) (hU : Below w.heap.size w U) => specNet_ (HNT.out.moved hU))
  have CX := Lib.hid (fun (hv : netP ss fs) (U : World) (hU : Below w.heap.size w U) => l13Service_ (c := x.c) (c2 := x.c2) (HNT.out.moved hU) hv x.i x.k x.s1 x.x1 x.y1 x.s2 x.x2 x.y2 hx.1.1 (hx.1.2.2.moved hU) hx.1.2.1 hx.2.1 (hx.2.2.2.moved hU) hx.2.2.1)
  have CY := Lib.hid (fun (hv : netP ss fs) (U : World) (hU : Below w.heap.size w U) => l13Service_ (c := y.c) (c2 := y.c2) (HNT.out.moved hU) hv y.i y.k y.s1 y.x1 y.y1 y.s2 y.x2 y.y2 hy.1.1 (hy.1.2.2.moved hU) hy.1.2.1 hy.2.1 (hy.2.2.2.moved hU) hy.2.2.1)
  have CC := Lib.hid (fun (hv : netP ss fs) (hpx : svP ss fs x.d) (hpy : svP ss fs y.d) (U : World) (hU : Below w.heap.size w U) => l13Compatible_ (c := x.c) (c8 := x.c2) (c3 := y.c) (c9 := y.c2) (HNT.out.moved hU) hv x.i x.k x.s1 x.s2 y.i y.k y.s1 y.s2 ⟨x.x1, x.y1⟩ ⟨x.x2, x.y2⟩ ⟨y.x1, y.y1⟩ ⟨y.x2, y.y2⟩ (fun _ => hpx.2.1.2) (fun e => svP_c2 hpx e) (fun _ => hpy.2.1.2) (fun e => svP_c2 hpy e) hx.1.1 (hx.1.2.2.moved hU) hx.1.2.1 hx.2.1 (hx.2.2.2.moved hU) hx.2.2.1 hy.1.1 (hy.1.2.2.moved hU) hy.1.2.1 hy.2.1 (hy.2.2.2.moved hU) hy.2.2.1 (svP_zs hpx))
  have HCD : Hid (coB (clB x.zs y.zs ⟨x.x1, x.y1⟩ ⟨y.x1, y.y1⟩) (clB x.zs y.us ⟨x.x1, x.y1⟩ ⟨y.x2, y.y2⟩) (clB x.us y.zs ⟨x.x2, x.y2⟩ ⟨y.x1, y.y1⟩) (decide (x.k = 2) && decide (y.k = 2)) (pb (apP fs x.zs y.zs)) (clB x.us y.us ⟨x.x2, x.y2⟩ ⟨y.x2, y.y2⟩) = coD fs x.d y.d) := Lib.hid rfl
  rw [HCD.out] at CC
  clear HCD
  obtain ⟨bx, hbx⟩ : ∃ b, pb (svP ss fs x.d) = b := ⟨_, rfl⟩
  obtain ⟨by_, hby⟩ : ∃ b, pb (svP ss fs y.d) = b := ⟨_, rfl⟩
  obtain ⟨bn, hbn⟩ : ∃ b, pb (netP ss fs) = b := ⟨_, rfl⟩
  have CX2 : Hid (netP ss fs → ∀ U, Below w.heap.size w U → Calls Try.prog 81 #[.agg #[.slice (some ⟨g1, 0, none⟩) n1 c1, .slice (some ⟨g2, 0, none⟩) n2 c2_], .agg #[.int .i64 x.i, .int .i64 x.k, .int .i64 x.s1, .slice x.A x.n x.c, .int .i64 x.x1, .int .i64 x.y1, .int .i64 x.s2, .slice x.A2 x.m x.c2, .int .i64 x.x2, .int .i64 x.y2]] U (RetP (.bool bx) U)) := Lib.hid (by rw [← hbx]; exact CX.out)
  have CY2 : Hid (netP ss fs → ∀ U, Below w.heap.size w U → Calls Try.prog 81 #[.agg #[.slice (some ⟨g1, 0, none⟩) n1 c1, .slice (some ⟨g2, 0, none⟩) n2 c2_], .agg #[.int .i64 y.i, .int .i64 y.k, .int .i64 y.s1, .slice y.A y.n y.c, .int .i64 y.x1, .int .i64 y.y1, .int .i64 y.s2, .slice y.A2 y.m y.c2, .int .i64 y.x2, .int .i64 y.y2]] U (RetP (.bool by_) U)) := Lib.hid (by rw [← hby]; exact CY.out)
  have HBX := Lib.hid hbx; have HBY := Lib.hid hby; have HBN := Lib.hid hbn
  obtain ⟨cd, hcd⟩ : ∃ b, coD fs x.d y.d = b := ⟨_, rfl⟩
  rw [hcd] at CC HYES
  rw [hbn] at CN
  clear CX CY hbx hby hbn hcd
  have HAC : Hid (acB ss fs x.d y.d = (bn && (bx && by_))) := Lib.hid (by unfold acB; rw [HBX.out, HBY.out, HBN.out])
  obtain ⟨ai, ak, as1, aA, an, ac, azs, ax1, ay1, as2, aA2, am, ac2, aus, ax2, ay2⟩ := x
  obtain ⟨bi, bk, bs1, bA, bn_, bc, bzs, bx1, by1, bs2, bA2, bm, bc2, bus, bx2, by2⟩ := y
  clear hx hy
  simp only at CX2 CY2 CC
  obtain ⟨W0, hW0⟩ : ∃ W0, ((w.alloc (Obj.cells #[.slice (some ⟨g1, 0, none⟩) n1 c1, .slice (some ⟨g2, 0, none⟩) n2 c2_] 39)).alloc (Obj.cells #[.int .i64 ai, .int .i64 ak, .int .i64 as1, .slice aA an ac, .int .i64 ax1, .int .i64 ay1, .int .i64 as2, .slice aA2 am ac2, .int .i64 ax2, .int .i64 ay2] 44)).alloc (Obj.cells #[.int .i64 bi, .int .i64 bk, .int .i64 bs1, .slice bA bn_ bc, .int .i64 bx1, .int .i64 by1, .int .i64 bs2, .slice bA2 bm bc2, .int .i64 bx2, .int .i64 by2] 44) = W0 := ⟨_, rfl⟩
  have hb0 : Below w.heap.size w W0 := by rw [← hW0]; exact (((Below.refl _ _).alloc (Nat.le_refl _) _).alloc (by simp) _).alloc (by simp; omega) _
  have k0_0 : W0.cell? ⟨w.heap.size, 0, none⟩ = some (.slice (some ⟨g1, 0, none⟩) n1 c1) := by rw [← hW0]; simp [go_sem]
  have k0_1 : W0.cell? ⟨w.heap.size, 1, none⟩ = some (.slice (some ⟨g2, 0, none⟩) n2 c2_) := by rw [← hW0]; simp [go_sem]
  have k1_0 : W0.cell? ⟨w.heap.size + 1, 0, none⟩ = some (.int .i64 ai) := by rw [← hW0]; simp [go_sem]
  have k1_1 : W0.cell? ⟨w.heap.size + 1, 1, none⟩ = some (.int .i64 ak) := by rw [← hW0]; simp [go_sem]
  have k1_2 : W0.cell? ⟨w.heap.size + 1, 2, none⟩ = some (.int .i64 as1) := by rw [← hW0]; simp [go_sem]
  have k1_3 : W0.cell? ⟨w.heap.size + 1, 3, none⟩ = some (.slice aA an ac) := by rw [← hW0]; simp [go_sem]
  have k1_4 : W0.cell? ⟨w.heap.size + 1, 4, none⟩ = some (.int .i64 ax1) := by rw [← hW0]; simp [go_sem]
  have k1_5 : W0.cell? ⟨w.heap.size + 1, 5, none⟩ = some (.int .i64 ay1) := by rw [← hW0]; simp [go_sem]
  have k1_6 : W0.cell? ⟨w.heap.size + 1, 6, none⟩ = some (.int .i64 as2) := by rw [← hW0]; simp [go_sem]
  have k1_7 : W0.cell? ⟨w.heap.size + 1, 7, none⟩ = some (.slice aA2 am ac2) := by rw [← hW0]; simp [go_sem]
  have k1_8 : W0.cell? ⟨w.heap.size + 1, 8, none⟩ = some (.int .i64 ax2) := by rw [← hW0]; simp [go_sem]
  have k1_9 : W0.cell? ⟨w.heap.size + 1, 9, none⟩ = some (.int .i64 ay2) := by rw [← hW0]; simp [go_sem]
  have k2_0 : W0.cell? ⟨w.heap.size + 1 + 1, 0, none⟩ = some (.int .i64 bi) := by rw [← hW0]; simp [go_sem]
  have k2_1 : W0.cell? ⟨w.heap.size + 1 + 1, 1, none⟩ = some (.int .i64 bk) := by rw [← hW0]; simp [go_sem]
  have k2_2 : W0.cell? ⟨w.heap.size + 1 + 1, 2, none⟩ = some (.int .i64 bs1) := by rw [← hW0]; simp [go_sem]
  have k2_3 : W0.cell? ⟨w.heap.size + 1 + 1, 3, none⟩ = some (.slice bA bn_ bc) := by rw [← hW0]; simp [go_sem]
  have k2_4 : W0.cell? ⟨w.heap.size + 1 + 1, 4, none⟩ = some (.int .i64 bx1) := by rw [← hW0]; simp [go_sem]
  have k2_5 : W0.cell? ⟨w.heap.size + 1 + 1, 5, none⟩ = some (.int .i64 by1) := by rw [← hW0]; simp [go_sem]
  have k2_6 : W0.cell? ⟨w.heap.size + 1 + 1, 6, none⟩ = some (.int .i64 bs2) := by rw [← hW0]; simp [go_sem]
  have k2_7 : W0.cell? ⟨w.heap.size + 1 + 1, 7, none⟩ = some (.slice bA2 bm bc2) := by rw [← hW0]; simp [go_sem]
  have k2_8 : W0.cell? ⟨w.heap.size + 1 + 1, 8, none⟩ = some (.int .i64 bx2) := by rw [← hW0]; simp [go_sem]
  have k2_9 : W0.cell? ⟨w.heap.size + 1 + 1, 9, none⟩ = some (.int .i64 by2) := by rw [← hW0]; simp [go_sem]
  have hz : w.heap.size + 1 + 1 < W0.heap.size := by rw [← hW0]; simp
  have HK : Hid (∀ U, Below W0.heap.size W0 U → U.cell? ⟨w.heap.size, 0, none⟩ = some (.slice (some ⟨g1, 0, none⟩) n1 c1) ∧ U.cell? ⟨w.heap.size, 1, none⟩ = some (.slice (some ⟨g2, 0, none⟩) n2 c2_) ∧ w.heap.size < U.heap.size ∧ U.cell? ⟨w.heap.size + 1, 0, none⟩ = some (.int .i64 ai) ∧ U.cell? ⟨w.heap.size + 1, 1, none⟩ = some (.int .i64 ak) ∧ U.cell? ⟨w.heap.size + 1, 2, none⟩ = some (.int .i64 as1) ∧ U.cell? ⟨w.heap.size + 1, 3, none⟩ = some (.slice aA an ac) ∧ U.cell? ⟨w.heap.size + 1, 4, none⟩ = some (.int .i64 ax1) ∧ U.cell? ⟨w.heap.size + 1, 5, none⟩ = some (.int .i64 ay1) ∧ U.cell? ⟨w.heap.size + 1, 6, none⟩ = some (.int .i64 as2) ∧ U.cell? ⟨w.heap.size + 1, 7, none⟩ = some (.slice aA2 am ac2) ∧ U.cell? ⟨w.heap.size + 1, 8, none⟩ = some (.int .i64 ax2) ∧ U.cell? ⟨w.heap.size + 1, 9, none⟩ = some (.int .i64 ay2) ∧ w.heap.size + 1 < U.heap.size ∧ U.cell? ⟨w.heap.size + 1 + 1, 0, none⟩ = some (.int .i64 bi) ∧ U.cell? ⟨w.heap.size + 1 + 1, 1, none⟩ = some (.int .i64 bk) ∧ U.cell? ⟨w.heap.size + 1 + 1, 2, none⟩ = some (.int .i64 bs1) ∧ U.cell? ⟨w.heap.size + 1 + 1, 3, none⟩ = some (.slice bA bn_ bc) ∧ U.cell? ⟨w.heap.size + 1 + 1, 4, none⟩ = some (.int .i64 bx1) ∧ U.cell? ⟨w.heap.size + 1 + 1, 5, none⟩ = some (.int .i64 by1) ∧ U.cell? ⟨w.heap.size + 1 + 1, 6, none⟩ = some (.int .i64 bs2) ∧ U.cell? ⟨w.heap.size + 1 + 1, 7, none⟩ = some (.slice bA2 bm bc2) ∧ U.cell? ⟨w.heap.size + 1 + 1, 8, none⟩ = some (.int .i64 bx2) ∧ U.cell? ⟨w.heap.size + 1 + 1, 9, none⟩ = some (.int .i64 by2) ∧ w.heap.size + 1 + 1 < U.heap.size) := Lib.hid fun U hU => ⟨(hU.cell (p := ⟨w.heap.size, 0, none⟩) (by show w.heap.size < _; omega)).trans k0_0, (hU.cell (p := ⟨w.heap.size, 1, none⟩) (by show w.heap.size < _; omega)).trans k0_1, by have := hU.size; omega, (hU.cell (p := ⟨w.heap.size + 1, 0, none⟩) (by show w.heap.size + 1 < _; omega)).trans k1_0, (hU.cell (p := ⟨w.heap.size + 1, 1, none⟩) (by show w.heap.size + 1 < _; omega)).trans k1_1, (hU.cell (p := ⟨w.heap.size + 1, 2, none⟩) (by show w.heap.size + 1 < _; omega)).trans k1_2, (hU.cell (p := ⟨w.heap.size + 1, 3, none⟩) (by show w.heap.size + 1 < _; omega)).trans k1_3, (hU.cell (p := ⟨w.heap.size + 1, 4, none⟩) (by show w.heap.size + 1 < _; omega)).trans k1_4, (hU.cell (p := ⟨w.heap.size + 1, 5, none⟩) (by show w.heap.size + 1 < _; omega)).trans k1_5, (hU.cell (p := ⟨w.heap.size + 1, 6, none⟩) (by show w.heap.size + 1 < _; omega)).trans k1_6, (hU.cell (p := ⟨w.heap.size + 1, 7, none⟩) (by show w.heap.size + 1 < _; omega)).trans k1_7, (hU.cell (p := ⟨w.heap.size + 1, 8, none⟩) (by show w.heap.size + 1 < _; omega)).trans k1_8, (hU.cell (p := ⟨w.heap.size + 1, 9, none⟩) (by show w.heap.size + 1 < _; omega)).trans k1_9, by have := hU.size; omega, (hU.cell (p := ⟨w.heap.size + 1 + 1, 0, none⟩) (by show w.heap.size + 1 + 1 < _; omega)).trans k2_0, (hU.cell (p := ⟨w.heap.size + 1 + 1, 1, none⟩) (by show w.heap.size + 1 + 1 < _; omega)).trans k2_1, (hU.cell (p := ⟨w.heap.size + 1 + 1, 2, none⟩) (by show w.heap.size + 1 + 1 < _; omega)).trans k2_2, (hU.cell (p := ⟨w.heap.size + 1 + 1, 3, none⟩) (by show w.heap.size + 1 + 1 < _; omega)).trans k2_3, (hU.cell (p := ⟨w.heap.size + 1 + 1, 4, none⟩) (by show w.heap.size + 1 + 1 < _; omega)).trans k2_4, (hU.cell (p := ⟨w.heap.size + 1 + 1, 5, none⟩) (by show w.heap.size + 1 + 1 < _; omega)).trans k2_5, (hU.cell (p := ⟨w.heap.size + 1 + 1, 6, none⟩) (by show w.heap.size + 1 + 1 < _; omega)).trans k2_6, (hU.cell (p := ⟨w.heap.size + 1 + 1, 7, none⟩) (by show w.heap.size + 1 + 1 < _; omega)).trans k2_7, (hU.cell (p := ⟨w.heap.size + 1 + 1, 8, none⟩) (by show w.heap.size + 1 + 1 < _; omega)).trans k2_8, (hU.cell (p := ⟨w.heap.size + 1 + 1, 9, none⟩) (by show w.heap.size + 1 + 1 < _; omega)).trans k2_9, by have := hU.size; omega⟩
  have HMV : Hid (∀ U, Below W0.heap.size W0 U → Below w.heap.size w U) := Lib.hid fun U hU => hb0.trans (hU.mono hb0.size)
  clear k0_0 k0_1 k1_0 k1_1 k1_2 k1_3 k1_4 k1_5 k1_6 k1_7 k1_8 k1_9 k2_0 k2_1 k2_2 k2_3 k2_4 k2_5 k2_6 k2_7 k2_8 k2_9 hz hb0
  go_enter Try.func14, Try.ntmps14
  obtain ⟨q0, q1, q2, q3, q4, q5, q6, q7, q8, q9, q10, q11, q12, q13, q14, q15, q16, q17, q18, q19, q20, q21, q22, q23, q24⟩ := HK.out W0 (Below.refl _ _)
  go_wp2_with fail
  try rw [hW0]
  clear hW0 q0 q1 q2 q3 q4 q5 q6 q7 q8 q9 q10 q11 q12 q13 q14 q15 q16 q17 q18 q19 q20 q21 q22 q23 q24
  refine (CN.out _ (HMV.out _ (Below.refl _ _))).mono ?_
  rintro e u1 ⟨rfl, hb⟩
  have HU1 : Hid (Below W0.heap.size W0 u1) := Lib.hid (hb)
  clear hb
  obtain ⟨q0, q1, q2, q3, q4, q5, q6, q7, q8, q9, q10, q11, q12, q13, q14, q15, q16, q17, q18, q19, q20, q21, q22, q23, q24⟩ := HK.out u1 HU1.out
  cases bn
  case false =>
    have HE := Lib.hid (HNO.out (by rw [HAC.out]; rfl))
    go_wp2
    go_ret2
    exact ⟨ret_tupC HE.out, HMV.out _ HU1.out⟩
  case true =>
  have HV := Lib.hid (of_pb HBN.out)
  go_wp2_with fail
  clear q0 q1 q2 q3 q4 q5 q6 q7 q8 q9 q10 q11 q12 q13 q14 q15 q16 q17 q18 q19 q20 q21 q22 q23 q24
  refine (CX2.out HV.out _ (HMV.out _ HU1.out)).mono ?_
  rintro e u2 ⟨rfl, hb⟩
  have HU2 : Hid (Below W0.heap.size W0 u2) := Lib.hid (belT HU1.out hb)
  clear hb
  obtain ⟨q0, q1, q2, q3, q4, q5, q6, q7, q8, q9, q10, q11, q12, q13, q14, q15, q16, q17, q18, q19, q20, q21, q22, q23, q24⟩ := HK.out u2 HU2.out
  cases bx
  case false =>
    have HE := Lib.hid (HNO.out (by rw [HAC.out]; rfl))
    go_wp2
    go_ret2
    exact ⟨ret_tupC HE.out, HMV.out _ HU2.out⟩
  case true =>
  have HPX := Lib.hid (of_pb HBX.out)
  go_wp2_with fail
  clear q0 q1 q2 q3 q4 q5 q6 q7 q8 q9 q10 q11 q12 q13 q14 q15 q16 q17 q18 q19 q20 q21 q22 q23 q24
  refine (CY2.out HV.out _ (HMV.out _ HU2.out)).mono ?_
  rintro e u3 ⟨rfl, hb⟩
  have HU3 : Hid (Below W0.heap.size W0 u3) := Lib.hid (belT HU2.out hb)
  clear hb
  obtain ⟨q0, q1, q2, q3, q4, q5, q6, q7, q8, q9, q10, q11, q12, q13, q14, q15, q16, q17, q18, q19, q20, q21, q22, q23, q24⟩ := HK.out u3 HU3.out
  cases by_
  case false =>
    have HE := Lib.hid (HNO.out (by rw [HAC.out]; rfl))
    go_wp2
    go_ret2
    exact ⟨ret_tupC HE.out, HMV.out _ HU3.out⟩
  case true =>
  have HPY := Lib.hid (of_pb HBY.out)
  have HE := Lib.hid (HYES.out (by rw [HAC.out]; rfl))
  go_wp2_with fail
  clear q0 q1 q2 q3 q4 q5 q6 q7 q8 q9 q10 q11 q12 q13 q14 q15 q16 q17 q18 q19 q20 q21 q22 q23 q24
  refine (CC.out HV.out HPX.out HPY.out _ (HMV.out _ HU3.out)).mono ?_
  rintro e u4 ⟨rfl, hb⟩
  have HU4 : Hid (Below W0.heap.size W0 u4) := Lib.hid (belT HU3.out hb)
  clear hb
  go_wp2
  go_ret2
  exact ⟨ret_tupC HE.out, HMV.out _ HU4.out⟩
set_option maxRecDepth 100000 in
set_option maxHeartbeats 4000000 in
theorem implAC {g1 g2 n1 n2 c1 c2_ : Nat} {ss : List ByteArray} {fs : List Q4} {w : World} (h : NetAt g1 g2 n1 n2 c1 c2_ ss fs w) (x y : Sv) (hx : SvAt w x) (hy : SvAt w y) :
    Calls Try.prog 17 #[.agg #[.slice (some ⟨g1, 0, none⟩) n1 c1, .slice (some ⟨g2, 0, none⟩) n2 c2_], .agg #[.int .i64 x.i, .int .i64 x.k, .int .i64 x.s1, .slice x.A x.n x.c, .int .i64 x.x1, .int .i64 x.y1, .int .i64 x.s2, .slice x.A2 x.m x.c2, .int .i64 x.x2, .int .i64 x.y2], .agg #[.int .i64 y.i, .int .i64 y.k, .int .i64 y.s1, .slice y.A y.n y.c, .int .i64 y.x1, .int .i64 y.y1, .int .i64 y.s2, .slice y.A2 y.m y.c2, .int .i64 y.x2, .int .i64 y.y2]] w (RetP (acR ss fs x.d y.d) w) := by
  have HNT := Lib.hid h
  obtain ⟨R, hRR⟩ : ∃ R, acR ss fs x.d y.d = R := ⟨_, rfl⟩
  rw [hRR]
  have HNO : Hid (acB ss fs x.d y.d = false → (.tuple #[.bool false, .bool false] : Value) = R) := Lib.hid (fun e => by rw [← hRR]; exact ac_no e)
  have HYES : Hid (acB ss fs x.d y.d = true → (.tuple #[.bool (coD fs x.d y.d), .bool true] : Value) = R) := Lib.hid (fun e => by rw [← hRR]; exact ac_yes e)
  clear hRR h
  have CN := Lib.hid (fun (U : World) (hU : Below w.heap.size w U) => implNet_ (HNT.out.moved hU))
  have CX := Lib.hid (fun (hv : netP ss fs) (U : World) (hU : Below w.heap.size w U) => isServiceOf_ (c := x.c) (c2 := x.c2) (HNT.out.moved hU) hv x.i x.k x.s1 x.x1 x.y1 x.s2 x.x2 x.y2 hx.1.1 (hx.1.2.2.moved hU) hx.1.2.1 hx.2.1 (hx.2.2.2.moved hU) hx.2.2.1)
  have CY := Lib.hid (fun (hv : netP ss fs) (U : World) (hU : Below w.heap.size w U) => isServiceOf_ (c := y.c) (c2 := y.c2) (HNT.out.moved hU) hv y.i y.k y.s1 y.x1 y.y1 y.s2 y.x2 y.y2 hy.1.1 (hy.1.2.2.moved hU) hy.1.2.1 hy.2.1 (hy.2.2.2.moved hU) hy.2.2.1)
  have CC := Lib.hid (fun (hv : netP ss fs) (hpx : svP ss fs x.d) (hpy : svP ss fs y.d) (U : World) (hU : Below w.heap.size w U) => chk_ (HNT.out.moved hU) hv x y (hx.moved hU) (hy.moved hU) hpx hpy)
  obtain ⟨bx, hbx⟩ : ∃ b, pb (svP ss fs x.d) = b := ⟨_, rfl⟩
  obtain ⟨by_, hby⟩ : ∃ b, pb (svP ss fs y.d) = b := ⟨_, rfl⟩
  obtain ⟨bn, hbn⟩ : ∃ b, pb (netP ss fs) = b := ⟨_, rfl⟩
  have CX2 : Hid (netP ss fs → ∀ U, Below w.heap.size w U → Calls Try.prog 86 #[.agg #[.slice (some ⟨g1, 0, none⟩) n1 c1, .slice (some ⟨g2, 0, none⟩) n2 c2_], .agg #[.int .i64 x.i, .int .i64 x.k, .int .i64 x.s1, .slice x.A x.n x.c, .int .i64 x.x1, .int .i64 x.y1, .int .i64 x.s2, .slice x.A2 x.m x.c2, .int .i64 x.x2, .int .i64 x.y2]] U (RetP (.bool bx) U)) := Lib.hid (by rw [← hbx]; exact CX.out)
  have CY2 : Hid (netP ss fs → ∀ U, Below w.heap.size w U → Calls Try.prog 86 #[.agg #[.slice (some ⟨g1, 0, none⟩) n1 c1, .slice (some ⟨g2, 0, none⟩) n2 c2_], .agg #[.int .i64 y.i, .int .i64 y.k, .int .i64 y.s1, .slice y.A y.n y.c, .int .i64 y.x1, .int .i64 y.y1, .int .i64 y.s2, .slice y.A2 y.m y.c2, .int .i64 y.x2, .int .i64 y.y2]] U (RetP (.bool by_) U)) := Lib.hid (by rw [← hby]; exact CY.out)
  have HBX := Lib.hid hbx; have HBY := Lib.hid hby; have HBN := Lib.hid hbn
  obtain ⟨cd, hcd⟩ : ∃ b, coD fs x.d y.d = b := ⟨_, rfl⟩
  rw [hcd] at CC HYES
  rw [hbn] at CN
  clear CX CY hbx hby hbn hcd
  have HAC : Hid (acB ss fs x.d y.d = (bn && (bx && by_))) := Lib.hid (by unfold acB; rw [HBX.out, HBY.out, HBN.out])
  obtain ⟨ai, ak, as1, aA, an, ac, azs, ax1, ay1, as2, aA2, am, ac2, aus, ax2, ay2⟩ := x
  obtain ⟨bi, bk, bs1, bA, bn_, bc, bzs, bx1, by1, bs2, bA2, bm, bc2, bus, bx2, by2⟩ := y
  clear hx hy
  simp only at CX2 CY2 CC
  obtain ⟨W0, hW0⟩ : ∃ W0, ((w.alloc (Obj.cells #[.slice (some ⟨g1, 0, none⟩) n1 c1, .slice (some ⟨g2, 0, none⟩) n2 c2_] 39)).alloc (Obj.cells #[.int .i64 ai, .int .i64 ak, .int .i64 as1, .slice aA an ac, .int .i64 ax1, .int .i64 ay1, .int .i64 as2, .slice aA2 am ac2, .int .i64 ax2, .int .i64 ay2] 44)).alloc (Obj.cells #[.int .i64 bi, .int .i64 bk, .int .i64 bs1, .slice bA bn_ bc, .int .i64 bx1, .int .i64 by1, .int .i64 bs2, .slice bA2 bm bc2, .int .i64 bx2, .int .i64 by2] 44) = W0 := ⟨_, rfl⟩
  have hb0 : Below w.heap.size w W0 := by rw [← hW0]; exact (((Below.refl _ _).alloc (Nat.le_refl _) _).alloc (by simp) _).alloc (by simp; omega) _
  have k0_0 : W0.cell? ⟨w.heap.size, 0, none⟩ = some (.slice (some ⟨g1, 0, none⟩) n1 c1) := by rw [← hW0]; simp [go_sem]
  have k0_1 : W0.cell? ⟨w.heap.size, 1, none⟩ = some (.slice (some ⟨g2, 0, none⟩) n2 c2_) := by rw [← hW0]; simp [go_sem]
  have k1_0 : W0.cell? ⟨w.heap.size + 1, 0, none⟩ = some (.int .i64 ai) := by rw [← hW0]; simp [go_sem]
  have k1_1 : W0.cell? ⟨w.heap.size + 1, 1, none⟩ = some (.int .i64 ak) := by rw [← hW0]; simp [go_sem]
  have k1_2 : W0.cell? ⟨w.heap.size + 1, 2, none⟩ = some (.int .i64 as1) := by rw [← hW0]; simp [go_sem]
  have k1_3 : W0.cell? ⟨w.heap.size + 1, 3, none⟩ = some (.slice aA an ac) := by rw [← hW0]; simp [go_sem]
  have k1_4 : W0.cell? ⟨w.heap.size + 1, 4, none⟩ = some (.int .i64 ax1) := by rw [← hW0]; simp [go_sem]
  have k1_5 : W0.cell? ⟨w.heap.size + 1, 5, none⟩ = some (.int .i64 ay1) := by rw [← hW0]; simp [go_sem]
  have k1_6 : W0.cell? ⟨w.heap.size + 1, 6, none⟩ = some (.int .i64 as2) := by rw [← hW0]; simp [go_sem]
  have k1_7 : W0.cell? ⟨w.heap.size + 1, 7, none⟩ = some (.slice aA2 am ac2) := by rw [← hW0]; simp [go_sem]
  have k1_8 : W0.cell? ⟨w.heap.size + 1, 8, none⟩ = some (.int .i64 ax2) := by rw [← hW0]; simp [go_sem]
  have k1_9 : W0.cell? ⟨w.heap.size + 1, 9, none⟩ = some (.int .i64 ay2) := by rw [← hW0]; simp [go_sem]
  have k2_0 : W0.cell? ⟨w.heap.size + 1 + 1, 0, none⟩ = some (.int .i64 bi) := by rw [← hW0]; simp [go_sem]
  have k2_1 : W0.cell? ⟨w.heap.size + 1 + 1, 1, none⟩ = some (.int .i64 bk) := by rw [← hW0]; simp [go_sem]
  have k2_2 : W0.cell? ⟨w.heap.size + 1 + 1, 2, none⟩ = some (.int .i64 bs1) := by rw [← hW0]; simp [go_sem]
  have k2_3 : W0.cell? ⟨w.heap.size + 1 + 1, 3, none⟩ = some (.slice bA bn_ bc) := by rw [← hW0]; simp [go_sem]
  have k2_4 : W0.cell? ⟨w.heap.size + 1 + 1, 4, none⟩ = some (.int .i64 bx1) := by rw [← hW0]; simp [go_sem]
  have k2_5 : W0.cell? ⟨w.heap.size + 1 + 1, 5, none⟩ = some (.int .i64 by1) := by rw [← hW0]; simp [go_sem]
  have k2_6 : W0.cell? ⟨w.heap.size + 1 + 1, 6, none⟩ = some (.int .i64 bs2) := by rw [← hW0]; simp [go_sem]
  have k2_7 : W0.cell? ⟨w.heap.size + 1 + 1, 7, none⟩ = some (.slice bA2 bm bc2) := by rw [← hW0]; simp [go_sem]
  have k2_8 : W0.cell? ⟨w.heap.size + 1 + 1, 8, none⟩ = some (.int .i64 bx2) := by rw [← hW0]; simp [go_sem]
  have k2_9 : W0.cell? ⟨w.heap.size + 1 + 1, 9, none⟩ = some (.int .i64 by2) := by rw [← hW0]; simp [go_sem]
  have hz : w.heap.size + 1 + 1 < W0.heap.size := by rw [← hW0]; simp
  have HK : Hid (∀ U, Below W0.heap.size W0 U → U.cell? ⟨w.heap.size, 0, none⟩ = some (.slice (some ⟨g1, 0, none⟩) n1 c1) ∧ U.cell? ⟨w.heap.size, 1, none⟩ = some (.slice (some ⟨g2, 0, none⟩) n2 c2_) ∧ w.heap.size < U.heap.size ∧ U.cell? ⟨w.heap.size + 1, 0, none⟩ = some (.int .i64 ai) ∧ U.cell? ⟨w.heap.size + 1, 1, none⟩ = some (.int .i64 ak) ∧ U.cell? ⟨w.heap.size + 1, 2, none⟩ = some (.int .i64 as1) ∧ U.cell? ⟨w.heap.size + 1, 3, none⟩ = some (.slice aA an ac) ∧ U.cell? ⟨w.heap.size + 1, 4, none⟩ = some (.int .i64 ax1) ∧ U.cell? ⟨w.heap.size + 1, 5, none⟩ = some (.int .i64 ay1) ∧ U.cell? ⟨w.heap.size + 1, 6, none⟩ = some (.int .i64 as2) ∧ U.cell? ⟨w.heap.size + 1, 7, none⟩ = some (.slice aA2 am ac2) ∧ U.cell? ⟨w.heap.size + 1, 8, none⟩ = some (.int .i64 ax2) ∧ U.cell? ⟨w.heap.size + 1, 9, none⟩ = some (.int .i64 ay2) ∧ w.heap.size + 1 < U.heap.size ∧ U.cell? ⟨w.heap.size + 1 + 1, 0, none⟩ = some (.int .i64 bi) ∧ U.cell? ⟨w.heap.size + 1 + 1, 1, none⟩ = some (.int .i64 bk) ∧ U.cell? ⟨w.heap.size + 1 + 1, 2, none⟩ = some (.int .i64 bs1) ∧ U.cell? ⟨w.heap.size + 1 + 1, 3, none⟩ = some (.slice bA bn_ bc) ∧ U.cell? ⟨w.heap.size + 1 + 1, 4, none⟩ = some (.int .i64 bx1) ∧ U.cell? ⟨w.heap.size + 1 + 1, 5, none⟩ = some (.int .i64 by1) ∧ U.cell? ⟨w.heap.size + 1 + 1, 6, none⟩ = some (.int .i64 bs2) ∧ U.cell? ⟨w.heap.size + 1 + 1, 7, none⟩ = some (.slice bA2 bm bc2) ∧ U.cell? ⟨w.heap.size + 1 + 1, 8, none⟩ = some (.int .i64 bx2) ∧ U.cell? ⟨w.heap.size + 1 + 1, 9, none⟩ = some (.int .i64 by2) ∧ w.heap.size + 1 + 1 < U.heap.size) := Lib.hid fun U hU => ⟨(hU.cell (p := ⟨w.heap.size, 0, none⟩) (by show w.heap.size < _; omega)).trans k0_0, (hU.cell (p := ⟨w.heap.size, 1, none⟩) (by show w.heap.size < _; omega)).trans k0_1, by have := hU.size; omega, (hU.cell (p := ⟨w.heap.size + 1, 0, none⟩) (by show w.heap.size + 1 < _; omega)).trans k1_0, (hU.cell (p := ⟨w.heap.size + 1, 1, none⟩) (by show w.heap.size + 1 < _; omega)).trans k1_1, (hU.cell (p := ⟨w.heap.size + 1, 2, none⟩) (by show w.heap.size + 1 < _; omega)).trans k1_2, (hU.cell (p := ⟨w.heap.size + 1, 3, none⟩) (by show w.heap.size + 1 < _; omega)).trans k1_3, (hU.cell (p := ⟨w.heap.size + 1, 4, none⟩) (by show w.heap.size + 1 < _; omega)).trans k1_4, (hU.cell (p := ⟨w.heap.size + 1, 5, none⟩) (by show w.heap.size + 1 < _; omega)).trans k1_5, (hU.cell (p := ⟨w.heap.size + 1, 6, none⟩) (by show w.heap.size + 1 < _; omega)).trans k1_6, (hU.cell (p := ⟨w.heap.size + 1, 7, none⟩) (by show w.heap.size + 1 < _; omega)).trans k1_7, (hU.cell (p := ⟨w.heap.size + 1, 8, none⟩) (by show w.heap.size + 1 < _; omega)).trans k1_8, (hU.cell (p := ⟨w.heap.size + 1, 9, none⟩) (by show w.heap.size + 1 < _; omega)).trans k1_9, by have := hU.size; omega, (hU.cell (p := ⟨w.heap.size + 1 + 1, 0, none⟩) (by show w.heap.size + 1 + 1 < _; omega)).trans k2_0, (hU.cell (p := ⟨w.heap.size + 1 + 1, 1, none⟩) (by show w.heap.size + 1 + 1 < _; omega)).trans k2_1, (hU.cell (p := ⟨w.heap.size + 1 + 1, 2, none⟩) (by show w.heap.size + 1 + 1 < _; omega)).trans k2_2, (hU.cell (p := ⟨w.heap.size + 1 + 1, 3, none⟩) (by show w.heap.size + 1 + 1 < _; omega)).trans k2_3, (hU.cell (p := ⟨w.heap.size + 1 + 1, 4, none⟩) (by show w.heap.size + 1 + 1 < _; omega)).trans k2_4, (hU.cell (p := ⟨w.heap.size + 1 + 1, 5, none⟩) (by show w.heap.size + 1 + 1 < _; omega)).trans k2_5, (hU.cell (p := ⟨w.heap.size + 1 + 1, 6, none⟩) (by show w.heap.size + 1 + 1 < _; omega)).trans k2_6, (hU.cell (p := ⟨w.heap.size + 1 + 1, 7, none⟩) (by show w.heap.size + 1 + 1 < _; omega)).trans k2_7, (hU.cell (p := ⟨w.heap.size + 1 + 1, 8, none⟩) (by show w.heap.size + 1 + 1 < _; omega)).trans k2_8, (hU.cell (p := ⟨w.heap.size + 1 + 1, 9, none⟩) (by show w.heap.size + 1 + 1 < _; omega)).trans k2_9, by have := hU.size; omega⟩
  have HMV : Hid (∀ U, Below W0.heap.size W0 U → Below w.heap.size w U) := Lib.hid fun U hU => hb0.trans (hU.mono hb0.size)
  clear k0_0 k0_1 k1_0 k1_1 k1_2 k1_3 k1_4 k1_5 k1_6 k1_7 k1_8 k1_9 k2_0 k2_1 k2_2 k2_3 k2_4 k2_5 k2_6 k2_7 k2_8 k2_9 hz hb0
  go_enter Try.func17, Try.ntmps17
  obtain ⟨q0, q1, q2, q3, q4, q5, q6, q7, q8, q9, q10, q11, q12, q13, q14, q15, q16, q17, q18, q19, q20, q21, q22, q23, q24⟩ := HK.out W0 (Below.refl _ _)
  go_wp2_with fail
  try rw [hW0]
  clear hW0 q0 q1 q2 q3 q4 q5 q6 q7 q8 q9 q10 q11 q12 q13 q14 q15 q16 q17 q18 q19 q20 q21 q22 q23 q24
  refine (CN.out _ (HMV.out _ (Below.refl _ _))).mono ?_
  rintro e u1 ⟨rfl, hb⟩
  have HU1 : Hid (Below W0.heap.size W0 u1) := Lib.hid (hb)
  clear hb
  obtain ⟨q0, q1, q2, q3, q4, q5, q6, q7, q8, q9, q10, q11, q12, q13, q14, q15, q16, q17, q18, q19, q20, q21, q22, q23, q24⟩ := HK.out u1 HU1.out
  cases bn
  case false =>
    have HE := Lib.hid (HNO.out (by rw [HAC.out]; rfl))
    go_wp2
    go_ret2
    exact ⟨ret_tupC HE.out, HMV.out _ HU1.out⟩
  case true =>
  have HV := Lib.hid (of_pb HBN.out)
  go_wp2_with fail
  clear q0 q1 q2 q3 q4 q5 q6 q7 q8 q9 q10 q11 q12 q13 q14 q15 q16 q17 q18 q19 q20 q21 q22 q23 q24
  refine (CX2.out HV.out _ (HMV.out _ HU1.out)).mono ?_
  rintro e u2 ⟨rfl, hb⟩
  have HU2 : Hid (Below W0.heap.size W0 u2) := Lib.hid (belT HU1.out hb)
  clear hb
  obtain ⟨q0, q1, q2, q3, q4, q5, q6, q7, q8, q9, q10, q11, q12, q13, q14, q15, q16, q17, q18, q19, q20, q21, q22, q23, q24⟩ := HK.out u2 HU2.out
  cases bx
  case false =>
    have HE := Lib.hid (HNO.out (by rw [HAC.out]; rfl))
    go_wp2
    go_ret2
    exact ⟨ret_tupC HE.out, HMV.out _ HU2.out⟩
  case true =>
  have HPX := Lib.hid (of_pb HBX.out)
  go_wp2_with fail
  clear q0 q1 q2 q3 q4 q5 q6 q7 q8 q9 q10 q11 q12 q13 q14 q15 q16 q17 q18 q19 q20 q21 q22 q23 q24
  refine (CY2.out HV.out _ (HMV.out _ HU2.out)).mono ?_
  rintro e u3 ⟨rfl, hb⟩
  have HU3 : Hid (Below W0.heap.size W0 u3) := Lib.hid (belT HU2.out hb)
  clear hb
  obtain ⟨q0, q1, q2, q3, q4, q5, q6, q7, q8, q9, q10, q11, q12, q13, q14, q15, q16, q17, q18, q19, q20, q21, q22, q23, q24⟩ := HK.out u3 HU3.out
  cases by_
  case false =>
    have HE := Lib.hid (HNO.out (by rw [HAC.out]; rfl))
    go_wp2
    go_ret2
    exact ⟨ret_tupC HE.out, HMV.out _ HU3.out⟩
  case true =>
  have HPY := Lib.hid (of_pb HBY.out)
  have HE := Lib.hid (HYES.out (by rw [HAC.out]; rfl))
  go_wp2_with fail
  clear q0 q1 q2 q3 q4 q5 q6 q7 q8 q9 q10 q11 q12 q13 q14 q15 q16 q17 q18 q19 q20 q21 q22 q23 q24
  refine (CC.out HV.out HPX.out HPY.out _ (HMV.out _ HU3.out)).mono ?_
  rintro e u4 ⟨v, rfl, HVV, hb⟩
  have HU4 : Hid (Below W0.heap.size W0 u4) := Lib.hid (belT HU3.out hb)
  clear hb
  rcases HVV.out with ⟨hc, rfl⟩ | ⟨hc, p, rfl⟩
  · subst hc
    clear HVV
    go_wp2
    go_ret2
    exact ⟨ret_tupC HE.out, HMV.out _ HU4.out⟩
  · subst hc
    clear HVV
    go_wp2
    go_ret2
    exact ⟨ret_tupC HE.out, HMV.out _ HU4.out⟩
end Go.Proofs.Ytlgkjidginibdaa
