/- Whether two services are compatible: contract of spec.l13Compatible. No condition but those typed. -/
import Derived.Test.YtlgkjidginibdaaDoorScL
import Derived.Test.YtlgkjidginibdaaDoorRsk
namespace Go.Proofs.YtlgkjidginibdaaDoor
open Go.ChangeShapes Go.WideShapes Go.ChangeAt Go.RowKit

def coB (u1 u2 u3 kk ap u4 : Bool) : Bool := !(u1 || (u2 || u3)) && ((kk && ap) || !u4)
set_option maxRecDepth 100000 in
set_option maxHeartbeats 4000000 in
theorem l13Compatible_ {g1 g2 n1 n2 c1 c2 : Nat} {ss : List ByteArray} {fs : List Q4} {w : World} (h : NetAt g1 g2 n1 n2 c1 c2 ss fs w) (hv : netP ss fs) (ai ak as1 as2 bi bk bs1 bs2 : Int) (p p2 q q2 : Q2) (hp : 0 < p.b → blkP p.a p.b) (hp2 : 0 < p2.b → blkP p2.a p2.b) (hq : 0 < q.b → blkP q.a q.b) (hq2 : 0 < q2.b → blkP q2.a q2.b)
    {A : Option Addr} {n c : Nat} {xs : List Int} (hn : xs.length = n) (hr : Rd w w.heap.size A (xs.map (Value.int .i64))) (hx : n ≤ 1048576) {A8 : Option Addr} {n8 c8 : Nat} {xs2 : List Int} (hn8 : xs2.length = n8) (hr8 : Rd w w.heap.size A8 (xs2.map (Value.int .i64))) (hx8 : n8 ≤ 1048576)
    {A2 : Option Addr} {m c3 : Nat} {ys : List Int} (hm : ys.length = m) (hr2 : Rd w w.heap.size A2 (ys.map (Value.int .i64))) (hx2 : m ≤ 1048576) {A9 : Option Addr} {n9 c9 : Nat} {ys2 : List Int} (hm9 : ys2.length = n9) (hr9 : Rd w w.heap.size A9 (ys2.map (Value.int .i64))) (hx9 : n9 ≤ 1048576) (hmx : ∀ x ∈ xs, 0 ≤ x ∧ x < fs.length) :
    Calls Tryd.prog 57 #[.agg #[.slice (some ⟨g1, 0, none⟩) n1 c1, .slice (some ⟨g2, 0, none⟩) n2 c2], .agg #[.int .i64 ai, .int .i64 ak, .int .i64 as1, .slice A n c, .int .i64 p.a, .int .i64 p.b, .int .i64 as2, .slice A8 n8 c8, .int .i64 p2.a, .int .i64 p2.b], .agg #[.int .i64 bi, .int .i64 bk, .int .i64 bs1, .slice A2 m c3, .int .i64 q.a, .int .i64 q.b, .int .i64 bs2, .slice A9 n9 c9, .int .i64 q2.a, .int .i64 q2.b]] w (RetP (.bool (coB (clB xs ys p q) (clB xs ys2 p q2) (clB xs2 ys p2 q) (decide (ak = 2) && decide (bk = 2)) (pb (apP fs xs ys)) (clB xs2 ys2 p2 q2))) w) := by
  have HN := Lib.hid hn; have HR := Lib.hid hr; have HN8 := Lib.hid hn8; have HR8 := Lib.hid hr8; have HM := Lib.hid hm; have HR2 := Lib.hid hr2; have HM9 := Lib.hid hm9; have HR9 := Lib.hid hr9; have HNT := Lib.hid h; have HV := Lib.hid hv; have HMX := Lib.hid hmx
  clear hn hr hn8 hr8 hm hr2 hm9 hr9 h hv hmx
  obtain ⟨W0, hW0⟩ : ∃ W0, ((w.alloc (Obj.cells #[.slice (some ⟨g1, 0, none⟩) n1 c1, .slice (some ⟨g2, 0, none⟩) n2 c2] 34)).alloc (Obj.cells #[.int .i64 ai, .int .i64 ak, .int .i64 as1, .slice A n c, .int .i64 p.a, .int .i64 p.b, .int .i64 as2, .slice A8 n8 c8, .int .i64 p2.a, .int .i64 p2.b] 67)).alloc (Obj.cells #[.int .i64 bi, .int .i64 bk, .int .i64 bs1, .slice A2 m c3, .int .i64 q.a, .int .i64 q.b, .int .i64 bs2, .slice A9 n9 c9, .int .i64 q2.a, .int .i64 q2.b] 67) = W0 := ⟨_, rfl⟩
  have hb0 : Below w.heap.size w W0 := by rw [← hW0]; exact (((Below.refl _ _).alloc (Nat.le_refl _) _).alloc (by simp) _).alloc (by simp; omega) _
  have k0_0 : W0.cell? ⟨w.heap.size, 0, none⟩ = some (.slice (some ⟨g1, 0, none⟩) n1 c1) := by rw [← hW0]; simp [go_sem]
  have k0_1 : W0.cell? ⟨w.heap.size, 1, none⟩ = some (.slice (some ⟨g2, 0, none⟩) n2 c2) := by rw [← hW0]; simp [go_sem]
  have k1_0 : W0.cell? ⟨w.heap.size + 1, 0, none⟩ = some (.int .i64 ai) := by rw [← hW0]; simp [go_sem]
  have k1_1 : W0.cell? ⟨w.heap.size + 1, 1, none⟩ = some (.int .i64 ak) := by rw [← hW0]; simp [go_sem]
  have k1_2 : W0.cell? ⟨w.heap.size + 1, 2, none⟩ = some (.int .i64 as1) := by rw [← hW0]; simp [go_sem]
  have k1_3 : W0.cell? ⟨w.heap.size + 1, 3, none⟩ = some (.slice A n c) := by rw [← hW0]; simp [go_sem]
  have k1_4 : W0.cell? ⟨w.heap.size + 1, 4, none⟩ = some (.int .i64 p.a) := by rw [← hW0]; simp [go_sem]
  have k1_5 : W0.cell? ⟨w.heap.size + 1, 5, none⟩ = some (.int .i64 p.b) := by rw [← hW0]; simp [go_sem]
  have k1_6 : W0.cell? ⟨w.heap.size + 1, 6, none⟩ = some (.int .i64 as2) := by rw [← hW0]; simp [go_sem]
  have k1_7 : W0.cell? ⟨w.heap.size + 1, 7, none⟩ = some (.slice A8 n8 c8) := by rw [← hW0]; simp [go_sem]
  have k1_8 : W0.cell? ⟨w.heap.size + 1, 8, none⟩ = some (.int .i64 p2.a) := by rw [← hW0]; simp [go_sem]
  have k1_9 : W0.cell? ⟨w.heap.size + 1, 9, none⟩ = some (.int .i64 p2.b) := by rw [← hW0]; simp [go_sem]
  have k2_0 : W0.cell? ⟨w.heap.size + 1 + 1, 0, none⟩ = some (.int .i64 bi) := by rw [← hW0]; simp [go_sem]
  have k2_1 : W0.cell? ⟨w.heap.size + 1 + 1, 1, none⟩ = some (.int .i64 bk) := by rw [← hW0]; simp [go_sem]
  have k2_2 : W0.cell? ⟨w.heap.size + 1 + 1, 2, none⟩ = some (.int .i64 bs1) := by rw [← hW0]; simp [go_sem]
  have k2_3 : W0.cell? ⟨w.heap.size + 1 + 1, 3, none⟩ = some (.slice A2 m c3) := by rw [← hW0]; simp [go_sem]
  have k2_4 : W0.cell? ⟨w.heap.size + 1 + 1, 4, none⟩ = some (.int .i64 q.a) := by rw [← hW0]; simp [go_sem]
  have k2_5 : W0.cell? ⟨w.heap.size + 1 + 1, 5, none⟩ = some (.int .i64 q.b) := by rw [← hW0]; simp [go_sem]
  have k2_6 : W0.cell? ⟨w.heap.size + 1 + 1, 6, none⟩ = some (.int .i64 bs2) := by rw [← hW0]; simp [go_sem]
  have k2_7 : W0.cell? ⟨w.heap.size + 1 + 1, 7, none⟩ = some (.slice A9 n9 c9) := by rw [← hW0]; simp [go_sem]
  have k2_8 : W0.cell? ⟨w.heap.size + 1 + 1, 8, none⟩ = some (.int .i64 q2.a) := by rw [← hW0]; simp [go_sem]
  have k2_9 : W0.cell? ⟨w.heap.size + 1 + 1, 9, none⟩ = some (.int .i64 q2.b) := by rw [← hW0]; simp [go_sem]
  have hz : w.heap.size + 1 + 1 < W0.heap.size := by rw [← hW0]; simp
  have HK : Hid (∀ U, Below W0.heap.size W0 U → U.cell? ⟨w.heap.size, 0, none⟩ = some (.slice (some ⟨g1, 0, none⟩) n1 c1) ∧ U.cell? ⟨w.heap.size, 1, none⟩ = some (.slice (some ⟨g2, 0, none⟩) n2 c2) ∧ w.heap.size < U.heap.size ∧ U.cell? ⟨w.heap.size + 1, 0, none⟩ = some (.int .i64 ai) ∧ U.cell? ⟨w.heap.size + 1, 1, none⟩ = some (.int .i64 ak) ∧ U.cell? ⟨w.heap.size + 1, 2, none⟩ = some (.int .i64 as1) ∧ U.cell? ⟨w.heap.size + 1, 3, none⟩ = some (.slice A n c) ∧ U.cell? ⟨w.heap.size + 1, 4, none⟩ = some (.int .i64 p.a) ∧ U.cell? ⟨w.heap.size + 1, 5, none⟩ = some (.int .i64 p.b) ∧ U.cell? ⟨w.heap.size + 1, 6, none⟩ = some (.int .i64 as2) ∧ U.cell? ⟨w.heap.size + 1, 7, none⟩ = some (.slice A8 n8 c8) ∧ U.cell? ⟨w.heap.size + 1, 8, none⟩ = some (.int .i64 p2.a) ∧ U.cell? ⟨w.heap.size + 1, 9, none⟩ = some (.int .i64 p2.b) ∧ w.heap.size + 1 < U.heap.size ∧ U.cell? ⟨w.heap.size + 1 + 1, 0, none⟩ = some (.int .i64 bi) ∧ U.cell? ⟨w.heap.size + 1 + 1, 1, none⟩ = some (.int .i64 bk) ∧ U.cell? ⟨w.heap.size + 1 + 1, 2, none⟩ = some (.int .i64 bs1) ∧ U.cell? ⟨w.heap.size + 1 + 1, 3, none⟩ = some (.slice A2 m c3) ∧ U.cell? ⟨w.heap.size + 1 + 1, 4, none⟩ = some (.int .i64 q.a) ∧ U.cell? ⟨w.heap.size + 1 + 1, 5, none⟩ = some (.int .i64 q.b) ∧ U.cell? ⟨w.heap.size + 1 + 1, 6, none⟩ = some (.int .i64 bs2) ∧ U.cell? ⟨w.heap.size + 1 + 1, 7, none⟩ = some (.slice A9 n9 c9) ∧ U.cell? ⟨w.heap.size + 1 + 1, 8, none⟩ = some (.int .i64 q2.a) ∧ U.cell? ⟨w.heap.size + 1 + 1, 9, none⟩ = some (.int .i64 q2.b) ∧ w.heap.size + 1 + 1 < U.heap.size) := Lib.hid fun U hU => ⟨(hU.cell (p := ⟨w.heap.size, 0, none⟩) (by show w.heap.size < _; omega)).trans k0_0, (hU.cell (p := ⟨w.heap.size, 1, none⟩) (by show w.heap.size < _; omega)).trans k0_1, by have := hU.size; omega, (hU.cell (p := ⟨w.heap.size + 1, 0, none⟩) (by show w.heap.size + 1 < _; omega)).trans k1_0, (hU.cell (p := ⟨w.heap.size + 1, 1, none⟩) (by show w.heap.size + 1 < _; omega)).trans k1_1, (hU.cell (p := ⟨w.heap.size + 1, 2, none⟩) (by show w.heap.size + 1 < _; omega)).trans k1_2, (hU.cell (p := ⟨w.heap.size + 1, 3, none⟩) (by show w.heap.size + 1 < _; omega)).trans k1_3, (hU.cell (p := ⟨w.heap.size + 1, 4, none⟩) (by show w.heap.size + 1 < _; omega)).trans k1_4, (hU.cell (p := ⟨w.heap.size + 1, 5, none⟩) (by show w.heap.size + 1 < _; omega)).trans k1_5, (hU.cell (p := ⟨w.heap.size + 1, 6, none⟩) (by show w.heap.size + 1 < _; omega)).trans k1_6, (hU.cell (p := ⟨w.heap.size + 1, 7, none⟩) (by show w.heap.size + 1 < _; omega)).trans k1_7, (hU.cell (p := ⟨w.heap.size + 1, 8, none⟩) (by show w.heap.size + 1 < _; omega)).trans k1_8, (hU.cell (p := ⟨w.heap.size + 1, 9, none⟩) (by show w.heap.size + 1 < _; omega)).trans k1_9, by have := hU.size; omega, (hU.cell (p := ⟨w.heap.size + 1 + 1, 0, none⟩) (by show w.heap.size + 1 + 1 < _; omega)).trans k2_0, (hU.cell (p := ⟨w.heap.size + 1 + 1, 1, none⟩) (by show w.heap.size + 1 + 1 < _; omega)).trans k2_1, (hU.cell (p := ⟨w.heap.size + 1 + 1, 2, none⟩) (by show w.heap.size + 1 + 1 < _; omega)).trans k2_2, (hU.cell (p := ⟨w.heap.size + 1 + 1, 3, none⟩) (by show w.heap.size + 1 + 1 < _; omega)).trans k2_3, (hU.cell (p := ⟨w.heap.size + 1 + 1, 4, none⟩) (by show w.heap.size + 1 + 1 < _; omega)).trans k2_4, (hU.cell (p := ⟨w.heap.size + 1 + 1, 5, none⟩) (by show w.heap.size + 1 + 1 < _; omega)).trans k2_5, (hU.cell (p := ⟨w.heap.size + 1 + 1, 6, none⟩) (by show w.heap.size + 1 + 1 < _; omega)).trans k2_6, (hU.cell (p := ⟨w.heap.size + 1 + 1, 7, none⟩) (by show w.heap.size + 1 + 1 < _; omega)).trans k2_7, (hU.cell (p := ⟨w.heap.size + 1 + 1, 8, none⟩) (by show w.heap.size + 1 + 1 < _; omega)).trans k2_8, (hU.cell (p := ⟨w.heap.size + 1 + 1, 9, none⟩) (by show w.heap.size + 1 + 1 < _; omega)).trans k2_9, by have := hU.size; omega⟩
  have HB0 := Lib.hid hb0
  obtain ⟨u1, hu1⟩ : ∃ u, clB xs ys p q = u := ⟨_, rfl⟩
  have C1 : Hid (∀ U, Below W0.heap.size W0 U → Calls Tryd.prog 85 #[.agg #[.int .i64 as1, .slice A n c], .agg #[.int .i64 p.a, .int .i64 p.b], .agg #[.int .i64 bs1, .slice A2 m c3], .agg #[.int .i64 q.a, .int .i64 q.b]] U (RetP (.bool u1) U)) := Lib.hid fun U hU => by
    have h9 := l13Clash_ as1 A n c xs bs1 A2 m c3 ys p q hp hq U HN.out (HR.out.moved (HB0.out.trans (hU.mono HB0.out.size))) hx HM.out (HR2.out.moved (HB0.out.trans (hU.mono HB0.out.size))) hx2
    rw [hu1] at h9; exact h9
  obtain ⟨u2, hu2⟩ : ∃ u, clB xs ys2 p q2 = u := ⟨_, rfl⟩
  have C2 : Hid (∀ U, Below W0.heap.size W0 U → Calls Tryd.prog 85 #[.agg #[.int .i64 as1, .slice A n c], .agg #[.int .i64 p.a, .int .i64 p.b], .agg #[.int .i64 bs2, .slice A9 n9 c9], .agg #[.int .i64 q2.a, .int .i64 q2.b]] U (RetP (.bool u2) U)) := Lib.hid fun U hU => by
    have h9 := l13Clash_ as1 A n c xs bs2 A9 n9 c9 ys2 p q2 hp hq2 U HN.out (HR.out.moved (HB0.out.trans (hU.mono HB0.out.size))) hx HM9.out (HR9.out.moved (HB0.out.trans (hU.mono HB0.out.size))) hx9
    rw [hu2] at h9; exact h9
  obtain ⟨u3, hu3⟩ : ∃ u, clB xs2 ys p2 q = u := ⟨_, rfl⟩
  have C3 : Hid (∀ U, Below W0.heap.size W0 U → Calls Tryd.prog 85 #[.agg #[.int .i64 as2, .slice A8 n8 c8], .agg #[.int .i64 p2.a, .int .i64 p2.b], .agg #[.int .i64 bs1, .slice A2 m c3], .agg #[.int .i64 q.a, .int .i64 q.b]] U (RetP (.bool u3) U)) := Lib.hid fun U hU => by
    have h9 := l13Clash_ as2 A8 n8 c8 xs2 bs1 A2 m c3 ys p2 q hp2 hq U HN8.out (HR8.out.moved (HB0.out.trans (hU.mono HB0.out.size))) hx8 HM.out (HR2.out.moved (HB0.out.trans (hU.mono HB0.out.size))) hx2
    rw [hu3] at h9; exact h9
  obtain ⟨u4, hu4⟩ : ∃ u, clB xs2 ys2 p2 q2 = u := ⟨_, rfl⟩
  have C4 : Hid (∀ U, Below W0.heap.size W0 U → Calls Tryd.prog 85 #[.agg #[.int .i64 as2, .slice A8 n8 c8], .agg #[.int .i64 p2.a, .int .i64 p2.b], .agg #[.int .i64 bs2, .slice A9 n9 c9], .agg #[.int .i64 q2.a, .int .i64 q2.b]] U (RetP (.bool u4) U)) := Lib.hid fun U hU => by
    have h9 := l13Clash_ as2 A8 n8 c8 xs2 bs2 A9 n9 c9 ys2 p2 q2 hp2 hq2 U HN8.out (HR8.out.moved (HB0.out.trans (hU.mono HB0.out.size))) hx8 HM9.out (HR9.out.moved (HB0.out.trans (hU.mono HB0.out.size))) hx9
    rw [hu4] at h9; exact h9
  obtain ⟨z, hzz⟩ : ∃ z, pb (apP fs xs ys) = z := ⟨_, rfl⟩
  have CA : Hid (∀ U, Below W0.heap.size W0 U → Calls Tryd.prog 84 #[.agg #[.slice (some ⟨g1, 0, none⟩) n1 c1, .slice (some ⟨g2, 0, none⟩) n2 c2], .agg #[.int .i64 as1, .slice A n c], .agg #[.int .i64 bs1, .slice A2 m c3]] U (RetP (.bool z) U)) := Lib.hid fun U hU => by
    have h9 := l4Apart_ (c := c) (c3 := c3) (HNT.out.moved (HB0.out.trans (hU.mono HB0.out.size))) HV.out as1 HN.out (HR.out.moved (HB0.out.trans (hU.mono HB0.out.size))) hx bs1 HM.out (HR2.out.moved (HB0.out.trans (hU.mono HB0.out.size))) hx2 HMX.out
    rw [hzz] at h9; exact h9
  rw [hu1, hu2, hu3, hu4, hzz]
  clear hu1 hu2 hu3 hu4 hzz hb0 hz hp hp2 hq hq2 k0_0 k0_1 k1_0 k1_1 k1_2 k1_3 k1_4 k1_5 k1_6 k1_7 k1_8 k1_9 k2_0 k2_1 k2_2 k2_3 k2_4 k2_5 k2_6 k2_7 k2_8 k2_9
  go_enter Tryd.func57, Tryd.ntmps57
  obtain ⟨f0, f1, f2, f3, f4, f5, f6, f7, f8, f9, f10, f11, f12, f13, f14, f15, f16, f17, f18, f19, f20, f21, f22, f23, f24⟩ := HK.out W0 (Below.refl _ _)
  go_wp2_with fail
  try rw [hW0]
  clear hW0 f0 f1 f2 f3 f4 f5 f6 f7 f8 f9 f10 f11 f12 f13 f14 f15 f16 f17 f18 f19 f20 f21 f22 f23 f24
  refine (C1.out _ (Below.refl _ _)).mono ?_
  rintro e w1 ⟨rfl, hb1⟩
  have HU1 : Hid (Below W0.heap.size W0 w1) := Lib.hid (hb1)
  clear hb1
  cases u1
  case true =>
    obtain ⟨f0, f1, f2, f3, f4, f5, f6, f7, f8, f9, f10, f11, f12, f13, f14, f15, f16, f17, f18, f19, f20, f21, f22, f23, f24⟩ := HK.out w1 HU1.out
    go_wp2
    go_ret
    exact ⟨rfl, HB0.out.trans (HU1.out.mono HB0.out.size)⟩
  case false =>
  obtain ⟨f0, f1, f2, f3, f4, f5, f6, f7, f8, f9, f10, f11, f12, f13, f14, f15, f16, f17, f18, f19, f20, f21, f22, f23, f24⟩ := HK.out w1 HU1.out
  go_wp2_with fail
  clear f0 f1 f2 f3 f4 f5 f6 f7 f8 f9 f10 f11 f12 f13 f14 f15 f16 f17 f18 f19 f20 f21 f22 f23 f24
  refine (C2.out _ HU1.out).mono ?_
  rintro e w2 ⟨rfl, hb2⟩
  have HU2 : Hid (Below W0.heap.size W0 w2) := Lib.hid (HU1.out.trans (hb2.mono HU1.out.size))
  clear hb2
  cases u2
  case true =>
    obtain ⟨f0, f1, f2, f3, f4, f5, f6, f7, f8, f9, f10, f11, f12, f13, f14, f15, f16, f17, f18, f19, f20, f21, f22, f23, f24⟩ := HK.out w2 HU2.out
    go_wp2
    go_ret
    exact ⟨rfl, HB0.out.trans (HU2.out.mono HB0.out.size)⟩
  case false =>
  obtain ⟨f0, f1, f2, f3, f4, f5, f6, f7, f8, f9, f10, f11, f12, f13, f14, f15, f16, f17, f18, f19, f20, f21, f22, f23, f24⟩ := HK.out w2 HU2.out
  go_wp2_with fail
  clear f0 f1 f2 f3 f4 f5 f6 f7 f8 f9 f10 f11 f12 f13 f14 f15 f16 f17 f18 f19 f20 f21 f22 f23 f24
  refine (C3.out _ HU2.out).mono ?_
  rintro e w3 ⟨rfl, hb3⟩
  have HU3 : Hid (Below W0.heap.size W0 w3) := Lib.hid (HU2.out.trans (hb3.mono HU2.out.size))
  clear hb3
  cases u3
  case true =>
    obtain ⟨f0, f1, f2, f3, f4, f5, f6, f7, f8, f9, f10, f11, f12, f13, f14, f15, f16, f17, f18, f19, f20, f21, f22, f23, f24⟩ := HK.out w3 HU3.out
    go_wp2
    go_ret
    exact ⟨rfl, HB0.out.trans (HU3.out.mono HB0.out.size)⟩
  case false =>
  by_cases ha : ak = 2
  case neg =>
    have ea : (ak == 2) = false := beq_eq_false_iff_ne.2 ha
    have da : decide (ak = 2) = false := decide_eq_false ha
    obtain ⟨f0, f1, f2, f3, f4, f5, f6, f7, f8, f9, f10, f11, f12, f13, f14, f15, f16, f17, f18, f19, f20, f21, f22, f23, f24⟩ := HK.out w3 HU3.out
    go_wp2_with fail
    clear f0 f1 f2 f3 f4 f5 f6 f7 f8 f9 f10 f11 f12 f13 f14 f15 f16 f17 f18 f19 f20 f21 f22 f23 f24
    refine (C4.out _ HU3.out).mono ?_
    rintro e w4 ⟨rfl, hb4⟩
    have HU4 : Hid (Below W0.heap.size W0 w4) := Lib.hid (HU3.out.trans (hb4.mono HU3.out.size))
    clear hb4
    cases u4 <;>
    · go_wp2
      go_ret
      exact ⟨by rw [da]; rfl, HB0.out.trans (HU4.out.mono HB0.out.size)⟩
  case pos =>
  subst ha
  by_cases hb : bk = 2
  case neg =>
    have eb : (bk == 2) = false := beq_eq_false_iff_ne.2 hb
    have db : decide (bk = 2) = false := decide_eq_false hb
    obtain ⟨f0, f1, f2, f3, f4, f5, f6, f7, f8, f9, f10, f11, f12, f13, f14, f15, f16, f17, f18, f19, f20, f21, f22, f23, f24⟩ := HK.out w3 HU3.out
    go_wp2_with fail
    clear f0 f1 f2 f3 f4 f5 f6 f7 f8 f9 f10 f11 f12 f13 f14 f15 f16 f17 f18 f19 f20 f21 f22 f23 f24
    refine (C4.out _ HU3.out).mono ?_
    rintro e w4 ⟨rfl, hb4⟩
    have HU4 : Hid (Below W0.heap.size W0 w4) := Lib.hid (HU3.out.trans (hb4.mono HU3.out.size))
    clear hb4
    cases u4 <;>
    · go_wp2
      go_ret
      exact ⟨by rw [db]; rfl, HB0.out.trans (HU4.out.mono HB0.out.size)⟩
  case pos =>
  subst hb
  obtain ⟨f0, f1, f2, f3, f4, f5, f6, f7, f8, f9, f10, f11, f12, f13, f14, f15, f16, f17, f18, f19, f20, f21, f22, f23, f24⟩ := HK.out w3 HU3.out
  go_wp2_with fail
  clear f0 f1 f2 f3 f4 f5 f6 f7 f8 f9 f10 f11 f12 f13 f14 f15 f16 f17 f18 f19 f20 f21 f22 f23 f24
  refine (CA.out _ HU3.out).mono ?_
  rintro e w4 ⟨rfl, hb4⟩
  have HU4 : Hid (Below W0.heap.size W0 w4) := Lib.hid (HU3.out.trans (hb4.mono HU3.out.size))
  clear hb4
  cases z
  case true =>
    obtain ⟨f0, f1, f2, f3, f4, f5, f6, f7, f8, f9, f10, f11, f12, f13, f14, f15, f16, f17, f18, f19, f20, f21, f22, f23, f24⟩ := HK.out w4 HU4.out
    go_wp2
    go_ret
    exact ⟨rfl, HB0.out.trans (HU4.out.mono HB0.out.size)⟩
  case false =>
    obtain ⟨f0, f1, f2, f3, f4, f5, f6, f7, f8, f9, f10, f11, f12, f13, f14, f15, f16, f17, f18, f19, f20, f21, f22, f23, f24⟩ := HK.out w4 HU4.out
    go_wp2_with fail
    clear f0 f1 f2 f3 f4 f5 f6 f7 f8 f9 f10 f11 f12 f13 f14 f15 f16 f17 f18 f19 f20 f21 f22 f23 f24
    refine (C4.out _ HU4.out).mono ?_
    rintro e w5 ⟨rfl, hb5⟩
    have HU5 : Hid (Below W0.heap.size W0 w5) := Lib.hid (HU4.out.trans (hb5.mono HU4.out.size))
    clear hb5
    cases u4 <;>
    · go_wp2
      go_ret
      exact ⟨rfl, HB0.out.trans (HU5.out.mono HB0.out.size)⟩
end Go.Proofs.YtlgkjidginibdaaDoor
