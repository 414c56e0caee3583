/- Contracts: impl.NodeNumber and spec.NodeNumber answer the same plain words. No condition but those typed. -/
import Derived.Test.YthmmhhoaplbfgaaNetA
namespace Go.Proofs.Ythmmhhoaplbfgaa
open Go.ChangeShapes Go.WideShapes Go.ChangeAt Go.RowKit

noncomputable def nodeB (ss : List ByteArray) (fs : List Q4) (s : ByteArray) : Bool := pb (netP ss fs ∧ 0 ≤ findV ss s)
noncomputable def nodeI (ss : List ByteArray) (fs : List Q4) (s : ByteArray) : Int := if nodeB ss fs s then findV ss s else 0
noncomputable def nodeR (ss : List ByteArray) (fs : List Q4) (s : ByteArray) : Value := .tuple #[.int .i64 (nodeI ss fs s), .bool (nodeB ss fs s)]
theorem node_no {ss : List ByteArray} {fs : List Q4} {s : ByteArray} (h : ¬ (netP ss fs ∧ 0 ≤ findV ss s)) : (.tuple #[.int .i64 0, .bool false] : Value) = nodeR ss fs s := by
  unfold nodeR nodeI nodeB; rw [pb_false h]; rfl
theorem node_yes {ss : List ByteArray} {fs : List Q4} {s : ByteArray} (h : netP ss fs ∧ 0 ≤ findV ss s) : (.tuple #[.int .i64 (findV ss s), .bool true] : Value) = nodeR ss fs s := by
  unfold nodeR nodeI nodeB; rw [pb_true h]; rfl

set_option maxHeartbeats 1000000 in
theorem specNode {g1 g2 n1 n2 c1 c2 : Nat} {ss : List ByteArray} {fs : List Q4} {w : World} (h : NetAt g1 g2 n1 n2 c1 c2 ss fs w) (s : ByteArray) :
    Calls Try.prog 45 #[.agg #[.slice (some ⟨g1, 0, none⟩) n1 c1, .slice (some ⟨g2, 0, none⟩) n2 c2], .string s] w (RetP (nodeR ss fs s) w) := by
  have HN := Lib.hid h; clear h
  by_cases hp : netP ss fs
  · have HB : Hid (pb (netP ss fs) = true) := Lib.hid (pb_true hp)
    have hlo := findV_lo ss s
    by_cases hz : 0 ≤ findV ss s
    · have hre := node_yes (s := s) ⟨hp, hz⟩
      obtain ⟨z, hze⟩ : ∃ z, findV ss s = z := ⟨_, rfl⟩
      have HZ := Lib.hid hze
      rw [hze] at hz hlo hre
      have HR := Lib.hid hre
      clear hze hp hre
      go_enter Try.func45, Try.ntmps45
      go_wp2_with fail
      obtain ⟨W0, hW0⟩ : ∃ W0, (w.alloc (Obj.cells #[.slice (some ⟨g1, 0, none⟩) n1 c1, .slice (some ⟨g2, 0, none⟩) n2 c2] 27)) = W0 := ⟨_, rfl⟩
      have hk0 : W0.cell? ⟨w.heap.size, 0, none⟩ = some (.slice (some ⟨g1, 0, none⟩) n1 c1) := by rw [← hW0]; simp [go_sem]
      have hk1 : W0.cell? ⟨w.heap.size, 1, none⟩ = some (.slice (some ⟨g2, 0, none⟩) n2 c2) := by rw [← hW0]; simp [go_sem]
      have hz0 : w.heap.size < W0.heap.size := by rw [← hW0]; simp
      have HB0 := Lib.hid ((Below.refl w.heap.size w).alloc (Nat.le_refl _) (Obj.cells #[.slice (some ⟨g1, 0, none⟩) n1 c1, .slice (some ⟨g2, 0, none⟩) n2 c2] 27))
      rw [hW0] at HB0 ⊢
      clear hW0
      have HN0 := Lib.hid (HN.out.moved HB0.out)
      refine (specNet_ HN0.out).mono ?_
      rintro e w1 ⟨rfl, hb1⟩
      rw [HB.out]
      have k0 := (hb1.cell (p := ⟨w.heap.size, 0, none⟩) hz0).trans hk0
      have k1 := (hb1.cell (p := ⟨w.heap.size, 1, none⟩) hz0).trans hk1
      have hbx : w.heap.size < w1.heap.size := Nat.lt_of_lt_of_le hz0 hb1.size
      have HN1 := Lib.hid (HN0.out.moved hb1)
      have hB1 := Lib.hid (HB0.out.trans (hb1.mono HB0.out.size))
      clear hk0 hk1 hz0 hb1 HN0 HB0
      go_wp2_with ((go_at_call 91; refine (find_ HN1.out s).mono ?_; rintro e w2 ⟨rfl, rfl⟩; rw [HZ.out]))
      go_ret2
      exact retP HR.out hB1.out
    · have HR := Lib.hid (node_no (s := s) (fs := fs) (ss := ss) fun h => hz h.2)
      obtain ⟨z, hze⟩ : ∃ z, findV ss s = z := ⟨_, rfl⟩
      have HZ := Lib.hid hze
      rw [hze] at hz hlo
      have hz' : z < 0 := by omega
      clear hze hp hz
      go_enter Try.func45, Try.ntmps45
      go_wp2_with fail
      obtain ⟨W0, hW0⟩ : ∃ W0, (w.alloc (Obj.cells #[.slice (some ⟨g1, 0, none⟩) n1 c1, .slice (some ⟨g2, 0, none⟩) n2 c2] 27)) = W0 := ⟨_, rfl⟩
      have hk0 : W0.cell? ⟨w.heap.size, 0, none⟩ = some (.slice (some ⟨g1, 0, none⟩) n1 c1) := by rw [← hW0]; simp [go_sem]
      have hk1 : W0.cell? ⟨w.heap.size, 1, none⟩ = some (.slice (some ⟨g2, 0, none⟩) n2 c2) := by rw [← hW0]; simp [go_sem]
      have hz0 : w.heap.size < W0.heap.size := by rw [← hW0]; simp
      have HB0 := Lib.hid ((Below.refl w.heap.size w).alloc (Nat.le_refl _) (Obj.cells #[.slice (some ⟨g1, 0, none⟩) n1 c1, .slice (some ⟨g2, 0, none⟩) n2 c2] 27))
      rw [hW0] at HB0 ⊢
      clear hW0
      have HN0 := Lib.hid (HN.out.moved HB0.out)
      refine (specNet_ HN0.out).mono ?_
      rintro e w1 ⟨rfl, hb1⟩
      rw [HB.out]
      have k0 := (hb1.cell (p := ⟨w.heap.size, 0, none⟩) hz0).trans hk0
      have k1 := (hb1.cell (p := ⟨w.heap.size, 1, none⟩) hz0).trans hk1
      have hbx : w.heap.size < w1.heap.size := Nat.lt_of_lt_of_le hz0 hb1.size
      have HN1 := Lib.hid (HN0.out.moved hb1)
      have hB1 := Lib.hid (HB0.out.trans (hb1.mono HB0.out.size))
      clear hk0 hk1 hz0 hb1 HN0 HB0
      go_wp2_with ((go_at_call 91; refine (find_ HN1.out s).mono ?_; rintro e w2 ⟨rfl, rfl⟩; rw [HZ.out]))
      go_ret2
      exact retP HR.out hB1.out
  · have HB : Hid (pb (netP ss fs) = false) := Lib.hid (pb_false hp)
    have HR := Lib.hid (node_no (s := s) fun h => hp h.1)
    clear hp
    go_enter Try.func45, Try.ntmps45
    go_wp2_with fail
    obtain ⟨W0, hW0⟩ : ∃ W0, (w.alloc (Obj.cells #[.slice (some ⟨g1, 0, none⟩) n1 c1, .slice (some ⟨g2, 0, none⟩) n2 c2] 27)) = W0 := ⟨_, rfl⟩
    have hk0 : W0.cell? ⟨w.heap.size, 0, none⟩ = some (.slice (some ⟨g1, 0, none⟩) n1 c1) := by rw [← hW0]; simp [go_sem]
    have hk1 : W0.cell? ⟨w.heap.size, 1, none⟩ = some (.slice (some ⟨g2, 0, none⟩) n2 c2) := by rw [← hW0]; simp [go_sem]
    have hz0 : w.heap.size < W0.heap.size := by rw [← hW0]; simp
    have HB0 := Lib.hid ((Below.refl w.heap.size w).alloc (Nat.le_refl _) (Obj.cells #[.slice (some ⟨g1, 0, none⟩) n1 c1, .slice (some ⟨g2, 0, none⟩) n2 c2] 27))
    rw [hW0] at HB0 ⊢
    clear hW0
    have HN0 := Lib.hid (HN.out.moved HB0.out)
    refine (specNet_ HN0.out).mono ?_
    rintro e w1 ⟨rfl, hb1⟩
    rw [HB.out]
    have k0 := (hb1.cell (p := ⟨w.heap.size, 0, none⟩) hz0).trans hk0
    have k1 := (hb1.cell (p := ⟨w.heap.size, 1, none⟩) hz0).trans hk1
    have hbx : w.heap.size < w1.heap.size := Nat.lt_of_lt_of_le hz0 hb1.size
    have HN1 := Lib.hid (HN0.out.moved hb1)
    have hB1 := Lib.hid (HB0.out.trans (hb1.mono HB0.out.size))
    clear hk0 hk1 hz0 hb1 HN0 HB0
    go_wp2
    go_ret2
    exact retP HR.out hB1.out

set_option maxHeartbeats 1000000 in
theorem implNode {g1 g2 n1 n2 c1 c2 : Nat} {ss : List ByteArray} {fs : List Q4} {w : World} (h : NetAt g1 g2 n1 n2 c1 c2 ss fs w) (s : ByteArray) :
    Calls Try.prog 46 #[.agg #[.slice (some ⟨g1, 0, none⟩) n1 c1, .slice (some ⟨g2, 0, none⟩) n2 c2], .string s] w (RetP (nodeR ss fs s) w) := by
  have HN := Lib.hid h; clear h
  by_cases hp : netP ss fs
  · have HB : Hid (pb (netP ss fs) = true) := Lib.hid (pb_true hp)
    have hlo := findV_lo ss s
    by_cases hz : 0 ≤ findV ss s
    · have hre := node_yes (s := s) ⟨hp, hz⟩
      obtain ⟨z, hze⟩ : ∃ z, findV ss s = z := ⟨_, rfl⟩
      have HZ := Lib.hid hze
      rw [hze] at hz hlo hre
      have HR := Lib.hid hre
      clear hze hp hre
      go_enter Try.func46, Try.ntmps46
      go_wp2_with fail
      obtain ⟨W0, hW0⟩ : ∃ W0, (w.alloc (Obj.cells #[.slice (some ⟨g1, 0, none⟩) n1 c1, .slice (some ⟨g2, 0, none⟩) n2 c2] 27)) = W0 := ⟨_, rfl⟩
      have hk0 : W0.cell? ⟨w.heap.size, 0, none⟩ = some (.slice (some ⟨g1, 0, none⟩) n1 c1) := by rw [← hW0]; simp [go_sem]
      have hk1 : W0.cell? ⟨w.heap.size, 1, none⟩ = some (.slice (some ⟨g2, 0, none⟩) n2 c2) := by rw [← hW0]; simp [go_sem]
      have hz0 : w.heap.size < W0.heap.size := by rw [← hW0]; simp
      have HB0 := Lib.hid ((Below.refl w.heap.size w).alloc (Nat.le_refl _) (Obj.cells #[.slice (some ⟨g1, 0, none⟩) n1 c1, .slice (some ⟨g2, 0, none⟩) n2 c2] 27))
      rw [hW0] at HB0 ⊢
      clear hW0
      have HN0 := Lib.hid (HN.out.moved HB0.out)
      refine (implNet_ HN0.out).mono ?_
      rintro e w1 ⟨rfl, hb1⟩
      rw [HB.out]
      have k0 := (hb1.cell (p := ⟨w.heap.size, 0, none⟩) hz0).trans hk0
      have k1 := (hb1.cell (p := ⟨w.heap.size, 1, none⟩) hz0).trans hk1
      have hbx : w.heap.size < w1.heap.size := Nat.lt_of_lt_of_le hz0 hb1.size
      have HN1 := Lib.hid (HN0.out.moved hb1)
      have hB1 := Lib.hid (HB0.out.trans (hb1.mono HB0.out.size))
      clear hk0 hk1 hz0 hb1 HN0 HB0
      go_wp2_with ((go_at_call 92; refine (index_ HN1.out s).mono ?_; rintro e w2 ⟨rfl, rfl⟩; rw [HZ.out]))
      go_ret2
      exact retP HR.out hB1.out
    · have HR := Lib.hid (node_no (s := s) (fs := fs) (ss := ss) fun h => hz h.2)
      obtain ⟨z, hze⟩ : ∃ z, findV ss s = z := ⟨_, rfl⟩
      have HZ := Lib.hid hze
      rw [hze] at hz hlo
      have hz' : z < 0 := by omega
      clear hze hp hz
      go_enter Try.func46, Try.ntmps46
      go_wp2_with fail
      obtain ⟨W0, hW0⟩ : ∃ W0, (w.alloc (Obj.cells #[.slice (some ⟨g1, 0, none⟩) n1 c1, .slice (some ⟨g2, 0, none⟩) n2 c2] 27)) = W0 := ⟨_, rfl⟩
      have hk0 : W0.cell? ⟨w.heap.size, 0, none⟩ = some (.slice (some ⟨g1, 0, none⟩) n1 c1) := by rw [← hW0]; simp [go_sem]
      have hk1 : W0.cell? ⟨w.heap.size, 1, none⟩ = some (.slice (some ⟨g2, 0, none⟩) n2 c2) := by rw [← hW0]; simp [go_sem]
      have hz0 : w.heap.size < W0.heap.size := by rw [← hW0]; simp
      have HB0 := Lib.hid ((Below.refl w.heap.size w).alloc (Nat.le_refl _) (Obj.cells #[.slice (some ⟨g1, 0, none⟩) n1 c1, .slice (some ⟨g2, 0, none⟩) n2 c2] 27))
      rw [hW0] at HB0 ⊢
      clear hW0
      have HN0 := Lib.hid (HN.out.moved HB0.out)
      refine (implNet_ HN0.out).mono ?_
      rintro e w1 ⟨rfl, hb1⟩
      rw [HB.out]
      have k0 := (hb1.cell (p := ⟨w.heap.size, 0, none⟩) hz0).trans hk0
      have k1 := (hb1.cell (p := ⟨w.heap.size, 1, none⟩) hz0).trans hk1
      have hbx : w.heap.size < w1.heap.size := Nat.lt_of_lt_of_le hz0 hb1.size
      have HN1 := Lib.hid (HN0.out.moved hb1)
      have hB1 := Lib.hid (HB0.out.trans (hb1.mono HB0.out.size))
      clear hk0 hk1 hz0 hb1 HN0 HB0
      go_wp2_with ((go_at_call 92; refine (index_ HN1.out s).mono ?_; rintro e w2 ⟨rfl, rfl⟩; rw [HZ.out]))
      go_ret2
      exact retP HR.out hB1.out
  · have HB : Hid (pb (netP ss fs) = false) := Lib.hid (pb_false hp)
    have HR := Lib.hid (node_no (s := s) fun h => hp h.1)
    clear hp
    go_enter Try.func46, Try.ntmps46
    go_wp2_with fail
    obtain ⟨W0, hW0⟩ : ∃ W0, (w.alloc (Obj.cells #[.slice (some ⟨g1, 0, none⟩) n1 c1, .slice (some ⟨g2, 0, none⟩) n2 c2] 27)) = W0 := ⟨_, rfl⟩
    have hk0 : W0.cell? ⟨w.heap.size, 0, none⟩ = some (.slice (some ⟨g1, 0, none⟩) n1 c1) := by rw [← hW0]; simp [go_sem]
    have hk1 : W0.cell? ⟨w.heap.size, 1, none⟩ = some (.slice (some ⟨g2, 0, none⟩) n2 c2) := by rw [← hW0]; simp [go_sem]
    have hz0 : w.heap.size < W0.heap.size := by rw [← hW0]; simp
    have HB0 := Lib.hid ((Below.refl w.heap.size w).alloc (Nat.le_refl _) (Obj.cells #[.slice (some ⟨g1, 0, none⟩) n1 c1, .slice (some ⟨g2, 0, none⟩) n2 c2] 27))
    rw [hW0] at HB0 ⊢
    clear hW0
    have HN0 := Lib.hid (HN.out.moved HB0.out)
    refine (implNet_ HN0.out).mono ?_
    rintro e w1 ⟨rfl, hb1⟩
    rw [HB.out]
    have k0 := (hb1.cell (p := ⟨w.heap.size, 0, none⟩) hz0).trans hk0
    have k1 := (hb1.cell (p := ⟨w.heap.size, 1, none⟩) hz0).trans hk1
    have hbx : w.heap.size < w1.heap.size := Nat.lt_of_lt_of_le hz0 hb1.size
    have HN1 := Lib.hid (HN0.out.moved hb1)
    have hB1 := Lib.hid (HB0.out.trans (hb1.mono HB0.out.size))
    clear hk0 hk1 hz0 hb1 HN0 HB0
    go_wp2
    go_ret2
    exact retP HR.out hB1.out
end Go.Proofs.Ythmmhhoaplbfgaa
