/- Two different nodes of a network: contracts of spec.l6Ends and impl.isPairOfNodes. No condition but those typed. -/
import Derived.Test.YtnbeomnlobfpfaaDoorGB
import Derived.Test.YtnbeomnlobfpfaaDoorGA
namespace Go.Proofs.YtnbeomnlobfpfaaDoor
open Go.ChangeShapes Go.WideShapes Go.ChangeAt Go.RowKit

def endP (ss : List ByteArray) (fs : List Q4) (x y : Int) : Prop := netP ss fs ∧ (0 ≤ x ∧ x < ss.length) ∧ (0 ≤ y ∧ y < ss.length) ∧ x ≠ y
set_option maxRecDepth 100000 in
set_option maxHeartbeats 4000000 in
theorem ends6_ {g1 g2 n1 n2 c1 c2 : Nat} {ss : List ByteArray} {fs : List Q4} {w : World} (h : NetAt g1 g2 n1 n2 c1 c2 ss fs w) (x y : Int) :
    Calls Tryd.prog 32 #[.agg #[.slice (some ⟨g1, 0, none⟩) n1 c1, .slice (some ⟨g2, 0, none⟩) n2 c2], .int .i64 x, .int .i64 y] w (RetP (.bool (pb (endP ss fs x y))) w) := by
  have HNT := Lib.hid h
  have HL1 := Lib.hid h.ln1
  have hs1 := h.sm1
  clear h
  obtain ⟨RB, hRB⟩ : ∃ r, pb (endP ss fs x y) = r := ⟨_, rfl⟩
  have HNO : Hid (¬ endP ss fs x y → false = RB) := Lib.hid (fun e => by rw [← hRB, pb_false e])
  have HYES : Hid (endP ss fs x y → true = RB) := Lib.hid (fun e => by rw [← hRB, pb_true e])
  rw [hRB]
  clear hRB
  have e7 : IntKind.i64.wrap ((n1 : Int) - 1) = (n1 : Int) - 1 := IntWalk.i64_in _ (by omega)
  go_enter Tryd.func32, Tryd.ntmps32
  go_wp2_with fail
  obtain ⟨W0, hW0⟩ : ∃ W0, (w.alloc (Obj.cells #[.slice (some ⟨g1, 0, none⟩) n1 c1, .slice (some ⟨g2, 0, none⟩) n2 c2] 32)) = W0 := ⟨_, rfl⟩
  have hb0 : Below w.heap.size w W0 := by rw [← hW0]; exact (Below.refl _ _).alloc (Nat.le_refl _) _
  have hk0 : W0.cell? ⟨w.heap.size, 0, none⟩ = some (.slice (some ⟨g1, 0, none⟩) n1 c1) := by rw [← hW0]; simp [go_sem]
  have hk1 : W0.cell? ⟨w.heap.size, 1, none⟩ = some (.slice (some ⟨g2, 0, none⟩) n2 c2) := by rw [← hW0]; simp [go_sem]
  have hz0 : w.heap.size < W0.heap.size := by rw [← hW0]; simp
  have HB0 := Lib.hid hb0; have HK0 := Lib.hid hk0; have HK1 := Lib.hid hk1; have HZB := Lib.hid hz0
  rw [hW0]
  clear hW0 hb0 hk0 hk1 hz0
  have CV := Lib.hid (specNet_ (HNT.out.moved HB0.out))
  obtain ⟨V, hV⟩ : ∃ r, pb (netP ss fs) = r := ⟨_, rfl⟩
  rw [hV] at CV
  have HVB := Lib.hid hV
  clear hV
  refine CV.out.mono ?_
  rintro e w1 ⟨rfl, hb1⟩
  have HB1 := Lib.hid (HB0.out.trans (hb1.mono HB0.out.size))
  have HKB : Hid (∀ W, Below w1.heap.size w1 W → W.cell? ⟨w.heap.size, 0, none⟩ = some (.slice (some ⟨g1, 0, none⟩) n1 c1) ∧ W.cell? ⟨w.heap.size, 1, none⟩ = some (.slice (some ⟨g2, 0, none⟩) n2 c2)) := Lib.hid (fun W hW => ⟨((hb1.trans (hW.mono hb1.size)).cell (p := ⟨w.heap.size, 0, none⟩) (by show w.heap.size < _; have := HZB.out; omega)).trans HK0.out, ((hb1.trans (hW.mono hb1.size)).cell (p := ⟨w.heap.size, 1, none⟩) (by show w.heap.size < _; have := HZB.out; omega)).trans HK1.out⟩)
  obtain ⟨k0, k1⟩ := HKB.out _ (Below.refl _ _)
  clear hb1
  cases V
  case false =>
    have HE := Lib.hid (HNO.out (fun hp => of_npb HVB.out hp.1))
    clear k0 k1
    go_wp2
    go_ret
    exact ⟨retb HE.out, HB1.out⟩
  case true =>
  have HV := Lib.hid (of_pb HVB.out)
  by_cases hx : 0 ≤ x ∧ x < n1
  case neg =>
    have HE := Lib.hid (HNO.out (fun hp => hx (by have := hp.2.1; have := HL1.out; omega)))
    go_wp2_with fail
    clear k0 k1
    refine ((in_noR x 0 ((n1 : Int) - 1) w1 (by omega))).mono ?_
    rintro e w2 ⟨rfl, rfl⟩
    go_wp2
    go_ret
    exact ⟨retb HE.out, HB1.out⟩
  case pos =>
  obtain ⟨hx0, hx1⟩ := hx
  go_wp2_with fail
  clear k0 k1
  refine ((in_yesR x 0 ((n1 : Int) - 1) w1 (by omega) (by omega))).mono ?_
  rintro e w2 ⟨rfl, rfl⟩
  obtain ⟨k0, k1⟩ := HKB.out _ (Below.refl _ _)
  by_cases hy : 0 ≤ y ∧ y < n1
  case neg =>
    have HE := Lib.hid (HNO.out (fun hp => hy (by have := hp.2.2.1; have := HL1.out; omega)))
    go_wp2_with fail
    clear k0 k1
    refine ((in_noR y 0 ((n1 : Int) - 1) w1 (by omega))).mono ?_
    rintro e w3 ⟨rfl, rfl⟩
    go_wp2
    go_ret
    exact ⟨retb HE.out, HB1.out⟩
  case pos =>
  obtain ⟨hy0, hy1⟩ := hy
  by_cases hxy : x = y
  case pos =>
    have HE := Lib.hid (HNO.out (fun hp => hp.2.2.2 hxy))
    have hn : (x != y) = false := by rw [hxy]; simp
    go_wp2_with fail
    clear k0 k1
    refine ((in_yesR y 0 ((n1 : Int) - 1) w1 (by omega) (by omega))).mono ?_
    rintro e w3 ⟨rfl, rfl⟩
    go_wp2
    go_ret
    exact ⟨retb (by first | exact HE.out | (rw [← HE.out]; simp [hxy])), HB1.out⟩
  case neg =>
    have HE := Lib.hid (HYES.out ⟨HV.out, ⟨hx0, by have := HL1.out; omega⟩, ⟨hy0, by have := HL1.out; omega⟩, hxy⟩)
    have hn : (x != y) = true := bne_iff_ne.2 hxy
    go_wp2_with fail
    clear k0 k1
    refine ((in_yesR y 0 ((n1 : Int) - 1) w1 (by omega) (by omega))).mono ?_
    rintro e w3 ⟨rfl, rfl⟩
    go_wp2
    go_ret
    exact ⟨retb (by first | exact HE.out | (rw [← HE.out]; simp [hxy])), HB1.out⟩
set_option maxRecDepth 100000 in
set_option maxHeartbeats 4000000 in
theorem isPair_ {g1 g2 n1 n2 c1 c2 : Nat} {ss : List ByteArray} {fs : List Q4} {w : World} (h : NetAt g1 g2 n1 n2 c1 c2 ss fs w) (x y : Int) :
    Calls Tryd.prog 38 #[.agg #[.slice (some ⟨g1, 0, none⟩) n1 c1, .slice (some ⟨g2, 0, none⟩) n2 c2], .int .i64 x, .int .i64 y] w (RetP (.bool (pb (endP ss fs x y))) w) := by
  have HNT := Lib.hid h
  have HL1 := Lib.hid h.ln1
  have hs1 := h.sm1
  clear h
  obtain ⟨RB, hRB⟩ : ∃ r, pb (endP ss fs x y) = r := ⟨_, rfl⟩
  have HNO : Hid (¬ endP ss fs x y → false = RB) := Lib.hid (fun e => by rw [← hRB, pb_false e])
  have HYES : Hid (endP ss fs x y → true = RB) := Lib.hid (fun e => by rw [← hRB, pb_true e])
  rw [hRB]
  clear hRB
  have e7 : IntKind.i64.wrap ((n1 : Int) - 1) = (n1 : Int) - 1 := IntWalk.i64_in _ (by omega)
  go_enter Tryd.func38, Tryd.ntmps38
  go_wp2_with fail
  obtain ⟨W0, hW0⟩ : ∃ W0, (w.alloc (Obj.cells #[.slice (some ⟨g1, 0, none⟩) n1 c1, .slice (some ⟨g2, 0, none⟩) n2 c2] 32)) = W0 := ⟨_, rfl⟩
  have hb0 : Below w.heap.size w W0 := by rw [← hW0]; exact (Below.refl _ _).alloc (Nat.le_refl _) _
  have hk0 : W0.cell? ⟨w.heap.size, 0, none⟩ = some (.slice (some ⟨g1, 0, none⟩) n1 c1) := by rw [← hW0]; simp [go_sem]
  have hk1 : W0.cell? ⟨w.heap.size, 1, none⟩ = some (.slice (some ⟨g2, 0, none⟩) n2 c2) := by rw [← hW0]; simp [go_sem]
  have hz0 : w.heap.size < W0.heap.size := by rw [← hW0]; simp
  have HB0 := Lib.hid hb0; have HK0 := Lib.hid hk0; have HK1 := Lib.hid hk1; have HZB := Lib.hid hz0
  rw [hW0]
  clear hW0 hb0 hk0 hk1 hz0
  have CV := Lib.hid (implNet_ (HNT.out.moved HB0.out))
  obtain ⟨V, hV⟩ : ∃ r, pb (netP ss fs) = r := ⟨_, rfl⟩
  rw [hV] at CV
  have HVB := Lib.hid hV
  clear hV
  refine CV.out.mono ?_
  rintro e w1 ⟨rfl, hb1⟩
  have HB1 := Lib.hid (HB0.out.trans (hb1.mono HB0.out.size))
  have HKB : Hid (∀ W, Below w1.heap.size w1 W → W.cell? ⟨w.heap.size, 0, none⟩ = some (.slice (some ⟨g1, 0, none⟩) n1 c1) ∧ W.cell? ⟨w.heap.size, 1, none⟩ = some (.slice (some ⟨g2, 0, none⟩) n2 c2)) := Lib.hid (fun W hW => ⟨((hb1.trans (hW.mono hb1.size)).cell (p := ⟨w.heap.size, 0, none⟩) (by show w.heap.size < _; have := HZB.out; omega)).trans HK0.out, ((hb1.trans (hW.mono hb1.size)).cell (p := ⟨w.heap.size, 1, none⟩) (by show w.heap.size < _; have := HZB.out; omega)).trans HK1.out⟩)
  obtain ⟨k0, k1⟩ := HKB.out _ (Below.refl _ _)
  clear hb1
  cases V
  case false =>
    have HE := Lib.hid (HNO.out (fun hp => of_npb HVB.out hp.1))
    clear k0 k1
    go_wp2
    go_ret
    exact ⟨retb HE.out, HB1.out⟩
  case true =>
  have HV := Lib.hid (of_pb HVB.out)
  by_cases hx : 0 ≤ x ∧ x < n1
  case neg =>
    have HE := Lib.hid (HNO.out (fun hp => hx (by have := hp.2.1; have := HL1.out; omega)))
    go_wp2_with fail
    clear k0 k1
    refine ((isNd_no x w1 (by omega))).mono ?_
    rintro e w2 ⟨rfl, hb9⟩
    have HB2 := Lib.hid (HB1.out.trans (hb9.mono HB1.out.size))
    go_wp2
    go_ret
    exact ⟨retb HE.out, HB2.out⟩
  case pos =>
  obtain ⟨hx0, hx1⟩ := hx
  go_wp2_with fail
  clear k0 k1
  refine ((isNd_yes x w1 (by omega) (by omega))).mono ?_
  rintro e w2 ⟨rfl, hb9⟩
  have HB2 := Lib.hid (HB1.out.trans (hb9.mono HB1.out.size))
  obtain ⟨k0, k1⟩ := HKB.out _ hb9
  clear hb9
  by_cases hy : 0 ≤ y ∧ y < n1
  case neg =>
    have HE := Lib.hid (HNO.out (fun hp => hy (by have := hp.2.2.1; have := HL1.out; omega)))
    go_wp2_with fail
    clear k0 k1
    refine ((isNd_no y w2 (by omega))).mono ?_
    rintro e w3 ⟨rfl, hb9⟩
    have HB3 := Lib.hid (HB2.out.trans (hb9.mono HB2.out.size))
    go_wp2
    go_ret
    exact ⟨retb HE.out, HB3.out⟩
  case pos =>
  obtain ⟨hy0, hy1⟩ := hy
  by_cases hxy : x = y
  case pos =>
    have HE := Lib.hid (HNO.out (fun hp => hp.2.2.2 hxy))
    have hn : (x != y) = false := by rw [hxy]; simp
    go_wp2_with fail
    clear k0 k1
    refine ((isNd_yes y w2 (by omega) (by omega))).mono ?_
    rintro e w3 ⟨rfl, hb9⟩
    have HB3 := Lib.hid (HB2.out.trans (hb9.mono HB2.out.size))
    go_wp2
    go_ret
    exact ⟨retb (by first | exact HE.out | (rw [← HE.out]; simp [hxy])), HB3.out⟩
  case neg =>
    have HE := Lib.hid (HYES.out ⟨HV.out, ⟨hx0, by have := HL1.out; omega⟩, ⟨hy0, by have := HL1.out; omega⟩, hxy⟩)
    have hn : (x != y) = true := bne_iff_ne.2 hxy
    go_wp2_with fail
    clear k0 k1
    refine ((isNd_yes y w2 (by omega) (by omega))).mono ?_
    rintro e w3 ⟨rfl, hb9⟩
    have HB3 := Lib.hid (HB2.out.trans (hb9.mono HB2.out.size))
    go_wp2
    go_ret
    exact ⟨retb (by first | exact HE.out | (rw [← HE.out]; simp [hxy])), HB3.out⟩
end Go.Proofs.YtnbeomnlobfpfaaDoor
