/- Routes: where a route ends: a contract of the specification. No condition but those typed. -/
import Derived.Test.YtlgkjidginibdaaDoorWk9
namespace Go.Proofs.YtlgkjidginibdaaDoor
open Go.ChangeShapes Go.WideShapes Go.ChangeAt Go.RowKit

set_option maxRecDepth 100000 in
set_option maxHeartbeats 4000000 in
theorem l4End_ {g1 g2 n1 n2 c1 c2 : Nat} {ss : List ByteArray} {fs : List Q4} {w : World} (h : NetAt g1 g2 n1 n2 c1 c2 ss fs w) (hv : netP ss fs) (st : Int)
    {A : Option Addr} {n c : Nat} {fl : List Int} (hn : fl.length = n) (hr : Rd w w.heap.size A (fl.map (Value.int .i64))) (hx : n ≤ 1048576) {vs : List Int} (hvs : routeN n1 fs st fl = some vs) :
    Calls Tryd.prog 83 #[.agg #[.slice (some ⟨g1, 0, none⟩) n1 c1, .slice (some ⟨g2, 0, none⟩) n2 c2], .agg #[.int .i64 st, .slice A n c]] w (RetP (.int .i64 (vs.headD 0)) w) := by
  obtain ⟨z, hz⟩ : ∃ z, vs.headD 0 = z := ⟨_, rfl⟩
  rw [hz]
  have HZV := Lib.hid hz
  have HVL : Hid (vs.length = n + 1) := Lib.hid (by rw [routeN_len hvs, hn])
  have HN := Lib.hid hn; have HNT := Lib.hid h; have HR := Lib.hid hr
  clear hz
  go_enter Tryd.func83, Tryd.ntmps83
  go_wp2_with fail
  obtain ⟨W0, hW0⟩ : ∃ W0, (w.alloc (Obj.cells #[.slice (some ⟨g1, 0, none⟩) n1 c1, .slice (some ⟨g2, 0, none⟩) n2 c2] 34)).alloc (Obj.cells #[.int .i64 st, .slice A n c] 64) = W0 := ⟨_, rfl⟩
  have hb0 : Below w.heap.size w W0 := by rw [← hW0]; exact ((Below.refl _ _).alloc (Nat.le_refl _) _).alloc (by simp) _
  have k0 : W0.cell? ⟨w.heap.size, 0, none⟩ = some (.slice (some ⟨g1, 0, none⟩) n1 c1) := by rw [← hW0]; simp [go_sem]
  have k1 : W0.cell? ⟨w.heap.size, 1, none⟩ = some (.slice (some ⟨g2, 0, none⟩) n2 c2) := by rw [← hW0]; simp [go_sem]
  have k2 : W0.cell? ⟨w.heap.size + 1, 0, none⟩ = some (.int .i64 st) := by rw [← hW0]; simp [go_sem]
  have k3 : W0.cell? ⟨w.heap.size + 1, 1, none⟩ = some (.slice A n c) := by rw [← hW0]; simp [go_sem]
  have hz0 : w.heap.size + 1 < W0.heap.size := by rw [← hW0]; simp
  have HB0 := Lib.hid hb0; have HK0 := Lib.hid k0; have HK1 := Lib.hid k1; have HK2 := Lib.hid k2; have HK3 := Lib.hid k3; have HZ0 := Lib.hid hz0
  rw [hW0]
  clear hW0 hb0 k0 k1 k2 k3 hz0
  refine (l4Nodes_ (c := c) (HNT.out.moved HB0.out) hv st HN.out (HR.out.moved HB0.out) hx hvs).mono ?_
  rintro e w1 ⟨B, N, cc, rfl, HNN, ho, hb1⟩
  have HB1 := Lib.hid (HB0.out.trans (hb1.mono HB0.out.size))
  have hNN : N = n + 1 := by rw [HNN.out, List.length_reverse, HVL.out]
  obtain ⟨g, rfl, hg, hc⟩ := own_last ho (by rw [hNN, HVL.out]) hNN
  rw [HZV.out] at hc
  have hwr : IntKind.i64.wrap ((N : Int) - 1) = (n : Int) := by rw [IntWalk.i64_in _ (by omega)]; omega
  have hlt : (n : Int) < (N : Int) := by omega
  clear ho hb1 hNN h hn hr hvs
  go_wp2
  go_ret
  exact ⟨rfl, HB1.out⟩

end Go.Proofs.YtlgkjidginibdaaDoor
