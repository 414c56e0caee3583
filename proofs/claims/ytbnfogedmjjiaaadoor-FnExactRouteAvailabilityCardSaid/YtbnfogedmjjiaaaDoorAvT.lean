/- The availability of a route: contracts of RouteAvailability, both sides. Condition: the table of math/bits holds what Go's text lays (on impl's side). -/
import Derived.Test.YtbnfogedmjjiaaaDoorAvR
namespace Go.Proofs.YtbnfogedmjjiaaaDoor
open Go.ChangeShapes Go.WideShapes Go.ChangeAt Go.RowKit

set_option maxRecDepth 100000 in
set_option maxHeartbeats 2000000 in
theorem specRA {g1 g2 n1 n2 c1 c2 : Nat} {ss : List ByteArray} {fs : List Q4} {w : World} (h : NetAt g1 g2 n1 n2 c1 c2 ss fs w) (u : Int) {A : Option Addr} {n c : Nat} {ds : List Int} (hn : ds.length = n) (hr : Rd w w.heap.size A (ds.map (Value.int .i64))) (hx : n ≤ 1048576) (st : Int) {A2 : Option Addr} {m dm : Nat} {xs : List Int} (hm : xs.length = m) (hr2 : Rd w w.heap.size A2 (xs.map (Value.int .i64))) (hx2 : m ≤ 1048576) :
    Calls Tryd.prog 37 #[.agg #[.slice (some ⟨g1, 0, none⟩) n1 c1, .slice (some ⟨g2, 0, none⟩) n2 c2], .agg #[.int .i64 u, .slice A n c], .agg #[.int .i64 st, .slice A2 m dm]] w (RetP (paR ss fs u ds st xs st xs) w) := by
  have CP := Lib.hid (fun (W : World) (hb : Below w.heap.size w W) => specPA (c := c) (dm := dm) (dl := dm) (h.moved hb) u hn (hr.moved hb) hx st hm (hr2.moved hb) hx2 st hm (hr2.moved hb) hx2)
  have HPR : Hid (paR ss fs u ds st xs st xs = .tuple #[.int .i64 (paV ss fs u ds st xs st xs), .bool (paB ss fs u ds st xs st xs)]) := Lib.hid rfl
  obtain ⟨R, hR⟩ : ∃ r, paR ss fs u ds st xs st xs = r := ⟨_, rfl⟩
  rw [hR] at CP HPR ⊢
  obtain ⟨V, hV⟩ : ∃ r, paV ss fs u ds st xs st xs = r := ⟨_, rfl⟩
  obtain ⟨B, hB⟩ : ∃ r, paB ss fs u ds st xs st xs = r := ⟨_, rfl⟩
  rw [hV, hB] at HPR
  rw [HPR.out] at CP ⊢
  clear h hn hr hm hr2 hR hV hB HPR
  go_enter Tryd.func37, Tryd.ntmps37
  go_wp2_with fail
  obtain ⟨W0, hW0⟩ : ∃ W0, (((w.alloc (Obj.cells #[.slice (some ⟨g1, 0, none⟩) n1 c1, .slice (some ⟨g2, 0, none⟩) n2 c2] 34)).alloc (Obj.cells #[.int .i64 u, .slice A n c] 60)).alloc (Obj.cells #[.int .i64 st, .slice A2 m dm] 62)) = W0 := ⟨_, rfl⟩
  have hb0 : Below w.heap.size w W0 := by rw [← hW0]; exact (((Below.refl _ _).alloc (Nat.le_refl _) _).alloc (by simp) _).alloc (by simp; omega) _
  have k0_0 : W0.cell? ⟨w.heap.size, 0, none⟩ = some (.slice (some ⟨g1, 0, none⟩) n1 c1) := by rw [← hW0]; simp [go_sem]
  have k0_1 : W0.cell? ⟨w.heap.size, 1, none⟩ = some (.slice (some ⟨g2, 0, none⟩) n2 c2) := by rw [← hW0]; simp [go_sem]
  have k1_0 : W0.cell? ⟨w.heap.size + 1, 0, none⟩ = some (.int .i64 u) := by rw [← hW0]; simp [go_sem]
  have k1_1 : W0.cell? ⟨w.heap.size + 1, 1, none⟩ = some (.slice A n c) := by rw [← hW0]; simp [go_sem]
  have k2_0 : W0.cell? ⟨w.heap.size + 1 + 1, 0, none⟩ = some (.int .i64 st) := by rw [← hW0]; simp [go_sem]
  have k2_1 : W0.cell? ⟨w.heap.size + 1 + 1, 1, none⟩ = some (.slice A2 m dm) := by rw [← hW0]; simp [go_sem]
  have hz0 : w.heap.size + 1 + 1 < W0.heap.size := by rw [← hW0]; simp
  have HKB : Hid (∀ W, Below W0.heap.size W0 W → W.cell? ⟨w.heap.size, 0, none⟩ = some (.slice (some ⟨g1, 0, none⟩) n1 c1) ∧ W.cell? ⟨w.heap.size, 1, none⟩ = some (.slice (some ⟨g2, 0, none⟩) n2 c2) ∧ W.cell? ⟨w.heap.size + 1, 0, none⟩ = some (.int .i64 u) ∧ W.cell? ⟨w.heap.size + 1, 1, none⟩ = some (.slice A n c) ∧ W.cell? ⟨w.heap.size + 1 + 1, 0, none⟩ = some (.int .i64 st) ∧ W.cell? ⟨w.heap.size + 1 + 1, 1, none⟩ = some (.slice A2 m dm) ∧ w.heap.size + 1 + 1 < W.heap.size) := Lib.hid (fun W hW => ⟨(hW.cell (p := ⟨w.heap.size, 0, none⟩) (by show w.heap.size < _; omega)).trans k0_0, (hW.cell (p := ⟨w.heap.size, 1, none⟩) (by show w.heap.size < _; omega)).trans k0_1, (hW.cell (p := ⟨w.heap.size + 1, 0, none⟩) (by show w.heap.size + 1 < _; omega)).trans k1_0, (hW.cell (p := ⟨w.heap.size + 1, 1, none⟩) (by show w.heap.size + 1 < _; omega)).trans k1_1, (hW.cell (p := ⟨w.heap.size + 1 + 1, 0, none⟩) (by show w.heap.size + 1 + 1 < _; omega)).trans k2_0, (hW.cell (p := ⟨w.heap.size + 1 + 1, 1, none⟩) (by show w.heap.size + 1 + 1 < _; omega)).trans k2_1, Nat.lt_of_lt_of_le hz0 hW.size⟩)
  have HSZ0 : Hid (W0.heap.size = w.heap.size + 1 + 1 + 1) := Lib.hid (by rw [← hW0]; simp)
  have HB0 := Lib.hid hb0
  rw [hW0]
  clear hW0 hb0 hz0 k0_0 k0_1 k1_0 k1_1 k2_0 k2_1
  refine (CP.out _ HB0.out).mono ?_
  rintro e w1 ⟨rfl, hb1⟩
  have HB1 := Lib.hid (HB0.out.trans (hb1.mono HB0.out.size))
  clear hb1
  go_wp2
  go_ret2
  exact ⟨rfl, HB1.out⟩
set_option maxRecDepth 100000 in
set_option maxHeartbeats 2000000 in
theorem implRA {g1 g2 n1 n2 c1 c2 : Nat} {ss : List ByteArray} {fs : List Q4} {w : World} (h : NetAt g1 g2 n1 n2 c1 c2 ss fs w) (u : Int) {A : Option Addr} {n c : Nat} {ds : List Int} (hn : ds.length = n) (hr : Rd w w.heap.size A (ds.map (Value.int .i64))) (hx : n ≤ 1048576) (st : Int) {A2 : Option Addr} {m dm : Nat} {xs : List Int} (hm : xs.length = m) (hr2 : Rd w w.heap.size A2 (xs.map (Value.int .i64))) (hx2 : m ≤ 1048576) (hTab : Tab w) :
    Calls Tryd.prog 40 #[.agg #[.slice (some ⟨g1, 0, none⟩) n1 c1, .slice (some ⟨g2, 0, none⟩) n2 c2], .agg #[.int .i64 u, .slice A n c], .agg #[.int .i64 st, .slice A2 m dm]] w (RetP (paR ss fs u ds st xs st xs) w) := by
  have CP := Lib.hid (fun (W : World) (hb : Below w.heap.size w W) => implPA (c := c) (dm := dm) (dl := dm) (h.moved hb) u hn (hr.moved hb) hx st hm (hr2.moved hb) hx2 st hm (hr2.moved hb) hx2 (hTab.over hb))
  have HPR : Hid (paR ss fs u ds st xs st xs = .tuple #[.int .i64 (paV ss fs u ds st xs st xs), .bool (paB ss fs u ds st xs st xs)]) := Lib.hid rfl
  obtain ⟨R, hR⟩ : ∃ r, paR ss fs u ds st xs st xs = r := ⟨_, rfl⟩
  rw [hR] at CP HPR ⊢
  obtain ⟨V, hV⟩ : ∃ r, paV ss fs u ds st xs st xs = r := ⟨_, rfl⟩
  obtain ⟨B, hB⟩ : ∃ r, paB ss fs u ds st xs st xs = r := ⟨_, rfl⟩
  rw [hV, hB] at HPR
  rw [HPR.out] at CP ⊢
  clear h hn hr hm hr2 hR hV hB HPR hTab
  go_enter Tryd.func40, Tryd.ntmps40
  go_wp2_with fail
  obtain ⟨W0, hW0⟩ : ∃ W0, (((w.alloc (Obj.cells #[.slice (some ⟨g1, 0, none⟩) n1 c1, .slice (some ⟨g2, 0, none⟩) n2 c2] 34)).alloc (Obj.cells #[.int .i64 u, .slice A n c] 60)).alloc (Obj.cells #[.int .i64 st, .slice A2 m dm] 62)) = W0 := ⟨_, rfl⟩
  have hb0 : Below w.heap.size w W0 := by rw [← hW0]; exact (((Below.refl _ _).alloc (Nat.le_refl _) _).alloc (by simp) _).alloc (by simp; omega) _
  have k0_0 : W0.cell? ⟨w.heap.size, 0, none⟩ = some (.slice (some ⟨g1, 0, none⟩) n1 c1) := by rw [← hW0]; simp [go_sem]
  have k0_1 : W0.cell? ⟨w.heap.size, 1, none⟩ = some (.slice (some ⟨g2, 0, none⟩) n2 c2) := by rw [← hW0]; simp [go_sem]
  have k1_0 : W0.cell? ⟨w.heap.size + 1, 0, none⟩ = some (.int .i64 u) := by rw [← hW0]; simp [go_sem]
  have k1_1 : W0.cell? ⟨w.heap.size + 1, 1, none⟩ = some (.slice A n c) := by rw [← hW0]; simp [go_sem]
  have k2_0 : W0.cell? ⟨w.heap.size + 1 + 1, 0, none⟩ = some (.int .i64 st) := by rw [← hW0]; simp [go_sem]
  have k2_1 : W0.cell? ⟨w.heap.size + 1 + 1, 1, none⟩ = some (.slice A2 m dm) := by rw [← hW0]; simp [go_sem]
  have hz0 : w.heap.size + 1 + 1 < W0.heap.size := by rw [← hW0]; simp
  have HKB : Hid (∀ W, Below W0.heap.size W0 W → W.cell? ⟨w.heap.size, 0, none⟩ = some (.slice (some ⟨g1, 0, none⟩) n1 c1) ∧ W.cell? ⟨w.heap.size, 1, none⟩ = some (.slice (some ⟨g2, 0, none⟩) n2 c2) ∧ W.cell? ⟨w.heap.size + 1, 0, none⟩ = some (.int .i64 u) ∧ W.cell? ⟨w.heap.size + 1, 1, none⟩ = some (.slice A n c) ∧ W.cell? ⟨w.heap.size + 1 + 1, 0, none⟩ = some (.int .i64 st) ∧ W.cell? ⟨w.heap.size + 1 + 1, 1, none⟩ = some (.slice A2 m dm) ∧ w.heap.size + 1 + 1 < W.heap.size) := Lib.hid (fun W hW => ⟨(hW.cell (p := ⟨w.heap.size, 0, none⟩) (by show w.heap.size < _; omega)).trans k0_0, (hW.cell (p := ⟨w.heap.size, 1, none⟩) (by show w.heap.size < _; omega)).trans k0_1, (hW.cell (p := ⟨w.heap.size + 1, 0, none⟩) (by show w.heap.size + 1 < _; omega)).trans k1_0, (hW.cell (p := ⟨w.heap.size + 1, 1, none⟩) (by show w.heap.size + 1 < _; omega)).trans k1_1, (hW.cell (p := ⟨w.heap.size + 1 + 1, 0, none⟩) (by show w.heap.size + 1 + 1 < _; omega)).trans k2_0, (hW.cell (p := ⟨w.heap.size + 1 + 1, 1, none⟩) (by show w.heap.size + 1 + 1 < _; omega)).trans k2_1, Nat.lt_of_lt_of_le hz0 hW.size⟩)
  have HSZ0 : Hid (W0.heap.size = w.heap.size + 1 + 1 + 1) := Lib.hid (by rw [← hW0]; simp)
  have HB0 := Lib.hid hb0
  rw [hW0]
  clear hW0 hb0 hz0 k0_0 k0_1 k1_0 k1_1 k2_0 k2_1
  refine (CP.out _ HB0.out).mono ?_
  rintro e w1 ⟨rfl, hb1⟩
  have HB1 := Lib.hid (HB0.out.trans (hb1.mono HB0.out.size))
  clear hb1
  go_wp2
  go_ret2
  exact ⟨rfl, HB1.out⟩
end Go.Proofs.YtbnfogedmjjiaaaDoor
