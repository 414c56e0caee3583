/- Whether two services' spare routes may share: contract of impl.mayShare. No condition but those typed. -/
import Derived.Test.YtlgkjidginibdaaDoorBoth
import Derived.Test.YtlgkjidginibdaaDoorRsk
namespace Go.Proofs.YtlgkjidginibdaaDoor
open Go.ChangeShapes Go.WideShapes Go.ChangeAt Go.RowKit

noncomputable def mayB (fs : List Q4) (ak bk : Int) (xs ys : List Int) : Bool := decide (ak = 2) && (decide (bk = 2) && pb (apP fs xs ys))
set_option maxRecDepth 100000 in
set_option maxHeartbeats 2000000 in
theorem mayShare_ {g1 g2 n1 n2 c1 c2 : Nat} {ss : List ByteArray} {fs : List Q4} {w : World} (h : NetAt g1 g2 n1 n2 c1 c2 ss fs w) (hv : netP ss fs) (ai ak as1 ax1 ay1 as2 ax2 ay2 bi bk bs1 bx1 by1 bs2 bx2 by2 : Int) {A : Option Addr} {n c : Nat} {xs : List Int} (hn : xs.length = n) (hr : Rd w w.heap.size A (xs.map (Value.int .i64))) (hx : n ≤ 1048576) {A2 : Option Addr} {m c3 : Nat} {ys : List Int} (hm : ys.length = m) (hr2 : Rd w w.heap.size A2 (ys.map (Value.int .i64))) (hx2 : m ≤ 1048576) (hmx : ∀ x ∈ xs, 0 ≤ x ∧ x < fs.length) (hmy : ∀ x ∈ ys, 0 ≤ x ∧ x < fs.length) (A8 A9 : Option Addr) (n8 c8 n9 c9 : Nat) :
    Calls Tryd.prog 106 #[.agg #[.slice (some ⟨g1, 0, none⟩) n1 c1, .slice (some ⟨g2, 0, none⟩) n2 c2], .agg #[.int .i64 ai, .int .i64 ak, .int .i64 as1, .slice A n c, .int .i64 ax1, .int .i64 ay1, .int .i64 as2, .slice A8 n8 c8, .int .i64 ax2, .int .i64 ay2], .agg #[.int .i64 bi, .int .i64 bk, .int .i64 bs1, .slice A2 m c3, .int .i64 bx1, .int .i64 by1, .int .i64 bs2, .slice A9 n9 c9, .int .i64 bx2, .int .i64 by2]] w (RetP (.bool (mayB fs ak bk xs ys)) w) := by
  obtain ⟨W0, hW0⟩ : ∃ W0, ((w.alloc (Obj.cells #[.slice (some ⟨g1, 0, none⟩) n1 c1, .slice (some ⟨g2, 0, none⟩) n2 c2] 34)).alloc (Obj.cells #[.int .i64 ai, .int .i64 ak, .int .i64 as1, .slice A n c, .int .i64 ax1, .int .i64 ay1, .int .i64 as2, .slice A8 n8 c8, .int .i64 ax2, .int .i64 ay2] 67)).alloc (Obj.cells #[.int .i64 bi, .int .i64 bk, .int .i64 bs1, .slice A2 m c3, .int .i64 bx1, .int .i64 by1, .int .i64 bs2, .slice A9 n9 c9, .int .i64 bx2, .int .i64 by2] 67) = W0 := ⟨_, rfl⟩
  have hb0 : Below w.heap.size w W0 := by rw [← hW0]; exact (((Below.refl _ _).alloc (Nat.le_refl _) _).alloc (by simp) _).alloc (by simp; omega) _
  have k0_0 : W0.cell? ⟨w.heap.size, 0, none⟩ = some (.slice (some ⟨g1, 0, none⟩) n1 c1) := by rw [← hW0]; simp [go_sem]
  have k0_1 : W0.cell? ⟨w.heap.size, 1, none⟩ = some (.slice (some ⟨g2, 0, none⟩) n2 c2) := by rw [← hW0]; simp [go_sem]
  have k1_1 : W0.cell? ⟨w.heap.size + 1, 1, none⟩ = some (.int .i64 ak) := by rw [← hW0]; simp [go_sem]
  have k1_2 : W0.cell? ⟨w.heap.size + 1, 2, none⟩ = some (.int .i64 as1) := by rw [← hW0]; simp [go_sem]
  have k1_3 : W0.cell? ⟨w.heap.size + 1, 3, none⟩ = some (.slice A n c) := by rw [← hW0]; simp [go_sem]
  have k2_1 : W0.cell? ⟨w.heap.size + 1 + 1, 1, none⟩ = some (.int .i64 bk) := by rw [← hW0]; simp [go_sem]
  have k2_2 : W0.cell? ⟨w.heap.size + 1 + 1, 2, none⟩ = some (.int .i64 bs1) := by rw [← hW0]; simp [go_sem]
  have k2_3 : W0.cell? ⟨w.heap.size + 1 + 1, 3, none⟩ = some (.slice A2 m c3) := by rw [← hW0]; simp [go_sem]
  have hz2 : w.heap.size + 1 + 1 < W0.heap.size := by rw [← hW0]; simp
  have hz1 : w.heap.size + 1 < W0.heap.size := by omega
  have hz0 : w.heap.size < W0.heap.size := by omega
  have HB0 := Lib.hid hb0
  have CB := Lib.hid (onBoth_ (c := c) (c3 := c3) (h.moved hb0) hv as1 hn (hr.moved hb0) hx bs1 hm (hr2.moved hb0) hx2 hmx hmy)
  have HAP := Lib.hid (ap_iff hv (xs := xs) (ys := ys) hmx)
  obtain ⟨L, hL⟩ : ∃ L, bothK (rgL fs) xs ys (rgL fs).length = L := ⟨_, rfl⟩
  rw [hL] at CB HAP
  have HMB : Hid (mayB fs ak bk xs ys = (decide (ak = 2) && (decide (bk = 2) && pb (L = [])))) := Lib.hid (by
    unfold mayB
    by_cases hp : apP fs xs ys
    · rw [pb_true hp, pb_true (HAP.out.1 hp)]
    · rw [pb_false hp, pb_false (fun e => hp (HAP.out.2 e))])
  rw [HMB.out]
  clear hb0 h hv hn hr hm hr2 hmx hmy hL HMB
  by_cases ha : ak = 2
  case neg =>
    have ea : (ak == 2) = false := beq_eq_false_iff_ne.2 ha
    rw [show (decide (ak = 2) && (decide (bk = 2) && pb (L = []))) = false by rw [decide_eq_false ha]; rfl]
    go_enter Tryd.func106, Tryd.ntmps106
    go_wp2
    go_ret
    exact ⟨rfl, HB0.out⟩
  case pos =>
  subst ha
  by_cases hb : bk = 2
  case neg =>
    have eb : (bk == 2) = false := beq_eq_false_iff_ne.2 hb
    rw [show (decide ((2 : Int) = 2) && (decide (bk = 2) && pb (L = []))) = false by rw [decide_eq_false hb]; rfl]
    go_enter Tryd.func106, Tryd.ntmps106
    go_wp2
    go_ret
    exact ⟨rfl, HB0.out⟩
  case pos =>
  subst hb
  obtain ⟨z, hzz⟩ : ∃ z, pb (L = []) = z := ⟨_, rfl⟩
  have HZ := Lib.hid hzz
  rw [show (decide ((2 : Int) = 2) && (decide ((2 : Int) = 2) && pb (L = []))) = z by rw [hzz]; rfl]
  clear hzz
  go_enter Tryd.func106, Tryd.ntmps106
  go_wp2_with fail
  try rw [hW0]
  clear hW0
  refine CB.out.mono ?_
  rintro e w3 ⟨A3, N3, d3, rfl, HN3, ho3, hb3⟩
  have HB3 := Lib.hid (HB0.out.trans (hb3.mono HB0.out.size))
  clear ho3 hb3
  rcases Nat.eq_zero_or_pos N3 with hz | hz
  · obtain rfl : true = z := by rw [← HZ.out, pb_true (List.eq_nil_of_length_eq_zero (by have := HN3.out; omega))]
    subst hz
    go_wp2
    go_ret
    exact ⟨rfl, HB3.out⟩
  · obtain rfl : false = z := by rw [← HZ.out, pb_false (fun e => by have := HN3.out; rw [e] at this; simp at this; omega)]
    have hn9 : (N3 == 0) = false := by simp; omega
    have hn8 : ((N3 : Int) == 0) = false := by simp; omega
    go_wp2
    go_ret
    exact ⟨rfl, HB3.out⟩
end Go.Proofs.YtlgkjidginibdaaDoor
