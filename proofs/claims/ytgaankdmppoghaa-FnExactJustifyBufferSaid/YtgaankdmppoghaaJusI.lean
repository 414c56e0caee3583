/- Contract: JustifyBuffer by the implementation. No condition but those typed. -/
import Derived.Test.YtgaankdmppoghaaJus
namespace Go.Proofs.Ytgaankdmppoghaa
open Go.ChangeShapes Go.WideShapes Go.ChangeAt Go.RowKit

theorem jM_get {low high f : Int} {zs : List Int} {n k : Nat} (hk : k < n) : (jM low high zs f n)[k]'(by rw [jM_len]; exact hk) = jMv low high zs f k := by unfold jM; simp
theorem jG_get {low high f : Int} {zs : List Int} {n k : Nat} (hk : k < n) : (jG low high zs f n)[k]'(by rw [jG_len]; exact hk) = jF low high zs f (k + 1) := by unfold jG; simp
theorem jM_take {low high f : Int} {zs : List Int} {n k : Nat} (hk : k ≤ n) : (jM low high zs f n).take k = jM low high zs f k := by unfold jM; rw [← List.map_take, List.take_range, Nat.min_eq_left hk]
theorem jG_take {low high f : Int} {zs : List Int} {n k : Nat} (hk : k ≤ n) : (jG low high zs f n).take k = jG low high zs f k := by unfold jG; rw [← List.map_take, List.take_range, Nat.min_eq_left hk]
def pad (xs : List Int) (n : Nat) : List Value := xs.map (Value.int .i64) ++ List.replicate (n - xs.length) (.int .i64 0)
theorem pad_nil (n : Nat) : pad [] n = List.replicate n (.int .i64 0) := by unfold pad; simp
theorem pad_full {xs : List Int} {n : Nat} (h : xs.length = n) : pad xs n = xs.map (Value.int .i64) := by unfold pad; rw [h]; simp
theorem pad_get {xs : List Int} {n k : Nat} (h : xs.length = k) (hk : k < n) : (pad xs n)[k]? = some (.int .i64 0) := by
  unfold pad
  rw [List.getElem?_append_right (by simp; omega), List.getElem?_replicate, List.length_map, h, if_pos (by omega)]
theorem pad_set {xs : List Int} {n k : Nat} (h : xs.length = k) (hk : k < n) (z : Int) : (pad xs n).set k (.int .i64 z) = pad (xs ++ [z]) n := by
  unfold pad
  rw [List.set_append_right _ _ (by simp; omega), List.length_map, h, Nat.sub_self, show n - k = (n - (k + 1)) + 1 by omega, List.replicate_succ, List.set_cons_zero, List.length_append, h, List.length_singleton]
  simp
theorem pad_zero {xs : List Int} {n k : Nat} (h : xs.length = k) (hk : k < n) : pad xs n = pad (xs ++ [0]) n := by
  have := pad_set h hk 0
  rw [← this]
  apply List.ext_getElem?
  intro j
  rw [List.getElem?_set]
  by_cases e : k = j
  · subst e; rw [if_pos rfl, if_pos (by unfold pad; simp; omega), pad_get h hk]
  · rw [if_neg e]
theorem jpM {low high f m : Int} {zs : List Int} {k : Nat} (hm : jMv low high zs f k = m) : jM low high zs f k ++ [m] = jM low high zs f (k + 1) := by rw [jM_succ, hm]
theorem jpG {low high f y : Int} {zs : List Int} {k : Nat} (hy : jF low high zs f (k + 1) = y) : jG low high zs f k ++ [y] = jG low high zs f (k + 1) := by rw [jG_succ, hy]

set_option maxHeartbeats 8000000 in
set_option maxRecDepth 100000 in
theorem iJus (A : Option Addr) (n c : Nat) (zs : List Int) (f size low high : Int) (w : World) (hn : zs.length = n) (hs : n ≤ 1048576) (hr : Rd w w.heap.size A (zs.map (Value.int .i64))) :
    Calls Try.prog 53 #[.int .i64 f, .slice A n c, .int .i64 size, .int .i64 low, .int .i64 high] w (JAns f zs size low high w) := by
  have HN := Lib.hid hn; have HR := Lib.hid hr
  clear hn hr
  by_cases t0 : size < 1
  · have HX : Hid (¬ jP f zs size low high) := Lib.hid fun h => by have := h.1.1; omega
    go_enter Try.func53, Try.ntmps53
    go_wp2
    go_ret3
    exact jAns_nil HX.out (Below.refl _ _)
  have u0 : decide (size < 1) = false := decide_eq_false t0
  by_cases t1 : 100 < size
  · have HX : Hid (¬ jP f zs size low high) := Lib.hid fun h => by have := h.1.1; omega
    clear t0
    go_enter Try.func53, Try.ntmps53
    go_wp2
    go_ret3
    exact jAns_nil HX.out (Below.refl _ _)
  have u1 : decide (100 < size) = false := decide_eq_false t1
  by_cases t2 : f < 0
  · have HX : Hid (¬ jP f zs size low high) := Lib.hid fun h => by have := h.1.2.1; omega
    clear t0
    clear t1
    go_enter Try.func53, Try.ntmps53
    go_wp2
    go_ret3
    exact jAns_nil HX.out (Below.refl _ _)
  have u2 : decide (f < 0) = false := decide_eq_false t2
  by_cases t3 : size < f
  · have HX : Hid (¬ jP f zs size low high) := Lib.hid fun h => by have := h.1.2.1; omega
    clear t0
    clear t1
    clear t2
    go_enter Try.func53, Try.ntmps53
    go_wp2
    go_ret3
    exact jAns_nil HX.out (Below.refl _ _)
  have u3 : decide (size < f) = false := decide_eq_false t3
  by_cases t4 : 40 < (n : Int)
  · have HX : Hid (¬ jP f zs size low high) := Lib.hid fun h => by have := h.1.2.2.2.2; have := HN.out; omega
    clear t0
    clear t1
    clear t2
    clear t3
    go_enter Try.func53, Try.ntmps53
    go_wp2
    go_ret3
    exact jAns_nil HX.out (Below.refl _ _)
  have u4 : decide (40 < (n : Int)) = false := decide_eq_false t4
  by_cases t5 : low < 0
  · have HX : Hid (¬ jP f zs size low high) := Lib.hid fun h => by have := h.1.2.2.1; omega
    clear t0
    clear t1
    clear t2
    clear t3
    clear t4
    go_enter Try.func53, Try.ntmps53
    go_wp2
    go_ret3
    exact jAns_nil HX.out (Below.refl _ _)
  have u5 : decide (low < 0) = false := decide_eq_false t5
  by_cases t6 : high < low
  · have HX : Hid (¬ jP f zs size low high) := Lib.hid fun h => by have := h.1.2.2.1; omega
    clear t0
    clear t1
    clear t2
    clear t3
    clear t4
    clear t5
    go_enter Try.func53, Try.ntmps53
    go_wp2
    go_ret3
    exact jAns_nil HX.out (Below.refl _ _)
  have u6 : decide (high < low) = false := decide_eq_false t6
  by_cases t7 : size < high
  · have HX : Hid (¬ jP f zs size low high) := Lib.hid fun h => by have := h.1.2.2.2.1; omega
    clear t0
    clear t1
    clear t2
    clear t3
    clear t4
    clear t5
    clear t6
    go_enter Try.func53, Try.ntmps53
    go_wp2
    go_ret3
    exact jAns_nil HX.out (Below.refl _ _)
  have u7 : decide (size < high) = false := decide_eq_false t7
  have HARG : Hid (jArg f size low high zs.length) := Lib.hid ⟨by omega, by omega, by omega, by omega, by have := HN.out; omega⟩
  have a1 : 1 ≤ size := by omega
  have a2 : size ≤ 100 := by omega
  have b1 : 0 ≤ f := by omega
  have b2 : f ≤ size := by omega
  have c1 : 0 ≤ low := by omega
  have c2 : low ≤ high := by omega
  have c3 : high ≤ size := by omega
  have n40 : n ≤ 40 := by omega
  clear t0 t1 t2 t3 t4 t5 t6 t7
  obtain ⟨i0, hi, hz0, hz1, hz2⟩ := info_parts Try.inf_int
  have hmk : ∀ W : World, (Instr.makeSlice 35 (.int .i64 (n : Int)) (.int .i64 (n : Int))).run Try.prog W = .ok (.slice (some ⟨W.heap.size, 0, none⟩) n n) (W.alloc (.cells (madeCells #[.int .i64 0] n) 3)) := fun W => by
    have := run_make (P := Try.prog) W 35 3 i0 (.int .i64 0) Try.underlying35 hi hz0 .i64 .i64 n n (by omega) (Int.le_refl _) (by rw [hz2]; omega) (by omega)
    rw [hz1] at this
    simp only [Nat.mul_one, Int.toNat_natCast] at this
    exact this
  clear hi hz0 hz1 hz2
  go_enter Try.func53, Try.ntmps53
  go_wp2
  go_region
  ·
    obtain ⟨W0, hW0⟩ : ∃ W0, (((w.alloc (Obj.cells (madeCells #[.int .i64 0] n) 3)).alloc (Obj.cells (madeCells #[.int .i64 0] n) 3)).drew) = W0 := ⟨_, rfl⟩
    have hrow := World.ownsRow_lit (base := w.heap.size) (e := 3) (size := 1) w (madeCells #[.int .i64 0] n) n (Nat.le_refl _) (by unfold maxLen; omega) (by simp [madeCells])
    have hrow2 := World.ownsRow_lit (base := w.heap.size) (e := 3) (size := 1) (w.alloc (Obj.cells (madeCells #[.int .i64 0] n) 3)) (madeCells #[.int .i64 0] n) n (by simp) (by unfold maxLen; omega) (by simp [madeCells])
    have hlist : (madeCells #[Value.int .i64 0] n).toList = pad [] n := by rw [pad_nil]; exact toList_madeCells_one _ _
    rw [hlist] at hrow hrow2
    have hs2 : (w.alloc (Obj.cells (madeCells #[.int .i64 0] n) 3)).heap.size = w.heap.size + 1 := by simp
    rw [hs2] at hrow2
    have HA : Hid (W0.ownsRow w.heap.size 3 1 (.slice (some ⟨w.heap.size, 0, none⟩) n n) n (pad [] n)) := Lib.hid (by rw [← hW0]; exact (hrow.alloc _).drew)
    have HA2 : Hid (W0.ownsRow w.heap.size 3 1 (.slice (some ⟨w.heap.size + 1, 0, none⟩) n n) n (pad [] n)) := Lib.hid (by rw [← hW0]; exact hrow2.drew)
    have HB0 : Hid (Below w.heap.size w W0) := Lib.hid (by rw [← hW0]; exact (((Below.refl w.heap.size w).alloc (Nat.le_refl _) _).alloc (by simp) _).drew)
    have HZ0 : Hid (w.heap.size + 1 < W0.heap.size) := Lib.hid (by rw [← hW0]; simp)
    rw [hW0]
    clear hW0 hrow hrow2 hlist hs2 hmk u0 u1 u2 u3 u4 u5 u6 u7
    go_wp2
    go_loopw [0, 57] (fun x' i wr => ∃ (k : Nat) (x : Int), k ≤ n ∧ i = .int .i64 k ∧ x' = .int .i64 x ∧ 0 ≤ x ∧ x ≤ size ∧ Hid (jF low high zs f k = x) ∧ Hid (∀ j, j < k → stepP low high zs f size j) ∧ Hid (wr.ownsRow w.heap.size 3 1 (.slice (some ⟨w.heap.size, 0, none⟩) n n) n (pad (jM low high zs f k) n)) ∧ Hid (wr.ownsRow w.heap.size 3 1 (.slice (some ⟨w.heap.size + 1, 0, none⟩) n n) n (pad (jG low high zs f k) n)) ∧ Hid (Below w.heap.size w wr)) (fun _ i _ => n - (intOf i).toNat)
    case atStart => exact ⟨0, f, Nat.zero_le _, rfl, rfl, b1, b2, Lib.hid rfl, Lib.hid (fun j hj => by omega), HA, HA2, HB0⟩
    case round =>
      clear HB0 HA HA2
      obtain ⟨k, x, hk, rfl, rfl, x0, x1, HX, HJ, HOW, HOW', HBR⟩ := hrel
      by_cases hlt : k < n
      case neg =>
        obtain rfl : k = n := by omega
        have HQ : Hid (jP f zs size low high) := Lib.hid ⟨HARG.out, fun j hj => HJ.out j (by have := HN.out; omega)⟩
        have HE1 : Hid (pad (jM low high zs f k) k = (jM low high zs f k).map (Value.int .i64)) := Lib.hid (pad_full (jM_len _ _ _ _ _))
        have HE2 : Hid (pad (jG low high zs f k) k = (jG low high zs f k).map (Value.int .i64)) := Lib.hid (pad_full (jG_len _ _ _ _ _))
        clear hlt
        go_wp2
        go_ret3
        exact jAns_yes HQ.out HN.out (by rw [← HE1.out]; exact HOW.out) (by rw [← HE2.out]; exact HOW'.out) (by intro g h1 h2; simp only [Value.ownBlock, Option.some.injEq] at h1 h2; omega) HBR.out
      case pos =>
      have hks : k < zs.length := by have := HN.out; omega
      obtain ⟨ad, rfl, _, f0⟩ := (HR.out.over HBR.out).got (k := k) (by simpa using hks)
      simp only [List.getElem_map] at f0
      obtain ⟨z, hz⟩ : ∃ z, zs[k]'hks = z := ⟨_, rfl⟩
      have HZ : Hid (zs.getD k 0 = z) := Lib.hid ((getD_zs hks).trans hz)
      rw [hz] at f0
      clear hz
      by_cases hzz : 0 ≤ z ∧ z ≤ 14
      case neg =>
        have HX2 : Hid (¬ jP f zs size low high) := Lib.hid fun h => hzz (by have := (h.2 k hks).1; rw [HZ.out] at this; exact this)
        by_cases hz0 : z < 0
        · clear hzz
          go_wp2
          go_ret3
          exact jAns_nil HX2.out HBR.out
        · have q1 : decide (z < 0) = false := decide_eq_false hz0
          have q2 : 14 < z := by omega
          clear hzz hz0
          go_wp2
          go_ret3
          exact jAns_nil HX2.out HBR.out
      case pos =>
      obtain ⟨z0_, z1_⟩ := hzz
      have q1 : decide (z < 0) = false := decide_eq_false (by omega)
      have q2 : decide (14 < z) = false := decide_eq_false (by omega)
      by_cases hsz : x + z ≤ size
      case neg =>
        have HX2 : Hid (¬ jP f zs size low high) := Lib.hid fun h => hsz (by have := (h.2 k hks).2.1; rw [HZ.out, HX.out] at this; exact this)
        have q : size < x + z := by omega
        clear hsz
        go_wp2
        go_ret3
        exact jAns_nil HX2.out HBR.out
      case pos =>
      have q3 : decide (size < x + z) = false := decide_eq_false (by omega)
      have p0 := HOW.out.cellAt k (by omega)
      rw [pad_get (jM_len _ _ _ _ _) hlt] at p0
      have p0' := HOW.out.frozenAt k
      have g0 := HOW'.out.cellAt k (by omega)
      rw [pad_get (jG_len _ _ _ _ _) hlt] at g0
      have g0' := HOW'.out.frozenAt k
      by_cases hlo : x + z < low
      case pos =>
        have hnx := j_next HX.out HZ.out (mv_lo hlo)
        have HNX : Hid (jF low high zs f (k + 1) = (x + z - 11)) := Lib.hid (by have := hnx.1; omega)
        have HMV := Lib.hid hnx.2
        clear hnx
        have d1 : x + z ≤ high := by omega
        have HW1 : Hid ((wr.setCell ⟨w.heap.size, k, none⟩ (.int .i64 (-1))).ownsRow w.heap.size 3 1 (.slice (some ⟨w.heap.size, 0, none⟩) n n) n (pad (jM low high zs f (k + 1)) n)) := Lib.hid (by have h := (HOW.out.stored k (.int .i64 (-1))).1; rw [pad_set (jM_len _ _ _ _ _) hlt, jpM HMV.out] at h; exact h)
        have HW2 : Hid ((wr.setCell ⟨w.heap.size, k, none⟩ (.int .i64 (-1))).ownsRow w.heap.size 3 1 (.slice (some ⟨w.heap.size + 1, 0, none⟩) n n) n (pad (jG low high zs f k) n)) := Lib.hid (ownsRow_setCell_other HOW'.out (a := ⟨w.heap.size, k, none⟩) (by simp [Value.ownBlock]) _)
        have HBM : Hid (Below w.heap.size w (wr.setCell ⟨w.heap.size, k, none⟩ (.int .i64 (-1)))) := Lib.hid (HBR.out.setCell (by simp) _)
        by_cases hng : 0 ≤ (x + z - 11)
        case neg =>
          have HX2 : Hid (¬ jP f zs size low high) := Lib.hid fun h => hng (by have := (h.2 k hks).2.2; rw [HNX.out] at this; exact this)
          have q : (x + z - 11) < 0 := by omega
          clear hng
          go_wp2
          go_ret3
          exact jAns_nil HX2.out HBM.out
        case pos =>
        have q : decide ((x + z - 11) < 0) = false := decide_eq_false (by omega)
        have HJ1 : Hid (∀ j, j < k + 1 → stepP low high zs f size j) := Lib.hid fun j hj => by
          by_cases hjk : j < k
          · exact HJ.out j hjk
          · obtain rfl : j = k := by omega
            exact ⟨by rw [HZ.out]; exact ⟨z0_, z1_⟩, by rw [HX.out, HZ.out]; exact hsz, by rw [HNX.out]; exact hng⟩
        have HW3 : Hid (((wr.setCell ⟨w.heap.size, k, none⟩ (.int .i64 (-1))).setCell ⟨w.heap.size + 1, k, none⟩ (.int .i64 (x + z - 11))).ownsRow w.heap.size 3 1 (.slice (some ⟨w.heap.size, 0, none⟩) n n) n (pad (jM low high zs f (k + 1)) n)) := Lib.hid (ownsRow_setCell_other HW1.out (a := ⟨w.heap.size + 1, k, none⟩) (by simp [Value.ownBlock]) _)
        have HW4 : Hid (((wr.setCell ⟨w.heap.size, k, none⟩ (.int .i64 (-1))).setCell ⟨w.heap.size + 1, k, none⟩ (.int .i64 (x + z - 11))).ownsRow w.heap.size 3 1 (.slice (some ⟨w.heap.size + 1, 0, none⟩) n n) n (pad (jG low high zs f (k + 1)) n)) := Lib.hid (by
          have := (HW2.out.stored k (.int .i64 (x + z - 11))).1
          rw [pad_set (jG_len _ _ _ _ _) hlt, jpG HNX.out] at this; exact this)
        have HB5 : Hid (Below w.heap.size w ((wr.setCell ⟨w.heap.size, k, none⟩ (.int .i64 (-1))).setCell ⟨w.heap.size + 1, k, none⟩ (.int .i64 (x + z - 11)))) := Lib.hid (HBM.out.setCell (by simp) _)
        go_wp2
        clear p0 p0' g0 g0' f0
        go_roundw
        case rel => exact ⟨k + 1, (x + z - 11), by omega, by go_num, rfl, by omega, by omega, HNX, HJ1, HW3, HW4, HB5⟩
        case measure => simp [intOf]; omega
      case neg =>
      by_cases hhi : high < x + z
      case pos =>
        have hnx := j_next HX.out HZ.out (mv_hi (by omega) hhi)
        have HNX : Hid (jF low high zs f (k + 1) = (x + z - 13)) := Lib.hid (by have := hnx.1; omega)
        have HMV := Lib.hid hnx.2
        clear hnx
        have d1 : low ≤ x + z := by omega
        have HW1 : Hid ((wr.setCell ⟨w.heap.size, k, none⟩ (.int .i64 1)).ownsRow w.heap.size 3 1 (.slice (some ⟨w.heap.size, 0, none⟩) n n) n (pad (jM low high zs f (k + 1)) n)) := Lib.hid (by have h := (HOW.out.stored k (.int .i64 1)).1; rw [pad_set (jM_len _ _ _ _ _) hlt, jpM HMV.out] at h; exact h)
        have HW2 : Hid ((wr.setCell ⟨w.heap.size, k, none⟩ (.int .i64 1)).ownsRow w.heap.size 3 1 (.slice (some ⟨w.heap.size + 1, 0, none⟩) n n) n (pad (jG low high zs f k) n)) := Lib.hid (ownsRow_setCell_other HOW'.out (a := ⟨w.heap.size, k, none⟩) (by simp [Value.ownBlock]) _)
        have HBM : Hid (Below w.heap.size w (wr.setCell ⟨w.heap.size, k, none⟩ (.int .i64 1))) := Lib.hid (HBR.out.setCell (by simp) _)
        by_cases hng : 0 ≤ (x + z - 13)
        case neg =>
          have HX2 : Hid (¬ jP f zs size low high) := Lib.hid fun h => hng (by have := (h.2 k hks).2.2; rw [HNX.out] at this; exact this)
          have q : (x + z - 13) < 0 := by omega
          clear hng
          go_wp2
          go_ret3
          exact jAns_nil HX2.out HBM.out
        case pos =>
        have q : decide ((x + z - 13) < 0) = false := decide_eq_false (by omega)
        have HJ1 : Hid (∀ j, j < k + 1 → stepP low high zs f size j) := Lib.hid fun j hj => by
          by_cases hjk : j < k
          · exact HJ.out j hjk
          · obtain rfl : j = k := by omega
            exact ⟨by rw [HZ.out]; exact ⟨z0_, z1_⟩, by rw [HX.out, HZ.out]; exact hsz, by rw [HNX.out]; exact hng⟩
        have HW3 : Hid (((wr.setCell ⟨w.heap.size, k, none⟩ (.int .i64 1)).setCell ⟨w.heap.size + 1, k, none⟩ (.int .i64 (x + z - 13))).ownsRow w.heap.size 3 1 (.slice (some ⟨w.heap.size, 0, none⟩) n n) n (pad (jM low high zs f (k + 1)) n)) := Lib.hid (ownsRow_setCell_other HW1.out (a := ⟨w.heap.size + 1, k, none⟩) (by simp [Value.ownBlock]) _)
        have HW4 : Hid (((wr.setCell ⟨w.heap.size, k, none⟩ (.int .i64 1)).setCell ⟨w.heap.size + 1, k, none⟩ (.int .i64 (x + z - 13))).ownsRow w.heap.size 3 1 (.slice (some ⟨w.heap.size + 1, 0, none⟩) n n) n (pad (jG low high zs f (k + 1)) n)) := Lib.hid (by
          have := (HW2.out.stored k (.int .i64 (x + z - 13))).1
          rw [pad_set (jG_len _ _ _ _ _) hlt, jpG HNX.out] at this; exact this)
        have HB5 : Hid (Below w.heap.size w ((wr.setCell ⟨w.heap.size, k, none⟩ (.int .i64 1)).setCell ⟨w.heap.size + 1, k, none⟩ (.int .i64 (x + z - 13)))) := Lib.hid (HBM.out.setCell (by simp) _)
        go_wp2
        clear p0 p0' g0 g0' f0
        go_roundw
        case rel => exact ⟨k + 1, (x + z - 13), by omega, by go_num, rfl, by omega, by omega, HNX, HJ1, HW3, HW4, HB5⟩
        case measure => simp [intOf]; omega
      case neg =>
      by_cases hmid : low ≤ x + z ∧ x + z ≤ high
      case pos =>
        have hnx := j_next HX.out HZ.out (mv_mid hmid.1 hmid.2)
        have HNX : Hid (jF low high zs f (k + 1) = (x + z - 12)) := Lib.hid (by have := hnx.1; omega)
        have HMV := Lib.hid hnx.2
        clear hnx
        obtain ⟨d1, d2⟩ := hmid
        have HW1 : Hid (wr.ownsRow w.heap.size 3 1 (.slice (some ⟨w.heap.size, 0, none⟩) n n) n (pad (jM low high zs f (k + 1)) n)) := Lib.hid (by have h := HOW.out; rw [pad_zero (jM_len _ _ _ _ _) hlt, jpM HMV.out] at h; exact h)
        have HW2 : Hid (wr.ownsRow w.heap.size 3 1 (.slice (some ⟨w.heap.size + 1, 0, none⟩) n n) n (pad (jG low high zs f k) n)) := Lib.hid (HOW'.out)
        have HBM : Hid (Below w.heap.size w wr) := Lib.hid (HBR.out)
        by_cases hng : 0 ≤ (x + z - 12)
        case neg =>
          have HX2 : Hid (¬ jP f zs size low high) := Lib.hid fun h => hng (by have := (h.2 k hks).2.2; rw [HNX.out] at this; exact this)
          have q : (x + z - 12) < 0 := by omega
          clear hng
          go_wp2
          go_ret3
          exact jAns_nil HX2.out HBM.out
        case pos =>
        have q : decide ((x + z - 12) < 0) = false := decide_eq_false (by omega)
        have HJ1 : Hid (∀ j, j < k + 1 → stepP low high zs f size j) := Lib.hid fun j hj => by
          by_cases hjk : j < k
          · exact HJ.out j hjk
          · obtain rfl : j = k := by omega
            exact ⟨by rw [HZ.out]; exact ⟨z0_, z1_⟩, by rw [HX.out, HZ.out]; exact hsz, by rw [HNX.out]; exact hng⟩
        have HW3 : Hid ((wr.setCell ⟨w.heap.size + 1, k, none⟩ (.int .i64 (x + z - 12))).ownsRow w.heap.size 3 1 (.slice (some ⟨w.heap.size, 0, none⟩) n n) n (pad (jM low high zs f (k + 1)) n)) := Lib.hid (ownsRow_setCell_other HW1.out (a := ⟨w.heap.size + 1, k, none⟩) (by simp [Value.ownBlock]) _)
        have HW4 : Hid ((wr.setCell ⟨w.heap.size + 1, k, none⟩ (.int .i64 (x + z - 12))).ownsRow w.heap.size 3 1 (.slice (some ⟨w.heap.size + 1, 0, none⟩) n n) n (pad (jG low high zs f (k + 1)) n)) := Lib.hid (by
          have := (HW2.out.stored k (.int .i64 (x + z - 12))).1
          rw [pad_set (jG_len _ _ _ _ _) hlt, jpG HNX.out] at this; exact this)
        have HB5 : Hid (Below w.heap.size w (wr.setCell ⟨w.heap.size + 1, k, none⟩ (.int .i64 (x + z - 12)))) := Lib.hid (HBM.out.setCell (by simp) _)
        go_wp2
        clear p0 p0' g0 g0' f0
        go_roundw
        case rel => exact ⟨k + 1, (x + z - 12), by omega, by go_num, rfl, by omega, by omega, HNX, HJ1, HW3, HW4, HB5⟩
        case measure => simp [intOf]; omega
      case neg =>
      exact absurd ⟨by omega, by omega⟩ hmid
  ·
    obtain ⟨W0, hW0⟩ : ∃ W0, (((w.alloc (Obj.cells (madeCells #[.int .i64 0] n) 3)).alloc (Obj.cells (madeCells #[.int .i64 0] n) 3)).drew) = W0 := ⟨_, rfl⟩
    have hrow := World.ownsRow_lit (base := w.heap.size) (e := 3) (size := 1) w (madeCells #[.int .i64 0] n) n (Nat.le_refl _) (by unfold maxLen; omega) (by simp [madeCells])
    have hrow2 := World.ownsRow_lit (base := w.heap.size) (e := 3) (size := 1) (w.alloc (Obj.cells (madeCells #[.int .i64 0] n) 3)) (madeCells #[.int .i64 0] n) n (by simp) (by unfold maxLen; omega) (by simp [madeCells])
    have hlist : (madeCells #[Value.int .i64 0] n).toList = pad [] n := by rw [pad_nil]; exact toList_madeCells_one _ _
    rw [hlist] at hrow hrow2
    have hs2 : (w.alloc (Obj.cells (madeCells #[.int .i64 0] n) 3)).heap.size = w.heap.size + 1 := by simp
    rw [hs2] at hrow2
    have HA : Hid (W0.ownsRow w.heap.size 3 1 (.slice (some ⟨w.heap.size, 0, none⟩) n n) n (pad [] n)) := Lib.hid (by rw [← hW0]; exact (hrow.alloc _).drew)
    have HA2 : Hid (W0.ownsRow w.heap.size 3 1 (.slice (some ⟨w.heap.size + 1, 0, none⟩) n n) n (pad [] n)) := Lib.hid (by rw [← hW0]; exact hrow2.drew)
    have HB0 : Hid (Below w.heap.size w W0) := Lib.hid (by rw [← hW0]; exact (((Below.refl w.heap.size w).alloc (Nat.le_refl _) _).alloc (by simp) _).drew)
    have HZ0 : Hid (w.heap.size + 1 < W0.heap.size) := Lib.hid (by rw [← hW0]; simp)
    rw [hW0]
    clear hW0 hrow hrow2 hlist hs2 hmk u0 u1 u2 u3 u4 u5 u6 u7
    go_wp2
    go_loopw [0, 57] (fun x' i wr => ∃ (k : Nat) (x : Int), k ≤ n ∧ i = .int .i64 k ∧ x' = .int .i64 x ∧ 0 ≤ x ∧ x ≤ size ∧ Hid (jF low high zs f k = x) ∧ Hid (∀ j, j < k → stepP low high zs f size j) ∧ Hid (wr.ownsRow w.heap.size 3 1 (.slice (some ⟨w.heap.size + 1, 0, none⟩) n n) n (pad (jM low high zs f k) n)) ∧ Hid (wr.ownsRow w.heap.size 3 1 (.slice (some ⟨w.heap.size, 0, none⟩) n n) n (pad (jG low high zs f k) n)) ∧ Hid (Below w.heap.size w wr)) (fun _ i _ => n - (intOf i).toNat)
    case atStart => exact ⟨0, f, Nat.zero_le _, rfl, rfl, b1, b2, Lib.hid rfl, Lib.hid (fun j hj => by omega), HA2, HA, HB0⟩
    case round =>
      clear HB0 HA HA2
      obtain ⟨k, x, hk, rfl, rfl, x0, x1, HX, HJ, HOW, HOW', HBR⟩ := hrel
      by_cases hlt : k < n
      case neg =>
        obtain rfl : k = n := by omega
        have HQ : Hid (jP f zs size low high) := Lib.hid ⟨HARG.out, fun j hj => HJ.out j (by have := HN.out; omega)⟩
        have HE1 : Hid (pad (jM low high zs f k) k = (jM low high zs f k).map (Value.int .i64)) := Lib.hid (pad_full (jM_len _ _ _ _ _))
        have HE2 : Hid (pad (jG low high zs f k) k = (jG low high zs f k).map (Value.int .i64)) := Lib.hid (pad_full (jG_len _ _ _ _ _))
        clear hlt
        go_wp2
        go_ret3
        exact jAns_yes HQ.out HN.out (by rw [← HE1.out]; exact HOW.out) (by rw [← HE2.out]; exact HOW'.out) (by intro g h1 h2; simp only [Value.ownBlock, Option.some.injEq] at h1 h2; omega) HBR.out
      case pos =>
      have hks : k < zs.length := by have := HN.out; omega
      obtain ⟨ad, rfl, _, f0⟩ := (HR.out.over HBR.out).got (k := k) (by simpa using hks)
      simp only [List.getElem_map] at f0
      obtain ⟨z, hz⟩ : ∃ z, zs[k]'hks = z := ⟨_, rfl⟩
      have HZ : Hid (zs.getD k 0 = z) := Lib.hid ((getD_zs hks).trans hz)
      rw [hz] at f0
      clear hz
      by_cases hzz : 0 ≤ z ∧ z ≤ 14
      case neg =>
        have HX2 : Hid (¬ jP f zs size low high) := Lib.hid fun h => hzz (by have := (h.2 k hks).1; rw [HZ.out] at this; exact this)
        by_cases hz0 : z < 0
        · clear hzz
          go_wp2
          go_ret3
          exact jAns_nil HX2.out HBR.out
        · have q1 : decide (z < 0) = false := decide_eq_false hz0
          have q2 : 14 < z := by omega
          clear hzz hz0
          go_wp2
          go_ret3
          exact jAns_nil HX2.out HBR.out
      case pos =>
      obtain ⟨z0_, z1_⟩ := hzz
      have q1 : decide (z < 0) = false := decide_eq_false (by omega)
      have q2 : decide (14 < z) = false := decide_eq_false (by omega)
      by_cases hsz : x + z ≤ size
      case neg =>
        have HX2 : Hid (¬ jP f zs size low high) := Lib.hid fun h => hsz (by have := (h.2 k hks).2.1; rw [HZ.out, HX.out] at this; exact this)
        have q : size < x + z := by omega
        clear hsz
        go_wp2
        go_ret3
        exact jAns_nil HX2.out HBR.out
      case pos =>
      have q3 : decide (size < x + z) = false := decide_eq_false (by omega)
      have p0 := HOW.out.cellAt k (by omega)
      rw [pad_get (jM_len _ _ _ _ _) hlt] at p0
      have p0' := HOW.out.frozenAt k
      have g0 := HOW'.out.cellAt k (by omega)
      rw [pad_get (jG_len _ _ _ _ _) hlt] at g0
      have g0' := HOW'.out.frozenAt k
      by_cases hlo : x + z < low
      case pos =>
        have hnx := j_next HX.out HZ.out (mv_lo hlo)
        have HNX : Hid (jF low high zs f (k + 1) = (x + z - 11)) := Lib.hid (by have := hnx.1; omega)
        have HMV := Lib.hid hnx.2
        clear hnx
        have d1 : x + z ≤ high := by omega
        have HW1 : Hid ((wr.setCell ⟨w.heap.size + 1, k, none⟩ (.int .i64 (-1))).ownsRow w.heap.size 3 1 (.slice (some ⟨w.heap.size + 1, 0, none⟩) n n) n (pad (jM low high zs f (k + 1)) n)) := Lib.hid (by have h := (HOW.out.stored k (.int .i64 (-1))).1; rw [pad_set (jM_len _ _ _ _ _) hlt, jpM HMV.out] at h; exact h)
        have HW2 : Hid ((wr.setCell ⟨w.heap.size + 1, k, none⟩ (.int .i64 (-1))).ownsRow w.heap.size 3 1 (.slice (some ⟨w.heap.size, 0, none⟩) n n) n (pad (jG low high zs f k) n)) := Lib.hid (ownsRow_setCell_other HOW'.out (a := ⟨w.heap.size + 1, k, none⟩) (by simp [Value.ownBlock]) _)
        have HBM : Hid (Below w.heap.size w (wr.setCell ⟨w.heap.size + 1, k, none⟩ (.int .i64 (-1)))) := Lib.hid (HBR.out.setCell (by simp) _)
        by_cases hng : 0 ≤ (x + z - 11)
        case neg =>
          have HX2 : Hid (¬ jP f zs size low high) := Lib.hid fun h => hng (by have := (h.2 k hks).2.2; rw [HNX.out] at this; exact this)
          have q : (x + z - 11) < 0 := by omega
          clear hng
          go_wp2
          go_ret3
          exact jAns_nil HX2.out HBM.out
        case pos =>
        have q : decide ((x + z - 11) < 0) = false := decide_eq_false (by omega)
        have HJ1 : Hid (∀ j, j < k + 1 → stepP low high zs f size j) := Lib.hid fun j hj => by
          by_cases hjk : j < k
          · exact HJ.out j hjk
          · obtain rfl : j = k := by omega
            exact ⟨by rw [HZ.out]; exact ⟨z0_, z1_⟩, by rw [HX.out, HZ.out]; exact hsz, by rw [HNX.out]; exact hng⟩
        have HW3 : Hid (((wr.setCell ⟨w.heap.size + 1, k, none⟩ (.int .i64 (-1))).setCell ⟨w.heap.size, k, none⟩ (.int .i64 (x + z - 11))).ownsRow w.heap.size 3 1 (.slice (some ⟨w.heap.size + 1, 0, none⟩) n n) n (pad (jM low high zs f (k + 1)) n)) := Lib.hid (ownsRow_setCell_other HW1.out (a := ⟨w.heap.size, k, none⟩) (by simp [Value.ownBlock]) _)
        have HW4 : Hid (((wr.setCell ⟨w.heap.size + 1, k, none⟩ (.int .i64 (-1))).setCell ⟨w.heap.size, k, none⟩ (.int .i64 (x + z - 11))).ownsRow w.heap.size 3 1 (.slice (some ⟨w.heap.size, 0, none⟩) n n) n (pad (jG low high zs f (k + 1)) n)) := Lib.hid (by
          have := (HW2.out.stored k (.int .i64 (x + z - 11))).1
          rw [pad_set (jG_len _ _ _ _ _) hlt, jpG HNX.out] at this; exact this)
        have HB5 : Hid (Below w.heap.size w ((wr.setCell ⟨w.heap.size + 1, k, none⟩ (.int .i64 (-1))).setCell ⟨w.heap.size, k, none⟩ (.int .i64 (x + z - 11)))) := Lib.hid (HBM.out.setCell (by simp) _)
        go_wp2
        clear p0 p0' g0 g0' f0
        go_roundw
        case rel => exact ⟨k + 1, (x + z - 11), by omega, by go_num, rfl, by omega, by omega, HNX, HJ1, HW3, HW4, HB5⟩
        case measure => simp [intOf]; omega
      case neg =>
      by_cases hhi : high < x + z
      case pos =>
        have hnx := j_next HX.out HZ.out (mv_hi (by omega) hhi)
        have HNX : Hid (jF low high zs f (k + 1) = (x + z - 13)) := Lib.hid (by have := hnx.1; omega)
        have HMV := Lib.hid hnx.2
        clear hnx
        have d1 : low ≤ x + z := by omega
        have HW1 : Hid ((wr.setCell ⟨w.heap.size + 1, k, none⟩ (.int .i64 1)).ownsRow w.heap.size 3 1 (.slice (some ⟨w.heap.size + 1, 0, none⟩) n n) n (pad (jM low high zs f (k + 1)) n)) := Lib.hid (by have h := (HOW.out.stored k (.int .i64 1)).1; rw [pad_set (jM_len _ _ _ _ _) hlt, jpM HMV.out] at h; exact h)
        have HW2 : Hid ((wr.setCell ⟨w.heap.size + 1, k, none⟩ (.int .i64 1)).ownsRow w.heap.size 3 1 (.slice (some ⟨w.heap.size, 0, none⟩) n n) n (pad (jG low high zs f k) n)) := Lib.hid (ownsRow_setCell_other HOW'.out (a := ⟨w.heap.size + 1, k, none⟩) (by simp [Value.ownBlock]) _)
        have HBM : Hid (Below w.heap.size w (wr.setCell ⟨w.heap.size + 1, k, none⟩ (.int .i64 1))) := Lib.hid (HBR.out.setCell (by simp) _)
        by_cases hng : 0 ≤ (x + z - 13)
        case neg =>
          have HX2 : Hid (¬ jP f zs size low high) := Lib.hid fun h => hng (by have := (h.2 k hks).2.2; rw [HNX.out] at this; exact this)
          have q : (x + z - 13) < 0 := by omega
          clear hng
          go_wp2
          go_ret3
          exact jAns_nil HX2.out HBM.out
        case pos =>
        have q : decide ((x + z - 13) < 0) = false := decide_eq_false (by omega)
        have HJ1 : Hid (∀ j, j < k + 1 → stepP low high zs f size j) := Lib.hid fun j hj => by
          by_cases hjk : j < k
          · exact HJ.out j hjk
          · obtain rfl : j = k := by omega
            exact ⟨by rw [HZ.out]; exact ⟨z0_, z1_⟩, by rw [HX.out, HZ.out]; exact hsz, by rw [HNX.out]; exact hng⟩
        have HW3 : Hid (((wr.setCell ⟨w.heap.size + 1, k, none⟩ (.int .i64 1)).setCell ⟨w.heap.size, k, none⟩ (.int .i64 (x + z - 13))).ownsRow w.heap.size 3 1 (.slice (some ⟨w.heap.size + 1, 0, none⟩) n n) n (pad (jM low high zs f (k + 1)) n)) := Lib.hid (ownsRow_setCell_other HW1.out (a := ⟨w.heap.size, k, none⟩) (by simp [Value.ownBlock]) _)
        have HW4 : Hid (((wr.setCell ⟨w.heap.size + 1, k, none⟩ (.int .i64 1)).setCell ⟨w.heap.size, k, none⟩ (.int .i64 (x + z - 13))).ownsRow w.heap.size 3 1 (.slice (some ⟨w.heap.size, 0, none⟩) n n) n (pad (jG low high zs f (k + 1)) n)) := Lib.hid (by
          have := (HW2.out.stored k (.int .i64 (x + z - 13))).1
          rw [pad_set (jG_len _ _ _ _ _) hlt, jpG HNX.out] at this; exact this)
        have HB5 : Hid (Below w.heap.size w ((wr.setCell ⟨w.heap.size + 1, k, none⟩ (.int .i64 1)).setCell ⟨w.heap.size, k, none⟩ (.int .i64 (x + z - 13)))) := Lib.hid (HBM.out.setCell (by simp) _)
        go_wp2
        clear p0 p0' g0 g0' f0
        go_roundw
        case rel => exact ⟨k + 1, (x + z - 13), by omega, by go_num, rfl, by omega, by omega, HNX, HJ1, HW3, HW4, HB5⟩
        case measure => simp [intOf]; omega
      case neg =>
      by_cases hmid : low ≤ x + z ∧ x + z ≤ high
      case pos =>
        have hnx := j_next HX.out HZ.out (mv_mid hmid.1 hmid.2)
        have HNX : Hid (jF low high zs f (k + 1) = (x + z - 12)) := Lib.hid (by have := hnx.1; omega)
        have HMV := Lib.hid hnx.2
        clear hnx
        obtain ⟨d1, d2⟩ := hmid
        have HW1 : Hid (wr.ownsRow w.heap.size 3 1 (.slice (some ⟨w.heap.size + 1, 0, none⟩) n n) n (pad (jM low high zs f (k + 1)) n)) := Lib.hid (by have h := HOW.out; rw [pad_zero (jM_len _ _ _ _ _) hlt, jpM HMV.out] at h; exact h)
        have HW2 : Hid (wr.ownsRow w.heap.size 3 1 (.slice (some ⟨w.heap.size, 0, none⟩) n n) n (pad (jG low high zs f k) n)) := Lib.hid (HOW'.out)
        have HBM : Hid (Below w.heap.size w wr) := Lib.hid (HBR.out)
        by_cases hng : 0 ≤ (x + z - 12)
        case neg =>
          have HX2 : Hid (¬ jP f zs size low high) := Lib.hid fun h => hng (by have := (h.2 k hks).2.2; rw [HNX.out] at this; exact this)
          have q : (x + z - 12) < 0 := by omega
          clear hng
          go_wp2
          go_ret3
          exact jAns_nil HX2.out HBM.out
        case pos =>
        have q : decide ((x + z - 12) < 0) = false := decide_eq_false (by omega)
        have HJ1 : Hid (∀ j, j < k + 1 → stepP low high zs f size j) := Lib.hid fun j hj => by
          by_cases hjk : j < k
          · exact HJ.out j hjk
          · obtain rfl : j = k := by omega
            exact ⟨by rw [HZ.out]; exact ⟨z0_, z1_⟩, by rw [HX.out, HZ.out]; exact hsz, by rw [HNX.out]; exact hng⟩
        have HW3 : Hid ((wr.setCell ⟨w.heap.size, k, none⟩ (.int .i64 (x + z - 12))).ownsRow w.heap.size 3 1 (.slice (some ⟨w.heap.size + 1, 0, none⟩) n n) n (pad (jM low high zs f (k + 1)) n)) := Lib.hid (ownsRow_setCell_other HW1.out (a := ⟨w.heap.size, k, none⟩) (by simp [Value.ownBlock]) _)
        have HW4 : Hid ((wr.setCell ⟨w.heap.size, k, none⟩ (.int .i64 (x + z - 12))).ownsRow w.heap.size 3 1 (.slice (some ⟨w.heap.size, 0, none⟩) n n) n (pad (jG low high zs f (k + 1)) n)) := Lib.hid (by
          have := (HW2.out.stored k (.int .i64 (x + z - 12))).1
          rw [pad_set (jG_len _ _ _ _ _) hlt, jpG HNX.out] at this; exact this)
        have HB5 : Hid (Below w.heap.size w (wr.setCell ⟨w.heap.size, k, none⟩ (.int .i64 (x + z - 12)))) := Lib.hid (HBM.out.setCell (by simp) _)
        go_wp2
        clear p0 p0' g0 g0' f0
        go_roundw
        case rel => exact ⟨k + 1, (x + z - 12), by omega, by go_num, rfl, by omega, by omega, HNX, HJ1, HW3, HW4, HB5⟩
        case measure => simp [intOf]; omega
      case neg =>
      exact absurd ⟨by omega, by omega⟩ hmid
theorem sJusW (A : Option Addr) (n c : Nat) (zs : List Int) (f size low high : Int) (w : World) (hn : zs.length = n) (hs : n ≤ 1048576) (hr : Rd w w.heap.size A (zs.map (Value.int .i64))) :
    Calls Try.prog 52 #[.int .i64 f, .slice A n c, .int .i64 size, .int .i64 low, .int .i64 high] w (Ans2 3 1 ((jMo f zs size low high).map (Value.int .i64)) (jMo f zs size low high).length 3 1 ((jFi f zs size low high).map (Value.int .i64)) (jFi f zs size low high).length (fun v v' => .tuple #[v, v', .bool (jB f zs size low high)]) w) := sJus A n c zs f size low high w hn hs hr
theorem iJusW (A : Option Addr) (n c : Nat) (zs : List Int) (f size low high : Int) (w : World) (hn : zs.length = n) (hs : n ≤ 1048576) (hr : Rd w w.heap.size A (zs.map (Value.int .i64))) :
    Calls Try.prog 53 #[.int .i64 f, .slice A n c, .int .i64 size, .int .i64 low, .int .i64 high] w (Ans2 3 1 ((jMo f zs size low high).map (Value.int .i64)) (jMo f zs size low high).length 3 1 ((jFi f zs size low high).map (Value.int .i64)) (jFi f zs size low high).length (fun v v' => .tuple #[v, v', .bool (jB f zs size low high)]) w) := iJus A n c zs f size low high w hn hs hr
end Go.Proofs.Ytgaankdmppoghaa
