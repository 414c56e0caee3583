/- Weights of states: contracts of impl.weightOf, spec.l16Weight, and of StateWeight, both sides. No condition but those typed. -/
import Derived.Test.YtnbeomnlobfpfaaDoorOutS
import Derived.Test.YtnbeomnlobfpfaaDoorGB
import Derived.Test.YtnbeomnlobfpfaaDoorSplit6
namespace Go.Proofs.YtnbeomnlobfpfaaDoor
open Go.ChangeShapes Go.WideShapes Go.ChangeAt Go.RowKit

/-- the product of the first k risk groups' parts. -/
def wtN (u : Int) (ds : List Int) (f : Nat) : Nat → Int
  | 0 => 1
  | k + 1 => wtN u ds f k * (if f.testBit k then nth ds k else u - nth ds k)
theorem wtN_in {u : Int} {ds : List Int} {f : Nat} (hu0 : 0 ≤ u) (hu : u ≤ 20) : ∀ {k : Nat}, (∀ j, j < k → 0 ≤ nth ds j ∧ nth ds j ≤ u) → 0 ≤ wtN u ds f k ∧ wtN u ds f k ≤ 20 ^ k
  | 0, _ => ⟨by show (0 : Int) ≤ 1; decide, by show (1 : Int) ≤ 20 ^ 0; decide⟩
  | k + 1, h => by
    have ih := wtN_in hu0 hu (f := f) (k := k) (fun j hj => h j (by omega))
    have hk := h k (by omega)
    have hf : 0 ≤ (if f.testBit k then nth ds k else u - nth ds k) ∧ (if f.testBit k then nth ds k else u - nth ds k) ≤ 20 := by split <;> omega
    refine ⟨Int.mul_nonneg ih.1 hf.1, ?_⟩
    show wtN u ds f k * _ ≤ 20 ^ k * 20
    exact Int.mul_le_mul ih.2 hf.2 hf.1 (Int.pow_nonneg (by decide))
theorem wtN_lt {u : Int} {ds : List Int} {f k : Nat} (hu0 : 0 ≤ u) (hu : u ≤ 20) (h : ∀ j, j < k → 0 ≤ nth ds j ∧ nth ds j ≤ u) (hk : k ≤ 14) : 0 ≤ wtN u ds f k ∧ wtN u ds f k ≤ 20 ^ 14 := by
  have h1 := wtN_in hu0 hu (f := f) h
  have h2 : (20 : Int) ^ k ≤ 20 ^ 14 := by
    have : (20 : Nat) ^ k ≤ 20 ^ 14 := Nat.pow_le_pow_right (by decide) hk
    exact_mod_cast this
  exact ⟨h1.1, Int.le_trans h1.2 h2⟩
theorem wt_wrap {m d p : Int} (e : m * d = p) (h0 : 0 ≤ p) (h1 : p ≤ 20 ^ 14) : IntKind.i64.wrap (m * d) = p := by
  rw [e]; exact IntWalk.i64_in _ (by have : (20 : Int) ^ 14 = 1638400000000000000 := by decide
                                     omega)
set_option maxRecDepth 100000 in
set_option maxHeartbeats 8000000 in
theorem weightOf_ {w : World} (u : Int) (f : Nat) {A : Option Addr} {n c : Nat} {ds : List Int} (hn : ds.length = n) (hr : Rd w w.heap.size A (ds.map (Value.int .i64))) (hx : n ≤ 14) (hu0 : 0 ≤ u) (hu : u ≤ 20) (hd : ∀ j, j < n → 0 ≤ nth ds j ∧ nth ds j ≤ u) (hf : f < 2 ^ 62) :
    Calls Tryd.prog 103 #[.agg #[.int .i64 u, .slice A n c], .int .i64 (f : Int)] w (RetP (.int .i64 (wtN u ds f n)) w) := by
  have HN := Lib.hid hn; have HR := Lib.hid hr; have HD := Lib.hid hd
  have HW : Hid (∀ k, k ≤ n → 0 ≤ wtN u ds f k ∧ wtN u ds f k ≤ 20 ^ 14) := Lib.hid (fun k hk => wtN_lt hu0 hu (fun j hj => hd j (by omega)) (by omega))
  clear hn hr hd
  go_enter Tryd.func103, Tryd.ntmps103
  go_wp2
  obtain ⟨W0, hW0⟩ : ∃ W0, (w.alloc (Obj.cells #[.int .i64 u, .slice A n c] 59)) = W0 := ⟨_, rfl⟩
  have hb0 : Below w.heap.size w W0 := by rw [← hW0]; exact (Below.refl _ _).alloc (Nat.le_refl _) _
  have k0 : W0.cell? ⟨w.heap.size, 0, none⟩ = some (.int .i64 u) := by rw [← hW0]; simp [go_sem]
  have k1 : W0.cell? ⟨w.heap.size, 1, none⟩ = some (.slice A n c) := by rw [← hW0]; simp [go_sem]
  have hz0 : w.heap.size < W0.heap.size := by rw [← hW0]; simp
  have HB0 := Lib.hid hb0
  have HR0 := Lib.hid (HR.out.moved hb0)
  rw [hW0]
  clear hW0 hb0
  go_loop [5, 11] (fun l i => ∃ (k : Nat) (m : Int), k ≤ n ∧ i = .int .i64 k ∧ l = .int .i64 m ∧ Hid (wtN u ds f k = m)) (fun _ i => n - (intOf i).toNat)
  case atStart => exact ⟨0, 1, Nat.zero_le _, rfl, rfl, Lib.hid rfl⟩
  case round =>
    obtain ⟨k, m, hk, rfl, rfl, HA⟩ := hrel
    by_cases hlt : k < n
    case neg =>
      obtain rfl : k = n := by omega
      obtain rfl : wtN u ds f k = m := HA.out
      clear hlt
      go_wp2
      go_ret
      exact ⟨rfl, HB0.out⟩
    case pos =>
    have hks : k < ds.length := by have := HN.out; omega
    obtain ⟨d, hdd⟩ : ∃ d, nth ds k = d := ⟨_, rfl⟩
    have hdb := HD.out k hlt
    rw [hdd] at hdb
    obtain ⟨hd0, hd1⟩ := hdb
    obtain ⟨hm0, hm1⟩ := HW.out k (by omega)
    rw [HA.out] at hm0 hm1
    have hp := HW.out (k + 1) (by omega)
    obtain ⟨p, hpp⟩ : ∃ p, wtN u ds f (k + 1) = p := ⟨_, rfl⟩
    rw [hpp] at hp
    have HP := Lib.hid hpp
    have hpp2 : m * (if f.testBit k then d else u - d) = p := by rw [← hpp, ← HA.out, ← hdd]; rfl
    obtain ⟨hp0, hp1⟩ := hp
    have hbit := bit_of f k hf
    clear hpp
    obtain ⟨ad, hA, hbl, hc⟩ := ints_at HR0.out hks
    subst hA
    rw [nth_eq hks, hdd] at hc
    clear hdd hks
    cases hfk : f.testBit k
    case true =>
      rw [hfk, if_pos rfl] at hbit hpp2
      have hmul := wt_wrap hpp2 hp0 hp1
      clear hfk hpp2
      go_wp2
      go_round
      case rel => exact ⟨k + 1, p, by omega, by go_num, rfl, HP⟩
      case measure => simp [intOf]; omega
    case false =>
      rw [hfk, if_neg (by decide)] at hbit hpp2
      have hmul := wt_wrap hpp2 hp0 hp1
      clear hfk hpp2
      go_wp2
      go_round
      case rel => exact ⟨k + 1, p, by omega, by go_num, rfl, HP⟩
      case measure => simp [intOf]; omega
set_option maxRecDepth 100000 in
set_option maxHeartbeats 8000000 in
theorem l16Weight_ {w : World} (u : Int) (f : Nat) {A : Option Addr} {n c : Nat} {ds : List Int} (hn : ds.length = n) (hr : Rd w w.heap.size A (ds.map (Value.int .i64))) (hx : n ≤ 14) (hu0 : 0 ≤ u) (hu : u ≤ 20) (hd : ∀ j, j < n → 0 ≤ nth ds j ∧ nth ds j ≤ u) (hf : f < 2 ^ 62) :
    Calls Tryd.prog 63 #[.agg #[.int .i64 u, .slice A n c], .int .i64 (f : Int)] w (RetP (.int .i64 (wtN u ds f n)) w) := by
  have HN := Lib.hid hn; have HR := Lib.hid hr; have HD := Lib.hid hd
  have HW : Hid (∀ k, k ≤ n → 0 ≤ wtN u ds f k ∧ wtN u ds f k ≤ 20 ^ 14) := Lib.hid (fun k hk => wtN_lt hu0 hu (fun j hj => hd j (by omega)) (by omega))
  clear hn hr hd
  go_enter Tryd.func63, Tryd.ntmps63
  go_wp2
  obtain ⟨W0, hW0⟩ : ∃ W0, (w.alloc (Obj.cells #[.int .i64 u, .slice A n c] 59)) = W0 := ⟨_, rfl⟩
  have hb0 : Below w.heap.size w W0 := by rw [← hW0]; exact (Below.refl _ _).alloc (Nat.le_refl _) _
  have k0 : W0.cell? ⟨w.heap.size, 0, none⟩ = some (.int .i64 u) := by rw [← hW0]; simp [go_sem]
  have k1 : W0.cell? ⟨w.heap.size, 1, none⟩ = some (.slice A n c) := by rw [← hW0]; simp [go_sem]
  have hz0 : w.heap.size < W0.heap.size := by rw [← hW0]; simp
  have HB0 := Lib.hid hb0
  have HR0 := Lib.hid (HR.out.moved hb0)
  rw [hW0]
  clear hW0 hb0
  have HKB : Hid (∀ W, Below W0.heap.size W0 W → W.cell? ⟨w.heap.size, 0, none⟩ = some (.int .i64 u) ∧ W.cell? ⟨w.heap.size, 1, none⟩ = some (.slice A n c) ∧ w.heap.size < W.heap.size) := Lib.hid (fun W hW => ⟨(hW.cell (p := ⟨w.heap.size, 0, none⟩) hz0).trans k0, (hW.cell (p := ⟨w.heap.size, 1, none⟩) hz0).trans k1, Nat.lt_of_lt_of_le hz0 hW.size⟩)
  clear k0 k1 hz0
  go_loopw [5, 6] (fun l i wr => ∃ (k : Nat) (m : Int), k ≤ n ∧ i = .int .i64 k ∧ l = .int .i64 m ∧ Hid (wtN u ds f k = m) ∧ Below W0.heap.size W0 wr) (fun _ i _ => n - (intOf i).toNat)
  case atStart => exact ⟨0, 1, Nat.zero_le _, rfl, rfl, Lib.hid rfl, Below.refl _ _⟩
  case round =>
    obtain ⟨k, m, hk, rfl, rfl, HA, hb⟩ := hrel
    have HBR := Lib.hid hb
    obtain ⟨k0, k1, hz0⟩ := HKB.out _ hb
    clear hb
    by_cases hlt : k < n
    case neg =>
      obtain rfl : k = n := by omega
      obtain rfl : wtN u ds f k = m := HA.out
      clear hlt
      go_wp2
      go_ret
      exact ⟨rfl, HB0.out.trans (HBR.out.mono HB0.out.size)⟩
    case pos =>
    have hks : k < ds.length := by have := HN.out; omega
    obtain ⟨d, hdd⟩ : ∃ d, nth ds k = d := ⟨_, rfl⟩
    have hdb := HD.out k hlt
    rw [hdd] at hdb
    obtain ⟨hd0, hd1⟩ := hdb
    obtain ⟨hm0, hm1⟩ := HW.out k (by omega)
    rw [HA.out] at hm0 hm1
    have hp := HW.out (k + 1) (by omega)
    obtain ⟨p, hpp⟩ : ∃ p, wtN u ds f (k + 1) = p := ⟨_, rfl⟩
    rw [hpp] at hp
    have HP := Lib.hid hpp
    have hpp2 : m * (if f.testBit k then d else u - d) = p := by rw [← hpp, ← HA.out, ← hdd]; rfl
    obtain ⟨hp0, hp1⟩ := hp
    have hbit := bit_of f k hf
    clear hpp
    obtain ⟨ad, hA, hbl, hc⟩ := ints_at (HR0.out.moved HBR.out) hks
    subst hA
    rw [nth_eq hks, hdd] at hc
    clear hdd hks
    cases hfk : f.testBit k
    case true =>
      rw [hfk, if_pos rfl] at hbit hpp2
      have hmul := wt_wrap hpp2 hp0 hp1
      clear hfk hpp2
      go_wp2
      go_roundw
      case rel => exact ⟨k + 1, p, by omega, by go_num, rfl, HP, HBR.out⟩
      case measure => simp [intOf]; omega
    case false =>
      rw [hfk, if_neg (by decide)] at hbit hpp2
      have hmul := wt_wrap hpp2 hp0 hp1
      clear hfk hpp2
      go_wp2_with fail
      go_quiet (fail)
      go_wp2
      go_roundw
      case rel => exact ⟨k + 1, p, by omega, by go_num, rfl, HP, drewN_below_ HBR.out _⟩
      case measure => simp [intOf]; omega
end Go.Proofs.YtnbeomnlobfpfaaDoor
