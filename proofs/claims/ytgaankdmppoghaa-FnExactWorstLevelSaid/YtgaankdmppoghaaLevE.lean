/- Contracts: WorstLevel, both sides. No condition but those typed. -/
import Derived.Test.YtgaankdmppoghaaLevD
import Derived.Test.YtgaankdmppoghaaShelf
namespace Go.Proofs.Ytgaankdmppoghaa
open Go.ChangeShapes Go.WideShapes Go.ChangeAt Go.RowKit

/-- a is the first place of the least of the first k numbers. -/
def worP (zs : List Int) (k a : Nat) : Prop := a < k ∧ zs.getD a 0 = Lib.minOf (zs.take k) ∧ (∀ j, j < a → Lib.minOf (zs.take k) < zs.getD j 0) ∧ ∀ j, j < k → Lib.minOf (zs.take k) ≤ zs.getD j 0
theorem wor_one (zs : List Int) : worP zs 1 0 := by
  refine ⟨by omega, (Lib.minOf_one zs).symm, fun j hj => by omega, fun j hj => ?_⟩
  obtain rfl : j = 0 := by omega
  rw [Lib.minOf_one]; exact Int.le_refl _
theorem wor_new {zs : List Int} {k a : Nat} (h : worP zs k a) (hk : k < zs.length) (hlt : zs.getD k 0 < zs.getD a 0) : worP zs (k + 1) k := by
  obtain ⟨h1, h2, h3, h4⟩ := h
  have e := Lib.minOf_step zs k (by omega) hk
  have e2 : Lib.minOf (zs.take (k + 1)) = zs.getD k 0 := by rw [e]; omega
  refine ⟨by omega, e2.symm, fun j hj => ?_, fun j hj => ?_⟩
  · have := h4 j hj; omega
  · by_cases hjk : j < k
    · have := h4 j hjk; omega
    · obtain rfl : j = k := by omega
      omega
theorem wor_old {zs : List Int} {k a : Nat} (h : worP zs k a) (hk : k < zs.length) (hlt : zs.getD a 0 ≤ zs.getD k 0) : worP zs (k + 1) a := by
  obtain ⟨h1, h2, h3, h4⟩ := h
  have e := Lib.minOf_step zs k (by omega) hk
  have e2 : Lib.minOf (zs.take (k + 1)) = Lib.minOf (zs.take k) := by rw [e]; omega
  rw [worP, e2]
  refine ⟨by omega, h2, h3, fun j hj => ?_⟩
  by_cases hjk : j < k
  · exact h4 j hjk
  · obtain rfl : j = k := by omega
    omega
theorem wor_end {zs : List Int} {k a : Nat} (h : worP zs k a) (hk : k = zs.length) : zs.getD a 0 = Lib.minOf zs ∧ Lib.idxOf zs (Lib.minOf zs) = (a : Int) := by
  obtain ⟨h1, h2, h3, h4⟩ := h
  have et : zs.take k = zs := List.take_of_length_le (by omega)
  rw [et] at h2 h3
  refine ⟨h2, ?_⟩
  have := Lib.idxOf_hit zs k a (Lib.minOf zs) h1 (by omega) h2 (fun j hj e => by have := h3 j hj; omega)
  rw [et] at this; exact this
def worI (qs : List Q3) (am : List Q4) (l : Int) : Int := if levOk qs am l then Lib.minOf (befA qs am l) else 0
def worK (qs : List Q3) (am : List Q4) (l : Int) : Int := if levOk qs am l then Lib.idxOf (befA qs am l) (Lib.minOf (befA qs am l)) else 0
theorem bef_len {qs : List Q3} {am : List Q4} {l : Int} (h : levOk qs am l = true) : (befA qs am l).length = qs.length ∧ 1 ≤ qs.length ∧ qs.length ≤ 12 := by
  have h2 := lev_last h
  exact ⟨by rw [(lev_some h).1, befL_len], h2.2.1, h2.2.2.1⟩
theorem getD_some {zs : List Int} {k : Nat} (h : k < zs.length) : (zs.map (Value.int .i64))[k]? = some (.int .i64 (zs.getD k 0)) := by
  rw [List.getElem?_map, List.getElem?_eq_getElem h, List.getD_eq_getElem?_getD, List.getElem?_eq_getElem h]; rfl

set_option maxHeartbeats 2000000 in
theorem sWor (g1 n1 c1 g2 n2 c2 : Nat) (qs : List Q3) (am : List Q4) (l : Int) (w : World) (hn1 : qs.length = n1) (hs1 : n1 ≤ 1048576) (hr1 : Rd w w.heap.size (some ⟨g1, 0, none⟩) (qs.flatMap Q3.cells)) (hn2 : am.length = n2) (hs2 : n2 ≤ 1048576) (hr2 : Rd w w.heap.size (some ⟨g2, 0, none⟩) (am.flatMap Q4.cells)) :
    Calls Try.prog 33 #[.slice (some ⟨g1, 0, none⟩) n1 c1, .slice (some ⟨g2, 0, none⟩) n2 c2, .int .i64 l] w (RetV (.tuple #[.int .i64 (worI qs am l), .int .i64 (worK qs am l), .bool (levOk qs am l)]) w) := by
  have C := Lib.hid (sLevels g1 n1 c1 g2 n2 c2 qs am l w hn1 hs1 hr1 hn2 hs2 hr2)
  clear hn1 hr1 hn2 hr2
  unfold LevAns at C
  have hbl := @bef_len qs am l
  unfold worI worK
  obtain ⟨b, hb⟩ : ∃ b, levOk qs am l = b := ⟨_, rfl⟩
  rw [hb] at C hbl ⊢
  clear hb
  cases b
  case false =>
    rw [if_neg Bool.false_ne_true, if_neg Bool.false_ne_true]
    clear hbl
    go_enter Try.func33, Try.ntmps33
    go_wp2_with fail
    refine C.out.mono ?_
    rintro e w1 ⟨A, c, A', c', rfl, _, _, _, hb1⟩
    go_wp2
    go_ret3
    exact retV rfl hb1
  case true =>
  rw [if_pos rfl, if_pos rfl]
  obtain ⟨en, n0, n12⟩ := hbl rfl
  obtain ⟨zs, hzs⟩ : ∃ z, befA qs am l = z := ⟨_, rfl⟩
  rw [hzs] at en C ⊢
  obtain ⟨n, hn⟩ : ∃ n, qs.length = n := ⟨_, rfl⟩
  rw [hn] at en n0 n12
  rw [en] at C
  have HE := Lib.hid en
  obtain ⟨x0, hx0⟩ : ∃ x, Lib.minOf zs = x := ⟨_, rfl⟩
  obtain ⟨i0, hi0⟩ : ∃ x, Lib.idxOf zs (Lib.minOf zs) = x := ⟨_, rfl⟩
  rw [hi0, hx0]
  have HX0 := Lib.hid hx0; have HI0 := Lib.hid hi0
  clear hzs hn en hbl hx0 hi0
  go_enter Try.func33, Try.ntmps33
  go_wp2_with fail
  refine C.out.mono ?_
  rintro e w1 ⟨A, c, A', c', rfl, ho, _, _, hb1⟩
  obtain ⟨g, rfl⟩ := own_some ho (by omega)
  have HO := Lib.hid ho
  have HB := Lib.hid hb1
  clear ho hb1
  go_wp2
  go_loopw [12, 13] (fun a i wr => ∃ (k m : Nat) (d : Nat), k ≤ n ∧ 1 ≤ k ∧ m < k ∧ i = .int .i64 k ∧ a = .int .i64 m ∧ Hid (worP zs k m) ∧ wr = w1.drewN d) (fun _ i _ => n - (intOf i).toNat)
  case atStart => exact ⟨1, 0, 0, n0, by omega, by omega, rfl, rfl, Lib.hid (wor_one zs), rfl⟩
  case round =>
    obtain ⟨k, m, d, hk, hk1, hmk, rfl, rfl, HW, rfl⟩ := hrel
    have f0 : w1.cell? ⟨g, m, none⟩ = some (.int .i64 (zs.getD m 0)) := (HO.out.cellAt m (by omega)).trans (getD_some (by have := HE.out; omega))
    by_cases hlt : k < n
    case neg =>
      obtain rfl : k = n := by omega
      obtain ⟨e1, e2⟩ := wor_end HW.out (HE.out.symm)
      rw [e1, HX0.out] at f0
      obtain rfl : i0 = (m : Int) := HI0.out.symm.trans e2
      clear e1 e2 hlt
      go_wp2
      go_ret3
      exact retV rfl (drewN_below HB.out _)
    case pos =>
    have f1 : w1.cell? ⟨g, k, none⟩ = some (.int .i64 (zs.getD k 0)) := (HO.out.cellAt k (by omega)).trans (getD_some (by have := HE.out; omega))
    have HKL : Hid (k < zs.length) := Lib.hid (by have := HE.out; omega)
    obtain ⟨x, hx⟩ : ∃ x, zs.getD m 0 = x := ⟨_, rfl⟩
    obtain ⟨y, hy⟩ : ∃ x, zs.getD k 0 = x := ⟨_, rfl⟩
    rw [hx] at f0; rw [hy] at f1
    have HX := Lib.hid hx; have HY := Lib.hid hy; clear hx hy
    by_cases hxy : y < x
    · have HN := Lib.hid (wor_new HW.out HKL.out (by rw [HX.out, HY.out]; exact hxy))
      go_wp2
      go_quiet (fail)
      go_wp2
      go_roundw
      case rel => exact ⟨k + 1, k, _, by omega, by omega, by omega, by go_num, rfl, HN, rfl⟩
      case measure => simp [intOf]; omega
    · have HN := Lib.hid (wor_old HW.out HKL.out (by rw [HX.out, HY.out]; omega))
      have q1 : decide (y < x) = false := decide_eq_false hxy
      clear hxy
      go_wp2
      go_quiet (fail)
      go_wp2
      go_roundw
      case rel => exact ⟨k + 1, m, _, by omega, by omega, by omega, by go_num, rfl, HN, rfl⟩
      case measure => simp [intOf]; omega

set_option maxHeartbeats 2000000 in
theorem iWor (g1 n1 c1 g2 n2 : Nat) (qs : List Q3) (am : List Q4) (l : Int) (w : World) (hn1 : qs.length = n1) (hs1 : n1 ≤ 1048576) (hr1 : Rd w w.heap.size (some ⟨g1, 0, none⟩) (qs.flatMap Q3.cells)) (hn2 : am.length = n2) (hs2 : n2 ≤ 1048576) (hr2 : Rd w w.heap.size (some ⟨g2, 0, none⟩) (am.flatMap Q4.cells)) :
    Calls Try.prog 34 #[.slice (some ⟨g1, 0, none⟩) n1 c1, .slice (some ⟨g2, 0, none⟩) n2 n2, .int .i64 l] w (RetV (.tuple #[.int .i64 (worI qs am l), .int .i64 (worK qs am l), .bool (levOk qs am l)]) w) := by
  have C := Lib.hid (iLevels_ g1 n1 c1 g2 n2 qs am l w hn1 hs1 hr1 hn2 hs2 hr2)
  clear hn1 hr1 hn2 hr2
  unfold LevAns at C
  have hbl := @bef_len qs am l
  unfold worI worK
  obtain ⟨b, hb⟩ : ∃ b, levOk qs am l = b := ⟨_, rfl⟩
  rw [hb] at C hbl ⊢
  clear hb
  cases b
  case false =>
    rw [if_neg Bool.false_ne_true, if_neg Bool.false_ne_true]
    clear hbl
    go_enter Try.func34, Try.ntmps34
    go_wp2_with fail
    refine C.out.mono ?_
    rintro e w1 ⟨A, c, A', c', rfl, _, _, _, hb1⟩
    go_wp2
    go_ret3
    exact retV rfl hb1
  case true =>
  rw [if_pos rfl, if_pos rfl]
  obtain ⟨en, n0, n12⟩ := hbl rfl
  obtain ⟨zs, hzs⟩ : ∃ z, befA qs am l = z := ⟨_, rfl⟩
  rw [hzs] at en C ⊢
  obtain ⟨n, hn⟩ : ∃ n, qs.length = n := ⟨_, rfl⟩
  rw [hn] at en n0 n12
  rw [en] at C
  have HE := Lib.hid en
  have HT : Hid (zs.take n = zs) := Lib.hid (List.take_of_length_le (by omega))
  obtain ⟨x, hx⟩ : ∃ x, Lib.minOf zs = x := ⟨_, rfl⟩
  rw [hx]
  have HX := Lib.hid hx
  clear hzs hn en hbl hx
  go_enter Try.func34, Try.ntmps34
  go_wp2_with fail
  refine C.out.mono ?_
  rintro e w1 ⟨A, c, A', c', rfl, ho, _, _, hb1⟩
  obtain ⟨g, rfl⟩ := own_some ho (by omega)
  have HC : Hid (∀ j, j < zs.length → w1.cell? ⟨g, 0 + j, none⟩ = some (.int .i64 (zs.getD j 0))) := Lib.hid fun j hj => by
    rw [Nat.zero_add]
    exact (ho.cellAt j (by have := HE.out; omega)).trans (getD_some hj)
  have HB := Lib.hid hb1
  clear ho hb1
  have CM := Lib.hid (Try.slices_Min_int g 0 n c zs w1 (by omega) (by have := HE.out; omega) (by omega) HC.out)
  have CI := Lib.hid (fun x => Try.slices_Index_int g 0 n c zs x w1 (by have := HE.out; omega) (by omega) HC.out)
  rw [HT.out] at CM CI
  rw [HX.out] at CM
  go_wp2_with fail
  refine CM.out.mono ?_
  rintro e w' ⟨rfl, rfl⟩
  go_wp2_with fail
  refine (CI.out _).mono ?_
  rintro e w' ⟨rfl, rfl⟩
  go_wp2
  go_ret3
  exact retV rfl HB.out
end Go.Proofs.Ytgaankdmppoghaa
