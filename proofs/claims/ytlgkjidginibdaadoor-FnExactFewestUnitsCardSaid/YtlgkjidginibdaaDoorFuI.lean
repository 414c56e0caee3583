/- The fewest units: contracts of canPack and packing.with; the best packing as a fold over a set's elements. No condition. -/
import Derived.Test.YtlgkjidginibdaaDoorFuS
import Derived.Test.YtlgkjidginibdaaDoorCmp3
import Derived.Test.YtlgkjidginibdaaDoorLst
import Derived.BigRegion
import Derived.BigQuiet
namespace Go.Proofs.YtlgkjidginibdaaDoor
open Go.ChangeShapes Go.WideShapes Go.ChangeAt Go.RowKit

set_option maxHeartbeats 2000000 in
theorem canPackT_ {A : Option Addr} {n c : Nat} {L : List Int} {w : World} (cap : Int) (hn : L.length = n) (hr : Rd w w.heap.size A (L.map (Value.int .i64))) (hs : n ≤ 1048576) :
    Calls Tryd.prog 49 #[.slice A n c, .int .i64 cap, .int .i64 10] w fun e w' => e = .returned (.bool (pb (ratesT cap L))) ∧ w = w' := by
  have HN := Lib.hid hn
  obtain ⟨r, hr_⟩ : ∃ r, pb (ratesT cap L) = r := ⟨_, rfl⟩
  have HNO : Hid (¬ ratesT cap L → r = false) := Lib.hid (fun e => by rw [← hr_]; exact pb_false e)
  have HYES : Hid (ratesT cap L → r = true) := Lib.hid (fun e => by rw [← hr_]; exact pb_true e)
  rw [hr_]
  clear hr_ hn
  by_cases hp : 1 ≤ cap ∧ cap ≤ 10000 ∧ n ≤ 10
  case neg =>
    have HE := Lib.hid (HNO.out (fun e => hp ⟨e.2.1.1, e.2.1.2, by have := e.1; have := HN.out; omega⟩))
    by_cases h1 : cap < 1
    · go_enter Tryd.func49, Tryd.ntmps49
      go_wp2
      go_ret
      exact ⟨retb HE.out.symm, rfl⟩
    · by_cases h2 : 10000 < cap
      · go_enter Tryd.func49, Tryd.ntmps49
        go_wp2
        go_ret
        exact ⟨retb HE.out.symm, rfl⟩
      · have h3 : 10 < (n : Int) := by omega
        clear hp
        go_enter Tryd.func49, Tryd.ntmps49
        go_wp2
        go_ret
        exact ⟨retb HE.out.symm, rfl⟩
  case pos =>
    obtain ⟨h1, h2, h3⟩ := hp
    have h3I : (n : Int) ≤ 10 := by omega
    go_enter Tryd.func49, Tryd.ntmps49
    go_wp2
    go_loop [23] (fun i => ∃ k : Nat, k ≤ n ∧ i = .int .i64 k ∧ Hid (∀ j, j < k → 1 ≤ L.getD j 0 ∧ L.getD j 0 ≤ cap)) (fun i => n - (intOf i).toNat)
    case atStart => exact ⟨0, Nat.zero_le _, rfl, Lib.hid (fun j hj => by omega)⟩
    case round =>
      obtain ⟨k, hk, rfl, HA⟩ := hrel
      by_cases hlt : k < n
      case neg =>
        obtain rfl : k = n := by omega
        have HE := Lib.hid (HYES.out ⟨by have := HN.out; omega, ⟨h1, h2⟩, fun j hj => HA.out j (by have := HN.out; omega)⟩)
        go_wp2
        go_ret
        exact ⟨retb HE.out.symm, rfl⟩
      case pos =>
        have hks : k < L.length := by have := HN.out; omega
        obtain ⟨ad, rfl, hb, cx⟩ := ints_at hr (k := k) hks
        obtain ⟨x, hx⟩ : ∃ x, L[k]'hks = x := ⟨_, rfl⟩
        have HX : Hid (L.getD k 0 = x) := Lib.hid (by rw [List.getD_eq_getElem?_getD, List.getElem?_eq_getElem hks, hx]; rfl)
        rw [hx] at cx
        clear hx
        by_cases hx1 : x < 1
        case pos =>
          have HE := Lib.hid (HNO.out (fun e => by have := e.2.2 k hks; rw [HX.out] at this; omega))
          go_wp2
          go_ret
          exact ⟨retb HE.out.symm, rfl⟩
        case neg =>
          by_cases hx2 : cap < x
          case pos =>
            have HE := Lib.hid (HNO.out (fun e => by have := e.2.2 k hks; rw [HX.out] at this; omega))
            go_wp2
            go_ret
            exact ⟨retb HE.out.symm, rfl⟩
          case neg =>
            have HA2 : Hid (∀ j, j < k + 1 → 1 ≤ L.getD j 0 ∧ L.getD j 0 ≤ cap) := Lib.hid (fun j hj => by
              by_cases e : j = k
              · subst e; rw [HX.out]; omega
              · exact HA.out j (by omega))
            go_wp2
            go_round
            case rel => exact ⟨k + 1, by omega, by go_num, HA2⟩
            case measure => simp [intOf]; omega

/-- the implementation's packing: the open unit counts. -/
def upP (q : Pk) : Pk := ⟨q.u + 1, q.l⟩
def wth (cap r : Int) (q : Pk) : Pk := if q.u = 0 ∨ cap < q.l + r then ⟨q.u + 1, r⟩ else ⟨q.u, q.l + r⟩
def dpI (cap : Int) (L : List Int) (s x : Nat) : Pk := if 1 ≤ x ∧ x ≤ s then upP (dpT cap L s x) else ⟨0, 0⟩
theorem wth_dp {cap r : Int} {L : List Int} {s x : Nat} (hL : ratesT cap L) (hr : 1 ≤ r ∧ r ≤ cap) (hx : x ≤ s) : wth cap r (dpI cap L s x) = upP (stp cap r (dpT cap L s x)) := by
  by_cases h0 : x = 0
  · subst h0
    rw [dpT_nil, dpI, if_neg (by omega)]
    unfold wth stp upP
    rw [if_pos (Or.inl rfl), if_neg (by dsimp only; omega)]
    dsimp only
    rw [Int.zero_add, Int.zero_add]
  · have hu := (dpT_in hL s x).1
    rw [dpI, if_pos (by omega)]
    unfold wth stp upP
    dsimp only
    by_cases h1 : cap < (dpT cap L s x).l + r
    · rw [if_pos (Or.inr h1), if_pos h1]
    · rw [if_neg (by omega), if_neg h1]
def fdP (cap : Int) (L : List Int) (g : Nat → Pk) (s : Nat) (l : List Int) : Pk := l.foldl (fun b i => btr (cdP cap L g s i.toNat) b) ⟨1000, 0⟩
theorem fdP_snoc (cap : Int) (L : List Int) (g : Nat → Pk) (s : Nat) (l : List Int) (i : Nat) : fdP cap L g s (l ++ [(i : Int)]) = btr (cdP cap L g s i) (fdP cap L g s l) := by unfold fdP; rw [List.foldl_append]; rfl
theorem cdF_fd (cap : Int) (L : List Int) (g : Nat → Pk) (s : Nat) : ∀ k, cdF cap L g s k = fdP cap L g s (((List.range k).filter s.testBit).map fun i : Nat => ((i : Nat) : Int))
  | 0 => rfl
  | k + 1 => by
    rw [cdF, List.range_succ, List.filter_append, List.map_append]
    cases h : s.testBit k
    · rw [if_neg (by simp)]
      rw [show [k].filter s.testBit = [] by simp [h], List.map_nil, List.append_nil]
      exact cdF_fd cap L g s k
    · rw [if_pos rfl, show [k].filter s.testBit = [k] by simp [h]]
      rw [show [k].map (fun i : Nat => ((i : Nat) : Int)) = [(k : Int)] from rfl, fdP_snoc, cdF_fd cap L g s k]
theorem range_cut {f : Nat → Bool} {n : Nat} (h : ∀ i, n ≤ i → f i = false) : ∀ d, (List.range (n + d)).filter f = (List.range n).filter f
  | 0 => rfl
  | d + 1 => by
    rw [← Nat.add_assoc, List.range_succ, List.filter_append, range_cut h d]
    rw [show [n + d].filter f = [] by simp [h (n + d) (by omega)], List.append_nil]
theorem bl_fd {s n : Nat} (hn : n ≤ 24) (hs : s < 2 ^ n) : bl s = ((List.range n).filter s.testBit).map fun i : Nat => ((i : Nat) : Int) := by
  unfold bl
  obtain ⟨d, hd⟩ : ∃ d, 24 = n + d := ⟨24 - n, by omega⟩
  rw [hd, range_cut (fun i hi => Nat.testBit_lt_two_pow (Nat.lt_of_lt_of_le hs (Nat.pow_le_pow_right (by decide) hi)))]
theorem cdF_bl (cap : Int) (L : List Int) (g : Nat → Pk) {s n : Nat} (hn : n ≤ 24) (hs : s < 2 ^ n) : cdF cap L g s n = fdP cap L g s (bl s) := by rw [cdF_fd, bl_fd hn hs]
theorem cmp_ls (c b : Pk) : (orI (cmpI (c.u + 1) (b.u + 1)) (cmpI c.l b.l) < 0) ↔ lsP c b = true := by
  unfold lsP
  rw [decide_eq_true_iff]
  by_cases h1 : c.u < b.u
  · rw [cmp_lt (by omega), or_ne (by decide)]; omega
  · by_cases h2 : b.u < c.u
    · rw [cmp_gt (by omega), or_ne (by decide)]; omega
    · have e : c.u = b.u := by omega
      rw [e, cmp_eq, or_eq]
      unfold cmpI
      split
      · omega
      · split <;> omega
set_option maxRecDepth 100000 in
set_option maxHeartbeats 2000000 in
theorem with_ (cap r : Int) (q : Pk) (w : World) (hq : (0 ≤ q.u ∧ q.u ≤ 100) ∧ (0 ≤ q.l ∧ q.l ≤ 10000)) (hr : 1 ≤ r ∧ r ≤ 10000) :
    Calls Tryd.prog 51 #[.agg #[.int .i64 q.u, .int .i64 q.l], .int .i64 r, .int .i64 cap] w (RetP (.agg #[.int .i64 (wth cap r q).u, .int .i64 (wth cap r q).l]) w) := by
  obtain ⟨u, l⟩ := q
  dsimp only at hq ⊢
  obtain ⟨⟨hu0, hu1⟩, hl0, hl1⟩ := hq
  obtain ⟨hr0, hr1⟩ := hr
  obtain ⟨W0, hW0⟩ : ∃ W0, (w.alloc (Obj.cells #[.int .i64 u, .int .i64 l] 87)).alloc (Obj.cells #[.int .i64 0, .int .i64 0] 87) = W0 := ⟨_, rfl⟩
  have hb0 : Below w.heap.size w W0 := by rw [← hW0]; exact ((Below.refl _ _).alloc (Nat.le_refl _) _).alloc (by simp) _
  have k0 : W0.cell? ⟨w.heap.size, 0, none⟩ = some (.int .i64 u) := by rw [← hW0]; simp [go_sem]
  have k1 : W0.cell? ⟨w.heap.size, 1, none⟩ = some (.int .i64 l) := by rw [← hW0]; simp [go_sem]
  have z0 : W0.cell? ⟨w.heap.size + 1, 0, none⟩ = some (.int .i64 0) := by rw [← hW0]; simp [go_sem]
  have z1 : W0.cell? ⟨w.heap.size + 1, 1, none⟩ = some (.int .i64 0) := by rw [← hW0]; simp [go_sem]
  have f0 : W0.frozen? ⟨w.heap.size + 1, 0, none⟩ = false := by rw [← hW0]; simp [go_sem]
  have f1 : W0.frozen? ⟨w.heap.size + 1, 1, none⟩ = false := by rw [← hW0]; simp [go_sem]
  have hz0 : w.heap.size + 1 < W0.heap.size := by rw [← hW0]; simp
  have hz1 : w.heap.size < W0.heap.size := by omega
  have HB0 := Lib.hid hb0
  clear hb0
  by_cases h1 : u = 0
  case pos =>
    subst h1
    rw [show wth cap r ⟨0, l⟩ = ⟨1, r⟩ by unfold wth; rw [if_pos (Or.inl rfl)]; rfl]
    go_enter Tryd.func51, Tryd.ntmps51
    go_upto_region 1 with fail
    try rw [hW0]
    clear hW0
    go_wp2
    refine bodyPost_ret (v := .agg #[.int .i64 1, .int .i64 r]) ?_ rfl ?_
    · simp [results, Tryd.results51, go_sem, z0, z1, f0, f1, hz0]
    · exact ⟨rfl, (HB0.out.setCell (p := ⟨w.heap.size + 1, 0, none⟩) (Nat.le_succ _) _).setCell (p := ⟨w.heap.size + 1, 1, none⟩) (Nat.le_succ _) _⟩
  case neg =>
  have hb1 : (u == 0) = false := beq_eq_false_iff_ne.2 h1
  by_cases h2 : cap < l + r
  case pos =>
    rw [show wth cap r ⟨u, l⟩ = ⟨u + 1, r⟩ by unfold wth; rw [if_pos (Or.inr h2)]]
    go_enter Tryd.func51, Tryd.ntmps51
    go_upto_region 1 with fail
    try rw [hW0]
    clear hW0
    go_wp2
    refine bodyPost_ret (v := .agg #[.int .i64 (u + 1), .int .i64 r]) ?_ rfl ?_
    · simp [results, Tryd.results51, go_sem, z0, z1, f0, f1, hz0]
    · exact ⟨rfl, (HB0.out.setCell (p := ⟨w.heap.size + 1, 0, none⟩) (Nat.le_succ _) _).setCell (p := ⟨w.heap.size + 1, 1, none⟩) (Nat.le_succ _) _⟩
  case neg =>
    rw [show wth cap r ⟨u, l⟩ = ⟨u, l + r⟩ by unfold wth; rw [if_neg (by dsimp only; omega)]]
    go_enter Tryd.func51, Tryd.ntmps51
    go_upto_region 1 with fail
    try rw [hW0]
    clear hW0
    go_wp2
    refine bodyPost_ret (v := .agg #[.int .i64 u, .int .i64 (l + r)]) ?_ rfl ?_
    · simp [results, Tryd.results51, go_sem, z0, z1, f0, f1, hz0]
    · exact ⟨rfl, (HB0.out.setCell (p := ⟨w.heap.size + 1, 0, none⟩) (Nat.le_succ _) _).setCell (p := ⟨w.heap.size + 1, 1, none⟩) (Nat.le_succ _) _⟩
end Go.Proofs.YtlgkjidginibdaaDoor
