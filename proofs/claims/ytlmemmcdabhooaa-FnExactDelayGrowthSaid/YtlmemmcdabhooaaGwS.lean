/- Contracts of the law's helpers over a slice of structs of ints (copy, compare, size). No condition but those typed. -/
import Derived.Test.YtlmemmcdabhooaaQ6
import Derived.Test.YtlmemmcdabhooaaGB
import Derived.Test.YtlmemmcdabhooaaGC
import Derived.WalkKit
import Derived.ProofKit
import Derived.LoopTactic
import Derived.Deep.QuietTactic
import Derived.BigQuiet
import Derived.WalkLawsBesides
import Derived.Deep.RegionHeld3
namespace Go.Proofs.Ytlmemmcdabhooaa
open Go.ChangeShapes Go.WideShapes Go.ChangeAt Go.RowKit Go.Deep

set_option maxRecDepth 100000 in
set_option maxHeartbeats 2000000 in
theorem toGw (x0 x1 x2 x3 x4 x5 : Int) (w : World) :
    Calls Try.prog 65 #[.agg #[.int .i64 x0, .int .i64 x1, .int .i64 x2, .int .i64 x3, .int .i64 x4, .int .i64 x5]] w fun e w' => e = .returned (.agg #[.int .i64 x0, .int .i64 x1, .int .i64 x2, .int .i64 x3, .int .i64 x4, .int .i64 x5]) ∧ Below w.heap.size w w' := by
  go_enter Try.func65, Try.ntmps65
  go_wp2_with fail
  obtain ⟨W0, hW0⟩ : ∃ W0, ((w.alloc (Obj.cells #[.int .i64 x0, .int .i64 x1, .int .i64 x2, .int .i64 x3, .int .i64 x4, .int .i64 x5] 110)).alloc (Obj.cells #[.int .i64 0, .int .i64 0, .int .i64 0, .int .i64 0, .int .i64 0, .int .i64 0] 104)).alloc (Obj.cells #[.int .i64 0, .int .i64 0, .int .i64 0, .int .i64 0, .int .i64 0, .int .i64 0] 104) = W0 := ⟨_, rfl⟩
  have hb0 : Below w.heap.size w W0 := by rw [← hW0]; exact (((Below.refl _ _).alloc (Nat.le_refl _) _).alloc (by simp) _).alloc (by simp; omega) _
  have k4 : W0.cell? ⟨w.heap.size, 4, none⟩ = some (.int .i64 x4) := by rw [← hW0]; simp [go_sem]
  have k5 : W0.cell? ⟨w.heap.size, 5, none⟩ = some (.int .i64 x5) := by rw [← hW0]; simp [go_sem]
  have ho : W0.ownsRow (w.heap.size + 2) 104 6 (.slice (some ⟨w.heap.size + 2, 0, none⟩) 1 1) 1 [.int .i64 0, .int .i64 0, .int .i64 0, .int .i64 0, .int .i64 0, .int .i64 0] := by
    rw [← hW0]
    have := World.ownsRow_lit (base := w.heap.size + 2) (e := 104) (size := 6) ((w.alloc (Obj.cells #[.int .i64 x0, .int .i64 x1, .int .i64 x2, .int .i64 x3, .int .i64 x4, .int .i64 x5] 110)).alloc (Obj.cells #[.int .i64 0, .int .i64 0, .int .i64 0, .int .i64 0, .int .i64 0, .int .i64 0] 104)) #[.int .i64 0, .int .i64 0, .int .i64 0, .int .i64 0, .int .i64 0, .int .i64 0] 1 (by simp) (by unfold maxLen; omega) rfl
    simpa using this
  have hp : W0.ownsRow (w.heap.size + 1) 104 6 (.slice (some ⟨w.heap.size + 1, 0, none⟩) 1 1) 1 [.int .i64 0, .int .i64 0, .int .i64 0, .int .i64 0, .int .i64 0, .int .i64 0] := by
    rw [← hW0]
    have := World.ownsRow_lit (base := w.heap.size + 1) (e := 104) (size := 6) (w.alloc (Obj.cells #[.int .i64 x0, .int .i64 x1, .int .i64 x2, .int .i64 x3, .int .i64 x4, .int .i64 x5] 110)) #[.int .i64 0, .int .i64 0, .int .i64 0, .int .i64 0, .int .i64 0, .int .i64 0] 1 (by simp) (by unfold maxLen; omega) rfl
    have h2 := this.alloc (Obj.cells #[.int .i64 0, .int .i64 0, .int .i64 0, .int .i64 0, .int .i64 0, .int .i64 0] 104)
    simpa using h2
  have hz : w.heap.size + 2 < W0.heap.size := by rw [← hW0]; simp
  have HB0 := Lib.hid hb0
  rw [hW0]
  clear hW0 hb0
  refine (toDem x0 x1 x2 x3 _).mono ?_
  rintro e w2 ⟨rfl, hb2⟩
  have HB2 := Lib.hid (HB0.out.trans (hb2.mono HB0.out.size))
  have l4 := (hb2.cell (p := ⟨w.heap.size, 4, none⟩) (by show w.heap.size < _; omega)).trans k4
  have l5 := (hb2.cell (p := ⟨w.heap.size, 5, none⟩) (by show w.heap.size < _; omega)).trans k5
  have ho2 := ownB ho hb2
  have hp2 := ownB hp hb2
  have hz2 : w.heap.size + 2 < w2.heap.size := Nat.lt_of_lt_of_le hz hb2.size
  clear hb2 ho hp k4 k5 hz
  have f0 := ho2.frozenAt 0
  have f1 := ho2.frozenAt 1
  have f2 := ho2.frozenAt 2
  have f3 := ho2.frozenAt 3
  have f4 := ho2.frozenAt 4
  have f5 := ho2.frozenAt 5
  have p0 := hp2.frozenAt 0
  have p1 := hp2.frozenAt 1
  have p2 := hp2.frozenAt 2
  have p3 := hp2.frozenAt 3
  have p4 := hp2.frozenAt 4
  have p5 := hp2.frozenAt 5
  have c0 := ho2.cellAt 0 (by decide)
  have c1 := ho2.cellAt 1 (by decide)
  have c2 := ho2.cellAt 2 (by decide)
  have c3 := ho2.cellAt 3 (by decide)
  have c4 := ho2.cellAt 4 (by decide)
  have c5 := ho2.cellAt 5 (by decide)
  have d0 := hp2.cellAt 0 (by decide)
  have d1 := hp2.cellAt 1 (by decide)
  have d2 := hp2.cellAt 2 (by decide)
  have d3 := hp2.cellAt 3 (by decide)
  have d4 := hp2.cellAt 4 (by decide)
  have d5 := hp2.cellAt 5 (by decide)
  simp only [List.getElem?_cons_zero, List.getElem?_cons_succ] at c0 c1 c2 c3 c4 c5 d0 d1 d2 d3 d4 d5
  clear ho2 hp2
  go_wp2
  refine bodyPost_ret (v := .agg #[.int .i64 x0, .int .i64 x1, .int .i64 x2, .int .i64 x3, .int .i64 x4, .int .i64 x5]) (by simp [results, Try.results65, go_sem, l4, l5, c0, c1, c2, c3, c4, c5, d0, d1, d2, d3, d4, d5, hz2]) rfl ⟨rfl, ?_⟩
  repeat (first | with_reducible exact HB2.out | refine Below.setCell ?_ (p := ⟨_, _, none⟩) (by simp; omega) _ | refine Below.setCell ?_ (p := ⟨_, _, none⟩) (by simp) _)

theorem Try.inf_Gw : (Try.prog.info? 104).map (fun i => (i.zero, i.size, i.bytes)) = some (some (.agg #[.int .i64 0, .int .i64 0, .int .i64 0, .int .i64 0, .int .i64 0, .int .i64 0]), 6, 48) := by kernel_rfl

set_option maxHeartbeats 400000 in
theorem toGwS (A : Option Addr) (n c : Nat) (qs : List Q6) (w : World) (hn : qs.length = n) (hr : Rd w w.heap.size A (qs.flatMap Q6.cells)) (hsz : n ≤ 1048576) :
    Calls Try.prog 15 #[.slice A n c] w fun e w' => e = .returned (.slice (some ⟨w.heap.size, 0, none⟩) n n) ∧
      w'.ownsRow w.heap.size 104 6 (.slice (some ⟨w.heap.size, 0, none⟩) n n) n (qs.flatMap Q6.cells) ∧ Below w.heap.size w w' := by
  obtain ⟨i0, hi, hz0, hz1, hz2⟩ := info_parts Try.inf_Gw
  have HN := Lib.hid hn; clear hn
  go_enter Try.func15, Try.ntmps15
  go_wp2_with (at_make; refine wpList_make_full _ rfl _ _ 29 rfl w.heap.size 104 i0 _ 6 Try.underlying29 hi hz0 hz1 .i64 .i64 n n n rfl rfl rfl rfl (by rw [hz2]; omega) (by unfold maxLen; omega) (Nat.le_refl _) ?_)
  intro w1 hown hgrow
  have hb1 : Below w.heap.size w w1 := (Below.refl _ _).grown hgrow (Nat.le_refl _) (fun k h => by cases h)
  clear hgrow
  have hown0 : w1.ownsRow w.heap.size 104 6 (.slice (some ⟨w.heap.size, 0, none⟩) n n) n (fill Q6.cells 6 qs 0 n) := by rw [fill_zero, ← made6]; exact hown
  clear hown hi hz0 hz1 hz2
  go_wp2
  go_loopw [4] (fun i wr => ∃ k : Nat, k ≤ n ∧ i = .int .i64 k ∧ wr.ownsRow w.heap.size 104 6 (.slice (some ⟨w.heap.size, 0, none⟩) n n) n (fill Q6.cells 6 qs k n) ∧ Below w.heap.size w wr) (fun i _ => n - (intOf i).toNat)
  case atStart => exact ⟨0, Nat.zero_le _, rfl, hown0, hb1⟩
  case round =>
    clear hown0 hb1
    obtain ⟨k, hk, rfl, hown, hb⟩ := hrel
    by_cases hlt : k < n
    · have hks : k < qs.length := by have := HN.out; omega
      obtain ⟨ad, rfl, hbl, hc0, hc1, hc2, hc3, hc4, hc5⟩ := hr.q6 hks
      rw [← hb.cell (by rw [addBlock]; exact hbl)] at hc0
      rw [← hb.cell (by simp only [addBlock]; exact hbl)] at hc1 hc2 hc3 hc4 hc5
      have HO := Lib.hid hown
      clear hown
      go_wp2_with fail
      refine (toGw _ _ _ _ _ _ _).mono ?_
      rintro e w2 ⟨rfl, hb2⟩
      have hown := ownB HO.out hb2
      clear HO hc0 hc1 hc2 hc3 hc4 hc5
      have hold0 := hown.cellAt (k * 6) (by omega)
      have hold1 := hown.cellAt (k * 6 + 1) (by omega)
      have hold2 := hown.cellAt (k * 6 + 2) (by omega)
      have hold3 := hown.cellAt (k * 6 + 3) (by omega)
      have hold4 := hown.cellAt (k * 6 + 4) (by omega)
      have hold5 := hown.cellAt (k * 6 + 5) (by omega)
      rw [fill_get0 Q6.cells 6 qs k n (fun _ => rfl) HN.out hlt (by omega)] at hold0
      rw [fill_get Q6.cells 6 qs k n 1 (fun _ => rfl) HN.out hlt (by omega)] at hold1
      rw [fill_get Q6.cells 6 qs k n 2 (fun _ => rfl) HN.out hlt (by omega)] at hold2
      rw [fill_get Q6.cells 6 qs k n 3 (fun _ => rfl) HN.out hlt (by omega)] at hold3
      rw [fill_get Q6.cells 6 qs k n 4 (fun _ => rfl) HN.out hlt (by omega)] at hold4
      rw [fill_get Q6.cells 6 qs k n 5 (fun _ => rfl) HN.out hlt (by omega)] at hold5
      have hfz0 := hown.frozenAt (k * 6)
      have hfz1 := hown.frozenAt (k * 6 + 1)
      have hfz2 := hown.frozenAt (k * 6 + 2)
      have hfz3 := hown.frozenAt (k * 6 + 3)
      have hfz4 := hown.frozenAt (k * 6 + 4)
      have hfz5 := hown.frozenAt (k * 6 + 5)
      have HO := Lib.hid hown; clear hown
      have hb' : Below w.heap.size w w2 := hb.trans (hb2.mono hb.size)
      go_wp2
      go_roundw
      case rel =>
        refine ⟨k + 1, by omega, by go_num, ?_, ((((((hb').setCell (Nat.le_refl _) _).setCell (Nat.le_refl _) _).setCell (Nat.le_refl _) _).setCell (Nat.le_refl _) _).setCell (Nat.le_refl _) _).setCell (Nat.le_refl _) _⟩
        have hst := ((((((((((((HO.out).stored (k * 6) (.int .i64 (qs[k]'hks).a)).1).stored (k * 6 + 1) (.int .i64 (qs[k]'hks).b)).1).stored (k * 6 + 2) (.int .i64 (qs[k]'hks).c)).1).stored (k * 6 + 3) (.int .i64 (qs[k]'hks).d)).1).stored (k * 6 + 4) (.int .i64 (qs[k]'hks).e)).1).stored (k * 6 + 5) (.int .i64 (qs[k]'hks).f)).1
        rw [fill_set6 qs k n HN.out hlt] at hst
        exact hst
      case measure => simp [intOf]; omega
    · have hkn : k = n := by omega
      subst hkn
      rw [fill_all Q6.cells 6 qs k HN.out] at hown
      go_wp2
      go_ret
      exact ⟨rfl, hown, hb⟩

set_option maxHeartbeats 400000 in
theorem szGwS (A : Option Addr) (n c : Nat) (left : Int) (w : World) (hm : n ≤ maxLen) (hl0 : 0 ≤ left) (hl1 : left ≤ 1048576) :
    Calls Try.prog 12 #[.slice A n c, .int .i64 left] w fun e w' => ∃ v : Int, e = .returned (.int .i64 v) ∧ w = w' ∧ -1 ≤ v ∧ v ≤ left ∧ (0 ≤ v → v + n ≤ left) := by
  unfold maxLen at hm
  by_cases hc : left - n < 0
  · go_enter Try.func12, Try.ntmps12
    go_wp2
    go_ret
    exact ⟨-1, rfl, rfl, by omega, by omega, by omega⟩
  · have hc' : 0 ≤ left - n := by omega
    clear hc
    go_enter Try.func12, Try.ntmps12
    go_wp2
    go_ret
    exact ⟨left - n, rfl, rfl, by omega, by omega, by omega⟩

set_option maxRecDepth 100000 in
set_option maxHeartbeats 1000000 in
theorem eqGw (x0 x1 x2 x3 x4 x5 : Int) (w : World) :
    Calls Try.prog 68 #[.agg #[.int .i64 x0, .int .i64 x1, .int .i64 x2, .int .i64 x3, .int .i64 x4, .int .i64 x5], .agg #[.int .i64 x0, .int .i64 x1, .int .i64 x2, .int .i64 x3, .int .i64 x4, .int .i64 x5]] w fun e w' => e = .returned (.bool true) ∧ Below w.heap.size w w' := by
  go_enter Try.func68, Try.ntmps68
  go_wp2_with fail
  obtain ⟨W0, hW0⟩ : ∃ W0, (w.alloc (Obj.cells #[.int .i64 x0, .int .i64 x1, .int .i64 x2, .int .i64 x3, .int .i64 x4, .int .i64 x5] 104)).alloc (Obj.cells #[.int .i64 x0, .int .i64 x1, .int .i64 x2, .int .i64 x3, .int .i64 x4, .int .i64 x5] 104) = W0 := ⟨_, rfl⟩
  have hb0 : Below w.heap.size w W0 := by rw [← hW0]; exact ((Below.refl _ _).alloc (Nat.le_refl _) _).alloc (by simp) _
  have k4 : W0.cell? ⟨w.heap.size, 4, none⟩ = some (.int .i64 x4) := by rw [← hW0]; simp [go_sem]
  have k5 : W0.cell? ⟨w.heap.size, 5, none⟩ = some (.int .i64 x5) := by rw [← hW0]; simp [go_sem]
  have m4 : W0.cell? ⟨w.heap.size + 1, 4, none⟩ = some (.int .i64 x4) := by rw [← hW0]; simp [go_sem]
  have m5 : W0.cell? ⟨w.heap.size + 1, 5, none⟩ = some (.int .i64 x5) := by rw [← hW0]; simp [go_sem]
  have hz : w.heap.size + 1 < W0.heap.size := by rw [← hW0]; simp
  have HB0 := Lib.hid hb0
  rw [hW0]
  clear hW0 hb0
  refine (eqDem x0 x1 x2 x3 _).mono ?_
  rintro e w2 ⟨rfl, hb2⟩
  have HB2 := Lib.hid (HB0.out.trans (hb2.mono HB0.out.size))
  have l4 := (hb2.cell (p := ⟨w.heap.size, 4, none⟩) (by show w.heap.size < _; omega)).trans k4
  have l5 := (hb2.cell (p := ⟨w.heap.size, 5, none⟩) (by show w.heap.size < _; omega)).trans k5
  have n4 := (hb2.cell (p := ⟨w.heap.size + 1, 4, none⟩) hz).trans m4
  have n5 := (hb2.cell (p := ⟨w.heap.size + 1, 5, none⟩) hz).trans m5
  clear hb2 k4 k5 m4 m5 hz
  go_wp2
  go_ret
  exact ⟨rfl, HB2.out⟩

set_option maxHeartbeats 400000 in
theorem eqGwS (g g' : Nat) (n c c' : Nat) (qs : List Q6) (w : World) (hn : qs.length = n) (hr : Rd w w.heap.size (some ⟨g, 0, none⟩) (qs.flatMap Q6.cells)) (hr' : Rd w w.heap.size (some ⟨g', 0, none⟩) (qs.flatMap Q6.cells)) (hsz : n ≤ 1048576) :
    Calls Try.prog 17 #[.slice (some ⟨g, 0, none⟩) n c, .slice (some ⟨g', 0, none⟩) n c'] w fun e w' => e = .returned (.bool true) ∧ Below w.heap.size w w' := by
  have HN := Lib.hid hn; clear hn
  go_enter Try.func17, Try.ntmps17
  go_wp2
  go_loopw [5] (fun i wr => ∃ k : Nat, k ≤ n ∧ i = .int .i64 k ∧ Below w.heap.size w wr) (fun i _ => n - (intOf i).toNat)
  case atStart => exact ⟨0, Nat.zero_le _, rfl, Below.refl _ _⟩
  case round =>
    obtain ⟨k, hk, rfl, hb⟩ := hrel
    by_cases hlt : k < n
    · have hks : k < qs.length := by have := HN.out; omega
      obtain ⟨hg, hc0, hc1, hc2, hc3, hc4, hc5⟩ := (hr.over hb).q6c hks
      obtain ⟨hg', hd0, hd1, hd2, hd3, hd4, hd5⟩ := (hr'.over hb).q6c hks
      rw [Nat.zero_add] at hc0 hd0 hc1 hd1 hc2 hd2 hc3 hd3 hc4 hd4 hc5 hd5
      obtain ⟨u0, u1, u2, u3, u4, u5, hq⟩ : ∃ u0 u1 u2 u3 u4 u5, qs[k]'hks = ⟨u0, u1, u2, u3, u4, u5⟩ := ⟨_, _, _, _, _, _, rfl⟩
      rw [hq] at hc0 hd0 hc1 hd1 hc2 hd2 hc3 hd3 hc4 hd4 hc5 hd5
      clear hq
      go_wp2
      have hbd : Bel w wr.drew := Bel.of hb.drew
      go_region_held3 (fun W => W.cell? ⟨g, k * 6, none⟩ = some (.int .i64 u0) ∧ W.cell? ⟨g, k * 6 + 1, none⟩ = some (.int .i64 u1) ∧ W.cell? ⟨g, k * 6 + 2, none⟩ = some (.int .i64 u2) ∧ W.cell? ⟨g, k * 6 + 3, none⟩ = some (.int .i64 u3) ∧ W.cell? ⟨g, k * 6 + 4, none⟩ = some (.int .i64 u4) ∧ W.cell? ⟨g, k * 6 + 5, none⟩ = some (.int .i64 u5) ∧ W.cell? ⟨g', k * 6, none⟩ = some (.int .i64 u0) ∧ W.cell? ⟨g', k * 6 + 1, none⟩ = some (.int .i64 u1) ∧ W.cell? ⟨g', k * 6 + 2, none⟩ = some (.int .i64 u2) ∧ W.cell? ⟨g', k * 6 + 3, none⟩ = some (.int .i64 u3) ∧ W.cell? ⟨g', k * 6 + 4, none⟩ = some (.int .i64 u4) ∧ W.cell? ⟨g', k * 6 + 5, none⟩ = some (.int .i64 u5) ∧ Bel w W)
        (first | go_keep | (go_split_ands; (refine ⟨?_, ?_, ?_, ?_, ?_, ?_, ?_, ?_, ?_, ?_, ?_, ?_, ?_⟩ <;> first | assumption | exact Bel.step (by assumption) hb2 | exact (Bel.at_ (by assumption) hb2 (by assumption)).trans (by assumption))))
        (first | (go_at_call 68; refine (eqGw _ _ _ _ _ _ _).mono ?_; rintro e w2 ⟨rfl, hb2⟩))
      all_goals
        go_wp2
        go_roundw
        case rel => (go_split_ands; exact ⟨k + 1, by omega, by go_num, Bel.out (by assumption)⟩)
        case measure => simp [intOf]; omega
    · go_wp2
      go_ret
      exact ⟨rfl, hb⟩
section
variable {H : Type} {enc : TypeId × Value → H} {w : World} {held : Bool}
theorem tr_q4 {P : Program} {t : TypeId} {f0 f1 f2 f3 : Field} {fuel : Nat} {x0 x1 x2 x3 : Value} {x : DataW H × List MemPlace} (hs : P.underlying t = some (.struct #[f0, f1, f2, f3])) (o0 : f0.offset = 0) (k0 : P.cellsOf f0.type = 1) (o1 : f1.offset = 1) (k1 : P.cellsOf f1.type = 1) (o2 : f2.offset = 2) (k2 : P.cellsOf f2.type = 1) (o3 : f3.offset = 3) (k3 : P.cellsOf f3.type = 1)
    (u0 : P.underlying f0.type = some (.int .i64)) (u1 : P.underlying f1.type = some (.int .i64)) (u2 : P.underlying f2.type = some (.int .i64)) (u3 : P.underlying f3.type = some (.int .i64)) (h : DataW.trod enc P w 0 (fun _ => true) held fuel t [x0, x1, x2, x3] = some x) :
    ∃ a b c d : Int, x0 = .int .i64 a ∧ x1 = .int .i64 b ∧ x2 = .int .i64 c ∧ x3 = .int .i64 d ∧ (Lit.int .i64 a).wf = true ∧ (Lit.int .i64 b).wf = true ∧ (Lit.int .i64 c).wf = true ∧ (Lit.int .i64 d).wf = true := by
  obtain ⟨ys, n, _, hx, _, hlen, hg⟩ := DataW.trod_struct hs h
  match ys, hlen with
  | [y0, y1, y2, y3], _ =>
    have g0 : DataW.trod enc P w 0 (fun _ => true) held n f0.type [x0] = some y0 := by simpa [o0, k0] using hg 0 f0 rfl
    have g1 : DataW.trod enc P w 0 (fun _ => true) held n f1.type [x1] = some y1 := by simpa [o1, k1] using hg 1 f1 rfl
    have g2 : DataW.trod enc P w 0 (fun _ => true) held n f2.type [x2] = some y2 := by simpa [o2, k2] using hg 2 f2 rfl
    have g3 : DataW.trod enc P w 0 (fun _ => true) held n f3.type [x3] = some y3 := by simpa [o3, k3] using hg 3 f3 rfl
    obtain ⟨a, ha, hwa⟩ := tr_int u0 g0
    obtain ⟨b, hb, hwb⟩ := tr_int u1 g1
    obtain ⟨c, hc, hwc⟩ := tr_int u2 g2
    obtain ⟨d, hd, hwd⟩ := tr_int u3 g3
    exact ⟨a, b, c, d, ha, hb, hc, hd, hwa, hwb, hwc, hwd⟩
set_option maxRecDepth 100000 in
theorem trod_Gw {fuel : Nat} {cs : List Value} {x : DataW H × List MemPlace} (h : DataW.trod enc Try.prog w 0 (fun _ => true) held fuel 110 cs = some x) : ∃ r : Q6, cs = r.cells ∧ r.wf := by
  obtain ⟨ys, n, _, _, hl, hlen, hg⟩ := DataW.trod_struct Try.underlying110 h
  have hC : Try.prog.cellsOf 110 = 6 := by kernel_rfl
  rw [hC] at hl
  match cs, hl with
  | [x0, x1, x2, x3, x4, x5], _ =>
    have g0 := hg 0 _ rfl
    have hs0 : ∃ y, ys[0]? = some y := ⟨_, List.getElem?_eq_getElem (by rw [hlen]; decide)⟩
    obtain ⟨y0, hy0⟩ := hs0
    rw [hy0] at g0
    have g0' : DataW.trod enc Try.prog w 0 (fun _ => true) held n _ [x0, x1, x2, x3] = some y0 := g0
    obtain ⟨a, b, c, d, rfl, rfl, rfl, rfl, wa, wb, wc, wd⟩ := tr_q4 Try.underlying108 rfl (by kernel_rfl) rfl (by kernel_rfl) rfl (by kernel_rfl) rfl (by kernel_rfl) Try.underlying3 Try.underlying3 Try.underlying3 Try.underlying3 g0'
    have g1 := hg 1 _ rfl
    have hs1 : ∃ y, ys[1]? = some y := ⟨_, List.getElem?_eq_getElem (by rw [hlen]; decide)⟩
    obtain ⟨y1, hy1⟩ := hs1
    rw [hy1] at g1
    have g1' : DataW.trod enc Try.prog w 0 (fun _ => true) held n _ [x4] = some y1 := g1
    obtain ⟨z4, rfl, w4⟩ := tr_int Try.underlying3 g1'
    have g2 := hg 2 _ rfl
    have hs2 : ∃ y, ys[2]? = some y := ⟨_, List.getElem?_eq_getElem (by rw [hlen]; decide)⟩
    obtain ⟨y2, hy2⟩ := hs2
    rw [hy2] at g2
    have g2' : DataW.trod enc Try.prog w 0 (fun _ => true) held n _ [x5] = some y2 := g2
    obtain ⟨z5, rfl, w5⟩ := tr_int Try.underlying3 g2'
    exact ⟨⟨a, b, c, d, z4, z5⟩, rfl, wa, wb, wc, wd, w4, w5⟩
theorem rd_gws {fuel : Nat} {cs : List Value} {x : DataW H × List MemPlace} (h : DataW.trod enc Try.prog w 0 (fun _ => true) held fuel 26 cs = some x) :
    ∃ (A : Option Addr) (n c : Nat) (rows : List Q6), cs = [.slice A n c] ∧ rows.length = n ∧ n ≤ maxLen ∧ Rd w w.heap.size A (rows.flatMap Q6.cells) ∧ ∀ r ∈ rows, r.wf :=
  rd_rowsG Q6.cells Q6.wf 6 Try.underlying26 (by kernel_rfl) (by decide) (fun _ => rfl) (fun _ _ _ h => trod_Gw h) h
end
theorem toGwX (A : Option Addr) (n c : Nat) (qs : List Q6) (w : World) (hn : qs.length = n) (hr : Rd w w.heap.size A (qs.flatMap Q6.cells)) (hsz : n ≤ 1048576) :
    Calls Try.prog 15 #[.slice A n c] w fun e w' => ∃ g, w.heap.size ≤ g ∧ e = .returned (.slice (some ⟨g, 0, none⟩) n n) ∧
      w'.ownsRow w.heap.size 104 6 (.slice (some ⟨g, 0, none⟩) n n) n (qs.flatMap Q6.cells) ∧ Below w.heap.size w w' :=
  (toGwS A n c qs w hn hr hsz).mono fun _ _ h => ⟨_, Nat.le_refl _, h⟩
theorem szGwX (A : Option Addr) (n c : Nat) (left : Int) (w : World) (hm : n ≤ maxLen) (hl0 : 0 ≤ left) (hl1 : left ≤ 1048576) :
    Calls Try.prog 12 #[.slice A n c, .int .i64 left] w fun e w' => ∃ v : Int, e = .returned (.int .i64 v) ∧ Below w.heap.size w w' ∧ -1 ≤ v ∧ v ≤ left ∧ (0 ≤ v → v + n ≤ left) :=
  (szGwS A n c left w hm hl0 hl1).mono fun _ _ ⟨v, h1, h2, h3⟩ => ⟨v, h1, by rw [← h2]; exact Below.refl _ _, h3⟩

set_option maxRecDepth 100000 in
set_option maxHeartbeats 4000000 in
theorem markGwS (g n c : Nat) (k : Int) (xs : List Value) (w : World) {B : Nat} (ho : w.ownsRow B 104 6 (.slice (some ⟨g, 0, none⟩) n c) n xs) (hn : n ≤ 1048576) (h0 : 0 ≤ k) (h1 : k ≤ 100000000) :
    Calls Try.prog 20 #[.slice (some ⟨g, 0, none⟩) n c, .int .i64 k] w fun e w' => e = .returned (.int .i64 (k + 6 * (n : Int))) ∧ Off (· = g) w w' := by
  have HO := Lib.hid ho; clear ho
  go_enter Try.func20, Try.ntmps20
  go_wp2
  go_loopw [1, 5] (fun q i wr => ∃ (j : Nat) (z : Int) (ys : List Value), j ≤ n ∧ i = .int .i64 j ∧ q = .int .i64 z ∧ z = k + 6 * j ∧ Off (· = g) w wr ∧ wr.ownsRow B 104 6 (.slice (some ⟨g, 0, none⟩) n c) n ys) (fun _ i _ => n - (intOf i).toNat)
  case atStart => exact ⟨0, k, xs, Nat.zero_le _, rfl, rfl, by simp, Off.refl _ _, HO.out⟩
  case round =>
    obtain ⟨j, z, ys, hj, rfl, rfl, hz, hoff, hown⟩ := hrel
    have HF := Lib.hid hoff
    have HZ := Lib.hid hz
    have hz0 : 0 ≤ z := by omega
    have hz1 : z ≤ 200000000 := by omega
    clear hoff hz
    by_cases hlt : j < n
    · have hlen := hown.1
      have hcells : ∀ i, i < 6 → ∃ v, wr.cell? ⟨g, j * 6 + i, none⟩ = some v := by
        intro i hi
        have := hown.cellAt (j * 6 + i) (by omega)
        rw [List.getElem?_eq_getElem (by omega)] at this
        exact ⟨_, this⟩
      obtain ⟨v0, q0⟩ := hcells 0 (by omega)
      obtain ⟨v1, q1⟩ := hcells 1 (by omega)
      obtain ⟨v2, q2⟩ := hcells 2 (by omega)
      obtain ⟨v3, q3⟩ := hcells 3 (by omega)
      obtain ⟨v4, q4⟩ := hcells 4 (by omega)
      obtain ⟨v5, q5⟩ := hcells 5 (by omega)
      rw [Nat.add_zero] at q0
      have z0_ := hown.frozenAt (j * 6)
      have z1_ := hown.frozenAt (j * 6 + 1)
      have z2_ := hown.frozenAt (j * 6 + 2)
      have z3_ := hown.frozenAt (j * 6 + 3)
      have z4_ := hown.frozenAt (j * 6 + 4)
      have z5_ := hown.frozenAt (j * 6 + 5)
      have HST := Lib.hid ((((((((((((hown).stored (j * 6) (.int .i64 z)).1).stored (j * 6 + 1) (.int .i64 (z + 1))).1).stored (j * 6 + 2) (.int .i64 (z + 1 + 1))).1).stored (j * 6 + 3) (.int .i64 (z + 1 + 1 + 1))).1).stored (j * 6 + 4) (.int .i64 (z + 1 + 1 + 1 + 1))).1).stored (j * 6 + 5) (.int .i64 (z + 1 + 1 + 1 + 1 + 1))).1
      clear hown hlen hcells
      go_wp2
      go_roundw
      case rel => exact ⟨j + 1, _, _, by omega, by go_num, rfl, by have := HZ.out; omega, ((((((HF.out.set_ (p := ⟨g, _, none⟩) rfl _).set_ (p := ⟨g, _, none⟩) rfl _).set_ (p := ⟨g, _, none⟩) rfl _).set_ (p := ⟨g, _, none⟩) rfl _).set_ (p := ⟨g, _, none⟩) rfl _).set_ (p := ⟨g, _, none⟩) rfl _), HST.out⟩
      case measure => simp [intOf]; omega
    · have hjn : j = n := by omega
      subst hjn
      have HR : Hid (z = k + 6 * j) := HZ
      clear hlt hown
      go_wp2
      go_ret
      exact ⟨reti HR.out, HF.out⟩
end Go.Proofs.Ytlmemmcdabhooaa
