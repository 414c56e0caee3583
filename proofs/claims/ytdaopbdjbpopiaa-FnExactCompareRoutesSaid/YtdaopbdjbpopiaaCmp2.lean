/- Routes compared: the contract of spec.CompareRoutes; cmp.Compare and cmp.Or over ints. No condition but those typed. -/
import Derived.Test.YtdaopbdjbpopiaaCmp
namespace Go.Proofs.Ytdaopbdjbpopiaa
open Go.ChangeShapes Go.WideShapes Go.ChangeAt Go.RowKit

theorem routeB_st {ss : List ByteArray} {fs : List Q4} {st : Int} {fl : List Int} (h : routeB ss fs st fl = true) : 0 ≤ st ∧ st ≤ 1000000 := by
  obtain ⟨hv, vs, hvs⟩ := routeB_yes h
  have h8 := hv.1.2
  unfold routeN at hvs
  by_cases hc : (0 ≤ st ∧ st < (ss.length : Int)) ∧ ¬ fl = []
  · have := hc.1
    omega
  · rw [if_neg hc] at hvs
    cases hvs

set_option maxRecDepth 100000 in
set_option maxHeartbeats 8000000 in
theorem specCR {g1 g2 n1 n2 c1 c2 : Nat} {ss : List ByteArray} {fs : List Q4} {w : World} (h : NetAt g1 g2 n1 n2 c1 c2 ss fs w) (st : Int) {A : Option Addr} {n c : Nat} {xs : List Int} (hn : xs.length = n) (hr : Rd w w.heap.size A (xs.map (Value.int .i64))) (hx : n ≤ 1048576) (st2 : Int) {A2 : Option Addr} {m c3 : Nat} {ys : List Int} (hm : ys.length = m) (hr2 : Rd w w.heap.size A2 (ys.map (Value.int .i64))) (hx2 : m ≤ 1048576) :
    Calls Try.prog 34 #[.agg #[.slice (some ⟨g1, 0, none⟩) n1 c1, .slice (some ⟨g2, 0, none⟩) n2 c2], .agg #[.int .i64 st, .slice A n c], .agg #[.int .i64 st2, .slice A2 m c3]] w (RetP (crR ss fs st xs st2 ys) w) := by
  have HNT := Lib.hid h; have HN := Lib.hid hn; have HR := Lib.hid hr; have HM := Lib.hid hm; have HR2 := Lib.hid hr2
  have HL2 := Lib.hid h.ln2
  clear h hn hr hm hr2
  obtain ⟨R, hRR⟩ : ∃ R, crR ss fs st xs st2 ys = R := ⟨_, rfl⟩
  rw [hRR]
  have HNO : Hid (crB ss fs st xs st2 ys = false → (.tuple #[.int .i64 0, .bool false] : Value) = R) := Lib.hid (fun e => by rw [← hRR]; exact cr_no e)
  have HYES : Hid (crB ss fs st xs st2 ys = true → (.tuple #[.int .i64 (crI fs st xs st2 ys), .bool true] : Value) = R) := Lib.hid (fun e => by rw [← hRR]; exact cr_yes e)
  clear hRR
  go_enter Try.func34, Try.ntmps34
  go_wp2_with fail
  obtain ⟨W0, hW0⟩ : ∃ W0, ((w.alloc (Obj.cells #[.slice (some ⟨g1, 0, none⟩) n1 c1, .slice (some ⟨g2, 0, none⟩) n2 c2] 32)).alloc (Obj.cells #[.int .i64 st, .slice A n c] 45)).alloc (Obj.cells #[.int .i64 st2, .slice A2 m c3] 45) = W0 := ⟨_, rfl⟩
  have hb0 : Below w.heap.size w W0 := by rw [← hW0]; exact (((Below.refl _ _).alloc (Nat.le_refl _) _).alloc (by simp) _).alloc (by simp; omega) _
  have k0 : W0.cell? ⟨w.heap.size, 0, none⟩ = some (.slice (some ⟨g1, 0, none⟩) n1 c1) := by rw [← hW0]; simp [go_sem]
  have k1 : W0.cell? ⟨w.heap.size, 1, none⟩ = some (.slice (some ⟨g2, 0, none⟩) n2 c2) := by rw [← hW0]; simp [go_sem]
  have k2 : W0.cell? ⟨w.heap.size + 1, 0, none⟩ = some (.int .i64 st) := by rw [← hW0]; simp [go_sem]
  have k3 : W0.cell? ⟨w.heap.size + 1, 1, none⟩ = some (.slice A n c) := by rw [← hW0]; simp [go_sem]
  have k4 : W0.cell? ⟨w.heap.size + 1 + 1, 0, none⟩ = some (.int .i64 st2) := by rw [← hW0]; simp [go_sem]
  have k5 : W0.cell? ⟨w.heap.size + 1 + 1, 1, none⟩ = some (.slice A2 m c3) := by rw [← hW0]; simp [go_sem]
  have hz0 : w.heap.size + 2 < W0.heap.size := by rw [← hW0]; simp
  have HB0 := Lib.hid hb0
  rw [hW0]
  clear hW0 hb0
  have HK0 := Lib.hid k0
  have HK1 := Lib.hid k1
  have HK2 := Lib.hid k2
  have HK3 := Lib.hid k3
  have HK4 := Lib.hid k4
  have HK5 := Lib.hid k5
  have HZB := Lib.hid hz0
  clear k0 k1 k2 k3 k4 k5
  have CG := Lib.hid (l4Good_ (c := c) (HNT.out.moved HB0.out) st HN.out (HR.out.moved HB0.out) hx)
  obtain ⟨b, hb⟩ : ∃ b, routeB ss fs st xs = b := ⟨_, rfl⟩
  rw [hb] at CG
  have HRA := Lib.hid hb
  clear hb
  refine CG.out.mono ?_
  rintro e w1 ⟨rfl, hb1⟩
  have HB1 := Lib.hid (HB0.out.trans (hb1.mono HB0.out.size))
  have l0 := (hb1.cell (p := ⟨w.heap.size, 0, none⟩) (by show w.heap.size < _; omega)).trans HK0.out
  have l1 := (hb1.cell (p := ⟨w.heap.size, 1, none⟩) (by show w.heap.size < _; omega)).trans HK1.out
  have l2 := (hb1.cell (p := ⟨w.heap.size + 1, 0, none⟩) (by show w.heap.size + 1 < _; omega)).trans HK2.out
  have l3 := (hb1.cell (p := ⟨w.heap.size + 1, 1, none⟩) (by show w.heap.size + 1 < _; omega)).trans HK3.out
  have l4 := (hb1.cell (p := ⟨w.heap.size + 1 + 1, 0, none⟩) (by show w.heap.size + 1 + 1 < _; omega)).trans HK4.out
  have l5 := (hb1.cell (p := ⟨w.heap.size + 1 + 1, 1, none⟩) (by show w.heap.size + 1 + 1 < _; omega)).trans HK5.out
  have hz1 : w.heap.size + 2 < w1.heap.size := Nat.lt_of_lt_of_le hz0 hb1.size
  clear hb1 hz0
  cases b
  case false =>
    have HE := Lib.hid (HNO.out (by unfold crB; rw [HRA.out]; rfl))
    go_wp2
    go_ret2
    exact ⟨ret_tupC HE.out, HB1.out⟩
  case true =>
  have CG2 := Lib.hid (l4Good_ (c := c3) (HNT.out.moved HB1.out) st2 HM.out (HR2.out.moved HB1.out) hx2)
  obtain ⟨b, hb⟩ : ∃ b, routeB ss fs st2 ys = b := ⟨_, rfl⟩
  rw [hb] at CG2
  have HRB := Lib.hid hb
  clear hb
  go_wp2_with fail
  refine CG2.out.mono ?_
  rintro e w2 ⟨rfl, hb2⟩
  have HB2 := Lib.hid (HB1.out.trans (hb2.mono HB1.out.size))
  have m0 := (hb2.cell (p := ⟨w.heap.size, 0, none⟩) (by show w.heap.size < _; omega)).trans l0
  have m1 := (hb2.cell (p := ⟨w.heap.size, 1, none⟩) (by show w.heap.size < _; omega)).trans l1
  have m2 := (hb2.cell (p := ⟨w.heap.size + 1, 0, none⟩) (by show w.heap.size + 1 < _; omega)).trans l2
  have m3 := (hb2.cell (p := ⟨w.heap.size + 1, 1, none⟩) (by show w.heap.size + 1 < _; omega)).trans l3
  have m4 := (hb2.cell (p := ⟨w.heap.size + 1 + 1, 0, none⟩) (by show w.heap.size + 1 + 1 < _; omega)).trans l4
  have m5 := (hb2.cell (p := ⟨w.heap.size + 1 + 1, 1, none⟩) (by show w.heap.size + 1 + 1 < _; omega)).trans l5
  clear hb2 l0 l1 l2 l3 l4 l5
  cases b
  case false =>
    have HE := Lib.hid (HNO.out (by unfold crB; rw [HRB.out, Bool.and_false]))
    go_wp2
    go_ret2
    exact ⟨ret_tupC HE.out, HB2.out⟩
  case true =>
  have HE := Lib.hid (HYES.out (by unfold crB; rw [HRA.out, HRB.out]; rfl))
  obtain ⟨hnet, us, hus⟩ := routeB_yes HRA.out
  obtain ⟨_, vs, hvs⟩ := routeB_yes HRB.out
  have CC := Lib.hid (l4Compare_ (c := c) (c3 := c3) (HNT.out.moved HB2.out) hnet st HN.out (HR.out.moved HB2.out) hx st2 HM.out (HR2.out.moved HB2.out) hx2 (routeN_mem hus) (routeN_mem hvs) (routeB_st HRA.out) (routeB_st HRB.out))
  obtain ⟨z, hz⟩ : ∃ z, crI fs st xs st2 ys = z := ⟨_, rfl⟩
  rw [hz] at CC HE
  clear hz hnet hus hvs
  go_wp2_with fail
  refine CC.out.mono ?_
  rintro e w3 ⟨rfl, hb3⟩
  have HB3 := Lib.hid (HB2.out.trans (hb3.mono HB2.out.size))
  clear hb3
  go_wp2
  go_ret2
  exact ⟨ret_tupC HE.out, HB3.out⟩

set_option maxHeartbeats 1000000 in
theorem nan_ (x : Int) (w : World) : Calls Try.prog 176 #[.int .i64 x] w fun e w' => e = .returned (.bool false) ∧ w = w' := by
  go_enter Try.func176, Try.ntmps176
  go_wp2
  go_ret
  exact ⟨rfl, rfl⟩
set_option maxHeartbeats 1000000 in
theorem compare_ (a b : Int) (w : World) : Calls Try.prog 113 #[.int .i64 a, .int .i64 b] w fun e w' => e = .returned (.int .i64 (cmpI a b)) ∧ w = w' := by
  rcases Int.lt_trichotomy a b with h | h | h
  · rw [cmp_lt h]
    go_enter Try.func113, Try.ntmps113
    go_wp2_with fail
    refine (nan_ a _).mono ?_
    rintro e w' ⟨rfl, rfl⟩
    go_wp2_with fail
    refine (nan_ b _).mono ?_
    rintro e w' ⟨rfl, rfl⟩
    go_wp2
    go_ret
    exact ⟨rfl, rfl⟩
  · subst h
    rw [cmp_eq]
    go_enter Try.func113, Try.ntmps113
    go_wp2_with fail
    refine (nan_ a _).mono ?_
    rintro e w' ⟨rfl, rfl⟩
    go_wp2_with fail
    refine (nan_ a _).mono ?_
    rintro e w' ⟨rfl, rfl⟩
    go_wp2
    go_ret
    exact ⟨rfl, rfl⟩
  · rw [cmp_gt h]
    go_enter Try.func113, Try.ntmps113
    go_wp2_with fail
    refine (nan_ a _).mono ?_
    rintro e w' ⟨rfl, rfl⟩
    go_wp2_with fail
    refine (nan_ b _).mono ?_
    rintro e w' ⟨rfl, rfl⟩
    go_wp2
    go_ret
    exact ⟨rfl, rfl⟩
set_option maxHeartbeats 2000000 in
theorem or2_ (g c : Nat) (a b : Int) (w : World) (h0 : w.cell? ⟨g, 0, none⟩ = some (.int .i64 a)) (h1 : w.cell? ⟨g, 1, none⟩ = some (.int .i64 b)) :
    Calls Try.prog 111 #[.slice (some ⟨g, 0, none⟩) 2 c] w fun e w' => e = .returned (.int .i64 (orI a b)) ∧ w = w' := by
  obtain ⟨r, hr⟩ : ∃ r, orI a b = r := ⟨_, rfl⟩
  rw [hr]
  have HR := Lib.hid hr
  clear hr
  go_enter Try.func111, Try.ntmps111
  go_wp2
  go_loop [8] (fun i => ∃ k : Nat, i = .int .i64 k ∧ Hid (k = 0 ∨ (k = 1 ∧ a = 0) ∨ (k = 2 ∧ a = 0 ∧ b = 0))) (fun i => 2 - (intOf i).toNat)
  case atStart => exact ⟨0, rfl, Lib.hid (.inl rfl)⟩
  case round =>
    obtain ⟨k, rfl, HK⟩ := hrel
    rcases HK.out with hk | ⟨hk, ha⟩ | ⟨hk, ha, hb⟩
    · subst hk
      by_cases ha : a = 0
      · have HK1 : Hid ((1 : Nat) = 0 ∨ ((1 : Nat) = 1 ∧ a = 0) ∨ ((1 : Nat) = 2 ∧ a = 0 ∧ b = 0)) := Lib.hid (.inr (.inl ⟨rfl, ha⟩))
        have q : (a != 0) = false := by simp [ha]
        clear ha
        go_wp2
        go_round
        case rel => exact ⟨1, by go_num, HK1⟩
        case measure => simp [intOf]
      · have HE : Hid (a = r) := Lib.hid (by rw [← HR.out, or_ne ha])
        have q : (a != 0) = true := by simpa using ha
        clear ha
        go_wp2
        go_ret
        exact ⟨reti HE.out, rfl⟩
    · subst hk
      have HRB : Hid (b = r) := Lib.hid (by rw [← HR.out, ha, or_eq])
      by_cases hb : b = 0
      · have HK1 : Hid ((2 : Nat) = 0 ∨ ((2 : Nat) = 1 ∧ a = 0) ∨ ((2 : Nat) = 2 ∧ a = 0 ∧ b = 0)) := Lib.hid (.inr (.inr ⟨rfl, ha, hb⟩))
        have q : (b != 0) = false := by simp [hb]
        clear ha hb
        go_wp2
        go_round
        case rel => exact ⟨2, by go_num, HK1⟩
        case measure => simp [intOf]
      · have q : (b != 0) = true := by simpa using hb
        clear ha hb
        go_wp2
        go_ret
        exact ⟨reti HRB.out, rfl⟩
    · subst hk
      have HE : Hid ((0 : Int) = r) := Lib.hid (by rw [← HR.out, ha, hb, or_eq])
      clear ha hb
      go_wp2
      go_ret
      exact ⟨reti HE.out, rfl⟩
end Go.Proofs.Ytdaopbdjbpopiaa
