/- Contracts: spec.SlotsFor. No condition but those typed. -/
import Derived.Test.YthmmhhoaplbfgaaSlots
namespace Go.Proofs.Ythmmhhoaplbfgaa
open Go.ChangeShapes Go.WideShapes Go.ChangeAt Go.RowKit

def slS (qs : List Q2) (x y : Int) : Int := if 0 ≤ bestK qs x qs.length ∧ slK qs x y ≤ 24 then slK qs x y else 0
set_option maxHeartbeats 2000000 in
theorem specSl (g n c : Nat) (qs : List Q2) (x y : Int) (w : World) (hn : qs.length = n) (hr : Rd w w.heap.size (some ⟨g, 0, none⟩) (qs.flatMap Q2.cells)) (hf : fmtsP qs) (hy1 : 1 ≤ y) (hy2 : y ≤ 1000) :
    Calls Try.prog 76 #[.slice (some ⟨g, 0, none⟩) n c, .int .i64 x, .int .i64 y] w (RetV (.int .i64 (slS qs x y)) w) := by
  have hn6 : n ≤ 6 := by have := hf.1.2; omega
  have CB0 := specBest g 0 n c qs x w hn hr hn6
  by_cases hp : 0 ≤ bestK qs x qs.length
  case neg =>
    have hs : slS qs x y = 0 := if_neg fun h => hp h.1
    rw [hs]
    obtain ⟨z, hz⟩ : ∃ z, bestK qs x n = z := ⟨_, rfl⟩
    have hz' : z < 0 := by rw [← hz, ← hn]; omega
    rw [hz] at CB0
    have CB := Lib.hid CB0
    clear hs hp hz hr hf hn CB0
    go_enter Try.func76, Try.ntmps76
    go_wp2_with fail
    refine CB.out.mono ?_
    rintro e w1 ⟨rfl, hb1⟩
    have HB1 := Lib.hid hb1; clear hb1
    go_wp2
    go_ret
    exact retV rfl HB1.out
  case pos =>
  obtain ⟨j, hj, ej⟩ := best_lt qs x qs.length hp
  rw [← hn, ej] at CB0
  have CB := Lib.hid CB0
  have hq := (hf.2 j hj hj).2.1
  have ebR : bR qs x = qs[j].b := by
    unfold bR q2D; rw [ej, Int.toNat_natCast, List.getElem?_eq_getElem hj]; rfl
  obtain ⟨hgw, hc0, hc1⟩ := hr.q2c hj
  rw [Nat.zero_add] at hc0 hc1
  obtain ⟨b, hb⟩ : ∃ b, qs[j].b = b := ⟨_, rfl⟩
  rw [hb] at hc1 ebR hq
  obtain ⟨h3, h4⟩ := sl_bounds b y hq.1 hq.2 hy1 hy2
  have eK : slK qs x y = (y + b - 1) / b := by unfold slK; rw [ebR]
  obtain ⟨hq1, hq2⟩ := hq
  have hjn : (j : Int) < n := by omega
  have hjn' : j < n := by omega
  have hb0 : (b == 0) = false := by simp; omega
  have hb0' : b ≠ 0 := by omega
  obtain ⟨k, hk⟩ : ∃ k, (y + b - 1) / b = k := ⟨_, rfl⟩
  have hkt : (y + b - 1).tdiv b = k := by rw [Int.tdiv_eq_ediv_of_nonneg (by omega)]; exact hk
  rw [hk] at eK h3 h4
  have hs : slS qs x y = if k ≤ 24 then k else 0 := by
    unfold slS
    rw [eK]
    by_cases h : k ≤ 24
    · rw [if_pos ⟨hp, h⟩, if_pos h]
    · rw [if_neg (fun h' => h h'.2), if_neg h]
  rw [hs]
  subst hn
  by_cases h24 : k ≤ 24
  case neg =>
    rw [if_neg h24]
    have h24' : 24 < k := by omega
    clear hp hr CB0 hf ebR ej eK hb hs
    go_enter Try.func76, Try.ntmps76
    go_wp2_with fail
    refine CB.out.mono ?_
    rintro e w1 ⟨rfl, hb1⟩
    have HB1 := Lib.hid hb1
    have k1 := (hb1.cell (p := ⟨g, j * 2 + 1, none⟩) hgw).trans hc1
    clear hb1
    go_wp2
    go_quiet (fail)
    go_wp2
    go_ret
    exact retV rfl (drewN_below HB1.out _)
  case pos =>
    rw [if_pos h24]
    clear hp hr CB0 hf ebR ej eK hb hs
    go_enter Try.func76, Try.ntmps76
    go_wp2_with fail
    refine CB.out.mono ?_
    rintro e w1 ⟨rfl, hb1⟩
    have HB1 := Lib.hid hb1
    have k1 := (hb1.cell (p := ⟨g, j * 2 + 1, none⟩) hgw).trans hc1
    clear hb1
    go_wp2
    go_quiet (fail)
    go_wp2
    go_ret
    exact retV rfl (drewN_below HB1.out _)

set_option maxHeartbeats 2000000 in
theorem specSlots (g n c : Nat) (qs : List Q2) (x y : Int) (w : World) (hn : qs.length = n) (hr : Rd w w.heap.size (some ⟨g, 0, none⟩) (qs.flatMap Q2.cells)) (hm : n ≤ 1048576) :
    Calls Try.prog 28 #[.slice (some ⟨g, 0, none⟩) n c, .int .i64 x, .int .i64 y] w (RetV (slR qs x y) w) := by
  have CV0 := specFmts g 0 n c qs w hn hr hm
  by_cases hf : fmtsP qs
  case neg =>
    have HR := Lib.hid (sl_no (qs := qs) (x := x) (y := y) fun h => hf h.1.1.1)
    obtain ⟨r, hr'⟩ : ∃ r, slR qs x y = r := ⟨_, rfl⟩
    rw [hr'] at HR ⊢
    rw [pb_false hf] at CV0
    have CV := Lib.hid CV0
    clear hr' hf hr hn CV0
    go_enter Try.func28, Try.ntmps28
    go_wp2_with fail
    refine CV.out.mono ?_
    rintro e w1 ⟨rfl, hb1⟩
    have HB1 := Lib.hid hb1; clear hb1
    go_wp2
    go_ret2
    exact retV HR.out HB1.out
  case pos =>
  rw [pb_true hf] at CV0
  have CV := Lib.hid CV0
  by_cases hx : 0 ≤ x ∧ x ≤ 20000
  case neg =>
    have HR := Lib.hid (sl_no (qs := qs) (x := x) (y := y) fun h => hx h.1.1.2)
    obtain ⟨r, hr'⟩ : ∃ r, slR qs x y = r := ⟨_, rfl⟩
    rw [hr'] at HR ⊢
    have CI := Lib.hid (fun W => (in_no x 0 20000 W (by omega)).mono (fun e w' (h : e = _ ∧ w' = W) => (⟨h.1, h.2.symm⟩ : e = _ ∧ W = w')))
    clear hr' hf hr hn CV0 hx
    go_enter Try.func28, Try.ntmps28
    go_wp2_with fail
    refine CV.out.mono ?_
    rintro e w1 ⟨rfl, hb1⟩
    have HB1 := Lib.hid hb1; clear hb1
    go_wp2_with fail
    refine (CI.out _).mono ?_
    rintro e w' ⟨rfl, rfl⟩
    go_wp2
    go_ret2
    exact retV HR.out HB1.out
  case pos =>
  have CI := Lib.hid (fun W => (in_yes x 0 20000 W hx.1 hx.2).mono (fun e w' (h : e = _ ∧ w' = W) => (⟨h.1, h.2.symm⟩ : e = _ ∧ W = w')))
  by_cases hy : 1 ≤ y ∧ y ≤ 1000
  case neg =>
    have HR := Lib.hid (sl_no (qs := qs) (x := x) (y := y) fun h => hy h.2.1)
    obtain ⟨r, hr'⟩ : ∃ r, slR qs x y = r := ⟨_, rfl⟩
    rw [hr'] at HR ⊢
    have CY := Lib.hid (fun W => (in_no y 1 1000 W (by omega)).mono (fun e w' (h : e = _ ∧ w' = W) => (⟨h.1, h.2.symm⟩ : e = _ ∧ W = w')))
    clear hr' hf hr hn CV0 hx hy
    go_enter Try.func28, Try.ntmps28
    go_wp2_with fail
    refine CV.out.mono ?_
    rintro e w1 ⟨rfl, hb1⟩
    have HB1 := Lib.hid hb1; clear hb1
    go_wp2_with fail
    refine (CI.out _).mono ?_
    rintro e w' ⟨rfl, rfl⟩
    go_wp2_with fail
    refine (CY.out _).mono ?_
    rintro e w' ⟨rfl, rfl⟩
    go_wp2
    go_ret2
    exact retV HR.out HB1.out
  case pos =>
  have CY := Lib.hid (fun W => (in_yes y 1 1000 W hy.1 hy.2).mono (fun e w' (h : e = _ ∧ w' = W) => (⟨h.1, h.2.symm⟩ : e = _ ∧ W = w')))
  have CS0 := fun W (hb : Below w.heap.size w W) => specSl g n c qs x y W hn (hr.moved hb) hf hy.1 hy.2
  by_cases hs : slP qs x y
  · have hr1 := sl_yes hs
    have e : slS qs x y = slK qs x y := if_pos ⟨hs.1.2, hs.2.2⟩
    have hk0 : 1 ≤ slK qs x y := by
      obtain ⟨j, hj, ej⟩ := best_lt qs x qs.length hs.1.2
      have hq := (hf.2 j hj hj).2.1
      have ebR : bR qs x = qs[j].b := by
        unfold bR q2D; rw [ej, Int.toNat_natCast, List.getElem?_eq_getElem hj]; rfl
      unfold slK
      rw [ebR]
      exact (sl_bounds _ y hq.1 hq.2 hy.1 hy.2).1
    rw [e] at CS0
    obtain ⟨k, hk⟩ : ∃ k, slK qs x y = k := ⟨_, rfl⟩
    rw [hk] at CS0 hr1 hk0
    have CS := Lib.hid CS0
    have HR := Lib.hid hr1
    obtain ⟨r, hr'⟩ : ∃ r, slR qs x y = r := ⟨_, rfl⟩
    rw [hr'] at HR ⊢
    have hk1 : (k == 0) = false := by simp; omega
    have hk2 : decide (k = 0) = false := decide_eq_false (by omega)
    clear hr' hf hr hn CV0 hx hy CS0 hr1 e hk hs
    go_enter Try.func28, Try.ntmps28
    go_wp2_with fail
    refine CV.out.mono ?_
    rintro e w1 ⟨rfl, hb1⟩
    have HB1 := Lib.hid hb1; clear hb1
    go_wp2_with fail
    refine (CI.out _).mono ?_
    rintro e w' ⟨rfl, rfl⟩
    go_wp2_with fail
    refine (CY.out _).mono ?_
    rintro e w' ⟨rfl, rfl⟩
    go_wp2_with fail
    refine (CS.out _ HB1.out).mono ?_
    rintro e w2 ⟨rfl, hb2⟩
    have HB2 := Lib.hid (HB1.out.trans (hb2.mono HB1.out.size)); clear hb2
    go_wp2_with fail
    refine (CS.out _ HB2.out).mono ?_
    rintro e w3 ⟨rfl, hb3⟩
    have HB3 := Lib.hid (HB2.out.trans (hb3.mono HB2.out.size)); clear hb3
    go_wp2
    go_ret2
    exact retV HR.out HB3.out
  · have HR := Lib.hid (sl_no hs)
    have e : slS qs x y = 0 := if_neg fun h => hs ⟨⟨⟨hf, hx⟩, h.1⟩, hy, h.2⟩
    rw [e] at CS0
    have CS := Lib.hid CS0
    obtain ⟨r, hr'⟩ : ∃ r, slR qs x y = r := ⟨_, rfl⟩
    rw [hr'] at HR ⊢
    clear hr' hf hr hn CV0 hx hy CS0 e hs
    go_enter Try.func28, Try.ntmps28
    go_wp2_with fail
    refine CV.out.mono ?_
    rintro e w1 ⟨rfl, hb1⟩
    have HB1 := Lib.hid hb1; clear hb1
    go_wp2_with fail
    refine (CI.out _).mono ?_
    rintro e w' ⟨rfl, rfl⟩
    go_wp2_with fail
    refine (CY.out _).mono ?_
    rintro e w' ⟨rfl, rfl⟩
    go_wp2_with fail
    refine (CS.out _ HB1.out).mono ?_
    rintro e w2 ⟨rfl, hb2⟩
    have HB2 := Lib.hid (HB1.out.trans (hb2.mono HB1.out.size)); clear hb2
    go_wp2
    go_ret2
    exact retV HR.out HB2.out
end Go.Proofs.Ythmmhhoaplbfgaa
