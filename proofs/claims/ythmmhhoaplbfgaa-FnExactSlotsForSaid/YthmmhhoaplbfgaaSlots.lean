/- Contracts: impl.SlotsFor and spec.SlotsFor answer the same plain words. No condition but those typed. -/
import Derived.Test.YthmmhhoaplbfgaaFor
namespace Go.Proofs.Ythmmhhoaplbfgaa
open Go.ChangeShapes Go.WideShapes Go.ChangeAt Go.RowKit

theorem best_lt (qs : List Q2) (x : Int) : ∀ n, 0 ≤ bestK qs x n → ∃ j : Nat, j < n ∧ bestK qs x n = (j : Int)
  | 0, h => absurd h (by show ¬ (0 : Int) ≤ -1; omega)
  | n + 1, h => by
    by_cases hx : x ≤ (q2D qs n).a
    · exact ⟨n, by omega, if_pos hx⟩
    · have e : bestK qs x (n + 1) = bestK qs x n := if_neg hx
      rw [e] at h ⊢
      obtain ⟨j, hj, ej⟩ := best_lt qs x n h
      exact ⟨j, by omega, ej⟩
def bR (qs : List Q2) (x : Int) : Int := (q2D qs (bestK qs x qs.length).toNat).b
def slK (qs : List Q2) (x y : Int) : Int := (y + bR qs x - 1) / bR qs x
def slP (qs : List Q2) (x y : Int) : Prop := forP qs x ∧ (1 ≤ y ∧ y ≤ 1000) ∧ slK qs x y ≤ 24
noncomputable def slB (qs : List Q2) (x y : Int) : Bool := pb (slP qs x y)
noncomputable def slI (qs : List Q2) (x y : Int) : Int := if slB qs x y then slK qs x y else 0
noncomputable def slR (qs : List Q2) (x y : Int) : Value := .tuple #[.int .i64 (slI qs x y), .bool (slB qs x y)]
theorem sl_no {qs : List Q2} {x y : Int} (h : ¬ slP qs x y) : (.tuple #[.int .i64 0, .bool false] : Value) = slR qs x y := by
  unfold slR slI slB; rw [pb_false h, if_neg Bool.false_ne_true]
theorem sl_yes {qs : List Q2} {x y : Int} (h : slP qs x y) : (.tuple #[.int .i64 (slK qs x y), .bool true] : Value) = slR qs x y := by
  unfold slR slI slB; rw [pb_true h, if_pos rfl]
theorem sl_bounds (b y : Int) (h1 : 1 ≤ b) (h2 : b ≤ 1000) (h3 : 1 ≤ y) (h4 : y ≤ 1000) : 1 ≤ (y + b - 1) / b ∧ (y + b - 1) / b ≤ 2000 := by
  constructor
  · exact (Int.le_ediv_iff_mul_le (by omega)).2 (by omega)
  · have := Int.ediv_le_self (a := y + b - 1) b (by omega)
    omega

set_option maxHeartbeats 2000000 in
theorem implSlots (g n c : Nat) (qs : List Q2) (x y : Int) (w : World) (hn : qs.length = n) (hr : Rd w w.heap.size (some ⟨g, 0, none⟩) (qs.flatMap Q2.cells)) (hm : n ≤ 1048576) :
    Calls Try.prog 27 #[.slice (some ⟨g, 0, none⟩) n c, .int .i64 x, .int .i64 y] w (RetV (slR qs x y) w) := by
  have CF0 := implFor g n c qs x w hn hr hm
  by_cases hp : forP qs x
  case neg =>
    rw [← for_no hp] at CF0
    have CF := Lib.hid CF0
    have HR := Lib.hid (sl_no (qs := qs) (x := x) (y := y) fun h => hp h.1)
    obtain ⟨r, hr'⟩ : ∃ r, slR qs x y = r := ⟨_, rfl⟩
    rw [hr'] at HR ⊢
    clear hr' hp hr hn CF0
    go_enter Try.func27, Try.ntmps27
    go_wp2_with fail
    refine CF.out.mono ?_
    rintro e w1 ⟨rfl, hb1⟩
    have HB1 := Lib.hid hb1; clear hb1
    go_wp2
    go_ret2
    exact retV HR.out HB1.out
  case pos =>
  rw [← for_yes hp] at CF0
  obtain ⟨j, hj, ej⟩ := best_lt qs x qs.length hp.2
  rw [ej] at CF0
  have CF := Lib.hid CF0
  have hf := hp.1.1
  have hq := (hf.2 j hj hj).2.1
  have ebR : bR qs x = qs[j].b := by
    unfold bR q2D; rw [ej, Int.toNat_natCast, List.getElem?_eq_getElem hj]; rfl
  by_cases hy : 1 ≤ y ∧ y ≤ 1000
  case neg =>
    have HR := Lib.hid (sl_no (qs := qs) (x := x) (y := y) fun h => hy h.2.1)
    obtain ⟨r, hr'⟩ : ∃ r, slR qs x y = r := ⟨_, rfl⟩
    rw [hr'] at HR ⊢
    have CR := Lib.hid (fun W => rate_no y W (by omega))
    clear hr' hp hr hn CF0 hf hq ebR hy ej
    go_enter Try.func27, Try.ntmps27
    go_wp2_with fail
    refine CF.out.mono ?_
    rintro e w1 ⟨rfl, hb1⟩
    have HB1 := Lib.hid hb1; clear hb1
    go_wp2_with fail
    refine (CR.out _).mono ?_
    rintro e w' ⟨rfl, rfl⟩
    go_wp2
    go_ret2
    exact retV HR.out HB1.out
  case pos =>
  have CR := Lib.hid (fun W => rate_yes y W hy.1 hy.2)
  obtain ⟨hgw, hc0, hc1⟩ := hr.q2c hj
  rw [Nat.zero_add] at hc0 hc1
  obtain ⟨b, hb⟩ : ∃ b, qs[j].b = b := ⟨_, rfl⟩
  rw [hb] at hc1 ebR hq
  obtain ⟨h3, h4⟩ := sl_bounds b y hq.1 hq.2 hy.1 hy.2
  have eK : slK qs x y = (y + b - 1) / b := by unfold slK; rw [ebR]
  obtain ⟨hq1, hq2⟩ := hq
  obtain ⟨hy1, hy2⟩ := hy
  have hjn : (j : Int) < n := by omega
  have hjn' : j < n := by omega
  have hb0 : (b == 0) = false := by simp; omega
  have hb0' : b ≠ 0 := by omega
  obtain ⟨k, hk⟩ : ∃ k, (y + b - 1) / b = k := ⟨_, rfl⟩
  have HK := Lib.hid hk
  have hkt : (y + b - 1).tdiv b = k := by rw [Int.tdiv_eq_ediv_of_nonneg (by omega)]; exact hk
  rw [hk] at eK h3 h4
  by_cases h24 : k ≤ 24
  case neg =>
    have HR := Lib.hid (sl_no (qs := qs) (x := x) (y := y) fun h => h24 (by have := h.2.2; rw [eK] at this; exact this))
    obtain ⟨r, hr'⟩ : ∃ r, slR qs x y = r := ⟨_, rfl⟩
    rw [hr'] at HR ⊢
    have h24' : 24 < k := by omega
    clear hr' hp hr hn CF0 hf ebR ej eK hb
    go_enter Try.func27, Try.ntmps27
    go_wp2_with fail
    refine CF.out.mono ?_
    rintro e w1 ⟨rfl, hb1⟩
    have HB1 := Lib.hid hb1
    have k1 := (hb1.cell (p := ⟨g, j * 2 + 1, none⟩) hgw).trans hc1
    clear hb1
    go_wp2_with fail
    refine (CR.out _).mono ?_
    rintro e w' ⟨rfl, rfl⟩
    go_wp2
    go_ret2
    exact retV HR.out HB1.out
  case pos =>
    have hr1 := sl_yes (qs := qs) (x := x) (y := y) ⟨hp, ⟨hy1, hy2⟩, by rw [eK]; exact h24⟩
    rw [eK] at hr1
    have HR := Lib.hid hr1
    obtain ⟨r, hr'⟩ : ∃ r, slR qs x y = r := ⟨_, rfl⟩
    rw [hr'] at HR ⊢
    clear hr' hp hr hn CF0 hf ebR ej eK hb hr1
    go_enter Try.func27, Try.ntmps27
    go_wp2_with fail
    refine CF.out.mono ?_
    rintro e w1 ⟨rfl, hb1⟩
    have HB1 := Lib.hid hb1
    have k1 := (hb1.cell (p := ⟨g, j * 2 + 1, none⟩) hgw).trans hc1
    clear hb1
    go_wp2_with fail
    refine (CR.out _).mono ?_
    rintro e w' ⟨rfl, rfl⟩
    go_wp2
    go_ret2
    exact retV HR.out HB1.out
end Go.Proofs.Ythmmhhoaplbfgaa
