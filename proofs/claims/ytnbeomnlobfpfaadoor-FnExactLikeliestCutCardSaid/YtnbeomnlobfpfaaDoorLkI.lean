/- The likeliest cut: the contract of impl.LikeliestCut. Condition: the table of math/bits holds what Go's text lays. -/
import Derived.Test.YtnbeomnlobfpfaaDoorLk
import Derived.Test.YtnbeomnlobfpfaaDoorOut
import Derived.Test.YtnbeomnlobfpfaaDoorLst
import Derived.Test.YtnbeomnlobfpfaaDoorWt
namespace Go.Proofs.YtnbeomnlobfpfaaDoor
open Go.ChangeShapes Go.WideShapes Go.ChangeAt Go.RowKit

theorem below3 {B b : Nat} {w W : World} {u0 u1 u2 : Value} (h : Below B w W) (hb : B ≤ b) : Below B w (((W.setCell ⟨b, 0, none⟩ u0).setCell ⟨b, 1, none⟩ u1).setCell ⟨b, 2, none⟩ u2) :=
  ((h.setCell (p := ⟨b, 0, none⟩) hb _).setCell (p := ⟨b, 1, none⟩) hb _).setCell (p := ⟨b, 2, none⟩) hb _
set_option maxRecDepth 100000 in
set_option maxHeartbeats 4000000 in
theorem stpL_ {g1 g2 n1 n2 c1 c2 : Nat} {ss : List ByteArray} {fs : List Q4} {w : World} (h : NetAt g1 g2 n1 n2 c1 c2 ss fs w) (hv : netP ss fs) (x y b1 b2 b3 : Nat) (hx : x < n1) (hy : y < n1) (k1 : w.cell? ⟨b1, 0, none⟩ = some (.slice (some ⟨g1, 0, none⟩) n1 c1)) (k2 : w.cell? ⟨b1, 1, none⟩ = some (.slice (some ⟨g2, 0, none⟩) n2 c2)) (k3 : w.cell? ⟨b2, 0, none⟩ = some (.int .i64 (x : Int))) (k4 : w.cell? ⟨b3, 0, none⟩ = some (.int .i64 (y : Int))) (hB1 : b1 < w.heap.size) (hB2 : b2 < w.heap.size) (hB3 : b3 < w.heap.size) (a0 a1 a2 fg wt : Int) (ff : Nat) (hff : ff < 2 ^ 20) :
    Calls Tryd.prog 67 #[.agg #[.int .i64 a0, .int .i64 a1, .int .i64 a2], .agg #[.int .i64 fg, .int .i64 (ff : Int), .int .i64 wt], .pointer (some ⟨b1, 0, none⟩), .pointer (some ⟨b2, 0, none⟩), .pointer (some ⟨b3, 0, none⟩)] w (RetP (.agg #[.int .i64 (if a2 < wt ∧ pb (Cn fs ff (x : Int) (y : Int)) = false then fg else a0), .int .i64 (if a2 < wt ∧ pb (Cn fs ff (x : Int) (y : Int)) = false then (ff : Int) else a1), .int .i64 (if a2 < wt ∧ pb (Cn fs ff (x : Int) (y : Int)) = false then wt else a2)]) w) := by
  have hb0 : Below w.heap.size w (((w.alloc (Obj.cells #[.int .i64 a0, .int .i64 a1, .int .i64 a2] 95)).alloc (Obj.cells #[.int .i64 fg, .int .i64 (ff : Int), .int .i64 wt] 95)).alloc (Obj.cells #[.int .i64 0, .int .i64 0, .int .i64 0] 95)) := (((Below.refl _ _).alloc (Nat.le_refl _) _).alloc (by simp) _).alloc (by simp; omega) _
  by_cases hlt : a2 < wt
  case neg =>
    have hd : decide (a2 < wt) = false := decide_eq_false hlt
    rw [if_neg (fun e => hlt e.1), if_neg (fun e => hlt e.1), if_neg (fun e => hlt e.1)]
    have HB1 := Lib.hid hb0
    clear h hv hx hy hff hlt hb0 k1 k2 k3 k4 hB1 hB2 hB3
    go_enter Tryd.func67, Tryd.ntmps67
    go_wp2
    refine bodyPost_ret (v := .agg #[.int .i64 a0, .int .i64 a1, .int .i64 a2]) (by simp [results, Tryd.results67, go_sem]) rfl ⟨rfl, ?_⟩
    exact (((Below.refl _ _).alloc (Nat.le_refl _) _).alloc (by simp) _).alloc (by simp; omega) _
  case pos =>
  have hd : decide (a2 < wt) = true := decide_eq_true hlt
  have CA := Lib.hid (areCon_ (h.moved hb0) hv x y ff hx hy hff)
  obtain ⟨b, hb⟩ : ∃ b, pb (Cn fs ff (x : Int) (y : Int)) = b := ⟨_, rfl⟩
  rw [hb] at CA ⊢
  have HB0 := Lib.hid hb0
  have HO0 : Hid ((((w.alloc (Obj.cells #[.int .i64 a0, .int .i64 a1, .int .i64 a2] 95)).alloc (Obj.cells #[.int .i64 fg, .int .i64 (ff : Int), .int .i64 wt] 95)).alloc (Obj.cells #[.int .i64 0, .int .i64 0, .int .i64 0] 95)).ownsRow (w.heap.size + 2) 95 3 (.slice (some ⟨w.heap.size + 2, 0, none⟩) 1 1) 1 [.int .i64 0, .int .i64 0, .int .i64 0]) := Lib.hid (by
    have := one_rowF ((w.alloc (Obj.cells #[.int .i64 a0, .int .i64 a1, .int .i64 a2] 95)).alloc (Obj.cells #[.int .i64 fg, .int .i64 (ff : Int), .int .i64 wt] 95)) (.int .i64 0) (.int .i64 0) (.int .i64 0) (base := w.heap.size + 2) (by simp)
    simpa using this)
  have HPA : Hid (∀ W, Below (((w.alloc (Obj.cells #[.int .i64 a0, .int .i64 a1, .int .i64 a2] 95)).alloc (Obj.cells #[.int .i64 fg, .int .i64 (ff : Int), .int .i64 wt] 95)).alloc (Obj.cells #[.int .i64 0, .int .i64 0, .int .i64 0] 95)).heap.size (((w.alloc (Obj.cells #[.int .i64 a0, .int .i64 a1, .int .i64 a2] 95)).alloc (Obj.cells #[.int .i64 fg, .int .i64 (ff : Int), .int .i64 wt] 95)).alloc (Obj.cells #[.int .i64 0, .int .i64 0, .int .i64 0] 95)) W → (W.cell? ⟨w.heap.size, 0, none⟩ = some (.int .i64 a0) ∧ W.cell? ⟨w.heap.size, 1, none⟩ = some (.int .i64 a1) ∧ W.cell? ⟨w.heap.size, 2, none⟩ = some (.int .i64 a2)) ∧ (W.cell? ⟨w.heap.size + 1, 0, none⟩ = some (.int .i64 fg) ∧ W.cell? ⟨w.heap.size + 1, 1, none⟩ = some (.int .i64 (ff : Int)) ∧ W.cell? ⟨w.heap.size + 1, 2, none⟩ = some (.int .i64 wt)) ∧ w.heap.size + 2 < W.heap.size) := Lib.hid (fun W hW => ⟨⟨(hW.cell (p := ⟨w.heap.size, 0, none⟩) (by simp; omega)).trans (by simp [go_sem]), (hW.cell (p := ⟨w.heap.size, 1, none⟩) (by simp; omega)).trans (by simp [go_sem]), (hW.cell (p := ⟨w.heap.size, 2, none⟩) (by simp; omega)).trans (by simp [go_sem])⟩, ⟨(hW.cell (p := ⟨w.heap.size + 1, 0, none⟩) (by simp)).trans (by simp [go_sem]), (hW.cell (p := ⟨w.heap.size + 1, 1, none⟩) (by simp)).trans (by simp [go_sem]), (hW.cell (p := ⟨w.heap.size + 1, 2, none⟩) (by simp)).trans (by simp [go_sem])⟩, Nat.lt_of_lt_of_le (by simp) hW.size⟩)
  clear h hv hx hy hff hb0 hb
  have e11 : b1 < w.heap.size + 1 := by omega
  have e12 : b1 < w.heap.size + 1 + 1 := by omega
  have e21 : b2 < w.heap.size + 1 := by omega
  have e22 : b2 < w.heap.size + 1 + 1 := by omega
  have e31 : b3 < w.heap.size + 1 := by omega
  have e32 : b3 < w.heap.size + 1 + 1 := by omega
  cases b
  case true =>
    rw [if_neg (fun e => by cases e.2), if_neg (fun e => by cases e.2), if_neg (fun e => by cases e.2)]
    clear hlt
    go_enter Tryd.func67, Tryd.ntmps67
    go_wp2_with fail
    clear k1 k2 k3 k4 hB1 hB2 hB3 hd e11 e12 e21 e22 e31 e32
    refine CA.out.mono ?_
    rintro e w1 ⟨rfl, hb1⟩
    obtain ⟨⟨m0, m1, m2⟩, ⟨n0, n1, n2⟩, hz1⟩ := HPA.out w1 hb1
    have HB1 := Lib.hid (HB0.out.trans (hb1.mono HB0.out.size))
    have ho1 := ownB HO0.out hb1
    have d0 := ho1.cellAt 0 (by decide)
    have d1 := ho1.cellAt 1 (by decide)
    have d2 := ho1.cellAt 2 (by decide)
    simp only [List.getElem?_cons_zero, List.getElem?_cons_succ] at d0 d1 d2
    have f0 := ho1.frozenAt 0
    have f1 := ho1.frozenAt 1
    have f2 := ho1.frozenAt 2
    clear hb1 ho1
    go_wp2
    refine bodyPost_ret (v := .agg #[.int .i64 a0, .int .i64 a1, .int .i64 a2]) (by simp [results, Tryd.results67, go_sem, m0, m1, m2, n0, n1, n2, d0, d1, d2, hz1]) rfl ⟨rfl, ?_⟩
    repeat (first | with_reducible exact HB1.out | refine Below.setCell ?_ (p := ⟨_, _, none⟩) (by first | omega | (simp; omega)) _)
  case false =>
    rw [if_pos ⟨hlt, rfl⟩, if_pos ⟨hlt, rfl⟩, if_pos ⟨hlt, rfl⟩]
    clear hlt
    go_enter Tryd.func67, Tryd.ntmps67
    go_wp2_with fail
    clear k1 k2 k3 k4 hB1 hB2 hB3 hd e11 e12 e21 e22 e31 e32
    refine CA.out.mono ?_
    rintro e w1 ⟨rfl, hb1⟩
    obtain ⟨⟨m0, m1, m2⟩, ⟨n0, n1, n2⟩, hz1⟩ := HPA.out w1 hb1
    have HB1 := Lib.hid (HB0.out.trans (hb1.mono HB0.out.size))
    have ho1 := ownB HO0.out hb1
    have d0 := ho1.cellAt 0 (by decide)
    have d1 := ho1.cellAt 1 (by decide)
    have d2 := ho1.cellAt 2 (by decide)
    simp only [List.getElem?_cons_zero, List.getElem?_cons_succ] at d0 d1 d2
    have f0 := ho1.frozenAt 0
    have f1 := ho1.frozenAt 1
    have f2 := ho1.frozenAt 2
    clear hb1 ho1
    go_wp2
    refine bodyPost_ret (v := .agg #[.int .i64 fg, .int .i64 (ff : Int), .int .i64 wt]) (by simp [results, Tryd.results67, go_sem, m0, m1, m2, n0, n1, n2, d0, d1, d2, hz1]) rfl ⟨rfl, ?_⟩
    repeat (first | with_reducible exact HB1.out | refine Below.setCell ?_ (p := ⟨_, _, none⟩) (by first | omega | (simp; omega)) _)

/-- what the implementation keeps beside the state. -/
def LkS (wt : Nat → Int) (gn : Nat → Nat) (o : Option Nat) (a0 a1 a2 : Int) : Prop := (o = none ∧ a0 = 0 ∧ a1 = 0 ∧ a2 = -1) ∨ ∃ k : Nat, o = some k ∧ a0 = (k : Int) ∧ a1 = (gn k : Int) ∧ a2 = wt k
theorem lks_step {wt : Nat → Int} {gn : Nat → Nat} {con : Nat → Bool} {f : Nat} {a0 a1 a2 : Int} (h : LkS wt gn (lcO wt con f) a0 a1 a2) (hw : 0 ≤ wt f) :
    LkS wt gn (lcO wt con (f + 1)) (if a2 < wt f ∧ con f = false then (f : Int) else a0) (if a2 < wt f ∧ con f = false then (gn f : Int) else a1) (if a2 < wt f ∧ con f = false then wt f else a2) := by
  cases hc : con f with
  | true =>
    rw [if_neg (fun e => by cases e.2), if_neg (fun e => by cases e.2), if_neg (fun e => by cases e.2), lc_con hc]; exact h
  | false =>
    rcases h with ⟨h1, h2, h3, h4⟩ | ⟨k, h1, h2, h3, h4⟩
    · rw [lc_new hc h1, if_pos ⟨by omega, rfl⟩, if_pos ⟨by omega, rfl⟩, if_pos ⟨by omega, rfl⟩]
      exact .inr ⟨f, rfl, rfl, rfl, rfl⟩
    · by_cases hlt : a2 < wt f
      · rw [lc_gt hc h1 (by rw [← h4]; exact hlt), if_pos ⟨hlt, rfl⟩, if_pos ⟨hlt, rfl⟩, if_pos ⟨hlt, rfl⟩]
        exact .inr ⟨f, rfl, rfl, rfl, rfl⟩
      · rw [lc_le hc h1 (by rw [← h4]; exact hlt), if_neg (fun e => hlt e.1), if_neg (fun e => hlt e.1), if_neg (fun e => hlt e.1)]
        exact .inr ⟨k, rfl, h2, h3, h4⟩
theorem stored3 {w : World} {B b : Nat} {v0 v1 v2 : Value} (h : w.ownsRow B 95 3 (.slice (some ⟨b, 0, none⟩) 1 1) 1 [v0, v1, v2]) (u0 u1 u2 : Value) :
    (((w.setCell ⟨b, 0, none⟩ u0).setCell ⟨b, 1, none⟩ u1).setCell ⟨b, 2, none⟩ u2).ownsRow B 95 3 (.slice (some ⟨b, 0, none⟩) 1 1) 1 [u0, u1, u2] := by
  have := (((h.stored 0 u0).1.stored 1 u1).1.stored 2 u2).1
  simpa using this
theorem kept3 {w : World} {B b E s n : Nat} {v : Value} {xs : List Value} (h : w.ownsRow B E s v n xs) (hb : b < B) (u0 u1 u2 : Value) :
    (((w.setCell ⟨b, 0, none⟩ u0).setCell ⟨b, 1, none⟩ u1).setCell ⟨b, 2, none⟩ u2).ownsRow B E s v n xs :=
  ownsRow_setCell_below (ownsRow_setCell_below (ownsRow_setCell_below h (a := ⟨b, 0, none⟩) hb _) (a := ⟨b, 1, none⟩) hb _) (a := ⟨b, 2, none⟩) hb _

set_option maxRecDepth 100000 in
set_option maxHeartbeats 8000000 in
theorem ovfL_ {g1 g2 n1 n2 c1 c2 : Nat} {ss : List ByteArray} {fs : List Q4} {w : World} (h : NetAt g1 g2 n1 n2 c1 c2 ss fs w) (hv : netP ss fs) (u : Int) {A : Option Addr} {n c : Nat} {ds : List Int} (hn : ds.length = n) (hr : Rd w w.heap.size A (ds.map (Value.int .i64))) (hx : n ≤ 14) (hg : n = (rgL fs).length) (hu0 : 0 ≤ u) (hu : u ≤ 20) (hd : ∀ j, j < n → 0 ≤ nth ds j ∧ nth ds j ≤ u) (x y b1 b2 b3 : Nat) (hx1 : x < n1) (hy1 : y < n1) (k1 : w.cell? ⟨b1, 0, none⟩ = some (.slice (some ⟨g1, 0, none⟩) n1 c1)) (k2 : w.cell? ⟨b1, 1, none⟩ = some (.slice (some ⟨g2, 0, none⟩) n2 c2)) (k3 : w.cell? ⟨b2, 0, none⟩ = some (.int .i64 (x : Int))) (k4 : w.cell? ⟨b3, 0, none⟩ = some (.int .i64 (y : Int))) (hB1 : b1 < w.heap.size) (hB2 : b2 < w.heap.size) (hB3 : b3 < w.heap.size) (hTab : Tab w) :
    Calls Tryd.prog 66 #[.agg #[.slice (some ⟨g1, 0, none⟩) n1 c1, .slice (some ⟨g2, 0, none⟩) n2 c2], .agg #[.int .i64 u, .slice A n c], .agg #[.int .i64 0, .int .i64 0, .int .i64 (-1)], .func (.func 67) #[] #[.pointer (some ⟨b1, 0, none⟩), .pointer (some ⟨b2, 0, none⟩), .pointer (some ⟨b3, 0, none⟩)]] w fun e w' => ∃ a0 a1 a2 : Int, e = .returned (.agg #[.int .i64 a0, .int .i64 a1, .int .i64 a2]) ∧ LkS (fun z => wtN u ds z n) (gnN (rgL fs)) (lcO (fun z => wtN u ds z n) (lkC fs (x : Int) (y : Int)) (2 ^ n)) a0 a1 a2 ∧ Below w.heap.size w w' := by
  have HNT := Lib.hid h; have HN := Lib.hid hn; have HR := Lib.hid hr; have HD := Lib.hid hd; have HTB := Lib.hid hTab; have HGN := Lib.hid hg; have HV := Lib.hid hv
  have HKW : Hid (∀ W, Below w.heap.size w W → W.cell? ⟨b1, 0, none⟩ = some (.slice (some ⟨g1, 0, none⟩) n1 c1) ∧ W.cell? ⟨b1, 1, none⟩ = some (.slice (some ⟨g2, 0, none⟩) n2 c2) ∧ W.cell? ⟨b2, 0, none⟩ = some (.int .i64 (x : Int)) ∧ W.cell? ⟨b3, 0, none⟩ = some (.int .i64 (y : Int)) ∧ b1 < W.heap.size ∧ b2 < W.heap.size ∧ b3 < W.heap.size) := Lib.hid (fun W hW => ⟨(hW.cell (p := ⟨b1, 0, none⟩) hB1).trans k1, (hW.cell (p := ⟨b1, 1, none⟩) hB1).trans k2, (hW.cell (p := ⟨b2, 0, none⟩) hB2).trans k3, (hW.cell (p := ⟨b3, 0, none⟩) hB3).trans k4, Nat.lt_of_lt_of_le hB1 hW.size, Nat.lt_of_lt_of_le hB2 hW.size, Nat.lt_of_lt_of_le hB3 hW.size⟩)
  have HGB := Lib.hid (rg_gb hv)
  have HGV : Hid (gmV ss fs = gmL fs) := Lib.hid (gmV_yes hv)
  have HWT : Hid (∀ f : Nat, f < 2 ^ n → 0 ≤ wtN u ds f n ∧ wtN u ds f n ≤ 20 ^ 14) := Lib.hid (fun f hf => by have := av_bd (good := fun _ => true) hu0 hu hd hx hf; omega)
  have hP14 : 2 ^ n ≤ 16384 := Nat.pow_le_pow_right (by decide : 0 < 2) hx
  have hpi : (2 : Int) ^ n = ((2 ^ n : Nat) : Int) := pow_int n
  have HPL : Hid (∀ x : Nat, x < 2 ^ n → x < 16777216) := Lib.hid (fun x hx => by omega)
  obtain ⟨P, hP⟩ : ∃ P : Nat, 2 ^ n = P := ⟨_, rfl⟩
  rw [hP] at hpi hP14 HWT HPL ⊢
  have HP := Lib.hid hP
  have HPI2 := Lib.hid hpi
  clear h hn hr hd hTab hv hg hP hpi k1 k2 k3 k4 hB1 hB2 hB3
  go_enter Tryd.func66, Tryd.ntmps66
  go_wp2_with fail
  obtain ⟨W0, hW0⟩ : ∃ W0, (((w.alloc (Obj.cells #[.slice (some ⟨g1, 0, none⟩) n1 c1, .slice (some ⟨g2, 0, none⟩) n2 c2] 32)).alloc (Obj.cells #[.int .i64 u, .slice A n c] 59)).alloc (Obj.cells #[.int .i64 0, .int .i64 0, .int .i64 (-1)] 95)).alloc (Obj.cells #[.int .i64 0, .int .i64 0, .int .i64 0] 95) = W0 := ⟨_, rfl⟩
  have hb0 : Below w.heap.size w W0 := by rw [← hW0]; exact ((((Below.refl _ _).alloc (Nat.le_refl _) _).alloc (by simp) _).alloc (by simp; omega) _).alloc (by simp; omega) _
  have k0 : W0.cell? ⟨w.heap.size, 0, none⟩ = some (.slice (some ⟨g1, 0, none⟩) n1 c1) := by rw [← hW0]; simp [go_sem]
  have k1 : W0.cell? ⟨w.heap.size, 1, none⟩ = some (.slice (some ⟨g2, 0, none⟩) n2 c2) := by rw [← hW0]; simp [go_sem]
  have k2 : W0.cell? ⟨w.heap.size + 1, 0, none⟩ = some (.int .i64 u) := by rw [← hW0]; simp [go_sem]
  have k3 : W0.cell? ⟨w.heap.size + 1, 1, none⟩ = some (.slice A n c) := by rw [← hW0]; simp [go_sem]
  have hz0 : w.heap.size + 4 = W0.heap.size := by rw [← hW0]; simp
  have HOV0 : Hid (W0.ownsRow (w.heap.size + 2) 95 3 (.slice (some ⟨w.heap.size + 2, 0, none⟩) 1 1) 1 [.int .i64 0, .int .i64 0, .int .i64 (-1)]) := Lib.hid (by
    rw [← hW0]
    have := one_rowF ((w.alloc (Obj.cells #[.slice (some ⟨g1, 0, none⟩) n1 c1, .slice (some ⟨g2, 0, none⟩) n2 c2] 32)).alloc (Obj.cells #[.int .i64 u, .slice A n c] 59)) (.int .i64 0) (.int .i64 0) (.int .i64 (-1)) (base := w.heap.size + 2) (by simp)
    have h2 := this.alloc (Obj.cells #[.int .i64 0, .int .i64 0, .int .i64 0] 95)
    simpa using h2)
  have HOR0 : Hid (W0.ownsRow (w.heap.size + 3) 95 3 (.slice (some ⟨w.heap.size + 3, 0, none⟩) 1 1) 1 [.int .i64 0, .int .i64 0, .int .i64 0]) := Lib.hid (by
    rw [← hW0]
    have := one_rowF (((w.alloc (Obj.cells #[.slice (some ⟨g1, 0, none⟩) n1 c1, .slice (some ⟨g2, 0, none⟩) n2 c2] 32)).alloc (Obj.cells #[.int .i64 u, .slice A n c] 59)).alloc (Obj.cells #[.int .i64 0, .int .i64 0, .int .i64 (-1)] 95)) (.int .i64 0) (.int .i64 0) (.int .i64 0) (base := w.heap.size + 3) (by simp)
    simpa using this)
  have HB0 := Lib.hid hb0; have HK0 := Lib.hid k0; have HK1 := Lib.hid k1; have HK2 := Lib.hid k2; have HK3 := Lib.hid k3; have HZ0 := Lib.hid hz0
  rw [hW0]
  clear hW0 hb0 k0 k1 k2 k3 hz0
  refine (groupMasks_ (HNT.out.moved HB0.out)).mono ?_
  rw [HGV.out]
  rintro e w1 ⟨AG, NG, cG, rfl, HNG, hoG, hb1⟩
  have HB1 := Lib.hid (HB0.out.trans (hb1.mono HB0.out.size))
  have HOG1 : Hid (w1.ownsRow (w.heap.size + 4) 3 1 (.slice AG NG cG) NG ((gmL fs).map (Value.int .i64))) := Lib.hid (own_base hoG (by have := HZ0.out; omega))
  have HOV1 := Lib.hid (ownB HOV0.out hb1)
  have HOR1 := Lib.hid (ownB HOR0.out hb1)
  obtain rfl : NG = n := by rw [HNG.out]; unfold gmL; rw [List.length_map]; exact HGN.out.symm
  have HKB : Hid (∀ W, Below (w.heap.size + 2) w1 W → W.cell? ⟨w.heap.size + 1, 0, none⟩ = some (.int .i64 u) ∧ W.cell? ⟨w.heap.size + 1, 1, none⟩ = some (.slice A NG c)) := Lib.hid (fun W hW => ⟨(hW.cell (p := ⟨w.heap.size + 1, 0, none⟩) (by show w.heap.size + 1 < _; omega)).trans ((hb1.cell (p := ⟨w.heap.size + 1, 0, none⟩) (by show w.heap.size + 1 < _; have := HZ0.out; omega)).trans HK2.out), (hW.cell (p := ⟨w.heap.size + 1, 1, none⟩) (by show w.heap.size + 1 < _; omega)).trans ((hb1.cell (p := ⟨w.heap.size + 1, 1, none⟩) (by show w.heap.size + 1 < _; have := HZ0.out; omega)).trans HK3.out)⟩)
  have HZ1 : Hid (w.heap.size + 4 ≤ w1.heap.size) := Lib.hid (by have := hb1.size; have := HZ0.out; omega)
  clear hb1 hoG
  have hpi := HPI2.out
  go_wp2
  go_loopw [22] (fun i wr => ∃ (f : Nat) (a0 a1 a2 : Int), f ≤ P ∧ i = .int .i64 f ∧ Hid (LkS (fun z => wtN u ds z NG) (gnN (rgL fs)) (lcO (fun z => wtN u ds z NG) (lkC fs (x : Int) (y : Int)) f) a0 a1 a2) ∧ Hid (wr.ownsRow (w.heap.size + 2) 95 3 (.slice (some ⟨w.heap.size + 2, 0, none⟩) 1 1) 1 [.int .i64 a0, .int .i64 a1, .int .i64 a2]) ∧ Hid (wr.ownsRow (w.heap.size + 3) 95 3 (.slice (some ⟨w.heap.size + 3, 0, none⟩) 1 1) 1 [.int .i64 0, .int .i64 0, .int .i64 0]) ∧ Hid (wr.ownsRow (w.heap.size + 4) 3 1 (.slice AG NG cG) NG ((gmL fs).map (Value.int .i64))) ∧ Below (w.heap.size + 2) w1 wr) (fun i _ => P - (intOf i).toNat)
  case atStart => exact ⟨0, 0, 0, -1, Nat.zero_le _, rfl, Lib.hid (.inl ⟨rfl, rfl, rfl, rfl⟩), HOV1, HOR1, HOG1, Below.refl _ _⟩
  case round =>
    obtain ⟨f, a0, a1, a2, hf, rfl, HS, HOV, HOR, HOG, hb⟩ := hrel
    have HBR := Lib.hid hb
    have HBW : Hid (Below w.heap.size w wr) := Lib.hid (HB1.out.trans (hb.mono (by omega)))
    have HZR : Hid (w.heap.size + 4 ≤ wr.heap.size) := Lib.hid (by have := hb.size; have := HZ1.out; omega)
    clear hb
    by_cases hlt : f < P
    case neg =>
      obtain rfl : f = P := by omega
      have v0 := HOV.out.cellAt 0 (by decide)
      have v1 := HOV.out.cellAt 1 (by decide)
      have v2 := HOV.out.cellAt 2 (by decide)
      have r0 := HOR.out.cellAt 0 (by decide)
      have r1 := HOR.out.cellAt 1 (by decide)
      have r2 := HOR.out.cellAt 2 (by decide)
      simp only [List.getElem?_cons_zero, List.getElem?_cons_succ] at v0 v1 v2 r0 r1 r2
      have z0 := HOR.out.frozenAt 0
      have z1 := HOR.out.frozenAt 1
      have z2 := HOR.out.frozenAt 2
      have hzr : w.heap.size + 3 < wr.heap.size := by have := HZR.out; omega
      have HBE := Lib.hid (below3 (b := w.heap.size + 3) (u0 := .int .i64 a0) (u1 := .int .i64 a1) (u2 := .int .i64 a2) HBW.out (by omega))
      clear hlt
      go_wp2
      exact bodyPost_ret (v := .agg #[.int .i64 a0, .int .i64 a1, .int .i64 a2]) (by simp [results, Tryd.results66, go_sem, v0, v1, v2, r0, r1, r2, hzr]) rfl ⟨a0, a1, a2, rfl, HS.out, HBE.out⟩
    case pos =>
    have CW := Lib.hid (weightOf_ (c := c) u f HN.out (HR.out.moved HBW.out) hx hu0 hu HD.out (by have := HPL.out f hlt; omega))
    obtain ⟨wt, hwt⟩ : ∃ wt, wtN u ds f NG = wt := ⟨_, rfl⟩
    have HWE := Lib.hid hwt
    have hw0 : 0 ≤ wt := by rw [← hwt]; exact (HWT.out f hlt).1
    rw [hwt] at CW
    clear hwt
    obtain ⟨k2, k3⟩ := HKB.out _ HBR.out
    go_wp2_with fail
    clear k2 k3
    refine CW.out.mono ?_
    rintro e w2 ⟨rfl, hb2⟩
    have HB2 : Hid (Below (w.heap.size + 2) w1 w2) := Lib.hid (HBR.out.trans (hb2.mono (by have := HZR.out; omega)))
    have HB2W := Lib.hid (HBW.out.trans (hb2.mono HBW.out.size))
    have HZ2 : Hid (w.heap.size + 4 ≤ w2.heap.size) := Lib.hid (by have := hb2.size; have := HZR.out; omega)
    have HOV2 := Lib.hid (ownB HOV.out hb2)
    have HOR2 := Lib.hid (ownB HOR.out hb2)
    have HOG2 := Lib.hid (ownB HOG.out hb2)
    clear hb2
    obtain ⟨w3, hw3⟩ : ∃ w3, w2.alloc (Obj.cells #[.int .i64 (f : Int), .int .i64 0, .int .i64 wt] 95) = w3 := ⟨_, rfl⟩
    have HO3 : Hid (w3.ownsRow w2.heap.size 95 3 (.slice (some ⟨w2.heap.size, 0, none⟩) 1 1) 1 [.int .i64 (f : Int), .int .i64 0, .int .i64 wt]) := Lib.hid (by rw [← hw3]; exact one_rowF w2 _ _ _ (Nat.le_refl _))
    have HB3 : Hid (Below w2.heap.size w2 w3) := Lib.hid (by rw [← hw3]; exact (Below.refl _ _).alloc (Nat.le_refl _) _)
    obtain ⟨gf, hgf⟩ : ∃ gf, w2.heap.size = gf := ⟨_, rfl⟩
    have HGF := Lib.hid hgf
    go_wp2
    rw [hgf] at HO3 HB3
    clear hw3 hgf
    obtain ⟨wa, rfl⟩ : ∃ wa, wa = wr := ⟨wr, rfl⟩
    go_loopw [13] (fun q wv => ∃ (x fib : Nat), q = .int .i64 x ∧ x < P ∧ fib < 2 ^ 20 ∧ Hid (fib ||| orN x.testBit (fun k => mkN ((rgL fs).getD k [])) NG = gnN (rgL fs) f) ∧ Hid (wv.ownsRow gf 95 3 (.slice (some ⟨gf, 0, none⟩) 1 1) 1 [.int .i64 (f : Int), .int .i64 (fib : Int), .int .i64 wt]) ∧ Below gf w3 wv) (fun q _ => (intOf q).toNat)
    case atStart => exact ⟨f, 0, rfl, hlt, Nat.two_pow_pos 20, Lib.hid (by rw [Nat.zero_or]; unfold gnN; rw [HGN.out]), HO3, Below.refl _ _⟩
    case round =>
      obtain ⟨z, fib, rfl, hzP, hfib, HOR_, HOW, hb⟩ := hrel
      have HBV := Lib.hid hb
      have HBV2 : Hid (Below w2.heap.size w2 wr) := Lib.hid (by rw [HGF.out]; exact HB3.out.trans hb)
      have HBVW : Hid (Below w.heap.size w wr) := Lib.hid (HB2W.out.trans (HBV2.out.mono HB2W.out.size))
      have HBV1 : Hid (Below (w.heap.size + 2) w1 wr) := Lib.hid (HB2.out.trans (HBV2.out.mono (by have := HZ2.out; omega)))
      have HOVV := Lib.hid (ownB HOV2.out HBV2.out)
      have HORV := Lib.hid (ownB HOR2.out HBV2.out)
      have HOGV := Lib.hid (ownB HOG2.out HBV2.out)
      have HZV : Hid (w.heap.size + 4 ≤ wr.heap.size) := Lib.hid (by have := HBV2.out.size; have := HZ2.out; omega)
      clear hb
      by_cases hz0 : z = 0
      case pos =>
        subst hz0
        have HFB : Hid (gnN (rgL fs) f = fib) := Lib.hid (by rw [← HOR_.out, orN_zero (fun j _ => Nat.zero_testBit j), Nat.or_zero])
        have r0 := HOW.out.cellAt 0 (by decide)
        have r1 := HOW.out.cellAt 1 (by decide)
        have r2 := HOW.out.cellAt 2 (by decide)
        have v0 := HOVV.out.cellAt 0 (by decide)
        have v1 := HOVV.out.cellAt 1 (by decide)
        have v2 := HOVV.out.cellAt 2 (by decide)
        simp only [List.getElem?_cons_zero, List.getElem?_cons_succ] at r0 r1 r2 v0 v1 v2
        obtain ⟨q1, q2, q3, q4, q5, q6, q7⟩ := HKW.out _ HBVW.out
        have CS := Lib.hid (stpL_ (HNT.out.moved HBVW.out) HV.out x y b1 b2 b3 hx1 hy1 q1 q2 q3 q4 q5 q6 q7 a0 a1 a2 (f : Int) wt fib hfib)
        have HST := Lib.hid (lks_step HS.out (by show 0 ≤ wtN u ds f NG; rw [HWE.out]; exact hw0))
        have HLC : Hid (lkC fs (x : Int) (y : Int) f = pb (Cn fs fib (x : Int) (y : Int))) := Lib.hid (by unfold lkC; rw [HFB.out])
        simp only [HWE.out, HLC.out, HFB.out] at HST
        obtain ⟨s0, hs0⟩ : ∃ s, (if a2 < wt ∧ pb (Cn fs fib (x : Int) (y : Int)) = false then (f : Int) else a0) = s := ⟨_, rfl⟩
        obtain ⟨s1, hs1⟩ : ∃ s, (if a2 < wt ∧ pb (Cn fs fib (x : Int) (y : Int)) = false then (fib : Int) else a1) = s := ⟨_, rfl⟩
        obtain ⟨s2, hs2⟩ : ∃ s, (if a2 < wt ∧ pb (Cn fs fib (x : Int) (y : Int)) = false then wt else a2) = s := ⟨_, rfl⟩
        rw [hs0, hs1, hs2] at CS HST
        clear hs0 hs1 hs2 q1 q2 q3 q4 q5 q6 q7
        go_wp2_with fail
        go_at_call 67
        refine CS.out.mono ?_
        rintro e w5 ⟨rfl, hb5⟩
        have HB5 : Hid (Below (w.heap.size + 2) w1 w5) := Lib.hid (HBV1.out.trans (hb5.mono (by have := HZV.out; omega)))
        have HOV5 := Lib.hid (ownB HOVV.out hb5)
        have HOR5 := Lib.hid (ownB HORV.out hb5)
        have HOG5 := Lib.hid (ownB HOGV.out hb5)
        clear hb5 r0 r1 r2 v0 v1 v2
        have v0 := HOV5.out.cellAt 0 (by decide)
        have v1 := HOV5.out.cellAt 1 (by decide)
        have v2 := HOV5.out.cellAt 2 (by decide)
        simp only [List.getElem?_cons_zero, List.getElem?_cons_succ] at v0 v1 v2
        have z0 := HOV5.out.frozenAt 0
        have z1 := HOV5.out.frozenAt 1
        have z2 := HOV5.out.frozenAt 2
        have HOV6 := Lib.hid (stored3 HOV5.out (.int .i64 s0) (.int .i64 s1) (.int .i64 s2))
        have HOR6 := Lib.hid (kept3 HOR5.out (b := w.heap.size + 2) (by omega) (.int .i64 s0) (.int .i64 s1) (.int .i64 s2))
        have HOG6 := Lib.hid (kept3 HOG5.out (b := w.heap.size + 2) (by omega) (.int .i64 s0) (.int .i64 s1) (.int .i64 s2))
        have HB6 := Lib.hid (below3 (b := w.heap.size + 2) (u0 := .int .i64 s0) (u1 := .int .i64 s1) (u2 := .int .i64 s2) HB5.out (Nat.le_refl _))
        go_wp2
        go_roundw
        case rel => exact ⟨f + 1, s0, s1, s2, by omega, by go_num, HST, HOV6, HOR6, HOG6, HB6.out⟩
        case measure => simp [intOf]; omega
      case neg =>
      have hzP2 : z < 2 ^ NG := by rw [HP.out]; exact hzP
      have hz24 := HPL.out z hzP
      have htl := tz_lt hz0 hzP2 hx
      obtain ⟨h1, _⟩ := low_bit z hz0 (by omega)
      have HTK := Lib.hid (orN_take (m := fun k => mkN ((rgL fs).getD k [])) htl h1 (fun i => and_pred z hz0 (by omega) i))
      have hpl := pred_lt z hz0
      have HPI := Lib.hid (pred_i64 z hz0 hz24)
      have CLz : Hid (∀ W, W.heap = wr.heap → Calls Tryd.prog 104 #[.int .u64 (z : Int)] W fun e w' => e = .returned (.int .i64 (Lib.ctz 64 z : Int)) ∧ W = w') := Lib.hid (fun W hW => tz z W (by omega) hz0 (by
        have h9 := HTB.out.over HBVW.out
        unfold Tab Lib.TabIs World.var? at h9 ⊢
        rw [hW]; exact h9))
      have hmz := gb_at HGB.out (k := Lib.ctz 64 z) (by have := HGN.out; omega)
      have hgm := gm_at (fs := fs) (k := Lib.ctz 64 z) (by have := HGN.out; omega)
      have hln : (gmL fs).length = NG := HNG.out.symm
      obtain ⟨adG, hA, _, hc⟩ := ints_at (Rd.ofOwn HOGV.out) (k := Lib.ctz 64 z) (by omega)
      subst hA
      rw [nth_eq (by omega), hgm] at hc
      obtain ⟨l, hl⟩ : ∃ l, Lib.ctz 64 z = l := ⟨_, rfl⟩
      rw [hl] at HTK CLz htl hmz hc
      obtain ⟨m, hm⟩ : ∃ m, mkN ((rgL fs).getD l []) = m := ⟨_, rfl⟩
      try simp only at HTK
      rw [hm] at HTK hmz hc
      obtain ⟨p, hp⟩ : ∃ p, z &&& (z - 1) = p := ⟨_, rfl⟩
      rw [hp] at HTK HPI hpl
      have hor := or_i64v fib m hfib hmz
      have hfz : fib ||| m < 2 ^ 20 := Nat.or_lt_two_pow hfib hmz
      have HOR2_ : Hid ((fib ||| m) ||| orN p.testBit (fun k => mkN ((rgL fs).getD k [])) NG = gnN (rgL fs) f) := Lib.hid (by rw [Nat.or_assoc, HTK.out]; exact HOR_.out)
      obtain ⟨v, hv⟩ : ∃ v, fib ||| m = v := ⟨_, rfl⟩
      rw [hv] at hor hfz HOR2_
      have r1 := HOW.out.cellAt 1 (by decide)
      simp only [List.getElem?_cons_zero, List.getElem?_cons_succ] at r1
      have z1 := HOW.out.frozenAt 1
      have q1 : ((z : Int) != 0) = true := by simp; omega
      have q2 : decide ((z : Int) = 0) = false := decide_eq_false (by omega)
      have q3 : IntKind.u64.wrap (z : Int) = z := by rw [IntKind.wrap_u64]; omega
      have q4 : 0 < (z : Int) := by omega
      have q5 : (z : Int) ≤ 16777215 := by omega
      have hhe : wr.heap = wr.heap := rfl
      clear h1 hgm hln hl hm hp hv hz0
      go_upto_block 3 with fail
      go_cut [13] (fun s13 wx => s13 = .int .i64 (z : Int) ∧ wx.heap = (wr.setCell ⟨gf, 1, none⟩ (.int .i64 (v : Int))).heap ∧ Below gf wr wx)
      case first =>
        go_upto_region 9 with fail
        go_region_with ((go_at_call 104; refine (CLz.out _ ?_).mono ?_; (· rfl); rintro e u1 ⟨rfl, rfl⟩))
        all_goals
          go_wp2_with fail
          go_meet
          refine ⟨rfl, rfl, ?_⟩
          repeat (first | exact (Below.refl _ _).setCell (p := ⟨gf, 1, none⟩) (Nat.le_refl _) _ | refine Below.drew ?_)
      case rest =>
      clear hhe hc r1 z1
      revert hcut; generalize wc = w6; intro hcut
      obtain ⟨h0_, hU1, hU2⟩ := hcut
      subst h0_
      have HO6 : Hid (w6.ownsRow gf 95 3 (.slice (some ⟨gf, 0, none⟩) 1 1) 1 [.int .i64 (f : Int), .int .i64 (v : Int), .int .i64 wt]) := Lib.hid (by
        refine own_heapW hU1 ?_
        have h9 := (HOW.out.stored 1 (.int .i64 (v : Int))).1
        simpa using h9)
      have HB6 : Hid (Below gf w3 w6) := Lib.hid (HBV.out.trans hU2)
      clear hU1 hU2
      go_wp2
      rw [HPI.out]
      go_roundw
      case rel => exact ⟨p, v, rfl, by omega, hfz, HOR2_, HO6, HB6.out⟩
      case measure => simp [intOf]; omega
end Go.Proofs.YtnbeomnlobfpfaaDoor
