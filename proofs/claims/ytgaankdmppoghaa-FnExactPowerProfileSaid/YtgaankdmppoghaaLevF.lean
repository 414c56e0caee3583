/- Contracts: MostSpans, both sides; SpanLoss and PowerProfile in the spelling that the laws take. No condition but those typed. -/
import Derived.Test.YtgaankdmppoghaaLevC
namespace Go.Proofs.Ytgaankdmppoghaa
open Go.ChangeShapes Go.WideShapes Go.ChangeAt Go.RowKit

def slI (q : Q3) : Int := if spB q then lossI q else 0
theorem sSL (q : Q3) (w : World) : Calls Try.prog 15 #[.agg #[.int .i64 q.a, .int .i64 q.b, .int .i64 q.c]] w (RetV (.tuple #[.int .i64 (slI q), .bool (spB q)]) w) := sSpanLoss q.a q.b q.c w
theorem iSL (q : Q3) (w : World) : Calls Try.prog 17 #[.agg #[.int .i64 q.a, .int .i64 q.b, .int .i64 q.c]] w (RetV (.tuple #[.int .i64 (slI q), .bool (spB q)]) w) := iSpanLoss q.a q.b q.c w
theorem sProW (g1 n1 c1 g2 n2 c2 : Nat) (qs : List Q3) (am : List Q4) (l : Int) (w : World) (hn1 : qs.length = n1) (hs1 : n1 ≤ 1048576) (hr1 : Rd w w.heap.size (some ⟨g1, 0, none⟩) (qs.flatMap Q3.cells)) (hn2 : am.length = n2) (hs2 : n2 ≤ 1048576) (hr2 : Rd w w.heap.size (some ⟨g2, 0, none⟩) (am.flatMap Q4.cells)) :
    Calls Try.prog 22 #[.slice (some ⟨g1, 0, none⟩) n1 c1, .slice (some ⟨g2, 0, none⟩) n2 c2, .int .i64 l] w (Ans1 3 1 ((aftA qs am l).map (Value.int .i64)) (aftA qs am l).length (fun v => .tuple #[v, .bool (levOk qs am l)]) w) := sPro g1 n1 c1 g2 n2 c2 qs am l w hn1 hs1 hr1 hn2 hs2 hr2
theorem iProW (g1 n1 c1 g2 n2 : Nat) (qs : List Q3) (am : List Q4) (l : Int) (w : World) (hn1 : qs.length = n1) (hs1 : n1 ≤ 1048576) (hr1 : Rd w w.heap.size (some ⟨g1, 0, none⟩) (qs.flatMap Q3.cells)) (hn2 : am.length = n2) (hs2 : n2 ≤ 1048576) (hr2 : Rd w w.heap.size (some ⟨g2, 0, none⟩) (am.flatMap Q4.cells)) :
    Calls Try.prog 25 #[.slice (some ⟨g1, 0, none⟩) n1 c1, .slice (some ⟨g2, 0, none⟩) n2 n2, .int .i64 l] w (Ans1 3 1 ((aftA qs am l).map (Value.int .i64)) (aftA qs am l).length (fun v => .tuple #[v, .bool (levOk qs am l)]) w) := iPro g1 n1 c1 g2 n2 qs am l w hn1 hs1 hr1 hn2 hs2 hr2

def mostG (l s y : Int) : Nat → Nat → Nat
  | 0, n => n
  | f + 1, n => if s ≤ l - ((n : Int) + 1) * y then mostG l s y f (n + 1) else n
def mosB (q : Q3) (l s : Int) : Bool := spB q && levB l && levB s
def mosI (q : Q3) (l s : Int) : Int := if mosB q l s then (mostG l s (lossI q) 12 0 : Int) else 0
theorem mos_no {q : Q3} {l s : Int} (h : mosB q l s = false) : mosI q l s = 0 := by unfold mosI; rw [h]; rfl
theorem mos_yes {q : Q3} {l s : Int} (h : mosB q l s = true) : mosI q l s = (mostG l s (lossI q) 12 0 : Int) := by unfold mosI; rw [h]; rfl
theorem most_go {l s y : Int} {n : Nat} (hn : n < 12) (h : s ≤ l - ((n : Int) + 1) * y) : mostG l s y (12 - n) n = mostG l s y (12 - (n + 1)) (n + 1) := by
  obtain ⟨f, hf⟩ : ∃ f, 12 - n = f + 1 := ⟨11 - n, by omega⟩
  rw [hf, mostG, if_pos h, show 12 - (n + 1) = f by omega]
theorem most_end {l s y : Int} {n : Nat} (hn : n ≤ 12) (h : n = 12 ∨ l - ((n : Int) + 1) * y < s) : mostG l s y (12 - n) n = n := by
  by_cases e : n = 12
  · subst e; rfl
  · obtain ⟨f, hf⟩ : ∃ f, 12 - n = f + 1 := ⟨11 - n, by omega⟩
    rw [hf, mostG, if_neg (by rcases h with h | h <;> omega)]
theorem all_two {α : Type} (p : α → Bool) (x y : α) : [x, y].all p = (p x && p y) := by simp
theorem iLevel2 (z y : Int) {W : World} {g c : Nat} (hr : Rd W W.heap.size (some ⟨g, 0, none⟩) ([z, y].map (Value.int .i64))) : Calls Try.prog 59 #[.slice (some ⟨g, 0, none⟩) 2 c] W (RetV (.bool (levB z && levB y)) W) := by
  have := iLevels g 2 c [z, y] W rfl (by omega) hr
  rw [all_two] at this; exact this
theorem mul_bd {n : Nat} {y : Int} (hn : n < 12) (h0 : 0 ≤ y) (h1 : y ≤ 1250) : 0 ≤ ((n : Int) + 1) * y ∧ ((n : Int) + 1) * y ≤ 15000 := by
  refine ⟨Int.mul_nonneg (by omega) h0, ?_⟩
  have : ((n : Int) + 1) * y ≤ 12 * 1250 := Int.mul_le_mul (by omega) h1 h0 (by omega)
  omega

set_option maxHeartbeats 2000000 in
theorem sMos (q : Q3) (l s : Int) (w : World) : Calls Try.prog 18 #[.agg #[.int .i64 q.a, .int .i64 q.b, .int .i64 q.c], .int .i64 l, .int .i64 s] w (RetV (.tuple #[.int .i64 (mosI q l s), .bool (mosB q l s)]) w) := by
  obtain ⟨a, b, c⟩ := q
  simp only
  have CS := Lib.hid (fun W => sSpan a b c W)
  have CL := Lib.hid (fun W => sLoss a b c W)
  have CV := Lib.hid (fun W => sLevel l W)
  have CW := Lib.hid (fun W => sLevel s W)
  have hbd := @loss_bd ⟨a, b, c⟩
  have hB : mosB ⟨a, b, c⟩ l s = (spB ⟨a, b, c⟩ && levB l && levB s) := rfl
  have hl := @levB_yes l
  have hs := @levB_yes s
  obtain ⟨r1, e1⟩ : ∃ r, spB ⟨a, b, c⟩ = r := ⟨_, rfl⟩
  obtain ⟨r2, e2⟩ : ∃ r, levB l = r := ⟨_, rfl⟩
  obtain ⟨r3, e3⟩ : ∃ r, levB s = r := ⟨_, rfl⟩
  rw [e1, e2, e3] at hB
  rw [e1] at CS CL hbd; rw [e2] at CV hl; rw [e3] at CW hs
  clear e1 e2 e3
  cases r1
  case false =>
    rw [mos_no hB, hB]
    clear hB hbd hl hs CL
    go_enter Try.func18, Try.ntmps18
    go_wp2_with fail
    refine (CS.out _).mono ?_
    rintro e w1 ⟨rfl, hb1⟩
    go_wp2
    go_ret2
    exact retV rfl (((Below.refl _ _).alloc (Nat.le_refl _) _).trans (hb1.mono (by simp)))
  case true =>
  cases r2
  case false =>
    rw [mos_no hB, hB]
    clear hB hbd hl hs CL
    go_enter Try.func18, Try.ntmps18
    go_wp2_with fail
    refine (CS.out _).mono ?_
    rintro e w1 ⟨rfl, hb1⟩
    go_wp2_with fail
    refine (CV.out _).mono ?_
    rintro e w' ⟨rfl, rfl⟩
    go_wp2
    go_ret2
    exact retV rfl (((Below.refl _ _).alloc (Nat.le_refl _) _).trans (hb1.mono (by simp)))
  case true =>
  cases r3
  case false =>
    rw [mos_no hB, hB]
    clear hB hbd hl hs CL
    go_enter Try.func18, Try.ntmps18
    go_wp2_with fail
    refine (CS.out _).mono ?_
    rintro e w1 ⟨rfl, hb1⟩
    go_wp2_with fail
    refine (CV.out _).mono ?_
    rintro e w' ⟨rfl, rfl⟩
    go_wp2_with fail
    refine (CW.out _).mono ?_
    rintro e w' ⟨rfl, rfl⟩
    go_wp2
    go_ret2
    exact retV rfl (((Below.refl _ _).alloc (Nat.le_refl _) _).trans (hb1.mono (by simp)))
  case true =>
  rw [mos_yes hB, hB]
  obtain ⟨y0, y1⟩ := hbd rfl
  obtain ⟨l0, l1⟩ := hl rfl
  obtain ⟨s0, s1⟩ := hs rfl
  obtain ⟨y, hy⟩ : ∃ y, lossI ⟨a, b, c⟩ = y := ⟨_, rfl⟩
  rw [hy] at CL y0 y1 ⊢
  obtain ⟨R, hR⟩ : ∃ n, mostG l s y 12 0 = n := ⟨_, rfl⟩
  rw [hR]
  have HR := Lib.hid hR
  clear hB hbd hl hs hy hR
  go_enter Try.func18, Try.ntmps18
  go_wp2_with fail
  refine (CS.out _).mono ?_
  rintro e w1 ⟨rfl, hb1⟩
  have HB1 := Lib.hid (((Below.refl _ _).alloc (Nat.le_refl w.heap.size) (Obj.cells #[.int .i64 a, .int .i64 b, .int .i64 c] 26)).trans (hb1.mono (by simp)))
  have k0 : w1.cell? ⟨w.heap.size, 0, none⟩ = some (.int .i64 a) := (hb1.cell (p := ⟨w.heap.size, 0, none⟩) (by simp)).trans (by simp [go_sem])
  have k1 : w1.cell? ⟨w.heap.size, 1, none⟩ = some (.int .i64 b) := (hb1.cell (p := ⟨w.heap.size, 1, none⟩) (by simp)).trans (by simp [go_sem])
  have k2 : w1.cell? ⟨w.heap.size, 2, none⟩ = some (.int .i64 c) := (hb1.cell (p := ⟨w.heap.size, 2, none⟩) (by simp)).trans (by simp [go_sem])
  have hz1 : w.heap.size < w1.heap.size := by have := hb1.size; simp at this; omega
  clear hb1
  go_wp2_with fail
  refine (CV.out _).mono ?_
  rintro e w' ⟨rfl, rfl⟩
  go_wp2_with fail
  refine (CW.out _).mono ?_
  rintro e w' ⟨rfl, rfl⟩
  go_wp2
  have K0 := Lib.hid k0; have K1 := Lib.hid k1; have K2 := Lib.hid k2
  clear k0 k1 k2
  go_loopw [8] (fun i wr => ∃ k : Nat, k ≤ 12 ∧ i = .int .i64 k ∧ Hid (mostG l s y (12 - k) k = R) ∧ Hid (Below w1.heap.size w1 wr)) (fun i _ => 12 - (intOf i).toNat)
  case atStart => exact ⟨0, by omega, rfl, HR, Lib.hid (Below.refl _ _)⟩
  case round =>
    obtain ⟨k, hk, rfl, HK, HB⟩ := hrel
    have k0 : wr.cell? ⟨w.heap.size, 0, none⟩ = some (.int .i64 a) := (HB.out.cell (p := ⟨w.heap.size, 0, none⟩) hz1).trans K0.out
    have k1 : wr.cell? ⟨w.heap.size, 1, none⟩ = some (.int .i64 b) := (HB.out.cell (p := ⟨w.heap.size, 1, none⟩) hz1).trans K1.out
    have k2 : wr.cell? ⟨w.heap.size, 2, none⟩ = some (.int .i64 c) := (HB.out.cell (p := ⟨w.heap.size, 2, none⟩) hz1).trans K2.out
    by_cases hlt : k < 12
    case neg =>
      obtain rfl : k = 12 := by omega
      obtain rfl : R = 12 := HK.out.symm.trans rfl
      go_wp2
      go_ret2
      exact retV rfl (HB1.out.trans (HB.out.mono (by omega)))
    case pos =>
    obtain ⟨p0, p1⟩ := mul_bd hlt y0 y1
    have q12 : (k : Int) < 12 := by omega
    by_cases hc : s ≤ l - ((k : Int) + 1) * y
    · have HN := Lib.hid ((most_go hlt hc).symm.trans HK.out)
      go_wp2_with fail
      refine (CL.out _ (by trivial)).mono ?_
      rintro e w3 ⟨rfl, hb3⟩
      go_wp2
      go_roundw
      case rel => exact ⟨k + 1, by omega, by go_num, HN, Lib.hid (HB.out.trans (hb3.mono HB.out.size))⟩
      case measure => simp [intOf]; omega
    · have e := most_end (y := y) (l := l) (s := s) (n := k) (by omega) (.inr (by omega))
      obtain rfl : R = k := HK.out.symm.trans e
      have q1 : decide (s ≤ l - ((R : Int) + 1) * y) = false := decide_eq_false hc
      have hc2 : l - ((R : Int) + 1) * y < s := by omega
      clear e hc
      go_wp2_with fail
      refine (CL.out _ (by trivial)).mono ?_
      rintro e w3 ⟨rfl, hb3⟩
      go_wp2
      go_ret2
      exact retV rfl (HB1.out.trans ((HB.out.trans (hb3.mono HB.out.size)).mono (by omega)))
end Go.Proofs.Ytgaankdmppoghaa
