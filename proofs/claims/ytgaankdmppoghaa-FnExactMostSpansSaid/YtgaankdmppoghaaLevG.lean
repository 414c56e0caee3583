/- Contract: MostSpans by the implementation. No condition but those typed. -/
import Derived.Test.YtgaankdmppoghaaLevF
namespace Go.Proofs.Ytgaankdmppoghaa
open Go.ChangeShapes Go.WideShapes Go.ChangeAt Go.RowKit

set_option maxHeartbeats 2000000 in
theorem iMos (q : Q3) (l s : Int) (w : World) : Calls Try.prog 19 #[.agg #[.int .i64 q.a, .int .i64 q.b, .int .i64 q.c], .int .i64 l, .int .i64 s] w (RetV (.tuple #[.int .i64 (mosI q l s), .bool (mosB q l s)]) w) := by
  obtain ⟨a, b, c⟩ := q
  simp only
  have CS : Hid (∀ (W : World) (g c' : Nat), Rd W W.heap.size (some ⟨g, 0, none⟩) ([(⟨a, b, c⟩ : Q3)].flatMap Q3.cells) → Calls Try.prog 56 #[.slice (some ⟨g, 0, none⟩) 1 c'] W (RetV (.bool (spB ⟨a, b, c⟩)) W)) := Lib.hid (fun W g c' h => iSpan1 ⟨a, b, c⟩ h)
  have CL := Lib.hid (fun W => iLoss a b c W)
  have CV : Hid (∀ (W : World) (g c : Nat), Rd W W.heap.size (some ⟨g, 0, none⟩) ([l, s].map (Value.int .i64)) → Calls Try.prog 59 #[.slice (some ⟨g, 0, none⟩) 2 c] W (RetV (.bool (levB l && levB s)) W)) := Lib.hid (fun W g c h => iLevel2 l s h)
  have hbd := @loss_bd ⟨a, b, c⟩
  have hB : mosB ⟨a, b, c⟩ l s = (spB ⟨a, b, c⟩ && levB l && levB s) := rfl
  have hl := @levB_yes l
  have hs := @levB_yes s
  obtain ⟨r1, e1⟩ : ∃ r, spB ⟨a, b, c⟩ = r := ⟨_, rfl⟩
  obtain ⟨r2, e2⟩ : ∃ r, levB l = r := ⟨_, rfl⟩
  obtain ⟨r3, e3⟩ : ∃ r, levB s = r := ⟨_, rfl⟩
  rw [e1, e2, e3] at hB
  rw [e1] at CS CL hbd; rw [e2, e3] at CV; rw [e2] at hl; rw [e3] at hs
  clear e1 e2 e3
  cases r1
  case false =>
    rw [mos_no hB, hB]
    clear hB hbd hl hs CL
    go_enter Try.func19, Try.ntmps19
    go_wp2_with fail
    refine (CS.out _ _ _ (rd_q3 (by simp) a b c _)).mono ?_
    rintro e w1 ⟨rfl, hb1⟩
    go_wp2
    go_ret2
    first | exact retV rfl ((((Below.refl _ _).alloc (Nat.le_refl _) _).alloc (by simp) _).trans (hb1.mono (by simp; omega))) | exact retV rfl ((((((Below.refl _ _).alloc (Nat.le_refl w.heap.size) _).alloc (by simp) _).trans (hb1.mono (by simp; omega))).alloc (by have := hb1.size; simp at this; omega) _).trans (hb2.mono (by have := hb1.size; simp at this; simp; omega)))
  case true =>
  cases r2
  case false =>
    rw [mos_no hB, hB]
    clear hB hbd hl hs CL
    go_enter Try.func19, Try.ntmps19
    go_wp2_with fail
    refine (CS.out _ _ _ (rd_q3 (by simp) a b c _)).mono ?_
    rintro e w1 ⟨rfl, hb1⟩
    go_wp2_with fail
    refine (CV.out _ _ _ (rd_i2 (by simp) l s _)).mono ?_
    rintro e w2 ⟨rfl, hb2⟩
    go_wp2
    go_ret2
    first | exact retV rfl ((((Below.refl _ _).alloc (Nat.le_refl _) _).alloc (by simp) _).trans (hb1.mono (by simp; omega))) | exact retV rfl ((((((Below.refl _ _).alloc (Nat.le_refl w.heap.size) _).alloc (by simp) _).trans (hb1.mono (by simp; omega))).alloc (by have := hb1.size; simp at this; omega) _).trans (hb2.mono (by have := hb1.size; simp at this; simp; omega)))
  case true =>
  cases r3
  case false =>
    rw [mos_no hB, hB]
    clear hB hbd hl hs CL
    go_enter Try.func19, Try.ntmps19
    go_wp2_with fail
    refine (CS.out _ _ _ (rd_q3 (by simp) a b c _)).mono ?_
    rintro e w1 ⟨rfl, hb1⟩
    go_wp2_with fail
    refine (CV.out _ _ _ (rd_i2 (by simp) l s _)).mono ?_
    rintro e w2 ⟨rfl, hb2⟩
    go_wp2
    go_ret2
    first | exact retV rfl ((((Below.refl _ _).alloc (Nat.le_refl _) _).alloc (by simp) _).trans (hb1.mono (by simp; omega))) | exact retV rfl ((((((Below.refl _ _).alloc (Nat.le_refl w.heap.size) _).alloc (by simp) _).trans (hb1.mono (by simp; omega))).alloc (by have := hb1.size; simp at this; omega) _).trans (hb2.mono (by have := hb1.size; simp at this; simp; omega)))
  case true =>
  rw [mos_yes hB, hB]
  obtain ⟨y0, y1⟩ := hbd rfl
  obtain ⟨l0, l1⟩ := hl rfl
  obtain ⟨s0, s1⟩ := hs rfl
  obtain ⟨y, hy⟩ : ∃ y, lossI ⟨a, b, c⟩ = y := ⟨_, rfl⟩
  rw [hy] at CL y0 y1 ⊢
  obtain ⟨R, hR⟩ : ∃ n, mostG l s y 12 0 = n := ⟨_, rfl⟩
  rw [hR]
  have HR := Lib.hid hR
  clear hB hbd hl hs hy hR
  go_enter Try.func19, Try.ntmps19
  go_wp2_with fail
  refine (CS.out _ _ _ (rd_q3 (by simp) a b c _)).mono ?_
  rintro e w1 ⟨rfl, hb1⟩
  have HB1 := Lib.hid ((((Below.refl _ _).alloc (Nat.le_refl w.heap.size) (Obj.cells #[.int .i64 a, .int .i64 b, .int .i64 c] 26)).alloc (by simp) (Obj.cells #[.int .i64 a, .int .i64 b, .int .i64 c] 26)).trans (hb1.mono (by simp; omega)))
  have k0 : w1.cell? ⟨w.heap.size, 0, none⟩ = some (.int .i64 a) := (hb1.cell (p := ⟨w.heap.size, 0, none⟩) (by simp; omega)).trans (by simp [go_sem])
  have k1 : w1.cell? ⟨w.heap.size, 1, none⟩ = some (.int .i64 b) := (hb1.cell (p := ⟨w.heap.size, 1, none⟩) (by simp; omega)).trans (by simp [go_sem])
  have k2 : w1.cell? ⟨w.heap.size, 2, none⟩ = some (.int .i64 c) := (hb1.cell (p := ⟨w.heap.size, 2, none⟩) (by simp; omega)).trans (by simp [go_sem])
  have hz1 : w.heap.size < w1.heap.size := by have := hb1.size; simp at this; omega
  have K0 := Lib.hid k0; have K1 := Lib.hid k1; have K2 := Lib.hid k2
  clear hb1 k0 k1 k2
  go_wp2_with fail
  refine (CV.out _ _ _ (rd_i2 (by simp) l s _)).mono ?_
  rintro e w2 ⟨rfl, hb2⟩
  have HB2 := Lib.hid ((HB1.out.alloc HB1.out.size (Obj.cells #[.int .i64 l, .int .i64 s] 3)).trans (hb2.mono (by have := HB1.out.size; simp; omega)))
  have k0' := (hb2.cell (p := ⟨w.heap.size, 0, none⟩) (by simp; omega)).trans (show _ = some (.int .i64 a) by simp [go_sem, K0.out, hz1])
  have k1' := (hb2.cell (p := ⟨w.heap.size, 1, none⟩) (by simp; omega)).trans (show _ = some (.int .i64 b) by simp [go_sem, K1.out, hz1])
  have k2' := (hb2.cell (p := ⟨w.heap.size, 2, none⟩) (by simp; omega)).trans (show _ = some (.int .i64 c) by simp [go_sem, K2.out, hz1])
  have hz2 : w.heap.size < w2.heap.size := by have := hb2.size; simp at this; omega
  have K0' := Lib.hid k0'; have K1' := Lib.hid k1'; have K2' := Lib.hid k2'
  clear hb2 k0' k1' k2'
  go_wp2
  go_loopw [8] (fun i wr => ∃ k : Nat, k ≤ 12 ∧ i = .int .i64 k ∧ Hid (mostG l s y (12 - k) k = R) ∧ Hid (Below w2.heap.size w2 wr)) (fun i _ => 12 - (intOf i).toNat)
  case atStart => exact ⟨0, by omega, rfl, HR, Lib.hid (Below.refl _ _)⟩
  case round =>
    obtain ⟨k, hk, rfl, HK, HB⟩ := hrel
    have k0 : wr.cell? ⟨w.heap.size, 0, none⟩ = some (.int .i64 a) := (HB.out.cell (p := ⟨w.heap.size, 0, none⟩) hz2).trans K0'.out
    have k1 : wr.cell? ⟨w.heap.size, 1, none⟩ = some (.int .i64 b) := (HB.out.cell (p := ⟨w.heap.size, 1, none⟩) hz2).trans K1'.out
    have k2 : wr.cell? ⟨w.heap.size, 2, none⟩ = some (.int .i64 c) := (HB.out.cell (p := ⟨w.heap.size, 2, none⟩) hz2).trans K2'.out
    by_cases hlt : k < 12
    case neg =>
      obtain rfl : k = 12 := by omega
      obtain rfl : R = 12 := HK.out.symm.trans rfl
      go_wp2
      go_ret2
      exact retV rfl (HB2.out.trans (HB.out.mono HB2.out.size))
    case pos =>
    obtain ⟨p0, p1⟩ := mul_bd hlt y0 y1
    have q12 : (k : Int) < 12 := by omega
    by_cases hc : s ≤ l - ((k : Int) + 1) * y
    · have HN := Lib.hid ((most_go hlt hc).symm.trans HK.out)
      go_wp2_with fail
      refine (CL.out _ (by trivial)).mono ?_
      rintro e w3 ⟨rfl, hb3⟩
      go_wp2
      go_roundw
      case rel => exact ⟨k + 1, by omega, by go_num, HN, Lib.hid (HB.out.trans (hb3.mono HB.out.size))⟩
      case measure => simp [intOf]; omega
    · have e := most_end (y := y) (l := l) (s := s) (n := k) (by omega) (.inr (by omega))
      obtain rfl : R = k := HK.out.symm.trans e
      have q1 : decide (s ≤ l - ((R : Int) + 1) * y) = false := decide_eq_false hc
      have hc2 : l - ((R : Int) + 1) * y < s := by omega
      clear e hc
      go_wp2_with fail
      refine (CL.out _ (by trivial)).mono ?_
      rintro e w3 ⟨rfl, hb3⟩
      go_wp2
      go_ret2
      exact retV rfl (HB2.out.trans ((HB.out.trans (hb3.mono HB.out.size)).mono HB2.out.size))
end Go.Proofs.Ytgaankdmppoghaa
