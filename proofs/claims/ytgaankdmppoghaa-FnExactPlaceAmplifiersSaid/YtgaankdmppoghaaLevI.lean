/- Contracts: spans and levels: the implementation's tests; SpanLoss, MostSpans. No condition but those typed. -/
import Derived.Test.YtgaankdmppoghaaLevS
import Derived.Test.YtgaankdmppoghaaInts
namespace Go.Proofs.Ytgaankdmppoghaa
open Go.ChangeShapes Go.WideShapes Go.ChangeAt Go.RowKit

theorem rd_new {W : World} {n : Nat} (hn : W.heap.size = n) (xs : List Value) (T : TypeId) : Rd (W.alloc (.cells xs.toArray T)) (W.alloc (.cells xs.toArray T)).heap.size (some ⟨n, 0, none⟩) xs := by
  subst hn
  intro k u hu
  refine ⟨_, rfl, by simp, ?_⟩
  have e : (⟨W.heap.size, 0, none⟩ : Addr).add k = ⟨W.heap.size, k, none⟩ := by unfold Addr.add; by_cases h : k = 0 <;> simp [h]
  rw [e]
  have := cell_of_row (W.alloc (.cells xs.toArray T)) W.heap.size k xs.toArray T (0, 0) (heap_alloc_new W _)
  rw [this]; simpa using hu
theorem rd_q3 {W : World} {n : Nat} (hn : W.heap.size = n) (a b c : Int) (T : TypeId) : Rd (W.alloc (.cells #[.int .i64 a, .int .i64 b, .int .i64 c] T)) (W.alloc (.cells #[.int .i64 a, .int .i64 b, .int .i64 c] T)).heap.size (some ⟨n, 0, none⟩) ([(⟨a, b, c⟩ : Q3)].flatMap Q3.cells) := rd_new hn [.int .i64 a, .int .i64 b, .int .i64 c] T
theorem rd_q4 {W : World} {n : Nat} (hn : W.heap.size = n) (a b c d : Int) (T : TypeId) : Rd (W.alloc (.cells #[.int .i64 a, .int .i64 b, .int .i64 c, .int .i64 d] T)) (W.alloc (.cells #[.int .i64 a, .int .i64 b, .int .i64 c, .int .i64 d] T)).heap.size (some ⟨n, 0, none⟩) ([(⟨a, b, c, d⟩ : Q4)].flatMap Q4.cells) := rd_new hn [.int .i64 a, .int .i64 b, .int .i64 c, .int .i64 d] T
theorem rd_i1 {W : World} {n : Nat} (hn : W.heap.size = n) (a : Int) (T : TypeId) : Rd (W.alloc (.cells #[.int .i64 a] T)) (W.alloc (.cells #[.int .i64 a] T)).heap.size (some ⟨n, 0, none⟩) ([a].map (Value.int .i64)) := rd_new hn [.int .i64 a] T
theorem rd_i2 {W : World} {n : Nat} (hn : W.heap.size = n) (a b : Int) (T : TypeId) : Rd (W.alloc (.cells #[.int .i64 a, .int .i64 b] T)) (W.alloc (.cells #[.int .i64 a, .int .i64 b] T)).heap.size (some ⟨n, 0, none⟩) ([a, b].map (Value.int .i64)) := rd_new hn [.int .i64 a, .int .i64 b] T

theorem iLevels (g n c : Nat) (zs : List Int) (w : World) (hn : zs.length = n) (hs : n ≤ 1048576) (hr : Rd w w.heap.size (some ⟨g, 0, none⟩) (zs.map (Value.int .i64))) :
    Calls Try.prog 59 #[.slice (some ⟨g, 0, none⟩) n c] w (RetV (.bool (zs.all levB)) w) := by
  have HN := Lib.hid hn; clear hn
  go_enter Try.func59, Try.ntmps59
  go_wp2
  go_loopw [7] (fun i wr => ∃ k : Nat, k ≤ n ∧ i = .int .i64 k ∧ Hid ((zs.take k).all levB = true) ∧ Below w.heap.size w wr) (fun i _ => n - (intOf i).toNat)
  case atStart => exact ⟨0, Nat.zero_le _, rfl, Lib.hid all_zero, Below.refl _ _⟩
  case round =>
    obtain ⟨k, hk, rfl, HA, hb⟩ := hrel
    by_cases hlt : k < n
    case neg =>
      have HQ : Hid (zs.all levB = true) := Lib.hid (all_end (n := k) (by have := HN.out; omega) HA.out)
      have hkn : ¬ (k : Int) < n := by omega
      clear hlt
      go_wp2
      go_ret
      exact retB HQ.out hb
    case pos =>
    have hks : k < zs.length := by have := HN.out; omega
    obtain ⟨_, f0⟩ := (hr.over hb).intc hks
    rw [Nat.zero_add] at f0
    obtain ⟨z, hz⟩ : ∃ z, zs[k]'hks = z := ⟨_, rfl⟩
    rw [hz] at f0
    have HS : Hid (levB z = true → (zs.take (k + 1)).all levB = true) := Lib.hid fun h => all_snoc hks HA.out (by rw [hz]; exact h)
    have HF : Hid (levB z = false → zs.all levB = false) := Lib.hid fun h => (all_no hks (by rw [hz]; exact h))
    clear hz
    go_wp2
    all_goals first
      | (go_ret; exact retB (HF.out (inB_no (by omega))) hb)
      | (go_roundw
         case rel => exact ⟨k + 1, by omega, by go_num, Lib.hid (HS.out (inB_mk (by omega) (by omega))), hb⟩
         case measure => simp [intOf]; omega)

set_option maxHeartbeats 1000000 in
theorem iLine (g n c : Nat) (qs : List Q3) (w : World) (hn : qs.length = n) (hs : n ≤ 1048576) (hr : Rd w w.heap.size (some ⟨g, 0, none⟩) (qs.flatMap Q3.cells)) :
    Calls Try.prog 56 #[.slice (some ⟨g, 0, none⟩) n c] w (RetV (.bool (lineB qs)) w) := by
  have HN := Lib.hid hn; clear hn
  by_cases hlen : 1 ≤ n ∧ n ≤ 12
  case neg =>
    have HQ : Hid (lineB qs = false) := Lib.hid (lineB_len (by have := HN.out; omega))
    go_enter Try.func56, Try.ntmps56
    go_wp2
    all_goals first
      | (go_ret; exact retB HQ.out (Below.refl _ _))
      | (exfalso; omega)
  case pos =>
  obtain ⟨hn1, hn12⟩ := hlen
  have q1 : decide ((n : Int) < 1) = false := decide_eq_false (by omega)
  have q2 : decide (12 < (n : Int)) = false := decide_eq_false (by omega)
  go_enter Try.func56, Try.ntmps56
  go_wp2
  go_loopw [15] (fun i wr => ∃ k : Nat, k ≤ n ∧ i = .int .i64 k ∧ Hid ((qs.take k).all spB = true) ∧ Below w.heap.size w wr) (fun i _ => n - (intOf i).toNat)
  case atStart => exact ⟨0, Nat.zero_le _, rfl, Lib.hid all_zero, Below.refl _ _⟩
  case round =>
    obtain ⟨k, hk, rfl, HA, hb⟩ := hrel
    by_cases hlt : k < n
    case neg =>
      have HQ : Hid (lineB qs = true) := Lib.hid (lineB_mk (by have := HN.out; omega) (by have := HN.out; omega) (all_end (n := k) (by have := HN.out; omega) HA.out))
      have hkn : ¬ (k : Int) < n := by omega
      clear hlt
      go_wp2
      go_ret
      exact retB HQ.out hb
    case pos =>
    have hks : k < qs.length := by have := HN.out; omega
    have hrc := (hr.over hb).q3c hks
    rw [Nat.zero_add] at hrc
    obtain ⟨⟨a, b, c3⟩, hq⟩ : ∃ q, qs[k]'hks = q := ⟨_, rfl⟩
    rw [hq] at hrc
    obtain ⟨hg, f0, f1, f2⟩ := hrc
    simp only at f0 f1 f2
    have HS : Hid (spB ⟨a, b, c3⟩ = true → (qs.take (k + 1)).all spB = true) := Lib.hid fun h => all_snoc hks HA.out (by rw [hq]; exact h)
    have HF : Hid (spB ⟨a, b, c3⟩ = false → lineB qs = false) := Lib.hid fun h => lineB_all (all_no hks (by rw [hq]; exact h))
    clear hq
    have hbw := hb.size
    go_wp2
    all_goals first
      | (go_ret; exact retB (HF.out (spB_no (by simp only; omega))) (hb.alloc hbw _))
      | (go_roundw
         case rel => exact ⟨k + 1, by omega, by go_num, Lib.hid (HS.out (spB_mk (by simp only; omega))), hb.alloc hbw _⟩
         case measure => simp [intOf]; omega)

def slossR (q : Q3) : Value := .tuple #[.int .i64 (if spB q then lossI q else 0), .bool (spB q)]
theorem sSpanLoss (a b c : Int) (w : World) : Calls Try.prog 15 #[.agg #[.int .i64 a, .int .i64 b, .int .i64 c]] w (RetV (slossR ⟨a, b, c⟩) w) := by
  have CS := Lib.hid (fun W => sSpan a b c W)
  have CL := Lib.hid (fun W => sLoss a b c W)
  obtain ⟨x, hx⟩ : ∃ x, lossI ⟨a, b, c⟩ = x := ⟨_, rfl⟩
  unfold slossR
  rw [hx] at CL ⊢
  cases h : spB ⟨a, b, c⟩ with
  | false =>
    rw [h] at CS
    clear h hx CL
    go_enter Try.func15, Try.ntmps15
    go_wp2_with (first | (go_at_call 54; refine (CS.out _).mono ?_; rintro e w' ⟨rfl, hb2⟩) | (go_at_call 55; refine (CL.out _ (by trivial)).mono ?_; rintro e w' ⟨rfl, hb3⟩))
    go_ret2
    exact retV rfl (Below.trans ((Below.refl _ _).alloc (Nat.le_refl _) _) (hb2.mono (by simp)))
  | true =>
    rw [h] at CS CL
    clear h hx
    go_enter Try.func15, Try.ntmps15
    go_wp2_with fail
    refine (CS.out _).mono ?_
    rintro e w1 ⟨rfl, hb2⟩
    have k0 : w1.cell? ⟨w.heap.size, 0, none⟩ = some (.int .i64 a) := (hb2.cell (p := ⟨w.heap.size, 0, none⟩) (by simp)).trans (by simp [go_sem])
    have k1 : w1.cell? ⟨w.heap.size, 1, none⟩ = some (.int .i64 b) := (hb2.cell (p := ⟨w.heap.size, 1, none⟩) (by simp)).trans (by simp [go_sem])
    have k2 : w1.cell? ⟨w.heap.size, 2, none⟩ = some (.int .i64 c) := (hb2.cell (p := ⟨w.heap.size, 2, none⟩) (by simp)).trans (by simp [go_sem])
    go_wp2_with (first | (go_at_call 54; refine (CS.out _).mono ?_; rintro e w' ⟨rfl, hb2⟩) | (go_at_call 55; refine (CL.out _ (by trivial)).mono ?_; rintro e w' ⟨rfl, hb3⟩))
    go_ret2
    exact retV rfl (Below.trans (Below.trans ((Below.refl _ _).alloc (Nat.le_refl _) _) (hb2.mono (by simp))) (hb3.mono (by have := hb2.size; simp at this; omega)))
end Go.Proofs.Ytgaankdmppoghaa
