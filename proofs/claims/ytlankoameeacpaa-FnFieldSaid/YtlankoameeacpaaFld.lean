/- What FnField draws and needs: two numbers near the symbols; products of symbols commute and distribute. No condition but those typed. -/
import Derived.Test.YtlankoameeacpaaDrawB
import Derived.Test.YtlankoameeacpaaSymV
namespace Go.Proofs.Ytlankoameeacpaa
open Go.ChangeShapes Go.WideShapes Go.ChangeAt Go.RowKit

theorem mul_comm_ : ∀ a, a < 16 → ∀ b, b < 16 → mulN a b = mulN b a := by decide +kernel
theorem mul_xor_ : ∀ a, a < 16 → ∀ b, b < 16 → ∀ c, c < 16 → mulN a (b ^^^ c) = mulN a b ^^^ mulN a c := by decide +kernel
theorem xor_lt16 {a b : Nat} (ha : a < 16) (hb : b < 16) : a ^^^ b < 16 := Nat.xor_lt_two_pow (n := 4) ha hb

theorem mulS_comm (a b : Int) : mulB b a = mulB a b ∧ mulI b a = mulI a b := by
  have h : mulB b a = mulB a b := by unfold mulB; rw [Bool.and_comm]
  refine ⟨h, ?_⟩
  cases h2 : mulB a b with
  | false => rw [mul_no h2, mul_no (h.trans h2)]
  | true =>
    have hh := h2
    unfold mulB at hh
    simp only [Bool.and_eq_true] at hh
    obtain ⟨x, rfl, hx⟩ := symB_nat hh.1
    obtain ⟨y, rfl, hy⟩ := symB_nat hh.2
    rw [(mul_yes hx hy).2, (mul_yes hy hx).2, mul_comm_ y hy x hx]

theorem inv_facts {a : Int} (h : invB a = true) : mulB a (invI a) = true ∧ mulI a (invI a) = 1 := by
  have h' : inB a 1 15 = true := h
  have hb := inB_true h'
  obtain ⟨x, rfl⟩ : ∃ x : Nat, a = (x : Int) := ⟨a.toNat, by omega⟩
  have hx : x < 16 := by omega
  obtain ⟨i1, i2, i3, _⟩ := inv_ok x hx (by omega)
  rw [inv_yes h]
  obtain ⟨e1, e2⟩ := mul_yes hx i2
  exact ⟨e1, by rw [e2, i3]; rfl⟩

set_option maxHeartbeats 1000000 in
theorem drawMul (A : Option Addr) (n c : Nat) (w : World) (hn : n ≤ 65536) (h : RdB w w.heap.size A n) :
    Calls Try.prog 10 #[.slice A n c] w fun e w' => ∃ a b : Int, e = .returned (.tuple #[.int .i64 a, .int .i64 b]) ∧ -1 ≤ a ∧ a ≤ 16 ∧ 0 ≤ b ∧ b ≤ 16 ∧ Below w.heap.size w w' := by
  have HC := Lib.hid (cur_new (c := c) h (by omega)); clear h
  go_enter Try.func10, Try.ntmps10
  go_wp2_with fail
  refine (pick_any w.heap.size w.heap.size A n c 0 18 _ (by omega) (by omega) (by omega) HC.out).mono ?_
  rintro e w1 ⟨r1, rfl, ha, hb, hc1, ho1⟩
  have HC1 := Lib.hid hc1; clear hc1
  have hsz : w.heap.size + 1 ≤ w1.heap.size := by have := ho1.size; simpa using this
  go_wp2_with fail
  refine (pick_any w.heap.size w.heap.size A n c 2 17 _ (by omega) (by omega) (by omega) HC1.out).mono ?_
  rintro e w2 ⟨r2, rfl, ha2, hb2, hc2, ho2⟩
  have ho := ho1.trans ho2
  go_wp2_with fail
  go_ret2
  exact ⟨r1 - 1, r2, rfl, by omega, by omega, by omega, by omega, only_new rfl ho⟩
end Go.Proofs.Ytlankoameeacpaa
