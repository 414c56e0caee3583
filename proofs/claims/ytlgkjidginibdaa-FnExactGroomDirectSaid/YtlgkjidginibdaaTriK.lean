/- The law's helpers over a slice of Tributary: copy and size in the form that gen_l4.py asks, marks. No condition but those typed. -/
import Derived.Test.YtlgkjidginibdaaTriS
import Derived.Test.YtlgkjidginibdaaGB
namespace Go.Proofs.Ytlgkjidginibdaa
open Go.ChangeShapes Go.WideShapes Go.ChangeAt Go.RowKit

theorem toTriX (A : Option Addr) (n c : Nat) (qs : List Q3) (w : World) (hn : qs.length = n) (hr : Rd w w.heap.size A (qs.flatMap Q3.cells)) (hsz : n ≤ 1048576) :
    Calls Try.prog 49 #[.slice A n c] w fun e w' => ∃ g, w.heap.size ≤ g ∧ e = .returned (.slice (some ⟨g, 0, none⟩) n n) ∧
      w'.ownsRow w.heap.size 166 3 (.slice (some ⟨g, 0, none⟩) n n) n (qs.flatMap Q3.cells) ∧ Below w.heap.size w w' :=
  (toTriS A n c qs w hn hr hsz).mono fun _ _ h => ⟨_, Nat.le_refl _, h⟩
theorem szTriX (A : Option Addr) (n c : Nat) (left : Int) (w : World) (hm : n ≤ maxLen) (hl0 : 0 ≤ left) (hl1 : left ≤ 1048576) :
    Calls Try.prog 47 #[.slice A n c, .int .i64 left] w fun e w' => ∃ v : Int, e = .returned (.int .i64 v) ∧ Below w.heap.size w w' ∧ -1 ≤ v ∧ v ≤ left ∧ (0 ≤ v → v + n ≤ left) :=
  (szTriS A n c left w hm hl0 hl1).mono fun _ _ ⟨v, h1, h2, h3⟩ => ⟨v, h1, by rw [← h2]; exact Below.refl _ _, h3⟩

set_option maxRecDepth 100000 in
set_option maxHeartbeats 4000000 in
theorem markTriS (g n c : Nat) (k : Int) (xs : List Value) (w : World) {B : Nat} (ho : w.ownsRow B 166 3 (.slice (some ⟨g, 0, none⟩) n c) n xs) (hn : n ≤ 1048576) (h0 : 0 ≤ k) (h1 : k ≤ 100000000) :
    Calls Try.prog 53 #[.slice (some ⟨g, 0, none⟩) n c, .int .i64 k] w fun e w' => e = .returned (.int .i64 (k + 3 * (n : Int))) ∧ Off (· = g) w w' := by
  have HO := Lib.hid ho; clear ho
  go_enter Try.func53, Try.ntmps53
  go_wp2
  go_loopw [1, 5] (fun q i wr => ∃ (j : Nat) (z : Int) (ys : List Value), j ≤ n ∧ i = .int .i64 j ∧ q = .int .i64 z ∧ z = k + 3 * j ∧ Off (· = g) w wr ∧ wr.ownsRow B 166 3 (.slice (some ⟨g, 0, none⟩) n c) n ys) (fun _ i _ => n - (intOf i).toNat)
  case atStart => exact ⟨0, k, xs, Nat.zero_le _, rfl, rfl, by simp, Off.refl _ _, HO.out⟩
  case round =>
    obtain ⟨j, z, ys, hj, rfl, rfl, hz, hoff, hown⟩ := hrel
    have HF := Lib.hid hoff
    have HZ := Lib.hid hz
    have hz0 : 0 ≤ z := by omega
    have hz1 : z ≤ 200000000 := by omega
    clear hoff hz
    by_cases hlt : j < n
    · have hlen := hown.1
      have hcells : ∀ i, i < 3 → ∃ v, wr.cell? ⟨g, j * 3 + i, none⟩ = some v := by
        intro i hi
        have := hown.cellAt (j * 3 + i) (by omega)
        rw [List.getElem?_eq_getElem (by omega)] at this
        exact ⟨_, this⟩
      obtain ⟨v0, q0⟩ := hcells 0 (by omega)
      obtain ⟨v1, q1⟩ := hcells 1 (by omega)
      obtain ⟨v2, q2⟩ := hcells 2 (by omega)
      rw [Nat.add_zero] at q0
      have z0_ := hown.frozenAt (j * 3)
      have z1_ := hown.frozenAt (j * 3 + 1)
      have z2_ := hown.frozenAt (j * 3 + 2)
      have HST := Lib.hid ((((((hown).stored (j * 3) (.int .i64 z)).1).stored (j * 3 + 1) (.int .i64 (z + 1))).1).stored (j * 3 + 2) (.int .i64 (z + 1 + 1))).1
      clear hown hlen hcells
      go_wp2
      go_roundw
      case rel => exact ⟨j + 1, _, _, by omega, by go_num, rfl, by have := HZ.out; omega, (((HF.out.set_ (p := ⟨g, _, none⟩) rfl _).set_ (p := ⟨g, _, none⟩) rfl _).set_ (p := ⟨g, _, none⟩) rfl _), HST.out⟩
      case measure => simp [intOf]; omega
    · have hjn : j = n := by omega
      subst hjn
      have HR : Hid (z = k + 3 * j) := HZ
      clear hlt hown
      go_wp2
      go_ret
      exact ⟨reti HR.out, HF.out⟩
end Go.Proofs.Ytlgkjidginibdaa
