/- Parts of a network that a set of fibers splits: contracts of spec.l6Mask, spec.l6Splits. No condition but those typed. -/
import Derived.Test.YtnbeomnlobfpfaaDoorLab
import Derived.Test.YtnbeomnlobfpfaaDoorGrpP
import Derived.Test.YtnbeomnlobfpfaaDoorCmp3
import Derived.Deep.DeepCutAuto
namespace Go.Proofs.YtnbeomnlobfpfaaDoor
open Go.ChangeShapes Go.WideShapes Go.ChangeAt Go.RowKit

set_option maxHeartbeats 1000000 in
theorem l6Mask_ (A : Option Addr) (n c : Nat) (zs : List Int) (w : World) (hn : zs.length = n) (hs : n ≤ 1048576) (hr : Rd w w.heap.size A (zs.map (Value.int .i64))) (hz : ∀ k, k < n → 0 ≤ nth zs k ∧ nth zs k < 20) :
    Calls Tryd.prog 34 #[.slice A n c] w fun e w' => e = .returned (.int .i64 (maskN zs n : Nat)) ∧ w = w' := by
  have HN := Lib.hid hn; clear hn
  have HZ := Lib.hid hz; clear hz
  go_enter Tryd.func34, Tryd.ntmps34
  go_wp2
  go_loop [3, 4] (fun l i => ∃ (k m : Nat), k ≤ n ∧ i = .int .i64 k ∧ l = .int .i64 m ∧ Hid (maskN zs k = m ∧ m < 2 ^ 20)) (fun _ i => n - (intOf i).toNat)
  case atStart => exact ⟨0, 0, Nat.zero_le _, rfl, rfl, Lib.hid ⟨rfl, by decide⟩⟩
  case round =>
    obtain ⟨k, m, hk, rfl, rfl, HA⟩ := hrel
    by_cases hlt : k < n
    case neg =>
      obtain rfl : k = n := by omega
      obtain rfl : maskN zs k = m := HA.out.1
      clear hlt
      go_wp2
      go_ret
      exact ⟨rfl, rfl⟩
    case pos =>
    have hks : k < zs.length := by have := HN.out; omega
    obtain ⟨ad, rfl, _, f0⟩ := hr.got (k := k) (by simpa using hks)
    simp only [List.getElem_map] at f0
    rw [nth_eq hks] at f0
    obtain ⟨y, hy⟩ : ∃ y : Nat, nth zs k = (y : Int) := ⟨(nth zs k).toNat, by have := HZ.out k hlt; omega⟩
    have hy20 : y < 20 := by have := HZ.out k hlt; omega
    rw [hy] at f0
    have hp : 2 ^ y < 2 ^ 20 := Nat.pow_lt_pow_right (by decide) hy20
    have HX : Hid (bits .or .i64 (m : Int) ((2 : Int) ^ y) = ((m ||| 2 ^ y : Nat) : Int)) := Lib.hid (by
      have := or_i64_ m (2 ^ y) (by have := HA.out.2; omega) (by omega)
      rw [show ((2 ^ y : Nat) : Int) = (2 : Int) ^ y by simp] at this
      exact this)
    have HS : Hid (maskN zs (k + 1) = m ||| 2 ^ y ∧ m ||| 2 ^ y < 2 ^ 20) := Lib.hid ⟨by unfold maskN; rw [HA.out.1, hy, Int.toNat_natCast], Nat.or_lt_two_pow HA.out.2 hp⟩
    have hw1 : (2 : Int) ^ y ≤ 1048575 := by
      have : ((2 ^ y : Nat) : Int) ≤ 1048575 := by omega
      simpa using this
    have hw0 : 0 ≤ (2 : Int) ^ y := Int.pow_nonneg (by omega)
    clear hy HA hp
    go_wp2
    go_round
    case rel => exact ⟨k + 1, m ||| 2 ^ y, by omega, by go_num, congrArg _ HX.out, HS⟩
    case measure => simp [intOf]; omega
def splQ (n1 : Nat) (fs : List Q4) (gone : Nat) (skip : Int) (a b : Nat) : Prop := (a : Int) ≠ skip ∧ (b : Int) ≠ skip ∧ Cn fs 0 (a : Int) (b : Int) ∧ ¬ Cn fs gone (a : Int) (b : Int)
def splP (n1 : Nat) (fs : List Q4) (gone : Nat) (skip : Int) : Prop := ∃ a b : Nat, a < b ∧ b < n1 ∧ splQ n1 fs gone skip a b
theorem spl_any {n1 : Nat} {fs : List Q4} {gone : Nat} {skip : Int} {a b : Nat} (ha : a < n1) (hb : b < n1) (h : splQ n1 fs gone skip a b) : splP n1 fs gone skip := by
  obtain ⟨h1, h2, h3, h4⟩ := h
  rcases Nat.lt_trichotomy a b with h | h | h
  · exact ⟨a, b, h, hb, h1, h2, h3, h4⟩
  · subst h; exact absurd (Cn.refl _) h4
  · exact ⟨b, a, h, ha, h2, h1, h3.symm, fun hc => h4 hc.symm⟩

end Go.Proofs.YtnbeomnlobfpfaaDoor
