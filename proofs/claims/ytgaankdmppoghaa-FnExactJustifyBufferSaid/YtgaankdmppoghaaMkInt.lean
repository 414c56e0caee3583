/- Contracts of the law's helpers that mark a slice of ints and ask whether it is still marked. No condition but those typed. -/
import Derived.Test.YtgaankdmppoghaaMk
namespace Go.Proofs.Ytgaankdmppoghaa
open Go.ChangeShapes Go.WideShapes Go.ChangeAt Go.RowKit

set_option maxRecDepth 100000 in
set_option maxHeartbeats 2000000 in
theorem mkInt_ (g n c : Nat) (k : Int) (zs : List Int) (w : World) {B : Nat} (ho : w.ownsRow B 3 1 (.slice (some ⟨g, 0, none⟩) n c) n (zs.map (Value.int .i64))) (hn : n ≤ 1048576) (h0 : 0 ≤ k) (h1 : k ≤ 100000000) :
    Calls Try.prog 31 #[.slice (some ⟨g, 0, none⟩) n c, .int .i64 k] w (MkP B 3 1 (some ⟨g, 0, none⟩) n c k w) := by
  have HO := Lib.hid ho; clear ho
  have hzl : zs.length = n := by have := HO.out.1; simpa using this
  have HZL := Lib.hid hzl; clear hzl
  go_enter Try.func31, Try.ntmps31
  go_wp2
  go_loopw [1, 5] (fun q i wr => ∃ (j : Nat) (z : Int), j ≤ n ∧ i = .int .i64 j ∧ q = .int .i64 z ∧ z = k + ((j : Nat) : Int) ∧ Off (fun b => (some ⟨g, 0, none⟩ : Option Addr) = some ⟨b, 0, none⟩) w wr ∧ wr.ownsRow B 3 1 (.slice (some ⟨g, 0, none⟩) n c) n ((marksI k (j) ++ zs.drop (j)).map (Value.int .i64))) (fun _ i _ => n - (intOf i).toNat)
  case atStart => exact ⟨0, k, Nat.zero_le _, rfl, rfl, by simp, Off.refl _ _, by have h := HO.out; simpa [marksI] using h⟩
  case round =>
    obtain ⟨j, z, hj, rfl, rfl, hz, hoff, hown⟩ := hrel
    have HF := Lib.hid hoff; have HZ := Lib.hid hz
    have hz0 : 0 ≤ z := by omega
    have hz1 : z ≤ 200000000 := by omega
    clear hoff hz
    by_cases hlt : j < n
    · have hcells : ∀ i, i < 1 → ∃ v, wr.cell? ⟨g, j + i, none⟩ = some v := by
        intro i hi
        have := hown.cellAt (j + i) (by omega)
        rw [List.getElem?_eq_getElem (by rw [hown.1]; omega)] at this
        exact ⟨_, this⟩
      obtain ⟨v0, q0⟩ := hcells 0 (by omega)
      rw [Nat.add_zero] at q0
      have f0_ := hown.frozenAt (j)
      have hst := (hown.stored (j) (.int .i64 (z))).1
      have HL := HZL.out
      rw [set_marks k zs (j) z (by omega) (by have := HZ.out; omega)] at hst
      have HST := Lib.hid hst
      clear hown hst HL hcells
      go_wp2
      go_roundw
      case rel => exact ⟨j + 1, z + 1, by omega, by go_num, rfl, by have := HZ.out; omega, (HF.out.set_ (p := ⟨g, _, none⟩) rfl _), HST.out⟩
      case measure => simp [intOf]; omega
    · have hjn : j = n := by omega
      subst hjn
      have e : marksI k (j) ++ zs.drop (j) = marksI k (j) := by rw [List.drop_of_length_le (by have := HZL.out; omega), List.append_nil]
      rw [e] at hown
      have HW := Lib.hid hown
      clear hlt hown e
      go_wp2
      go_ret
      exact ⟨z, rfl, by rw [Nat.mul_one]; exact HZ.out, HF.out, by rw [Nat.mul_one]; exact HW.out⟩
theorem mkInt_nil (k : Int) (w : World) {B : Nat} :
    Calls Try.prog 31 #[.slice none 0 0, .int .i64 k] w (MkP B 3 1 none 0 0 k w) := by
  have HR : Hid (w.ownsRow B 3 1 (.slice none 0 0) 0 ((marksI k 0).map (Value.int .i64))) := Lib.hid (by have := World.ownsRow_nil w B 3 1; simpa [marksI] using this)
  go_enter Try.func31, Try.ntmps31
  go_wp2
  go_loop [1, 5] (fun q i => q = .int .i64 k ∧ i = .int .i64 0) (fun _ _ => 0)
  case atStart => exact ⟨rfl, rfl⟩
  case round =>
    obtain ⟨rfl, rfl⟩ := hrel
    go_wp2
    go_ret
    exact ⟨k, rfl, by simp, Off.refl _ _, HR.out⟩
theorem mkInt {A : Option Addr} {n c : Nat} (k : Int) {zs : List Int} (w : World) {B : Nat} (ho : w.ownsRow B 3 1 (.slice A n c) n (zs.map (Value.int .i64))) (hn : n ≤ 1048576) (h0 : 0 ≤ k) (h1 : k ≤ 100000000) :
    Calls Try.prog 31 #[.slice A n c, .int .i64 k] w (MkP B 3 1 A n c k w) := by
  rcases ho.2 with ⟨hv, h0'⟩ | ⟨g, cap, cur, hv, hg, _⟩
  · injection hv with hA hN hC
    subst hA h0' hC
    exact mkInt_nil k w
  · injection hv with hA _ hC
    subst hA hC
    exact mkInt_ g n c k zs w ho hn h0 h1

set_option maxHeartbeats 1000000 in
theorem hdInt {A : Option Addr} {n c : Nat} (k : Int) (w : World) (hr : Rd w w.heap.size A ((marksI k (n * 1)).map (Value.int .i64))) (hn : n ≤ 1048576) (h0 : 0 ≤ k) (h1 : k ≤ 100000000) :
    Calls Try.prog 32 #[.slice A n c, .int .i64 k] w fun e w' => ∃ z : Int, e = .returned (.int .i64 z) ∧ z = k + ((n * 1 : Nat) : Int) ∧ w = w' := by
  have HR := Lib.hid hr; clear hr
  go_enter Try.func32, Try.ntmps32
  go_wp2
  go_loop [1, 5] (fun q i => ∃ (j : Nat) (z : Int), j ≤ n ∧ i = .int .i64 j ∧ q = .int .i64 z ∧ z = k + ((j : Nat) : Int)) (fun _ i => n - (intOf i).toNat)
  case atStart => exact ⟨0, k, Nat.zero_le _, rfl, rfl, by simp⟩
  case round =>
    obtain ⟨j, z, hj, rfl, rfl, hz⟩ := hrel
    have HZ := Lib.hid hz
    have hz0 : 0 ≤ z := by omega
    have hz1 : z ≤ 200000000 := by omega
    clear hz
    by_cases hlt : j < n
    · obtain ⟨ad, e0, _, hc0⟩ := HR.out (j + 0) (.int .i64 (z)) (by rw [List.getElem?_map, marksI_get k (n * 1) (j + 0) (by omega)]; simp only [Option.map_some, Option.some.injEq, Value.int.injEq, true_and]; have := HZ.out; omega)
      subst e0
      rw [Nat.add_zero] at hc0
      go_wp2
      go_round
      case rel => exact ⟨j + 1, z + 1, by omega, by go_num, rfl, by have := HZ.out; omega⟩
      case measure => simp [intOf]; omega
    · have hjn : j = n := by omega
      subst hjn
      clear hlt
      go_wp2
      go_ret
      exact ⟨z, rfl, by first | exact HZ.out | (rw [Nat.mul_one]; exact HZ.out), rfl⟩
theorem eqIntsA {B B' n c c' : Nat} {A A' : Option Addr} (zs : List Int) (w : World) (hn : zs.length = n) (ho : w.ownsRow B 3 1 (.slice A n c) n (zs.map (Value.int .i64))) (ho' : w.ownsRow B' 3 1 (.slice A' n c') n (zs.map (Value.int .i64))) (hsz : n ≤ 1048576) :
    Calls Try.prog 26 #[.slice A n c, .slice A' n c'] w fun e w' => e = .returned (.bool true) ∧ Below w.heap.size w w' := by
  have HN := Lib.hid hn; clear hn
  have HR := Lib.hid (Rd.ofOwnK ho); have HR' := Lib.hid (Rd.ofOwnK ho'); clear ho ho'
  go_enter Try.func26, Try.ntmps26
  go_wp2
  go_loopw [5] (fun i wr => ∃ k : Nat, k ≤ n ∧ i = .int .i64 k ∧ Below w.heap.size w wr) (fun i _ => n - (intOf i).toNat)
  case atStart => exact ⟨0, Nat.zero_le _, rfl, Below.refl _ _⟩
  case round =>
    obtain ⟨k, hk, rfl, hb⟩ := hrel
    by_cases hlt : k < n
    · have hks : k < zs.length := by have := HN.out; omega
      obtain ⟨ad, rfl, _, hcell⟩ := (HR.out.over hb).got (k := k) (by simpa using hks)
      obtain ⟨ad', rfl, _, hcell'⟩ := (HR'.out.over hb).got (k := k) (by simpa using hks)
      simp only [List.getElem_map] at hcell hcell'
      obtain ⟨z, hz⟩ : ∃ z, zs[k]'hks = z := ⟨_, rfl⟩
      rw [hz] at hcell hcell'; clear hz
      go_wp2
      go_quiet (fail)
      go_wp2
      go_roundw
      case rel => exact ⟨k + 1, by omega, by go_num, drewN_below hb _⟩
      case measure => simp [intOf]; omega
    · go_wp2
      go_ret
      exact ⟨rfl, hb⟩
end Go.Proofs.Ytgaankdmppoghaa
