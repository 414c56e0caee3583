/- Contracts of the law's helpers that mark a slice of structs of ints and ask whether it is still marked. No condition but those typed. -/
import Derived.Test.YtgaankdmppoghaaMk
import Derived.Test.YtgaankdmppoghaaAmS
namespace Go.Proofs.Ytgaankdmppoghaa
open Go.ChangeShapes Go.WideShapes Go.ChangeAt Go.RowKit

set_option maxRecDepth 100000 in
set_option maxHeartbeats 2000000 in
theorem mkAm_ (g n c : Nat) (k : Int) (zs : List Int) (w : World) {B : Nat} (ho : w.ownsRow B 57 4 (.slice (some ⟨g, 0, none⟩) n c) n (zs.map (Value.int .i64))) (hn : n ≤ 1048576) (h0 : 0 ≤ k) (h1 : k ≤ 100000000) :
    Calls Try.prog 30 #[.slice (some ⟨g, 0, none⟩) n c, .int .i64 k] w (MkP B 57 4 (some ⟨g, 0, none⟩) n c k w) := by
  have HO := Lib.hid ho; clear ho
  have hzl : zs.length = n * 4 := by have := HO.out.1; simpa using this
  have HZL := Lib.hid hzl; clear hzl
  go_enter Try.func30, Try.ntmps30
  go_wp2
  go_loopw [1, 5] (fun q i wr => ∃ (j : Nat) (z : Int), j ≤ n ∧ i = .int .i64 j ∧ q = .int .i64 z ∧ z = k + ((j * 4 : Nat) : Int) ∧ Off (fun b => (some ⟨g, 0, none⟩ : Option Addr) = some ⟨b, 0, none⟩) w wr ∧ wr.ownsRow B 57 4 (.slice (some ⟨g, 0, none⟩) n c) n ((marksI k (j * 4) ++ zs.drop (j * 4)).map (Value.int .i64))) (fun _ i _ => n - (intOf i).toNat)
  case atStart => exact ⟨0, k, Nat.zero_le _, rfl, rfl, by simp, Off.refl _ _, by have h := HO.out; simpa [marksI] using h⟩
  case round =>
    obtain ⟨j, z, hj, rfl, rfl, hz, hoff, hown⟩ := hrel
    have HF := Lib.hid hoff; have HZ := Lib.hid hz
    have hz0 : 0 ≤ z := by omega
    have hz1 : z ≤ 200000000 := by omega
    clear hoff hz
    by_cases hlt : j < n
    · have hcells : ∀ i, i < 4 → ∃ v, wr.cell? ⟨g, j * 4 + i, none⟩ = some v := by
        intro i hi
        have := hown.cellAt (j * 4 + i) (by omega)
        rw [List.getElem?_eq_getElem (by rw [hown.1]; omega)] at this
        exact ⟨_, this⟩
      obtain ⟨v0, q0⟩ := hcells 0 (by omega)
      obtain ⟨v1, q1⟩ := hcells 1 (by omega)
      obtain ⟨v2, q2⟩ := hcells 2 (by omega)
      obtain ⟨v3, q3⟩ := hcells 3 (by omega)
      rw [Nat.add_zero] at q0
      have f0_ := hown.frozenAt (j * 4)
      have f1_ := hown.frozenAt (j * 4 + 1)
      have f2_ := hown.frozenAt (j * 4 + 2)
      have f3_ := hown.frozenAt (j * 4 + 3)
      have hst := ((((hown.stored (j * 4) (.int .i64 (z))).1.stored (j * 4 + 1) (.int .i64 (z + 1))).1.stored (j * 4 + 2) (.int .i64 (z + 1 + 1))).1.stored (j * 4 + 3) (.int .i64 (z + 1 + 1 + 1))).1
      have HL := HZL.out
      rw [set_marks k zs (j * 4) (z) (by omega) (by have := HZ.out; omega), set_marks k zs (j * 4 + 1) (z + 1) (by omega) (by have := HZ.out; omega), set_marks k zs (j * 4 + 2) (z + 1 + 1) (by omega) (by have := HZ.out; omega), set_marks k zs (j * 4 + 3) (z + 1 + 1 + 1) (by omega) (by have := HZ.out; omega)] at hst
      have HST := Lib.hid hst
      clear hown hst HL hcells
      go_wp2
      go_roundw
      case rel => exact ⟨j + 1, z + 1 + 1 + 1 + 1, by omega, by go_num, rfl, by have := HZ.out; omega, ((((HF.out.set_ (p := ⟨g, _, none⟩) rfl _).set_ (p := ⟨g, _, none⟩) rfl _).set_ (p := ⟨g, _, none⟩) rfl _).set_ (p := ⟨g, _, none⟩) rfl _), by have h := HST.out; rw [show (j + 1) * 4 = j * 4 + 4 by omega]; exact h⟩
      case measure => simp [intOf]; omega
    · have hjn : j = n := by omega
      subst hjn
      have e : marksI k (j * 4) ++ zs.drop (j * 4) = marksI k (j * 4) := by rw [List.drop_of_length_le (by have := HZL.out; omega), List.append_nil]
      rw [e] at hown
      have HW := Lib.hid hown
      clear hlt hown e
      go_wp2
      go_ret
      exact ⟨z, rfl, HZ.out, HF.out, HW.out⟩
theorem mkAm_nil (k : Int) (w : World) {B : Nat} :
    Calls Try.prog 30 #[.slice none 0 0, .int .i64 k] w (MkP B 57 4 none 0 0 k w) := by
  have HR : Hid (w.ownsRow B 57 4 (.slice none 0 0) 0 ((marksI k (0 * 4)).map (Value.int .i64))) := Lib.hid (by have := World.ownsRow_nil w B 57 4; simpa [marksI] using this)
  go_enter Try.func30, Try.ntmps30
  go_wp2
  go_loop [1, 5] (fun q i => q = .int .i64 k ∧ i = .int .i64 0) (fun _ _ => 0)
  case atStart => exact ⟨rfl, rfl⟩
  case round =>
    obtain ⟨rfl, rfl⟩ := hrel
    go_wp2
    go_ret
    exact ⟨k, rfl, by simp, Off.refl _ _, HR.out⟩
theorem mkAm {A : Option Addr} {n c : Nat} (k : Int) {zs : List Int} (w : World) {B : Nat} (ho : w.ownsRow B 57 4 (.slice A n c) n (zs.map (Value.int .i64))) (hn : n ≤ 1048576) (h0 : 0 ≤ k) (h1 : k ≤ 100000000) :
    Calls Try.prog 30 #[.slice A n c, .int .i64 k] w (MkP B 57 4 A n c k w) := by
  rcases ho.2 with ⟨hv, h0'⟩ | ⟨g, cap, cur, hv, hg, _⟩
  · injection hv with hA hN hC
    subst hA h0' hC
    exact mkAm_nil k w
  · injection hv with hA _ hC
    subst hA hC
    exact mkAm_ g n c k zs w ho hn h0 h1

set_option maxHeartbeats 1000000 in
theorem hdAm {A : Option Addr} {n c : Nat} (k : Int) (w : World) (hr : Rd w w.heap.size A ((marksI k (n * 4)).map (Value.int .i64))) (hn : n ≤ 1048576) (h0 : 0 ≤ k) (h1 : k ≤ 100000000) :
    Calls Try.prog 40 #[.slice A n c, .int .i64 k] w fun e w' => ∃ z : Int, e = .returned (.int .i64 z) ∧ z = k + ((n * 4 : Nat) : Int) ∧ w = w' := by
  have HR := Lib.hid hr; clear hr
  go_enter Try.func40, Try.ntmps40
  go_wp2
  go_loop [1, 5] (fun q i => ∃ (j : Nat) (z : Int), j ≤ n ∧ i = .int .i64 j ∧ q = .int .i64 z ∧ z = k + ((j * 4 : Nat) : Int)) (fun _ i => n - (intOf i).toNat)
  case atStart => exact ⟨0, k, Nat.zero_le _, rfl, rfl, by simp⟩
  case round =>
    obtain ⟨j, z, hj, rfl, rfl, hz⟩ := hrel
    have HZ := Lib.hid hz
    have hz0 : 0 ≤ z := by omega
    have hz1 : z ≤ 200000000 := by omega
    clear hz
    by_cases hlt : j < n
    · obtain ⟨ad, e0, _, hc0⟩ := HR.out (j * 4 + 0) (.int .i64 (z)) (by rw [List.getElem?_map, marksI_get k (n * 4) (j * 4 + 0) (by omega)]; simp only [Option.map_some, Option.some.injEq, Value.int.injEq, true_and]; have := HZ.out; omega)
      obtain ⟨ad1, e1, _, hc1⟩ := HR.out (j * 4 + 1) (.int .i64 (z + 1)) (by rw [List.getElem?_map, marksI_get k (n * 4) (j * 4 + 1) (by omega)]; simp only [Option.map_some, Option.some.injEq, Value.int.injEq, true_and]; have := HZ.out; omega)
      obtain ⟨ad2, e2, _, hc2⟩ := HR.out (j * 4 + 2) (.int .i64 (z + 1 + 1)) (by rw [List.getElem?_map, marksI_get k (n * 4) (j * 4 + 2) (by omega)]; simp only [Option.map_some, Option.some.injEq, Value.int.injEq, true_and]; have := HZ.out; omega)
      obtain ⟨ad3, e3, _, hc3⟩ := HR.out (j * 4 + 3) (.int .i64 (z + 1 + 1 + 1)) (by rw [List.getElem?_map, marksI_get k (n * 4) (j * 4 + 3) (by omega)]; simp only [Option.map_some, Option.some.injEq, Value.int.injEq, true_and]; have := HZ.out; omega)
      subst e0
      injection e1 with e1; subst e1
      rw [add_next] at hc1
      injection e2 with e2; subst e2
      rw [add_next] at hc2
      injection e3 with e3; subst e3
      rw [add_next] at hc3
      rw [Nat.add_zero] at hc0
      go_wp2
      go_round
      case rel => exact ⟨j + 1, z + 1 + 1 + 1 + 1, by omega, by go_num, rfl, by have := HZ.out; omega⟩
      case measure => simp [intOf]; omega
    · have hjn : j = n := by omega
      subst hjn
      clear hlt
      go_wp2
      go_ret
      exact ⟨z, rfl, HZ.out, rfl⟩
theorem eqAm_nil (A A' : Option Addr) (c c' : Nat) (w : World) :
    Calls Try.prog 28 #[.slice A 0 c, .slice A' 0 c'] w fun e w' => e = .returned (.bool true) ∧ Below w.heap.size w w' := by
  go_enter Try.func28, Try.ntmps28
  go_wp2
  go_loop [5] (fun i => i = .int .i64 0) (fun _ => 0)
  case atStart => rfl
  case round =>
    obtain rfl := hrel
    go_wp2
    go_ret
    exact ⟨rfl, Below.refl _ _⟩
theorem eqAmA {B B' n c c' : Nat} {A A' : Option Addr} (qs : List Q4) (w : World) (hn : qs.length = n) (hr : w.ownsRow B 57 4 (.slice A n c) n (qs.flatMap Q4.cells)) (hr' : w.ownsRow B' 57 4 (.slice A' n c') n (qs.flatMap Q4.cells)) (hsz : n ≤ 1048576) :
    Calls Try.prog 28 #[.slice A n c, .slice A' n c'] w fun e w' => e = .returned (.bool true) ∧ Below w.heap.size w w' := by
  by_cases h0 : n = 0
  · subst h0; exact eqAm_nil A A' c c' w
  · rcases hr.2 with ⟨hv, h⟩ | ⟨g, cap, cur, hv, _⟩
    · omega
    rcases hr'.2 with ⟨hv', h⟩ | ⟨g', cap', cur', hv', _⟩
    · omega
    injection hv with hA _ hC
    injection hv' with hA' _ hC'
    subst hA hA'
    exact eqAmS g g' n c c' qs w hn (Rd.ofOwnK hr) (Rd.ofOwnK hr') hsz
end Go.Proofs.Ytgaankdmppoghaa
