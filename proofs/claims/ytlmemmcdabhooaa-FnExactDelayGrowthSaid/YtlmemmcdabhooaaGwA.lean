/- Rows of six ints in memory of the call's own: compared, marked, held. No condition but those typed. -/
import Derived.Test.YtlmemmcdabhooaaA2
import Derived.Test.YtlmemmcdabhooaaGwS
namespace Go.Proofs.Ytlmemmcdabhooaa
open Go.ChangeShapes Go.WideShapes Go.ChangeAt Go.RowKit

theorem q6_len (l : List Q6) : (l.flatMap Q6.cells).length = l.length * 6 := by
  induction l with
  | nil => rfl
  | cons q r ih => rw [List.flatMap_cons, List.length_append, ih, List.length_cons]; simp [Q6.cells]; omega
theorem q6_one (l : List Q6) : ∀ u ∈ l.flatMap Q6.cells, u.oneCell' = true := by
  intro u hu
  obtain ⟨q, _, hq⟩ := List.mem_flatMap.1 hu
  simp [Q6.cells] at hq
  rcases hq with rfl | rfl | rfl | rfl | rfl | rfl <;> rfl
set_option maxHeartbeats 2000000 in
theorem eqGw_nil (A A' : Option Addr) (c c' : Nat) (w : World) :
    Calls Try.prog 17 #[.slice A 0 c, .slice A' 0 c'] w fun e w' => e = .returned (.bool true) ∧ Below w.heap.size w w' := by
  go_enter Try.func17, Try.ntmps17
  go_wp2
  go_loop [5] (fun i => i = .int .i64 0) (fun _ => 0)
  case atStart => exact rfl
  case round =>
    obtain rfl := hrel
    go_wp2
    go_ret
    exact ⟨rfl, Below.refl _ _⟩
theorem addO (g o k : Nat) (h : 0 < k) : (⟨g, o, none⟩ : Addr).add k = ⟨g, o + k, none⟩ := by unfold Addr.add; split <;> simp_all
theorem eqGwA (A A' : Option Addr) (n c c' : Nat) (qs : List Q6) (w : World) {B B' : Nat} (hn : qs.length = n) (hr : w.ownsRow B 104 6 (.slice A n c) n (qs.flatMap Q6.cells)) (hr' : w.ownsRow B' 104 6 (.slice A' n c') n (qs.flatMap Q6.cells)) (hsz : n ≤ 1048576) :
    Calls Try.prog 17 #[.slice A n c, .slice A' n c'] w fun e w' => e = .returned (.bool true) ∧ Below w.heap.size w w' := by
  have h1 := rdOwnA hr
  have h2 := rdOwnA hr'
  rcases hr.2 with ⟨_, h0⟩ | ⟨g, cap, cur, hv, _⟩
  · subst h0; exact eqGw_nil A A' c c' w
  rcases hr'.2 with ⟨_, h0⟩ | ⟨g', cap', cur', hv', _⟩
  · subst h0; exact eqGw_nil A A' c c' w
  injection hv with hA; injection hv' with hA'
  subst hA hA'
  exact (eqGwS g g' n c c' qs w hn h1 h2 hsz)
theorem mk6 {zs : List Int} {m : Nat} (h : m + 6 ≤ zs.length) : (((((((marks 1 m ++ zs.drop m).map (Value.int .i64)).set m (.int .i64 (1 + (m : Int)))).set (m + 1) (.int .i64 (1 + (m : Int) + 1))).set (m + 2) (.int .i64 (1 + (m : Int) + 1 + 1))).set (m + 3) (.int .i64 (1 + (m : Int) + 1 + 1 + 1))).set (m + 4) (.int .i64 (1 + (m : Int) + 1 + 1 + 1 + 1))).set (m + 5) (.int .i64 (1 + (m : Int) + 1 + 1 + 1 + 1 + 1)) = (marks 1 (m + 6) ++ zs.drop (m + 6)).map (Value.int .i64) := by
  have e1 : (1 + (m : Int) + 1) = 1 + ((m + 1 : Nat) : Int) := by omega
  have e2 : (1 + ((m + 1 : Nat) : Int) + 1) = 1 + ((m + 2 : Nat) : Int) := by omega
  have e3 : (1 + ((m + 2 : Nat) : Int) + 1) = 1 + ((m + 3 : Nat) : Int) := by omega
  have e4 : (1 + ((m + 3 : Nat) : Int) + 1) = 1 + ((m + 4 : Nat) : Int) := by omega
  have e5 : (1 + ((m + 4 : Nat) : Int) + 1) = 1 + ((m + 5 : Nat) : Int) := by omega
  rw [e1, e2, e3, e4, e5, a2_snoc (by omega), a2_snoc (by omega), a2_snoc (by omega), a2_snoc (by omega), a2_snoc (by omega), a2_snoc (by omega)]
theorem q6_ints (l : List Q6) : ∃ zs : List Int, l.flatMap Q6.cells = zs.map (Value.int .i64) ∧ zs.length = 6 * l.length :=
  ⟨l.flatMap fun q => [q.a, q.b, q.c, q.d, q.e, q.f], by rw [List.map_flatMap]; rfl, by
    induction l with
    | nil => rfl
    | cons q r ih => rw [List.flatMap_cons, List.length_append, ih, List.length_cons]; simp; omega⟩
set_option maxRecDepth 100000 in
set_option maxHeartbeats 4000000 in
theorem markGwK (g n c : Nat) (zs : List Int) (w : World) {B : Nat} (ho : w.ownsRow B 104 6 (.slice (some ⟨g, 0, none⟩) n c) n (zs.map (Value.int .i64))) (hn : n ≤ 1048576) :
    Calls Try.prog 20 #[.slice (some ⟨g, 0, none⟩) n c, .int .i64 1] w fun e w' => e = .returned (.int .i64 (1 + 6 * (n : Int))) ∧ Off (· = g) w w' ∧ w'.ownsRow B 104 6 (.slice (some ⟨g, 0, none⟩) n c) n ((marks 1 (6 * n)).map (Value.int .i64)) := by
  have HO := Lib.hid ho; clear ho
  have HZL : Hid (zs.length = n * 6) := Lib.hid (by have := HO.out.1; simpa using this)
  go_enter Try.func20, Try.ntmps20
  go_wp2
  go_loopw [1, 5] (fun q i wr => ∃ (j : Nat) (z : Int), j ≤ n ∧ i = .int .i64 j ∧ q = .int .i64 z ∧ z = 1 + ((j * 6 : Nat) : Int) ∧ Off (· = g) w wr ∧ wr.ownsRow B 104 6 (.slice (some ⟨g, 0, none⟩) n c) n ((marks 1 (j * 6) ++ zs.drop (j * 6)).map (Value.int .i64))) (fun _ i _ => n - (intOf i).toNat)
  case atStart => exact ⟨0, 1, Nat.zero_le _, rfl, rfl, by simp, Off.refl _ _, by have h := HO.out; simpa [marks] using h⟩
  case round =>
    obtain ⟨j, z, hj, rfl, rfl, hz, hoff, hown⟩ := hrel
    have HF := Lib.hid hoff
    have HZ := Lib.hid hz
    have hz0 : 0 ≤ z := by omega
    have hz1 : z ≤ 200000000 := by omega
    clear hoff hz
    by_cases hlt : j < n
    · have hlen := hown.1
      have hcells : ∀ i, i < 6 → ∃ v, wr.cell? ⟨g, j * 6 + i, none⟩ = some v := by
        intro i hi
        have := hown.cellAt (j * 6 + i) (by omega)
        rw [List.getElem?_eq_getElem (by omega)] at this
        exact ⟨_, this⟩
      obtain ⟨v0, q0⟩ := hcells 0 (by omega)
      obtain ⟨v1, q1⟩ := hcells 1 (by omega)
      obtain ⟨v2, q2⟩ := hcells 2 (by omega)
      obtain ⟨v3, q3⟩ := hcells 3 (by omega)
      obtain ⟨v4, q4⟩ := hcells 4 (by omega)
      obtain ⟨v5, q5⟩ := hcells 5 (by omega)
      rw [Nat.add_zero] at q0
      have z0_ := hown.frozenAt (j * 6)
      have z1_ := hown.frozenAt (j * 6 + 1)
      have z2_ := hown.frozenAt (j * 6 + 2)
      have z3_ := hown.frozenAt (j * 6 + 3)
      have z4_ := hown.frozenAt (j * 6 + 4)
      have z5_ := hown.frozenAt (j * 6 + 5)
      have hst := (((((((((((hown).stored (j * 6) (.int .i64 z)).1).stored (j * 6 + 1) (.int .i64 (z + 1))).1).stored (j * 6 + 2) (.int .i64 (z + 1 + 1))).1).stored (j * 6 + 3) (.int .i64 (z + 1 + 1 + 1))).1).stored (j * 6 + 4) (.int .i64 (z + 1 + 1 + 1 + 1))).1).stored (j * 6 + 5) (.int .i64 (z + 1 + 1 + 1 + 1 + 1))
      have hm6 := mk6 (zs := zs) (m := j * 6) (by have := HZL.out; omega)
      rw [← HZ.out] at hm6
      rw [hm6] at hst
      have HST := Lib.hid hst.1
      have e6 : j * 6 + 6 = (j + 1) * 6 := by omega
      rw [e6] at HST
      clear hown hlen hcells hst hm6 e6
      go_wp2
      go_roundw
      case rel => exact ⟨j + 1, _, by omega, by go_num, rfl, by have := HZ.out; omega, ((((((HF.out.set_ (p := ⟨g, _, none⟩) rfl _).set_ (p := ⟨g, _, none⟩) rfl _).set_ (p := ⟨g, _, none⟩) rfl _).set_ (p := ⟨g, _, none⟩) rfl _).set_ (p := ⟨g, _, none⟩) rfl _).set_ (p := ⟨g, _, none⟩) rfl _), HST.out⟩
      case measure => simp [intOf]; omega
    · have hjn : j = n := by omega
      subst hjn
      have e : marks 1 (j * 6) ++ zs.drop (j * 6) = marks 1 (6 * j) := by rw [List.drop_of_length_le (by have := HZL.out; omega), List.append_nil, Nat.mul_comm]
      rw [e] at hown
      have HW := Lib.hid hown
      have HR : Hid (z = 1 + 6 * (j : Int)) := Lib.hid (by have := HZ.out; omega)
      clear hlt hown e
      go_wp2
      go_ret
      exact ⟨reti HR.out, HF.out, HW.out⟩
theorem markGw_nil (w : World) :
    Calls Try.prog 20 #[.slice none 0 0, .int .i64 1] w fun e w' => e = .returned (.int .i64 1) ∧ w = w' := by
  go_enter Try.func20, Try.ntmps20
  go_wp2
  go_loop [1, 5] (fun q i => q = .int .i64 1 ∧ i = .int .i64 0) (fun _ _ => 0)
  case atStart => exact ⟨rfl, rfl⟩
  case round =>
    obtain ⟨rfl, rfl⟩ := hrel
    go_wp2
    go_ret
    exact ⟨rfl, rfl⟩
theorem markGwA (A : Option Addr) (n c : Nat) (qs : List Q6) (w : World) {B : Nat} (ho : w.ownsRow B 104 6 (.slice A n c) n (qs.flatMap Q6.cells)) (hn : n ≤ 1048576) :
    Calls Try.prog 20 #[.slice A n c, .int .i64 1] w fun e w' => e = .returned (.int .i64 (1 + 6 * (n : Int))) ∧ Off (fun b => B ≤ b) w w' ∧ w'.ownsRow B 104 6 (.slice A n c) n ((marks 1 (6 * n)).map (Value.int .i64)) := by
  obtain ⟨zs, hz, _⟩ := q6_ints qs
  rw [hz] at ho
  rcases ho.2 with ⟨hv, h0⟩ | ⟨g, cap, cur, hv, hg, _⟩
  · injection hv with hA hN hC
    subst hA h0 hC
    refine (markGw_nil w).mono ?_
    rintro e w' ⟨rfl, rfl⟩
    exact ⟨rfl, Off.refl _ _, World.ownsRow_nil _ _ _ _⟩
  · injection hv with hA _ hC
    subst hA hC
    refine (markGwK g n c zs w ho hn).mono ?_
    rintro e w' ⟨rfl, hoff, hown⟩
    exact ⟨rfl, hoff.wider (fun k h => by have h' : k = g := h; omega), hown⟩
set_option maxRecDepth 100000 in
set_option maxHeartbeats 4000000 in
theorem heldGw (A : Option Addr) (n c : Nat) (w : World) (hr : Rd w w.heap.size A ((marks 1 (6 * n)).map (Value.int .i64))) (hn : n ≤ 1048576) :
    Calls Try.prog 21 #[.slice A n c, .int .i64 1] w fun e w' => e = .returned (.int .i64 (1 + 6 * (n : Int))) ∧ w = w' := by
  go_enter Try.func21, Try.ntmps21
  go_wp2
  go_loop [1, 5] (fun q i => ∃ (j : Nat) (z : Int), j ≤ n ∧ i = .int .i64 j ∧ q = .int .i64 z ∧ z = 1 + 6 * (j : Int)) (fun _ i => n - (intOf i).toNat)
  case atStart => exact ⟨0, 1, Nat.zero_le _, rfl, rfl, by simp⟩
  case round =>
    obtain ⟨j, z, hj, rfl, rfl, hz⟩ := hrel
    have HZ := Lib.hid hz
    have hz0 : 0 ≤ z := by omega
    have hz1 : z ≤ 200000000 := by omega
    clear hz
    by_cases hlt : j < n
    · have hat : ∀ i, i < 6 → ∃ ad, A = some ad ∧ w.cell? (ad.add (j * 6 + i)) = some (.int .i64 (z + (i : Int))) := by
        intro i hi
        obtain ⟨ad, e, _, hc⟩ := hr (j * 6 + i) (.int .i64 (z + (i : Int))) (by
          rw [List.getElem?_map, marks_get 1 (6 * n) (j * 6 + i) (by omega)]
          have e9 : ((1 + (j * 6 + i) : Nat) : Int) = z + (i : Int) := by have := HZ.out; omega
          rw [e9]; rfl)
        exact ⟨ad, e, hc⟩
      obtain ⟨ad, rfl, q0⟩ := hat 0 (by omega)
      obtain ⟨ad1, e1, q1⟩ := hat 1 (by omega)
      obtain ⟨ad2, e2, q2⟩ := hat 2 (by omega)
      obtain ⟨ad3, e3, q3⟩ := hat 3 (by omega)
      obtain ⟨ad4, e4, q4⟩ := hat 4 (by omega)
      obtain ⟨ad5, e5, q5⟩ := hat 5 (by omega)
      injection e1 with e1; injection e2 with e2; injection e3 with e3; injection e4 with e4; injection e5 with e5
      subst e1 e2 e3 e4 e5
      rw [add_next] at q1 q2 q3 q4 q5
      rw [Nat.add_zero] at q0
      have y1 : z + ((1 : Nat) : Int) = z + 1 := rfl
      have y2 : z + ((2 : Nat) : Int) = z + 1 + 1 := by omega
      have y3 : z + ((3 : Nat) : Int) = z + 1 + 1 + 1 := by omega
      have y4 : z + ((4 : Nat) : Int) = z + 1 + 1 + 1 + 1 := by omega
      have y5 : z + ((5 : Nat) : Int) = z + 1 + 1 + 1 + 1 + 1 := by omega
      have y0 : z + ((0 : Nat) : Int) = z := by omega
      rw [y0] at q0; rw [y1] at q1; rw [y2] at q2; rw [y3] at q3; rw [y4] at q4; rw [y5] at q5
      clear y0 y1 y2 y3 y4 y5 hat
      go_wp2
      go_round
      case rel => exact ⟨j + 1, _, by omega, by go_num, rfl, by have := HZ.out; omega⟩
      case measure => simp [intOf]; omega
    · have hjn : j = n := by omega
      subst hjn
      have HR : Hid (z = 1 + 6 * (j : Int)) := HZ
      clear hlt
      go_wp2
      go_ret
      exact ⟨reti HR.out, rfl⟩
end Go.Proofs.Ytlmemmcdabhooaa
