/- Contracts: linear values of levels, both sides. Condition: the table of linear values holds what Go's text lays. -/
import Derived.Test.YtgaankdmppoghabDoorLevM
import Derived.Lib.LaidTab
namespace Go.Proofs.YtgaankdmppoghabDoor
open Go.ChangeShapes Go.WideShapes Go.ChangeAt Go.RowKit

def tabL : List Int := [1000, 1259, 1585, 1995, 2512, 3162, 3981, 5012, 6310, 7943]
/-- the linear value of level 100 * k. -/
def linN (k : Nat) : Int := tabL.getD (k % 10) 0 * 10 ^ (k / 10)
theorem lin_mono : ∀ k, k < 99 → linN k < linN (k + 1) := by decide +kernel
theorem lin_bd : ∀ k, k < 100 → 1000 ≤ linN k ∧ linN k ≤ 7943000000000 := by decide +kernel
theorem lin_le : ∀ n k, k ≤ n → n ≤ 99 → linN k ≤ linN n
  | 0, k, h, _ => by have : k = 0 := by omega
                     rw [this]; exact Int.le_refl _
  | n + 1, k, h, hn => by
    by_cases e : k = n + 1
    · rw [e]; exact Int.le_refl _
    · have := lin_le n k (by omega) (by omega)
      have := lin_mono n (by omega)
      omega
def lvlF (v : Int) : Nat → Nat
  | 0 => 0
  | k + 1 => if linN (k + 1) ≤ v then k + 1 else lvlF v k
def lvlN (v : Int) : Nat := lvlF v 99
theorem lvl_of {v : Int} {k : Nat} (hk : k ≤ 99) (h1 : k = 0 ∨ linN k ≤ v) (h2 : k = 99 ∨ v < linN (k + 1)) : lvlN v = k := by
  have aux : ∀ n, n ≤ 99 → k ≤ n → lvlF v n = k := by
    intro n
    induction n with
    | zero => intro _ h; unfold lvlF; omega
    | succ n ih =>
      intro hn h
      unfold lvlF
      by_cases e : k = n + 1
      · rw [if_pos (by rcases h1 with h0 | h0; omega; rw [← e]; exact h0), e]
      · have hl := lin_le (n + 1) (k + 1) (by omega) hn
        rw [if_neg (by rcases h2 with h0 | h0 <;> omega), ih (by omega) (by omega)]
  exact aux 99 (Nat.le_refl _) hk
theorem lvl_le (v : Int) : lvlN v ≤ 99 := by
  have : ∀ n, lvlF v n ≤ n := by
    intro n
    induction n with
    | zero => exact Nat.le_refl _
    | succ n ih => unfold lvlF; split <;> omega
  exact this 99

/-- the table of linear values is in place. -/
def LinT (w : World) : Prop := Lib.TabIs Tryd.prog w "loop.example/g00897/impl.linearValues" .i64 tabL
theorem linAt : Tryd.prog.globalNamed "loop.example/g00897/impl.linearValues" = some 0 := by kernel_rfl
theorem tabL_len : tabL.length = 10 := by decide
theorem LinT.lt {w : World} (h : LinT w) : 0 < w.heap.size :=
  World.block_lt_of_cell? w _ (Lib.TabIs.cell h linAt 0 (by rw [tabL_len]; omega))
theorem LinT.over {w w' : World} (h : LinT w) (hb : Below w.heap.size w w') : LinT w' := by
  unfold LinT Lib.TabIs
  have e : w'.var? Tryd.prog "loop.example/g00897/impl.linearValues" = w.var? Tryd.prog "loop.example/g00897/impl.linearValues" := by
    simp only [World.var?, linAt, Option.bind_some, hb.block _ h.lt]
  rw [e]; exact h
/-- a level that has a linear value. -/
def linB (x : Int) : Bool := inB x 0 9900 && decide (x % 100 = 0)
def linI (x : Int) : Int := if linB x then linN (x / 100).toNat else 0
theorem linB_of {x : Int} {k : Nat} (hx : x = 100 * (k : Int)) (hk : k ≤ 99) : linB x = true ∧ linI x = linN k := by
  have h : linB x = true := by unfold linB; rw [inB_mk (by omega) (by omega), decide_eq_true (by omega)]; rfl
  refine ⟨h, ?_⟩
  unfold linI; rw [h, if_pos rfl]
  congr 1; omega
theorem linB_true {x : Int} (h : linB x = true) : ∃ k : Nat, x = 100 * (k : Int) ∧ k ≤ 99 := by
  unfold linB at h
  simp only [Bool.and_eq_true, decide_eq_true_eq] at h
  have := inB_true h.1
  exact ⟨(x / 100).toNat, by omega, by omega⟩
theorem linB_no {x : Int} (h : x < 0 ∨ 9900 < x ∨ x % 100 ≠ 0) : linB x = false ∧ linI x = 0 := by
  have h : linB x = false := by
    cases h2 : linB x with
    | false => rfl
    | true => obtain ⟨k, h3, h4⟩ := linB_true h2; omega
  exact ⟨h, by unfold linI; rw [h]; rfl⟩
theorem linI_bd (x : Int) : (linB x = true → 1000 ≤ linI x) ∧ 0 ≤ linI x ∧ linI x ≤ 7943000000000 := by
  cases h : linB x with
  | false => unfold linI; rw [h]; simp
  | true =>
    obtain ⟨k, h3, h4⟩ := linB_true h
    rw [(linB_of h3 h4).2]
    have := lin_bd k (by omega)
    exact ⟨fun _ => this.1, by omega, this.2⟩
theorem pow_all : ∀ k, k < 100 → ∀ j, j ≤ k / 10 → 0 ≤ tabL.getD (k % 10) 0 * 10 ^ j ∧ tabL.getD (k % 10) 0 * 10 ^ j ≤ 7943000000000 := by decide +kernel
theorem pow_next (v : Int) (j : Nat) : v * 10 ^ (j + 1) = v * 10 ^ j * 10 := by rw [Int.pow_succ, Int.mul_assoc]

set_option maxHeartbeats 2000000 in
theorem iLin (x : Int) (w : World) (hT : LinT w) : Calls Tryd.prog 8 #[.int .i64 x] w fun e w' => e = .returned (.tuple #[.int .i64 (linI x), .bool (linB x)]) ∧ w = w' := by
  by_cases hx : 0 ≤ x ∧ x ≤ 9900
  case neg =>
    obtain ⟨e1, e2⟩ := linB_no (x := x) (by omega)
    rw [e1, e2]
    clear e1 e2
    by_cases h0 : x < 0
    · clear hx
      go_enter Tryd.func8, Tryd.ntmps8
      go_wp2
      go_ret2
      exact ⟨rfl, rfl⟩
    · have h1 : 9900 < x := by omega
      have h2 : decide (x < 0) = false := decide_eq_false h0
      clear hx h0
      go_enter Tryd.func8, Tryd.ntmps8
      go_wp2
      go_ret2
      exact ⟨rfl, rfl⟩
  case pos =>
  obtain ⟨x0, x1⟩ := hx
  by_cases hr : x % 100 = 0
  case neg =>
    obtain ⟨e1, e2⟩ := linB_no (x := x) (.inr (.inr hr))
    rw [e1, e2]
    have q1 : (x % 100 == 0) = false := by simpa using hr
    have q2 : (x % 100 != 0) = true := by simpa using hr
    have q3 : decide (9900 < x) = false := decide_eq_false (by omega)
    clear e1 e2 hr
    go_enter Tryd.func8, Tryd.ntmps8
    go_wp2
    go_ret2
    exact ⟨rfl, rfl⟩
  case pos =>
  obtain ⟨k, hk⟩ : ∃ k : Nat, x / 100 = (k : Int) := ⟨(x / 100).toNat, by omega⟩
  have hk99 : k ≤ 99 := by omega
  obtain ⟨e1, e2⟩ := linB_of (x := x) (k := k) (by omega) hk99
  rw [e1, e2]
  have q1 : (x % 100 == 0) = true := by simpa using hr
  have q2 : (x % 100 != 0) = false := by simpa using hr
  have hm10 : k % 10 < 10 := Nat.mod_lt _ (by omega)
  have hcell := Lib.TabIs.cell hT linAt (k % 10) (by rw [tabL_len]; exact hm10)
  have hpw := pow_all k (by omega)
  obtain ⟨R, hR⟩ : ∃ r, linN k = r := ⟨_, rfl⟩
  rw [hR]
  unfold linN at hR
  obtain ⟨v, hv⟩ : ∃ v, tabL.getD (k % 10) 0 = v := ⟨_, rfl⟩
  rw [hv] at hcell hpw hR
  obtain ⟨m, hm⟩ : ∃ m, k / 10 = m := ⟨_, rfl⟩
  rw [hm] at hpw hR
  have hm9 : m ≤ 9 := by omega
  have hmi : (k : Int) / 10 = (m : Int) := by omega
  have HPW := Lib.hid hpw
  have HRR := Lib.hid hR
  clear e1 e2 hr hpw hR hv hT
  have hkk : k ≤ 99 := hk99
  go_enter Tryd.func8, Tryd.ntmps8
  go_wp2
  go_loop [5, 25] (fun z i => ∃ (j : Nat) (y : Int), j ≤ m ∧ i = .int .i64 j ∧ z = .int .i64 y ∧ 0 ≤ y ∧ y ≤ 7943000000000 ∧ Hid (v * 10 ^ j = y)) (fun _ i => m - (intOf i).toNat)
  case atStart =>
    have h := HPW.out 0 (Nat.zero_le _)
    exact ⟨0, v, Nat.zero_le _, rfl, rfl, by simpa using h.1, by simpa using h.2, Lib.hid (by simp)⟩
  case round =>
    obtain ⟨j, y, hj, rfl, rfl, y0, y1, HY⟩ := hrel
    by_cases hlt : j < m
    · have h := HPW.out (j + 1) (by omega)
      rw [pow_next, HY.out] at h
      obtain ⟨z0, z1⟩ := h
      go_wp2
      go_round
      case rel => exact ⟨j + 1, y * 10, by omega, by go_num, rfl, z0, z1, Lib.hid (by rw [pow_next, HY.out])⟩
      case measure => simp [intOf]; omega
    · obtain rfl : j = m := by omega
      obtain rfl : y = R := HY.out.symm.trans HRR.out
      go_wp2
      go_ret2
      exact ⟨rfl, rfl⟩

theorem sTab (w : World) : Calls Tryd.prog 40 #[] w fun e w' => ∃ g, e = .returned (.slice (some ⟨g, 0, none⟩) 10 10) ∧ Rd w' w'.heap.size (some ⟨g, 0, none⟩) (tabL.map (Value.int .i64)) ∧ Below w.heap.size w w' := by
  have HR := Lib.hid (rd_new (W := w) rfl (tabL.map (Value.int .i64)) 3)
  go_enter Tryd.func40, Tryd.ntmps40
  go_wp2
  go_ret
  exact ⟨w.heap.size, rfl, HR.out, (Below.refl _ _).alloc (Nat.le_refl _) _⟩
set_option maxHeartbeats 2000000 in
theorem sLin (x : Int) (w : World) : Calls Tryd.prog 25 #[.int .i64 x] w (RetV (.int .i64 (linI x)) w) := by
  have CI := Lib.hid (fun W => in_ x 0 9900 W)
  by_cases hx : 0 ≤ x ∧ x ≤ 9900
  case neg =>
    obtain ⟨e1, e2⟩ := linB_no (x := x) (by omega)
    rw [inB_no (by omega)] at CI
    rw [e2]
    clear e1 e2 hx
    go_enter Tryd.func25, Tryd.ntmps25
    go_wp2_with fail
    refine (CI.out _).mono ?_
    rintro e w' ⟨rfl, rfl⟩
    go_wp2
    go_ret
    exact retV rfl (Below.refl _ _)
  case pos =>
  obtain ⟨x0, x1⟩ := hx
  rw [inB_mk x0 x1] at CI
  by_cases hr : x % 100 = 0
  case neg =>
    obtain ⟨e1, e2⟩ := linB_no (x := x) (.inr (.inr hr))
    rw [e2]
    have q1 : (x % 100 == 0) = false := by simpa using hr
    have q2 : (x % 100 != 0) = true := by simpa using hr
    clear e1 e2 hr
    go_enter Tryd.func25, Tryd.ntmps25
    go_wp2_with fail
    refine (CI.out _).mono ?_
    rintro e w' ⟨rfl, rfl⟩
    go_wp2
    go_ret
    exact retV rfl (Below.refl _ _)
  case pos =>
  obtain ⟨k, hk⟩ : ∃ k : Nat, x / 100 = (k : Int) := ⟨(x / 100).toNat, by omega⟩
  have hk99 : k ≤ 99 := by omega
  obtain ⟨e1, e2⟩ := linB_of (x := x) (k := k) (by omega) hk99
  rw [e2]
  have q1 : (x % 100 == 0) = true := by simpa using hr
  have q2 : (x % 100 != 0) = false := by simpa using hr
  have hm10 : k % 10 < 10 := Nat.mod_lt _ (by omega)
  have hpw := pow_all k (by omega)
  have hget : (tabL.map (Value.int .i64))[k % 10]? = some (.int .i64 (tabL.getD (k % 10) 0)) := by
    rw [List.getElem?_map, List.getD_eq_getElem?_getD, List.getElem?_eq_getElem (by rw [tabL_len]; exact hm10)]; rfl
  obtain ⟨R, hR⟩ : ∃ r, linN k = r := ⟨_, rfl⟩
  rw [hR]
  unfold linN at hR
  obtain ⟨v, hv⟩ : ∃ v, tabL.getD (k % 10) 0 = v := ⟨_, rfl⟩
  rw [hv] at hget hpw hR
  obtain ⟨m, hm⟩ : ∃ m, k / 10 = m := ⟨_, rfl⟩
  rw [hm] at hpw hR
  have hm9 : m ≤ 9 := by omega
  have hmi : x / 1000 = (m : Int) := by omega
  have HPW := Lib.hid hpw
  have HRR := Lib.hid hR
  have HG := Lib.hid hget
  clear e1 e2 hr hpw hR hv hget
  go_enter Tryd.func25, Tryd.ntmps25
  go_wp2_with fail
  refine (CI.out _).mono ?_
  rintro e w' ⟨rfl, rfl⟩
  go_wp2_with fail
  refine (sTab _).mono ?_
  rintro e w1 ⟨g, rfl, hrd, hb1⟩
  obtain ⟨ad, ead, _, hcell⟩ := hrd (k % 10) _ HG.out
  injection ead with ead; subst ead
  have hcell2 : w1.cell? ⟨g, k % 10, none⟩ = some (.int .i64 v) := by
    have e : (⟨g, 0, none⟩ : Addr).add (k % 10) = ⟨g, k % 10, none⟩ := by unfold Addr.add; by_cases h : k % 10 = 0 <;> simp [h]
    rw [e] at hcell; exact hcell
  have HB := Lib.hid hb1
  clear hrd hcell hb1
  go_wp2
  go_loop [3, 4] (fun z i => ∃ (j i' : Nat) (y : Int), j + i' = m ∧ i = .int .i64 i' ∧ z = .int .i64 y ∧ 0 ≤ y ∧ y ≤ 7943000000000 ∧ Hid (v * 10 ^ j = y)) (fun _ i => (intOf i).toNat)
  case atStart =>
    have h := HPW.out 0 (Nat.zero_le _)
    exact ⟨0, m, v, Nat.zero_add _, congrArg _ hmi, rfl, by simpa using h.1, by simpa using h.2, Lib.hid (by simp)⟩
  case round =>
    obtain ⟨j, i', y, hj, rfl, rfl, y0, y1, HY⟩ := hrel
    have HJ := Lib.hid hj
    have hj2 : i' ≤ 9 := by omega
    clear hj
    by_cases hlt : 0 < i'
    · have h := HPW.out (j + 1) (by have := HJ.out; omega)
      rw [pow_next, HY.out] at h
      obtain ⟨z0, z1⟩ := h
      obtain ⟨i2, rfl⟩ : ∃ i2, i' = i2 + 1 := ⟨i' - 1, by omega⟩
      go_wp2
      go_round
      case rel => exact ⟨j + 1, i2, y * 10, by have := HJ.out; omega, by go_num, rfl, z0, z1, Lib.hid (by rw [pow_next, HY.out])⟩
      case measure => simp [intOf]
    · obtain rfl : i' = 0 := by omega
      obtain rfl : j = m := by have := HJ.out; omega
      obtain rfl : y = R := HY.out.symm.trans HRR.out
      go_wp2
      go_ret
      exact retV rfl HB.out
theorem sLinV (x : Int) (w : World) : Calls Tryd.prog 7 #[.int .i64 x] w (RetV (.tuple #[.int .i64 (linI x), .bool (linB x)]) w) := by
  have C := Lib.hid (sLin x w)
  have hbd := linI_bd x
  have hno : linB x = false → linI x = 0 := fun h => by unfold linI; rw [h]; rfl
  cases h : linB x with
  | false =>
    rw [hno h] at C ⊢
    clear hbd hno h
    go_enter Tryd.func7, Tryd.ntmps7
    go_wp2_with fail
    refine C.out.mono ?_
    rintro e w1 ⟨rfl, hb1⟩
    go_wp2
    go_ret2
    exact retV rfl hb1
  | true =>
    have h1 := hbd.1 h
    have h2 := hbd.2.2
    obtain ⟨y, hy⟩ : ∃ y, linI x = y := ⟨_, rfl⟩
    rw [hy] at C h1 h2 ⊢
    have h3 : 0 < y := by omega
    have h4 : decide (0 < y) = true := decide_eq_true h3
    clear hbd hno h hy
    go_enter Tryd.func7, Tryd.ntmps7
    go_wp2_with fail
    refine C.out.mono ?_
    rintro e w1 ⟨rfl, hb1⟩
    go_wp2
    go_ret2
    exact retV rfl hb1
end Go.Proofs.YtgaankdmppoghabDoor
