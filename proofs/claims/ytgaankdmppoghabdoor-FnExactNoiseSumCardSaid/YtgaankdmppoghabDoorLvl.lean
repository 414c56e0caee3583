/- Contracts: LevelOf and NoiseSum, both sides. Condition: the table of linear values holds what Go's text lays. -/
import Derived.Test.YtgaankdmppoghabDoorLin
namespace Go.Proofs.YtgaankdmppoghabDoor
open Go.ChangeShapes Go.WideShapes Go.ChangeAt Go.RowKit

def lvB (v : Int) : Bool := inB v 1000 10000000000000
def lvI (v : Int) : Int := if lvB v then 100 * (lvlN v : Int) else 0
theorem lv_no_ {v : Int} (h : v < 1000 ∨ 10000000000000 < v) : lvB v = false ∧ lvI v = 0 := by
  have h : lvB v = false := inB_no h
  exact ⟨h, by unfold lvI; rw [h]; rfl⟩
theorem lv_yes_ {v : Int} (h0 : 1000 ≤ v) (h1 : v ≤ 10000000000000) : lvB v = true ∧ lvI v = 100 * (lvlN v : Int) := by
  have h : lvB v = true := inB_mk h0 h1
  exact ⟨h, by unfold lvI; rw [h]; rfl⟩
theorem lin_zero : linN 0 = 1000 := by decide

set_option maxHeartbeats 2000000 in
theorem iLvl (v : Int) (w : World) (hT : LinT w) : Calls Tryd.prog 10 #[.int .i64 v] w fun e w' => e = .returned (.tuple #[.int .i64 (lvI v), .bool (lvB v)]) ∧ w = w' := by
  have CL := Lib.hid (fun x => iLin x w hT)
  clear hT
  by_cases hv : 10000000000000 < v
  · obtain ⟨e1, e2⟩ := lv_no_ (v := v) (.inr hv)
    rw [e1, e2]
    clear e1 e2
    go_enter Tryd.func10, Tryd.ntmps10
    go_wp2
    go_ret2
    exact ⟨rfl, rfl⟩
  have hv2 : v ≤ 10000000000000 := by omega
  clear hv
  obtain ⟨r1, h1⟩ : ∃ r, lvI v = r := ⟨_, rfl⟩
  obtain ⟨r2, h2⟩ : ∃ r, lvB v = r := ⟨_, rfl⟩
  rw [h1, h2]
  have H1 := Lib.hid h1; have H2 := Lib.hid h2
  clear h1 h2
  go_enter Tryd.func10, Tryd.ntmps10
  go_wp2
  go_loop [4] (fun l => ∃ (k : Nat) (x : Int), k ≤ 100 ∧ l = .int .i64 x ∧ -100 ≤ x ∧ x ≤ 9900 ∧ Hid (x = 100 * (k : Int) - 100) ∧ Hid (k = 100 ∨ v < linN k)) (fun l => ((intOf l) + 100).toNat)
  case atStart => exact ⟨100, 9900, by omega, rfl, by omega, by omega, Lib.hid (by omega), Lib.hid (.inl rfl)⟩
  case round =>
    obtain ⟨k, x, hk, rfl, x0, x1, HX, HK⟩ := hrel
    by_cases hx : 0 ≤ x
    case neg =>
      obtain rfl : k = 0 := by have := HX.out; omega
      have hv3 : v < 1000 := by have := HK.out; rw [lin_zero] at this; omega
      obtain ⟨e1, e2⟩ := lv_no_ (v := v) (.inl hv3)
      obtain rfl : r1 = 0 := H1.out.symm.trans e2
      obtain rfl : r2 = false := H2.out.symm.trans e1
      have hx2 : decide (0 ≤ x) = false := decide_eq_false hx
      clear hx e1 e2
      go_wp2
      go_ret2
      exact ⟨rfl, rfl⟩
    case pos =>
    obtain ⟨k', rfl⟩ : ∃ k', k = k' + 1 := ⟨k - 1, by have := HX.out; omega⟩
    obtain ⟨e1, e2⟩ := linB_of (x := x) (k := k') (by have := HX.out; omega) (by omega)
    have C := CL.out x
    rw [e1, e2] at C
    have hbd := lin_bd k' (by omega)
    have HY : ∃ y, linN k' = y := ⟨_, rfl⟩
    obtain ⟨y, hy⟩ := HY
    rw [hy] at C hbd
    have HYY := Lib.hid hy
    have CC := Lib.hid C
    obtain ⟨y0, y1⟩ := hbd
    clear e1 e2 C hy
    by_cases hle : y ≤ v
    · have e := lvl_of (v := v) (k := k') (by omega) (.inr (by rw [HYY.out]; exact hle)) (by rcases HK.out with h | h; exact .inl (by omega); exact .inr h)
      obtain ⟨e1, e2⟩ := lv_yes_ (v := v) (by omega) hv2
      obtain rfl : r1 = x := by rw [← H1.out, e2, e]; have := HX.out; omega
      obtain rfl : r2 = true := H2.out.symm.trans e1
      clear e e1 e2
      go_wp2_with fail
      refine CC.out.mono ?_
      rintro e w' ⟨rfl, rfl⟩
      go_wp2
      go_ret2
      exact ⟨rfl, rfl⟩
    · have HK2 : Hid (k' = 100 ∨ v < linN k') := Lib.hid (.inr (by rw [HYY.out]; omega))
      have hle2 : decide (y ≤ v) = false := decide_eq_false hle
      have hle3 : v < y := by omega
      clear hle
      go_wp2_with fail
      refine CC.out.mono ?_
      rintro e w' ⟨rfl, rfl⟩
      go_wp2
      go_round
      case rel => exact ⟨k', x - 100, by omega, rfl, by omega, by omega, Lib.hid (by have := HX.out; omega), HK2⟩
      case measure => simp [intOf]; omega

set_option maxHeartbeats 2000000 in
theorem sOf (v : Int) (w : World) (h0 : 1000 ≤ v) : Calls Tryd.prog 27 #[.int .i64 v] w (RetV (.int .i64 (100 * (lvlN v : Int))) w) := by
  have CL := Lib.hid (fun x W => sLin x W)
  obtain ⟨R, hR⟩ : ∃ r, 100 * (lvlN v : Int) = r := ⟨_, rfl⟩
  rw [hR]
  have HR := Lib.hid hR; clear hR
  go_enter Tryd.func27, Tryd.ntmps27
  go_wp2
  go_loopw [3] (fun l wr => ∃ (k : Nat) (x : Int), k ≤ 99 ∧ l = .int .i64 x ∧ 0 ≤ x ∧ x ≤ 9900 ∧ Hid (x = 100 * (k : Int)) ∧ Hid (k = 0 ∨ linN k ≤ v) ∧ Below w.heap.size w wr) (fun l _ => (9900 - (intOf l)).toNat)
  case atStart => exact ⟨0, 0, by omega, rfl, by omega, by omega, Lib.hid (by omega), Lib.hid (.inl rfl), Below.refl _ _⟩
  case round =>
    obtain ⟨k, x, hk, rfl, x0, x1, HX, HK, hb⟩ := hrel
    by_cases hx : x < 9900
    case neg =>
      obtain rfl : x = 9900 := by omega
      obtain rfl : k = 99 := by have := HX.out; omega
      have e := lvl_of (v := v) (k := 99) (by omega) HK.out (.inl rfl)
      obtain rfl : R = 9900 := by rw [← HR.out, e]; rfl
      clear hx e x0 x1
      go_wp2
      go_ret
      exact retV rfl hb
    case pos =>
    obtain ⟨e1, e2⟩ := linB_of (x := x + 100) (k := k + 1) (by have := HX.out; omega) (by have := HX.out; omega)
    have C := fun W => CL.out (x + 100) W
    rw [e2] at C
    obtain ⟨y, hy⟩ : ∃ y, linN (k + 1) = y := ⟨_, rfl⟩
    rw [hy] at C
    have HYY := Lib.hid hy
    have CC := Lib.hid C
    clear e1 e2 C hy
    by_cases hle : y ≤ v
    · have HK2 : Hid (k + 1 = 0 ∨ linN (k + 1) ≤ v) := Lib.hid (.inr (by rw [HYY.out]; exact hle))
      go_wp2_with fail
      refine (CC.out _).mono ?_
      rintro e w1 ⟨rfl, hb1⟩
      go_wp2
      go_roundw
      case rel => exact ⟨k + 1, x + 100, by have := HX.out; omega, rfl, by omega, by have := HX.out; omega, Lib.hid (by have := HX.out; omega), HK2, hb.trans (hb1.mono hb.size)⟩
      case measure => simp [intOf]; omega
    · have e := lvl_of (v := v) (k := k) (by omega) HK.out (.inr (by rw [HYY.out]; omega))
      obtain rfl : R = x := by rw [← HR.out, e]; have := HX.out; omega
      have hle2 : decide (y ≤ v) = false := decide_eq_false hle
      have hle3 : v < y := by omega
      clear hle e
      go_wp2_with fail
      refine (CC.out _).mono ?_
      rintro e w1 ⟨rfl, hb1⟩
      go_wp2
      go_ret
      exact retV rfl (hb.trans (hb1.mono hb.size))
theorem sLvl (v : Int) (w : World) : Calls Tryd.prog 9 #[.int .i64 v] w (RetV (.tuple #[.int .i64 (lvI v), .bool (lvB v)]) w) := by
  have CI := Lib.hid (fun W => in_ v 1000 10000000000000 W)
  by_cases h : 1000 ≤ v ∧ v ≤ 10000000000000
  · obtain ⟨e1, e2⟩ := lv_yes_ h.1 h.2
    rw [inB_mk h.1 h.2] at CI
    have CO := Lib.hid (fun W => sOf v W h.1)
    rw [e1, e2]
    obtain ⟨r, hr⟩ : ∃ r, 100 * (lvlN v : Int) = r := ⟨_, rfl⟩
    rw [hr] at CO ⊢
    clear e1 e2 h hr
    go_enter Tryd.func9, Tryd.ntmps9
    go_wp2_with fail
    refine (CI.out _).mono ?_
    rintro e w' ⟨rfl, rfl⟩
    go_wp2_with fail
    refine (CO.out _).mono ?_
    rintro e w1 ⟨rfl, hb1⟩
    go_wp2
    go_ret2
    exact retV rfl hb1
  · obtain ⟨e1, e2⟩ := lv_no_ (v := v) (by omega)
    rw [inB_no (by omega)] at CI
    rw [e1, e2]
    clear e1 e2 h
    go_enter Tryd.func9, Tryd.ntmps9
    go_wp2_with fail
    refine (CI.out _).mono ?_
    rintro e w' ⟨rfl, rfl⟩
    go_wp2
    go_ret2
    exact retV rfl (Below.refl _ _)
end Go.Proofs.YtgaankdmppoghabDoor
