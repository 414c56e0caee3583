/- Contract: spec.SpectrumUse. No condition but those typed. -/
import Derived.Test.YtnbeomnlobfpfaaDoorUse
namespace Go.Proofs.YtnbeomnlobfpfaaDoor
open Go.ChangeShapes Go.WideShapes Go.ChangeAt Go.RowKit

def mskP (m : Int) : Prop := 0 ≤ m ∧ m ≤ 16777215
open Classical in
noncomputable def useR (m : Int) : Value :=
  if mskP m then
    if popN m.toNat 24 = 24 then .tuple #[.int .i64 24, .int .i64 0, .int .i64 0, .bool true]
    else .tuple #[.int .i64 (popN m.toNat 24 : Int), .int .i64 (lonN m.toNat : Int), .int .i64 (1000 - (1000 * (lonN m.toNat : Int) + (24 - (popN m.toNat 24 : Int)) - 1) / (24 - (popN m.toNat 24 : Int))), .bool true]
  else .tuple #[.int .i64 0, .int .i64 0, .int .i64 0, .bool false]
theorem use_no {m : Int} (h : ¬ mskP m) : (.tuple #[.int .i64 0, .int .i64 0, .int .i64 0, .bool false] : Value) = useR m := by
  unfold useR; rw [if_neg h]
theorem use_full {m : Nat} (h : mskP m) (h2 : popN m 24 = 24) : (.tuple #[.int .i64 24, .int .i64 0, .int .i64 0, .bool true] : Value) = useR m := by
  have e : ((m : Int)).toNat = m := by omega
  unfold useR; rw [if_pos h, e, if_pos h2]
theorem use_part {m : Nat} (h : mskP m) (h2 : popN m 24 ≠ 24) : (.tuple #[.int .i64 (popN m 24 : Int), .int .i64 (lonN m : Int), .int .i64 (1000 - (1000 * (lonN m : Int) + (24 - (popN m 24 : Int)) - 1) / (24 - (popN m 24 : Int))), .bool true] : Value) = useR m := by
  have e : ((m : Int)).toNat = m := by omega
  unfold useR; rw [if_pos h, e, if_neg h2]
set_option maxHeartbeats 1000000 in
theorem specUse (m : Int) (w : World) : Calls Tryd.prog 53 #[.int .i64 m] w (RetP (useR m) w) := by
  by_cases ha : mskP m
  case neg =>
    have HR := Lib.hid (use_no ha)
    have C := Lib.hid (fun W => mask_no m W (by unfold mskP at ha; omega))
    clear ha
    obtain ⟨r, hr⟩ : ∃ r, useR m = r := ⟨_, rfl⟩
    rw [hr] at HR ⊢
    clear hr
    go_enter Tryd.func53, Tryd.ntmps53
    go_wp2_with fail
    refine (C.out _).mono ?_
    rintro e w' ⟨rfl, rfl⟩
    go_wp2
    exact bodyPost_ret (v := .tuple #[.int .i64 0, .int .i64 0, .int .i64 0, .bool false]) (by simp [results, Tryd.results53, go_sem]) rfl (retP HR.out (Below.refl _ _))
  case pos =>
  obtain ⟨mn, rfl⟩ : ∃ mn : Nat, m = mn := ⟨m.toNat, by have := ha.1; omega⟩
  have hm := ha.2
  have C := Lib.hid (fun W => mask_yes mn W ha.1 ha.2)
  have CC := Lib.hid (fun W => count_ mn W (by omega))
  have CL := Lib.hid (fun W => longest_ mn W (by omega))
  by_cases h24 : popN mn 24 = 24
  case pos =>
    have HR := Lib.hid (use_full ha h24)
    rw [h24] at CC
    rw [lonN_full mn h24] at CL
    clear ha hm h24
    obtain ⟨r, hr⟩ : ∃ r, useR mn = r := ⟨_, rfl⟩
    rw [hr] at HR ⊢
    clear hr
    obtain ⟨mi, hmi⟩ : ∃ mi : Int, (mn : Int) = mi := ⟨_, rfl⟩
    rw [hmi] at C CC CL ⊢
    clear hmi
    go_enter Tryd.func53, Tryd.ntmps53
    go_wp2_with fail
    refine (C.out _).mono ?_
    rintro e w' ⟨rfl, rfl⟩
    go_wp2_with fail
    refine (CC.out _).mono ?_
    rintro e w' ⟨rfl, rfl⟩
    go_wp2_with fail
    refine (CL.out _).mono ?_
    rintro e w1 ⟨rfl, hb1⟩
    go_wp2
    exact bodyPost_ret (v := .tuple #[.int .i64 24, .int .i64 0, .int .i64 0, .bool true]) (by simp [results, Tryd.results53, go_sem]) rfl (retP HR.out hb1)
  case neg =>
    have HR := Lib.hid (use_part ha h24)
    have h1 := popN_le mn 24
    have h2 := lonN_le mn
    obtain ⟨u, hu⟩ : ∃ u : Int, (popN mn 24 : Int) = u := ⟨_, rfl⟩
    obtain ⟨L, hL⟩ : ∃ L : Int, (lonN mn : Int) = L := ⟨_, rfl⟩
    have hu0 : 0 ≤ u := by omega
    have hu1 : u < 24 := by omega
    have hL0 : 0 ≤ L := by omega
    have hL1 : L ≤ 25 := by omega
    rw [hu] at CC HR
    rw [hL] at CL HR
    clear ha hm h24 h1 h2 hu hL
    obtain ⟨r, hr⟩ : ∃ r, useR mn = r := ⟨_, rfl⟩
    rw [hr] at HR ⊢
    clear hr
    obtain ⟨mi, hmi⟩ : ∃ mi : Int, (mn : Int) = mi := ⟨_, rfl⟩
    rw [hmi] at C CC CL ⊢
    clear hmi
    have hf : ((24 - u) == 0) = false := by simp; omega
    have hwr : wrap64 (1000 - (1000 * L + (24 - u) - 1) / (24 - u)) = 1000 - (1000 * L + (24 - u) - 1) / (24 - u) := by
      have q0 := Int.ediv_nonneg (a := 1000 * L + (24 - u) - 1) (b := 24 - u) (by omega) (by omega)
      have q1 := Int.ediv_le_self (a := 1000 * L + (24 - u) - 1) (24 - u) (by omega)
      generalize (1000 * L + (24 - u) - 1) / (24 - u) = q at q0 q1
      unfold wrap64; omega
    go_enter Tryd.func53, Tryd.ntmps53
    go_wp2_with fail
    refine (C.out _).mono ?_
    rintro e w' ⟨rfl, rfl⟩
    go_wp2_with fail
    refine (CC.out _).mono ?_
    rintro e w' ⟨rfl, rfl⟩
    go_wp2_with fail
    refine (CL.out _).mono ?_
    rintro e w1 ⟨rfl, hb1⟩
    go_wp2
    go_quiet (fail)
    go_wp2
    exact bodyPost_ret (v := .tuple #[.int .i64 u, .int .i64 L, .int .i64 (1000 - (1000 * L + (24 - u) - 1) / (24 - u)), .bool true]) (by simp [results, Tryd.results53, go_sem, hwr]) rfl (retP HR.out (drewN_below hb1 _))
end Go.Proofs.YtnbeomnlobfpfaaDoor
