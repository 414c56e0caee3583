/- Contracts: spec.FormatBlock and impl.FormatBlock answer the same text. No condition but those typed. -/
import Derived.Test.YteihdnjdpiejmabDoorBlk
import Derived.Test.YteihdnjdpiejmabDoorPow
import Derived.Deep.QuietTactic
import Derived.BigQuiet
namespace Go.Proofs.YteihdnjdpiejmabDoor
open Go.ChangeShapes Go.WideShapes Go.ChangeAt Go.RowKit

def plusB (a b : Int) : ByteArray := (⟨(Lib.itoa a).toArray⟩ : ByteArray) ++ ⟨#[43]⟩ ++ ⟨(Lib.itoa b).toArray⟩
noncomputable def fbS (a b : Int) : ByteArray := if pb (blkP a b) then plusB a b else ByteArray.empty
noncomputable def fbR (a b : Int) : Value := .tuple #[.string (fbS a b), .bool (pb (blkP a b))]
theorem fb_no {a b : Int} (h : ¬ blkP a b) : (.tuple #[.string ByteArray.empty, .bool false] : Value) = fbR a b := by unfold fbR fbS; rw [pb_false h]; rfl
theorem fb_yes {a b : Int} (h : blkP a b) : (.tuple #[.string (plusB a b), .bool true] : Value) = fbR a b := by unfold fbR fbS; rw [pb_true h]; rfl
theorem itoa_nat (i : Nat) : Lib.itoa (i : Int) = Lib.decDigits i := by unfold Lib.itoa; simp
theorem numQ (i : Nat) (hi : i < 100) (w : World) : Calls Tryd.prog 47 #[.int .i64 (i : Int)] w fun e w' => e = .returned (.string ⟨(Lib.itoa (i : Int)).toArray⟩) ∧ ∃ k, w' = w.drewN k :=
  (num_any i w (by omega) (by omega)).mono fun _ _ h => h
theorem itQ (i : Nat) (hi : i < 100) (w : World) : Calls Tryd.prog 37 #[.int .i64 (i : Int)] w fun e w' => e = .returned (.string ⟨(Lib.itoa (i : Int)).toArray⟩) ∧ w' = w := by
  rw [itoa_nat]; exact Tryd.strconv_Itoa_small i hi w

set_option maxHeartbeats 2000000 in
theorem specFB (a b : Int) (w : World) : Calls Tryd.prog 18 #[.agg #[.int .i64 a, .int .i64 b]] w (RetP (fbR a b) w) := by
  have HB := Lib.hid ((Below.refl w.heap.size w).alloc (Nat.le_refl _) (Obj.cells #[.int .i64 a, .int .i64 b] 29))
  have hs0 : ∀ o, (w.alloc o).heap.size = w.heap.size + 1 := fun o => by simp
  have CB := Lib.hid (fun W => specBlk a b W)
  by_cases hv : blkP a b
  case neg =>
    have HR := Lib.hid (fb_no hv)
    rw [pb_false hv] at CB
    clear hv hs0
    go_enter Tryd.func18, Tryd.ntmps18
    go_wp2_with fail
    refine (CB.out _).mono ?_
    rintro e w1 ⟨rfl, hb1⟩
    have HB1 := Lib.hid (HB.out.trans (hb1.mono (by simp)))
    clear hb1
    go_wp2
    go_ret2
    exact retP HR.out HB1.out
  case pos =>
  have HR := Lib.hid (fb_yes hv)
  have hv1 := hv.1; have hv2 := hv.2.1; have hv3 := hv.2.2
  obtain ⟨an, rfl⟩ : ∃ an : Nat, a = an := ⟨a.toNat, by omega⟩
  obtain ⟨bn, rfl⟩ : ∃ bn : Nat, b = bn := ⟨b.toNat, by omega⟩
  have C1 := Lib.hid (fun W => numQ an (by omega) W)
  have C2 := Lib.hid (fun W => numQ bn (by omega) W)
  rw [pb_true hv] at CB
  unfold plusB at HR
  obtain ⟨S, hS⟩ : ∃ S : ByteArray, ⟨(Lib.itoa (an : Int)).toArray⟩ = S := ⟨_, rfl⟩
  obtain ⟨T, hT⟩ : ∃ T : ByteArray, ⟨(Lib.itoa (bn : Int)).toArray⟩ = T := ⟨_, rfl⟩
  rw [hS] at HR C1
  rw [hT] at HR C2
  have hSz : S.size ≤ 20 := by rw [← hS]; show (Lib.itoa (an : Int)).length ≤ 20; have := itoa_len19 an (by omega) (by omega); omega
  have hTz : T.size ≤ 20 := by rw [← hT]; show (Lib.itoa (bn : Int)).length ≤ 20; have := itoa_len19 bn (by omega) (by omega); omega
  have CL : Hid (∀ W, Calls Tryd.prog 35 #[.agg #[.int .i64 (an : Int), .int .i64 (bn : Int)]] W fun e w' => e = .returned (.string (S ++ ⟨#[43]⟩ ++ T)) ∧ Below W.heap.size W w') := Lib.hid (by
    intro W
    clear HB CB HR hv hv1 hv2 hv3 hs0 hS hT
    go_enter Tryd.func35, Tryd.ntmps35
    go_wp2
    go_quiet (first | (go_at_call_of 47 (Value.int .i64 (an : Int)); exact Calls.quiet_of (C1.out _)) | (go_at_call_of 47 (Value.int .i64 (bn : Int)); exact Calls.quiet_of (C2.out _)))
    go_wp2
    go_ret
    exact ⟨rfl, drewN_below ((Below.refl _ _).alloc (Nat.le_refl _) _) _⟩)
  clear hv hv1 hv2 hv3 hs0 hS hT
  obtain ⟨Z, hZ⟩ : ∃ Z : ByteArray, S ++ ⟨#[43]⟩ ++ T = Z := ⟨_, rfl⟩
  rw [hZ] at CL HR
  clear hZ
  go_enter Tryd.func18, Tryd.ntmps18
  go_wp2_with fail
  obtain ⟨W0, hW0⟩ : ∃ W0, w.alloc (Obj.cells #[.int .i64 (an : Int), .int .i64 (bn : Int)] 29) = W0 := ⟨_, rfl⟩
  have k0 : W0.cell? ⟨w.heap.size, 0, none⟩ = some (.int .i64 (an : Int)) := by rw [← hW0]; simp [go_sem]
  have k1 : W0.cell? ⟨w.heap.size, 1, none⟩ = some (.int .i64 (bn : Int)) := by rw [← hW0]; simp [go_sem]
  have hz0 : w.heap.size < W0.heap.size := by rw [← hW0]; simp
  rw [hW0] at HB ⊢
  clear hW0
  refine (CB.out _).mono ?_
  rintro e w1 ⟨rfl, hb1⟩
  have HB1 := Lib.hid (HB.out.trans (hb1.mono HB.out.size))
  have l0 := (hb1.cell (p := ⟨w.heap.size, 0, none⟩) hz0).trans k0
  have l1 := (hb1.cell (p := ⟨w.heap.size, 1, none⟩) hz0).trans k1
  clear hb1 k0 k1 hz0
  go_wp2_with fail
  refine (CL.out _).mono ?_
  rintro e w2 ⟨rfl, hb2⟩
  have HB2 := Lib.hid (HB1.out.trans (hb2.mono HB1.out.size))
  clear hb2
  go_wp2
  go_ret2
  exact retP HR.out HB2.out

set_option maxHeartbeats 2000000 in
theorem implFB (a b : Int) (w : World) : Calls Tryd.prog 20 #[.agg #[.int .i64 a, .int .i64 b]] w (RetP (fbR a b) w) := by
  have HB := Lib.hid ((Below.refl w.heap.size w).alloc (Nat.le_refl _) (Obj.cells #[.int .i64 a, .int .i64 b] 29))
  have CB := Lib.hid (fun W => implBlk a b W)
  by_cases hv : blkP a b
  case neg =>
    have HR := Lib.hid (fb_no hv)
    rw [pb_false hv] at CB
    clear hv
    go_enter Tryd.func20, Tryd.ntmps20
    go_wp2_with fail
    refine (CB.out _).mono ?_
    rintro e w1 ⟨rfl, hb1⟩
    have HB1 := Lib.hid (HB.out.trans (hb1.mono (by simp)))
    clear hb1
    go_wp2
    go_ret2
    exact retP HR.out HB1.out
  case pos =>
  have HR := Lib.hid (fb_yes hv)
  have hv1 := hv.1; have hv2 := hv.2.1; have hv3 := hv.2.2
  obtain ⟨an, rfl⟩ : ∃ an : Nat, a = an := ⟨a.toNat, by omega⟩
  obtain ⟨bn, rfl⟩ : ∃ bn : Nat, b = bn := ⟨b.toNat, by omega⟩
  have C1 := Lib.hid (fun W => itQ an (by omega) W)
  have C2 := Lib.hid (fun W => itQ bn (by omega) W)
  rw [pb_true hv] at CB
  unfold plusB at HR
  obtain ⟨S, hS⟩ : ∃ S : ByteArray, ⟨(Lib.itoa (an : Int)).toArray⟩ = S := ⟨_, rfl⟩
  obtain ⟨T, hT⟩ : ∃ T : ByteArray, ⟨(Lib.itoa (bn : Int)).toArray⟩ = T := ⟨_, rfl⟩
  rw [hS] at HR C1
  rw [hT] at HR C2
  have hSz : S.size ≤ 20 := by rw [← hS]; show (Lib.itoa (an : Int)).length ≤ 20; have := itoa_len19 an (by omega) (by omega); omega
  have hTz : T.size ≤ 20 := by rw [← hT]; show (Lib.itoa (bn : Int)).length ≤ 20; have := itoa_len19 bn (by omega) (by omega); omega
  clear hv hv1 hv2 hv3 hS hT
  go_enter Tryd.func20, Tryd.ntmps20
  go_wp2_with fail
  obtain ⟨W0, hW0⟩ : ∃ W0, w.alloc (Obj.cells #[.int .i64 (an : Int), .int .i64 (bn : Int)] 29) = W0 := ⟨_, rfl⟩
  have k0 : W0.cell? ⟨w.heap.size, 0, none⟩ = some (.int .i64 (an : Int)) := by rw [← hW0]; simp [go_sem]
  have k1 : W0.cell? ⟨w.heap.size, 1, none⟩ = some (.int .i64 (bn : Int)) := by rw [← hW0]; simp [go_sem]
  have hz0 : w.heap.size < W0.heap.size := by rw [← hW0]; simp
  rw [hW0] at HB ⊢
  clear hW0
  refine (CB.out _).mono ?_
  rintro e w1 ⟨rfl, hb1⟩
  have HB1 := Lib.hid (HB.out.trans (hb1.mono HB.out.size))
  have l0 := (hb1.cell (p := ⟨w.heap.size, 0, none⟩) hz0).trans k0
  have l1 := (hb1.cell (p := ⟨w.heap.size, 1, none⟩) hz0).trans k1
  clear hb1 k0 k1 hz0
  go_wp2
  go_quiet (first | (go_at_call_of 37 (Value.int .i64 (an : Int)); exact Calls.quiet_of_same (C1.out _)) | (go_at_call_of 37 (Value.int .i64 (bn : Int)); exact Calls.quiet_of_same (C2.out _)))
  go_wp2
  go_ret2
  exact retP HR.out (drewN_below HB1.out _)
end Go.Proofs.YteihdnjdpiejmabDoor
