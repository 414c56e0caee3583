/- Contracts: chapter 1's drawn arguments: whatever the bytes, a number or a text of at most 5000 bytes. No condition but those typed. -/
import Derived.Test.YtbfbkedndnekpaaDoorCur
import Derived.Test.YtbfbkedndnekpaaDoorNum
import Derived.Test.YtbfbkedndnekpaaDoorByt
namespace Go.Proofs.YtbfbkedndnekpaaDoor
open Go.ChangeShapes Go.WideShapes Go.ChangeAt Go.RowKit
open Go.Lib (strCells strCells_length itoa)

theorem Tryd.inf_u8d : (Tryd.prog.info? 5).map (fun i => (i.zero, i.size, i.bytes)) = some (some (.int .u8 0), 1, 1) := by kernel_rfl

/-- a new cursor over the bytes. -/
theorem cur_new {w : World} {A : Option Addr} {n c : Nat} (h : RdB w w.heap.size A n) (hn : n ≤ 140737488355328) :
    CurAt (w.alloc (.cells #[.slice A n c, .int .i64 0, .int .u64 0] 48)) w.heap.size w.heap.size A n c 0 :=
  ⟨0, 0, heap_alloc_new w _, by omega, by omega, h.over (fun b hb => Below.heap_alloc w _ b hb), Nat.le_refl _, hn⟩
theorem lit_cells (w : World) (E : TypeId) (cs : Array Value) : ∀ (k : Nat) u, cs.toList[k]? = some u → (w.alloc (.cells cs E)).cell? ⟨w.heap.size, k, none⟩ = some u := by
  intro k u hu
  rw [cell_of_row _ w.heap.size k cs E (0, 0) (heap_alloc_new w _)]
  simpa using hu

def texts1 : List ByteArray := [⟨#[]⟩, ⟨#[97]⟩, ⟨#[97, 44, 98]⟩, ⟨#[115, 111, 109, 101, 32, 119, 111, 114, 100, 115]⟩, ⟨#[120, 35, 121]⟩, ⟨#[45, 49, 50]⟩, ⟨#[0, 255]⟩, ⟨#[44, 44]⟩, ⟨#[48]⟩]
theorem texts1_small : ∀ s ∈ texts1, s.size ≤ 20 := by
  intro s hs
  simp only [texts1, List.mem_cons, List.mem_nil_iff, or_false] at hs
  rcases hs with rfl | rfl | rfl | rfl | rfl | rfl | rfl | rfl | rfl <;> decide

set_option maxHeartbeats 1000000 in
theorem any1_any (g B : Nat) (A : Option Addr) (n c : Nat) (K : Int) (w : World) (hK : K ≤ 999999990) (hg : g < w.heap.size) (h : CurAt w g B A n c K) :
    Calls Tryd.prog 44 #[.pointer (some ⟨g, 0, none⟩)] w fun e w' => ∃ s : ByteArray, e = .returned (.string s) ∧ s ∈ texts1 ∧ CurAt w' g B A n c (K + 2) ∧ Only g w w' := by
  have HC := Lib.hid h; clear h
  go_enter Tryd.func44, Tryd.ntmps44
  go_wp2_with fail
  refine (of_any g B A n c K w.heap.size 9 9 texts1 (w.alloc (.cells (texts1.map Value.string).toArray 9)) hK (by omega) (by omega) rfl (fun k u hu => lit_cells w 9 (texts1.map Value.string).toArray k u (by simpa using hu)) (by omega) (HC.out.alloc _)).mono ?_
  rintro e w1 ⟨s, rfl, hs, hc1, ho1⟩
  have HS := Lib.hid hs; clear hs
  go_wp2_with fail
  go_ret
  exact ⟨s, rfl, HS.out, hc1, Only.trans (World.grownBy_alloc w _ _) ho1⟩

theorem RdB.grown {w w' : World} {B : Nat} {A : Option Addr} {n : Nat} (h : RdB w B A n) (hb : Below B w w') : RdB w' B A n := h.over fun b hb' => hb.block b hb'
theorem RdB.more {w : World} {B B' : Nat} {A : Option Addr} {n : Nat} (h : RdB w B A n) (hB : B ≤ B') : RdB w B' A n := by
  intro k hk; obtain ⟨ad, v, e, hl, r⟩ := h k hk; exact ⟨ad, v, e, by omega, r⟩
theorem only_new {w w1 w' : World} {o : Obj} (he : w1 = w.alloc o) (h : Only w.heap.size w1 w') : Below w.heap.size w w' := by
  subst he
  exact ((Below.refl _ _).alloc (Nat.le_refl _) _).trans (h.below (Nat.le_refl _) (by simp))

set_option maxHeartbeats 1000000 in
theorem drawFmt (A : Option Addr) (n c : Nat) (w : World) (hn : n ≤ 140737488355328) (h : RdB w w.heap.size A n) :
    Calls Tryd.prog 11 #[.slice A n c] w fun e w' => ∃ v : Int, e = .returned (.int .i64 v) ∧ Below w.heap.size w w' := by
  have HC := Lib.hid (cur_new (c := c) h hn); clear h
  go_enter Tryd.func11, Tryd.ntmps11
  go_wp2_with fail
  refine (pick_any w.heap.size w.heap.size A n c 0 1000 _ (by omega) (by omega) (by omega) HC.out).mono ?_
  rintro e w1 ⟨r1, rfl, ha, hb, hc1, ho1⟩
  have HC1 := Lib.hid hc1; clear hc1
  have hsz : w.heap.size + 1 ≤ w1.heap.size := by have := ho1.size; simpa using this
  go_wp2_with fail
  refine (among_any w.heap.size w.heap.size A n c 2 w1.heap.size 9 9 [0, 1, -1, 10, 999999, -999999, 1000000, -1000000, r1 - 500] (w1.alloc (.cells ([0, 1, -1, 10, 999999, -999999, 1000000, -1000000, r1 - 500].map (Value.int .i64)).toArray 3)) (by omega) (by omega) (by omega) rfl (fun k u hu => lit_cells w1 3 ([0, 1, -1, 10, 999999, -999999, 1000000, -1000000, r1 - 500].map (Value.int .i64)).toArray k u (by simpa using hu)) (by omega) (HC1.out.alloc _)).mono ?_
  rintro e w2 ⟨v, rfl, _, _, ho2⟩
  have ho := ho1.trans (Only.trans (World.grownBy_alloc w1 _ _) ho2)
  go_wp2_with fail
  go_ret
  exact ⟨v, rfl, only_new rfl ho⟩

def texts2 : List ByteArray := [⟨#[]⟩, ⟨#[45]⟩, ⟨#[45, 48]⟩, ⟨#[48, 48]⟩, ⟨#[48, 49]⟩, ⟨#[45, 45, 49]⟩, ⟨#[49, 120]⟩, ⟨#[57, 57, 57, 57, 57, 57]⟩, ⟨#[49, 48, 48, 48, 48, 48, 48]⟩, ⟨#[45, 57, 57, 57, 57, 57, 57]⟩, ⟨#[49, 56, 52, 52, 54, 55, 52, 52, 48, 55, 51, 55, 48, 57, 53, 53, 49, 54, 49, 55]⟩]
theorem texts2_small : ∀ s ∈ texts2, s.size ≤ 20 := by
  intro s hs
  simp only [texts2, List.mem_cons, List.mem_nil_iff, or_false] at hs
  rcases hs with rfl | rfl | rfl | rfl | rfl | rfl | rfl | rfl | rfl | rfl | rfl <;> decide
theorem itoa_size (m : Int) (h0 : -1000 ≤ m) (h1 : m ≤ 1000) : (⟨(itoa m).toArray⟩ : ByteArray).size ≤ 20 := by
  have e : (⟨(itoa m).toArray⟩ : ByteArray).size = (itoa m).length := rfl
  rw [e]
  by_cases hn : 0 ≤ m
  · have := itoa_len19 m hn (by omega); omega
  · rw [itoa_neg m (by omega)]
    have := itoa_len19 (-m) (by omega) (by omega)
    simp only [List.length_cons]; omega

set_option maxHeartbeats 1000000 in
theorem drawParse (A : Option Addr) (n c : Nat) (w : World) (hn : n ≤ 140737488355328) (h : RdB w w.heap.size A n) :
    Calls Tryd.prog 14 #[.slice A n c] w fun e w' => ∃ s : ByteArray, e = .returned (.string s) ∧ s.size ≤ 5000 ∧ Below w.heap.size w w' := by
  have HC := Lib.hid (cur_new (c := c) h hn); clear h
  go_enter Tryd.func14, Tryd.ntmps14
  go_wp2_with fail
  refine (one_any w.heap.size w.heap.size A n c 0 2 _ (by omega) (by omega) (by omega) HC.out).mono ?_
  rintro e w1 ⟨b, rfl, hc1, ho1⟩
  have HC1 := Lib.hid hc1; clear hc1
  have hsz : w.heap.size + 1 ≤ w1.heap.size := by have := ho1.size; simpa using this
  cases b
  · go_wp2_with fail
    refine (pick_any w.heap.size w.heap.size A n c 2 2000 _ (by omega) (by omega) (by omega) HC1.out).mono ?_
    rintro e w2 ⟨r, rfl, ha, hb, hc2, ho2⟩
    clear hc2
    go_wp2_with fail
    refine (num_any (r - 1000) w2 (by omega) (by omega)).mono ?_
    rintro e w3 ⟨rfl, k, rfl⟩
    have hsm := itoa_size (r - 1000) (by omega) (by omega)
    obtain ⟨T, hT⟩ : ∃ T : ByteArray, ⟨(itoa (r - 1000)).toArray⟩ = T := ⟨_, rfl⟩
    rw [hT] at hsm ⊢
    clear hT
    go_wp2_with fail
    go_ret
    exact ⟨T, rfl, by omega, only_new rfl ((ho1.trans ho2).drew k)⟩
  · go_wp2_with fail
    refine (of_any w.heap.size w.heap.size A n c 2 w1.heap.size 11 11 texts2 (w1.alloc (.cells (texts2.map Value.string).toArray 9)) (by omega) (by omega) (by omega) rfl (fun k u hu => lit_cells w1 9 (texts2.map Value.string).toArray k u (by simpa using hu)) (by omega) (HC1.out.alloc _)).mono ?_
    rintro e w2 ⟨s, rfl, hs, _, ho2⟩
    have hsm := texts2_small s hs
    clear hs
    go_wp2_with fail
    go_ret
    exact ⟨s, rfl, by omega, only_new rfl (ho1.trans (Only.trans (World.grownBy_alloc w1 _ _) ho2))⟩

theorem zeros_cells (n : Nat) : List.replicate n (Value.int .u8 0) = strCells ⟨(List.replicate n (0 : UInt8)).toArray⟩ := by
  unfold strCells; simp

set_option maxHeartbeats 1000000 in
theorem drawApp (A : Option Addr) (n c : Nat) (w : World) (hn : n ≤ 140737488355328) (h : RdB w w.heap.size A n) :
    Calls Tryd.prog 17 #[.slice A n c] w fun e w' => ∃ s : ByteArray, e = .returned (.string s) ∧ s.size ≤ 5000 ∧ Below w.heap.size w w' := by
  have HC := Lib.hid (cur_new (c := c) h hn); clear h
  obtain ⟨i0, hi, hz0, hz1, hz2⟩ := info_parts Tryd.inf_u8d
  go_enter Tryd.func17, Tryd.ntmps17
  go_wp2_with fail
  refine (one_any w.heap.size w.heap.size A n c 0 20 _ (by omega) (by omega) (by omega) HC.out).mono ?_
  rintro e w1 ⟨b, rfl, hc1, ho1⟩
  have HC1 := Lib.hid hc1; clear hc1
  have hsz : w.heap.size + 1 ≤ w1.heap.size := by have := ho1.size; simpa using this
  cases b
  · go_wp2_with fail
    refine (any1_any w.heap.size w.heap.size A n c 2 w1 (by omega) (by omega) HC1.out).mono ?_
    rintro e w2 ⟨s, rfl, hs, _, ho2⟩
    have hsm := texts1_small s hs
    clear hs
    go_wp2_with fail
    go_ret
    exact ⟨s, rfl, by omega, only_new rfl (ho1.trans ho2)⟩
  · go_wp2_with fail
    refine (pick_any w.heap.size w.heap.size A n c 2 10 _ (by omega) (by omega) (by omega) HC1.out).mono ?_
    rintro e w2 ⟨r, rfl, ha, hb, hc2, ho2⟩
    clear hc2
    obtain ⟨k, rfl⟩ := Int.eq_ofNat_of_zero_le ha
    go_wp2_with (at_make; refine wpList_make_full _ rfl _ _ 22 rfl w2.heap.size 5 i0 (.int .u8 0) 1 Tryd.underlying22 hi hz0 hz1 .i64 .i64 _ _ (3990 + k) rfl rfl (by omega) (by omega) (by rw [hz2]; omega) (by unfold maxLen; omega) (Nat.le_refl _) ?_)
    intro w3 hown hgrow
    rw [toList_madeCells_one, zeros_cells] at hown
    have hsz2 : (⟨(List.replicate (3990 + k) (0 : UInt8)).toArray⟩ : ByteArray).size = 3990 + k := by show (List.replicate (3990 + k) (0 : UInt8)).toArray.size = _; rw [List.size_toArray, List.length_replicate]
    have hcv := run_str_own (P := Tryd.prog) w3 22 9 5 Tryd.underlying22 Tryd.underlying5 Tryd.underlying9 (A := some ⟨w2.heap.size, 0, none⟩) (c := 3990 + k) (acc := ⟨(List.replicate (3990 + k) (0 : UInt8)).toArray⟩) (by rw [hsz2]; exact hown)
    rw [hsz2] at hcv
    obtain ⟨T, hT⟩ : ∃ T : ByteArray, ⟨(List.replicate (3990 + k) (0 : UInt8)).toArray⟩ = T := ⟨_, rfl⟩
    rw [hT] at hsz2 hcv
    have hTs : T.size ≤ 5000 := by omega
    have ho3 : Only w.heap.size w2 w3 := ⟨hgrow.os, hgrow.tape, hgrow.output, hgrow.size, fun j hj _ => hgrow.block j hj (by simp)⟩
    clear hT hsz2 hown hgrow
    go_wp2_with fail
    go_ret
    exact ⟨T, rfl, hTs, only_new rfl ((ho1.trans ho2).trans ho3)⟩

set_option maxHeartbeats 1000000 in
theorem vAt_any (A : Option Addr) (n c : Nat) (i : Int) (w : World) (hi0 : 0 ≤ i) (hi1 : i ≤ 1000) (hn : n ≤ 140737488355328) (h : RdB w w.heap.size A n) :
    Calls Tryd.prog 21 #[.slice A n c, .int .i64 i] w fun e w' => ∃ v : Int, e = .returned (.int .i64 v) ∧ 0 ≤ v ∧ v ≤ 255 ∧ w = w' := by
  by_cases hlt : i < n
  · obtain ⟨ad, v, rfl, _, hv0, hv1, hc⟩ := h i.toNat (by omega)
    obtain ⟨k, rfl⟩ := Int.eq_ofNat_of_zero_le hi0
    rw [Int.toNat_natCast] at hc
    go_enter Tryd.func21, Tryd.ntmps21
    go_wp2_with fail
    go_ret
    exact ⟨v, rfl, hv0, hv1, rfl⟩
  · have hlt' : decide (i < (n : Int)) = false := by simpa using hlt
    clear hlt
    go_enter Tryd.func21, Tryd.ntmps21
    go_wp2_with fail
    go_ret
    exact ⟨_, rfl, Int.emod_nonneg _ (by omega), by have := Int.emod_lt_of_pos (i * 7 + n) (b := 256) (by omega); omega, rfl⟩

set_option maxHeartbeats 1000000 in
theorem vAt_fix (A : Option Addr) (n c : Nat) (i : Int) (w : World) (hi0 : 0 ≤ i) (hi1 : i ≤ 1000) (hn : n ≤ 140737488355328) (h : RdB w w.heap.size A n) :
    ∃ v : Int, 0 ≤ v ∧ v ≤ 255 ∧ ∀ W : World, W.heap = w.heap → Calls Tryd.prog 21 #[.slice A n c, .int .i64 i] W fun e w' => e = .returned (.int .i64 v) ∧ w' = W := by
  by_cases hlt : i < n
  · obtain ⟨ad, v, rfl, _, hv0, hv1, hc⟩ := h i.toNat (by omega)
    obtain ⟨k, rfl⟩ := Int.eq_ofNat_of_zero_le hi0
    rw [Int.toNat_natCast] at hc
    refine ⟨v, hv0, hv1, fun W hW => ?_⟩
    have hc' : W.cell? (ad.add k) = some (.int .u8 v) := by
      rw [← hc]; exact World.cell?_of_block (w := w) (by rw [hW])
    clear hc hW h
    go_enter Tryd.func21, Tryd.ntmps21
    go_wp2_with fail
    go_ret
    exact ⟨rfl, rfl⟩
  · have hlt' : decide (i < (n : Int)) = false := by simpa using hlt
    refine ⟨(i * 7 + n) % 256, Int.emod_nonneg _ (by omega), by have := Int.emod_lt_of_pos (i * 7 + n) (b := 256) (by omega); omega, fun W hW => ?_⟩
    clear hlt hW h
    go_enter Tryd.func21, Tryd.ntmps21
    go_wp2_with fail
    go_ret
    exact ⟨rfl, rfl⟩

theorem vBig_any (A : Option Addr) (n c : Nat) (w : World) (hn : n ≤ 140737488355328) :
    Calls Tryd.prog 10 #[.slice A n c] w fun e w' => e = .returned (.bool (decide (65536 < (n : Int)))) ∧ w = w' := by
  go_enter Tryd.func10, Tryd.ntmps10
  go_wp2_with fail
  go_ret
  exact ⟨rfl, rfl⟩
end Go.Proofs.YtbfbkedndnekpaaDoor
