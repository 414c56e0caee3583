/- Networks in memory of the call's own: compared, marked, held; ints marked from any number on. No condition but those typed. -/
import Derived.Test.YtlgkjidginibdaaDoorA2
import Derived.Test.YtlgkjidginibdaaDoorGB
import Derived.Test.YtlgkjidginibdaaDoorGC
namespace Go.Proofs.YtlgkjidginibdaaDoor
open Go.ChangeShapes Go.WideShapes Go.ChangeAt Go.RowKit

def mtB (z : Nat) : ByteArray := ⟨#[UInt8.ofNat (48 + z % 10)]⟩
def mtL (z : Nat) (t : ByteArray) : ByteArray := if h : z = 0 then t else mtL (z / 10) (mtB z ++ t)
termination_by z
decreasing_by omega
theorem mtL_zero (t : ByteArray) : mtL 0 t = t := by unfold mtL; rfl
theorem mtL_step {z : Nat} (h : 0 < z) (t : ByteArray) : mtL z t = mtL (z / 10) (mtB z ++ t) := by
  rw [mtL, dif_neg (by omega)]
/-- the text of mark k. -/
def mtx (k : Nat) : ByteArray := ⟨#[109]⟩ ++ mtL k ByteArray.empty
set_option maxRecDepth 100000 in
set_option maxHeartbeats 1000000 in
theorem markTextV (k : Nat) (w : World) (h0 : 1 ≤ k) (h1 : k ≤ 1000000000) : Calls Tryd.prog 70 #[.int .i64 (k : Int)] w fun e w' => e = .returned (.string (mtx k)) ∧ (mtx k).size ≤ 11 ∧ Below w.heap.size w w' := by
  obtain ⟨R, hR⟩ : ∃ R, mtL k ByteArray.empty = R := ⟨_, rfl⟩
  have hMT : mtx k = ⟨#[109]⟩ ++ R := by unfold mtx; rw [hR]
  rw [hMT]
  have HRE := Lib.hid hR
  clear hMT hR
  go_enter Tryd.func70, Tryd.ntmps70
  go_wp2
  go_loopw [0, 3] (fun q s wr => ∃ (z : Nat) (t : ByteArray) (j : Nat), q = .int .i64 (z : Int) ∧ s = .string t ∧ (z : Int) < 10 ^ j ∧ j ≤ 10 ∧ t.size + j ≤ 10 ∧ Hid (mtL z t = R) ∧ Below w.heap.size w wr) (fun q _ _ => (intOf q).toNat)
  case atStart => exact ⟨k, ByteArray.empty, 10, rfl, rfl, by omega, by omega, by simp, HRE, Below.refl _ _⟩
  case round =>
    obtain ⟨zn, t, j, rfl, rfl, hz1, hj, ht, HML, hb⟩ := hrel
    have hz9 := pow_cap (zn : Int) j hj hz1
    have ht10 : (t.size : Int) ≤ 10 := by omega
    by_cases hz : 0 < (zn : Int)
    · obtain ⟨i, hji, hz2⟩ := pow_step (zn : Int) j hz hz1
      have HZ2 := Lib.hid hz2; have HT : Hid (t.size + (i + 1) ≤ 10 ∧ i + 1 ≤ 10) := Lib.hid ⟨by omega, by omega⟩
      have HM2 : Hid (mtL (zn / 10) (mtB zn ++ t) = R) := Lib.hid (by rw [← HML.out]; exact (mtL_step (by omega) t).symm)
      have HDV : Hid ((zn : Int) / 10 = ((zn / 10 : Nat) : Int)) := Lib.hid (by omega)
      clear hz1 ht hji hj hz2
      obtain ⟨u, hu, hub⟩ : ∃ u : UInt8, (u.toNat : Int) = 48 + (zn : Int) % 10 ∧ mtB zn = ⟨#[u]⟩ := ⟨UInt8.ofNat (48 + zn % 10), by
        rw [UInt8.toNat_ofNat']; omega, rfl⟩
      rw [hub] at HM2
      obtain ⟨z, hzz⟩ : ∃ z : Int, (zn : Int) = z := ⟨_, rfl⟩
      rw [hzz] at hu hz hz9 HZ2 HDV ⊢
      have HZZ := Lib.hid hzz
      have hm0 : 0 ≤ z % 10 := by omega
      have hm1 : z % 10 < 10 := by omega
      clear hzz hub
      have hcv : Sem.run Tryd.prog (convert 133 9 (Value.slice (some ⟨wr.heap.size, 0, none⟩) 1 1)) (wr.alloc (Obj.cells #[.int .u8 (48 + z % 10)] 5)) = .ok (.string ⟨#[u]⟩) (wr.alloc (Obj.cells #[.int .u8 (48 + z % 10)] 5)) :=
        run_convert_bytes_back (P := Tryd.prog) (wr.alloc (Obj.cells #[.int .u8 (48 + z % 10)] 5)) 133 9 5 ⟨wr.heap.size, 0, none⟩ 1 [u] Tryd.underlying133 Tryd.underlying5 Tryd.underlying9
          (fun j hj => by
            have hj' : j < 1 := hj
            obtain rfl : j = 0 := by omega
            simp [go_sem, Addr.add, hu])
      clear hu
      have hus : (⟨#[u]⟩ : ByteArray).size = 1 := rfl
      obtain ⟨b, hbb⟩ : ∃ b : ByteArray, ⟨#[u]⟩ = b := ⟨_, rfl⟩
      rw [hbb] at hcv hus HM2
      clear hbb
      have hus' : (b.size : Int) ≤ 1 := by omega
      have HUS := Lib.hid hus; clear hus
      go_wp2
      go_roundw
      case rel => exact ⟨zn / 10, b ++ t, i, by rw [HDV.out], rfl, by rw [← HDV.out]; exact HZ2.out, by have := HT.out; omega, by rw [ByteArray.size_append, HUS.out]; have := HT.out; omega, HM2, hb.alloc hb.size _⟩
      case measure => have := HZZ.out; simp [intOf]; omega
    · have hzz : zn = 0 := by omega
      subst hzz
      have HT := Lib.hid ht
      have HTR : Hid (t = R) := Lib.hid (by rw [← HML.out, mtL_zero])
      clear hz1 ht hz9 hz hj
      obtain rfl := HTR.out
      go_wp2
      go_ret
      exact ⟨rfl, by have := HT.out; have : (⟨#[109]⟩ : ByteArray).size = 1 := rfl; first | omega | (rw [ByteArray.size_append]; omega), hb⟩
def mtxs (m n : Nat) : List ByteArray := (List.range n).map fun i => mtx (m + i)
theorem mtxs_len (m n : Nat) : (mtxs m n).length = n := by unfold mtxs; simp
theorem mtxs_snoc (m n : Nat) : mtxs m (n + 1) = mtxs m n ++ [mtx (m + n)] := by unfold mtxs; rw [List.range_succ, List.map_append]; rfl
theorem mtxs_get {m n i : Nat} (h : i < n) : (mtxs m n)[i]? = some (mtx (m + i)) := by unfold mtxs; rw [List.getElem?_map, List.getElem?_range h]; rfl
theorem str_snoc {ss : List ByteArray} {m j : Nat} (h : j < ss.length) : ((mtxs m j ++ ss.drop j).map Value.string).set j (.string (mtx (m + j))) = (mtxs m (j + 1) ++ ss.drop (j + 1)).map Value.string := by
  rw [← List.map_set, List.set_append_right _ _ (by rw [mtxs_len]; exact Nat.le_refl _), mtxs_len, Nat.sub_self, List.drop_eq_getElem_cons h, List.set_cons_zero, mtxs_snoc, List.append_assoc]; rfl
set_option maxHeartbeats 1000000 in
theorem markStrK (g n c k : Nat) (ss : List ByteArray) (w : World) {B : Nat} (ho : w.ownsRow B 9 1 (.slice (some ⟨g, 0, none⟩) n c) n (ss.map Value.string)) (hn : n ≤ 1048576) (h0 : 1 ≤ k) (h1 : k ≤ 10000000) :
    Calls Tryd.prog 39 #[.slice (some ⟨g, 0, none⟩) n c, .int .i64 (k : Int)] w fun e w' => e = .returned (.int .i64 ((k + n : Nat) : Int)) ∧ Off (· = g) w w' ∧ w'.ownsRow B 9 1 (.slice (some ⟨g, 0, none⟩) n c) n ((mtxs k n).map Value.string) := by
  have HO := Lib.hid ho
  have HSL : Hid (ss.length = n) := Lib.hid (by have := ho.1; simpa using this)
  clear ho
  go_enter Tryd.func39, Tryd.ntmps39
  go_wp2
  go_loopw [1, 5] (fun q i wr => ∃ (j : Nat), j ≤ n ∧ i = .int .i64 j ∧ q = .int .i64 ((k + j : Nat) : Int) ∧ Off (· = g) w wr ∧ wr.ownsRow B 9 1 (.slice (some ⟨g, 0, none⟩) n c) n ((mtxs k j ++ ss.drop j).map Value.string)) (fun _ i _ => n - (intOf i).toNat)
  case atStart => exact ⟨0, Nat.zero_le _, rfl, by simp, Off.refl _ _, by have h := HO.out; simpa [mtxs] using h⟩
  case round =>
    obtain ⟨j, hj, rfl, rfl, hoff, hown⟩ := hrel
    have HF := Lib.hid hoff; have HW := Lib.hid hown; clear hoff hown
    by_cases hlt : j < n
    · obtain ⟨kj, hkj⟩ : ∃ z, k + j = z := ⟨_, rfl⟩
      rw [hkj]
      have HKJ := Lib.hid hkj
      have hk1 : 1 ≤ kj := by omega
      have hk2 : kj ≤ 100000000 := by omega
      clear hkj
      go_wp2_with fail
      refine (markTextV kj wr hk1 (by omega)).mono ?_
      rintro e w2 ⟨rfl, hs, hb2⟩
      have hown2 := ownB HW.out hb2
      have hlen := hown2.1
      have hold := hown2.cellAt j (by omega)
      have hjs : j < ss.length := by rw [HSL.out]; exact hlt
      rw [List.getElem?_map, List.getElem?_append_right (by rw [mtxs_len]; exact Nat.le_refl _), mtxs_len, Nat.sub_self, List.getElem?_drop, Nat.add_zero, List.getElem?_eq_getElem hjs] at hold
      simp only [Option.map_some] at hold
      have hfz := hown2.frozenAt j
      have hst := (hown2.stored j (.string (mtx kj))).1
      rw [← HKJ.out, str_snoc hjs, HKJ.out] at hst
      have HST := Lib.hid hst
      have HF2 := Lib.hid (HF.out.trans (Off.ofBelow hb2))
      obtain ⟨old, hold'⟩ : ∃ v, ss[j]'hjs = v := ⟨_, rfl⟩
      rw [hold'] at hold
      obtain ⟨tx, htx⟩ : ∃ t, mtx kj = t := ⟨_, rfl⟩
      rw [htx] at HST hs ⊢
      clear hst hown2 hlen hold' hb2 htx hjs
      go_wp2
      go_roundw
      case rel => exact ⟨j + 1, by omega, by go_num, by have := HKJ.out; congr 1; omega, HF2.out.set_ rfl _, HST.out⟩
      case measure => simp [intOf]; omega
    · have hjn : j = n := by omega
      subst hjn
      have e : mtxs k j ++ ss.drop j = mtxs k j := by rw [List.drop_of_length_le (by rw [HSL.out]; exact Nat.le_refl _), List.append_nil]
      rw [e] at HW
      clear hlt e
      obtain ⟨kj, hkj⟩ : ∃ z, k + j = z := ⟨_, rfl⟩
      rw [hkj]
      have HKJ := Lib.hid hkj
      clear hkj
      go_wp2
      go_ret
      exact ⟨reti (by rw [HKJ.out]), HF.out, HW.out⟩
theorem markStr_nil (k : Int) (w : World) :
    Calls Tryd.prog 39 #[.slice none 0 0, .int .i64 k] w fun e w' => e = .returned (.int .i64 k) ∧ w = w' := by
  go_enter Tryd.func39, Tryd.ntmps39
  go_wp2
  go_loop [1, 5] (fun q i => q = .int .i64 k ∧ i = .int .i64 0) (fun _ _ => 0)
  case atStart => exact ⟨rfl, rfl⟩
  case round =>
    obtain ⟨rfl, rfl⟩ := hrel
    go_wp2
    go_ret
    exact ⟨rfl, rfl⟩
theorem markStrA (A : Option Addr) (n c k : Nat) (ss : List ByteArray) (w : World) {B : Nat} (ho : w.ownsRow B 9 1 (.slice A n c) n (ss.map Value.string)) (hn : n ≤ 1048576) (h0 : 1 ≤ k) (h1 : k ≤ 10000000) :
    Calls Tryd.prog 39 #[.slice A n c, .int .i64 (k : Int)] w fun e w' => e = .returned (.int .i64 ((k + n : Nat) : Int)) ∧ Off (fun b => (Value.slice A n c).ownBlock = some b) w w' ∧ w'.ownsRow B 9 1 (.slice A n c) n ((mtxs k n).map Value.string) := by
  rcases ho.2 with ⟨hv, h0⟩ | ⟨g, cap, cur, hv, hg, _⟩
  · injection hv with hA hN hC
    subst hA h0 hC
    refine (markStr_nil k w).mono ?_
    rintro e w' ⟨rfl, rfl⟩
    exact ⟨rfl, Off.refl _ _, World.ownsRow_nil _ _ _ _⟩
  · injection hv with hA _ hC
    subst hA hC
    refine (markStrK g n c k ss w ho hn h0 h1).mono ?_
    rintro e w' ⟨rfl, hoff, hown⟩
    exact ⟨rfl, hoff.wider (fun b h => by have h' : b = g := h; rw [h']; rfl), hown⟩
theorem mkk_one {zs : List Int} {k m : Nat} (h : m < zs.length) : ((marks k m ++ zs.drop m).map (Value.int .i64)).set m (.int .i64 ((k + m : Nat) : Int)) = (marks k (m + 1) ++ zs.drop (m + 1)).map (Value.int .i64) := by
  rw [← List.map_set, List.set_append_right _ _ (by rw [marks_len]; exact Nat.le_refl _), marks_len, Nat.sub_self, List.drop_eq_getElem_cons h, List.set_cons_zero]
  have e : marks k (m + 1) = marks k m ++ [((k + m : Nat) : Int)] := by unfold marks; rw [List.range_succ, List.map_append]; rfl
  rw [e, List.append_assoc]; rfl
theorem mkk4 {zs : List Int} {k m : Nat} (h : m + 4 ≤ zs.length) : ((((((marks k m ++ zs.drop m).map (Value.int .i64)).set (m) (.int .i64 (((k + m : Nat) : Int)))).set (m + 1) (.int .i64 (((k + m : Nat) : Int) + 1))).set (m + 2) (.int .i64 (((k + m : Nat) : Int) + 1 + 1))).set (m + 3) (.int .i64 (((k + m : Nat) : Int) + 1 + 1 + 1))) = (marks k (m + 4) ++ zs.drop (m + 4)).map (Value.int .i64) := by
  have e1 : (((k + m : Nat) : Int) + 1) = ((k + (m + 1) : Nat) : Int) := by omega
  have e2 : (((k + (m + 1) : Nat) : Int) + 1) = ((k + (m + 2) : Nat) : Int) := by omega
  have e3 : (((k + (m + 2) : Nat) : Int) + 1) = ((k + (m + 3) : Nat) : Int) := by omega
  rw [e1, e2, e3, mkk_one (by omega), mkk_one (by omega), mkk_one (by omega), mkk_one (by omega)]
set_option maxRecDepth 100000 in
set_option maxHeartbeats 4000000 in
theorem markFibK9 (g n c k : Nat) (zs : List Int) (w : World) {B : Nat} (ho : w.ownsRow B 97 4 (.slice (some ⟨g, 0, none⟩) n c) n (zs.map (Value.int .i64))) (hn : n ≤ 1048576) (h0 : 1 ≤ k) (h1 : k ≤ 100000000) :
    Calls Tryd.prog 40 #[.slice (some ⟨g, 0, none⟩) n c, .int .i64 (k : Int)] w fun e w' => e = .returned (.int .i64 ((k + 4 * n : Nat) : Int)) ∧ Off (· = g) w w' ∧ w'.ownsRow B 97 4 (.slice (some ⟨g, 0, none⟩) n c) n ((marks k (4 * n)).map (Value.int .i64)) := by
  have HO := Lib.hid ho; clear ho
  have HZL : Hid (zs.length = n * 4) := Lib.hid (by have := HO.out.1; simpa using this)
  go_enter Tryd.func40, Tryd.ntmps40
  go_wp2
  go_loopw [1, 5] (fun q i wr => ∃ (j : Nat) (z : Int), j ≤ n ∧ i = .int .i64 j ∧ q = .int .i64 z ∧ z = ((k + j * 4 : Nat) : Int) ∧ Off (· = g) w wr ∧ wr.ownsRow B 97 4 (.slice (some ⟨g, 0, none⟩) n c) n ((marks k (j * 4) ++ zs.drop (j * 4)).map (Value.int .i64))) (fun _ i _ => n - (intOf i).toNat)
  case atStart => exact ⟨0, (k : Int), Nat.zero_le _, rfl, rfl, by simp, Off.refl _ _, by have h := HO.out; simpa [marks] using h⟩
  case round =>
    obtain ⟨j, z, hj, rfl, rfl, hz, hoff, hown⟩ := hrel
    have HF := Lib.hid hoff
    have HZ := Lib.hid hz
    have hz0 : 0 ≤ z := by omega
    have hz1 : z ≤ 200000000 := by omega
    clear hoff hz
    by_cases hlt : j < n
    · have hlen := hown.1
      have hcells : ∀ i, i < 4 → ∃ v, wr.cell? ⟨g, j * 4 + i, none⟩ = some v := by
        intro i hi
        have := hown.cellAt (j * 4 + i) (by omega)
        rw [List.getElem?_eq_getElem (by omega)] at this
        exact ⟨_, this⟩
      obtain ⟨v0, q0⟩ := hcells 0 (by omega)
      obtain ⟨v1, q1⟩ := hcells 1 (by omega)
      obtain ⟨v2, q2⟩ := hcells 2 (by omega)
      obtain ⟨v3, q3⟩ := hcells 3 (by omega)
      rw [Nat.add_zero] at q0
      have z0_ := hown.frozenAt (j * 4)
      have z1_ := hown.frozenAt (j * 4 + 1)
      have z2_ := hown.frozenAt (j * 4 + 2)
      have z3_ := hown.frozenAt (j * 4 + 3)
      have hst := ((((hown.stored (j * 4) (.int .i64 (z))).1.stored (j * 4 + 1) (.int .i64 (z + 1))).1.stored (j * 4 + 2) (.int .i64 (z + 1 + 1))).1.stored (j * 4 + 3) (.int .i64 (z + 1 + 1 + 1))).1
      have hmk := mkk4 (zs := zs) (k := k) (m := (j * 4)) (by have := HZL.out; omega)
      rw [← HZ.out] at hmk
      rw [hmk] at hst
      have HST := Lib.hid hst
      have e6 : j * 4 + 4 = (j + 1) * 4 := by omega
      rw [e6] at HST
      clear hown hlen hcells hst hmk e6
      go_wp2
      go_roundw
      case rel => exact ⟨j + 1, _, by omega, by go_num, rfl, by have := HZ.out; omega, ((((HF.out.set_ (p := ⟨g, _, none⟩) rfl _).set_ (p := ⟨g, _, none⟩) rfl _).set_ (p := ⟨g, _, none⟩) rfl _).set_ (p := ⟨g, _, none⟩) rfl _), HST.out⟩
      case measure => simp [intOf]; omega
    · have hjn : j = n := by omega
      subst hjn
      have e : marks k (j * 4) ++ zs.drop (j * 4) = marks k (4 * j) := by rw [List.drop_of_length_le (by have := HZL.out; omega), List.append_nil, Nat.mul_comm]
      rw [e] at hown
      have HW := Lib.hid hown
      have HR : Hid (z = ((k + 4 * j : Nat) : Int)) := Lib.hid (by have := HZ.out; omega)
      clear hlt hown e
      go_wp2
      go_ret
      exact ⟨reti HR.out, HF.out, HW.out⟩
theorem markFib_nil9 (k : Int) (w : World) :
    Calls Tryd.prog 40 #[.slice none 0 0, .int .i64 k] w fun e w' => e = .returned (.int .i64 k) ∧ w = w' := by
  go_enter Tryd.func40, Tryd.ntmps40
  go_wp2
  go_loop [1, 5] (fun q i => q = .int .i64 k ∧ i = .int .i64 0) (fun _ _ => 0)
  case atStart => exact ⟨rfl, rfl⟩
  case round =>
    obtain ⟨rfl, rfl⟩ := hrel
    go_wp2
    go_ret
    exact ⟨rfl, rfl⟩
theorem markFibA9 (A : Option Addr) (n c k : Nat) (zs : List Int) (w : World) {B : Nat} (ho : w.ownsRow B 97 4 (.slice A n c) n (zs.map (Value.int .i64))) (hn : n ≤ 1048576) (h0 : 1 ≤ k) (h1 : k ≤ 100000000) :
    Calls Tryd.prog 40 #[.slice A n c, .int .i64 (k : Int)] w fun e w' => e = .returned (.int .i64 ((k + 4 * n : Nat) : Int)) ∧ Off (fun b => (Value.slice A n c).ownBlock = some b) w w' ∧ w'.ownsRow B 97 4 (.slice A n c) n ((marks k (4 * n)).map (Value.int .i64)) := by
  rcases ho.2 with ⟨hv, h0⟩ | ⟨g, cap, cur, hv, hg, _⟩
  · injection hv with hA hN hC
    subst hA h0 hC
    refine (markFib_nil9 k w).mono ?_
    rintro e w' ⟨rfl, rfl⟩
    exact ⟨rfl, Off.refl _ _, World.ownsRow_nil _ _ _ _⟩
  · injection hv with hA _ hC
    subst hA hC
    refine (markFibK9 g n c k zs w ho hn h0 h1).mono ?_
    rintro e w' ⟨rfl, hoff, hown⟩
    exact ⟨rfl, hoff.wider (fun b h => by have h' : b = g := h; rw [h']; rfl), hown⟩
set_option maxRecDepth 100000 in
set_option maxHeartbeats 4000000 in
theorem markIntK9 (g n c k : Nat) (zs : List Int) (w : World) {B : Nat} (ho : w.ownsRow B 3 1 (.slice (some ⟨g, 0, none⟩) n c) n (zs.map (Value.int .i64))) (hn : n ≤ 1048576) (h0 : 1 ≤ k) (h1 : k ≤ 100000000) :
    Calls Tryd.prog 17 #[.slice (some ⟨g, 0, none⟩) n c, .int .i64 (k : Int)] w fun e w' => e = .returned (.int .i64 ((k + n : Nat) : Int)) ∧ Off (· = g) w w' ∧ w'.ownsRow B 3 1 (.slice (some ⟨g, 0, none⟩) n c) n ((marks k (n)).map (Value.int .i64)) := by
  have HO := Lib.hid ho; clear ho
  have HZL : Hid (zs.length = n) := Lib.hid (by have := HO.out.1; simpa using this)
  go_enter Tryd.func17, Tryd.ntmps17
  go_wp2
  go_loopw [1, 5] (fun q i wr => ∃ (j : Nat) (z : Int), j ≤ n ∧ i = .int .i64 j ∧ q = .int .i64 z ∧ z = ((k + j : Nat) : Int) ∧ Off (· = g) w wr ∧ wr.ownsRow B 3 1 (.slice (some ⟨g, 0, none⟩) n c) n ((marks k j ++ zs.drop j).map (Value.int .i64))) (fun _ i _ => n - (intOf i).toNat)
  case atStart => exact ⟨0, (k : Int), Nat.zero_le _, rfl, rfl, by simp, Off.refl _ _, by have h := HO.out; simpa [marks] using h⟩
  case round =>
    obtain ⟨j, z, hj, rfl, rfl, hz, hoff, hown⟩ := hrel
    have HF := Lib.hid hoff
    have HZ := Lib.hid hz
    have hz0 : 0 ≤ z := by omega
    have hz1 : z ≤ 200000000 := by omega
    clear hoff hz
    by_cases hlt : j < n
    · have hlen := hown.1
      have hcells : ∀ i, i < 1 → ∃ v, wr.cell? ⟨g, j + i, none⟩ = some v := by
        intro i hi
        have := hown.cellAt (j + i) (by omega)
        rw [List.getElem?_eq_getElem (by omega)] at this
        exact ⟨_, this⟩
      obtain ⟨v0, q0⟩ := hcells 0 (by omega)
      rw [Nat.add_zero] at q0
      have z0_ := hown.frozenAt (j)
      have hst := (hown.stored (j) (.int .i64 (z))).1
      have hmk := mkk_one (zs := zs) (k := k) (m := j) (by have := HZL.out; omega)
      rw [← HZ.out] at hmk
      rw [hmk] at hst
      have HST := Lib.hid hst
      clear hown hlen hcells hst hmk
      go_wp2
      go_roundw
      case rel => exact ⟨j + 1, _, by omega, by go_num, rfl, by have := HZ.out; omega, (HF.out.set_ (p := ⟨g, _, none⟩) rfl _), HST.out⟩
      case measure => simp [intOf]; omega
    · have hjn : j = n := by omega
      subst hjn
      have e : marks k j ++ zs.drop j = marks k j := by rw [List.drop_of_length_le (by have := HZL.out; omega), List.append_nil]
      rw [e] at hown
      have HW := Lib.hid hown
      have HR : Hid (z = ((k + j : Nat) : Int)) := Lib.hid (by have := HZ.out; omega)
      clear hlt hown e
      go_wp2
      go_ret
      exact ⟨reti HR.out, HF.out, HW.out⟩
theorem markInt_nil9 (k : Int) (w : World) :
    Calls Tryd.prog 17 #[.slice none 0 0, .int .i64 k] w fun e w' => e = .returned (.int .i64 k) ∧ w = w' := by
  go_enter Tryd.func17, Tryd.ntmps17
  go_wp2
  go_loop [1, 5] (fun q i => q = .int .i64 k ∧ i = .int .i64 0) (fun _ _ => 0)
  case atStart => exact ⟨rfl, rfl⟩
  case round =>
    obtain ⟨rfl, rfl⟩ := hrel
    go_wp2
    go_ret
    exact ⟨rfl, rfl⟩
theorem markIntA9 (A : Option Addr) (n c k : Nat) (zs : List Int) (w : World) {B : Nat} (ho : w.ownsRow B 3 1 (.slice A n c) n (zs.map (Value.int .i64))) (hn : n ≤ 1048576) (h0 : 1 ≤ k) (h1 : k ≤ 100000000) :
    Calls Tryd.prog 17 #[.slice A n c, .int .i64 (k : Int)] w fun e w' => e = .returned (.int .i64 ((k + n : Nat) : Int)) ∧ Off (fun b => (Value.slice A n c).ownBlock = some b) w w' ∧ w'.ownsRow B 3 1 (.slice A n c) n ((marks k n).map (Value.int .i64)) := by
  rcases ho.2 with ⟨hv, h0⟩ | ⟨g, cap, cur, hv, hg, _⟩
  · injection hv with hA hN hC
    subst hA h0 hC
    refine (markInt_nil9 k w).mono ?_
    rintro e w' ⟨rfl, rfl⟩
    exact ⟨rfl, Off.refl _ _, World.ownsRow_nil _ _ _ _⟩
  · injection hv with hA _ hC
    subst hA hC
    refine (markIntK9 g n c k zs w ho hn h0 h1).mono ?_
    rintro e w' ⟨rfl, hoff, hown⟩
    exact ⟨rfl, hoff.wider (fun b h => by have h' : b = g := h; rw [h']; rfl), hown⟩
set_option maxRecDepth 100000 in
set_option maxHeartbeats 4000000 in
theorem heldInt9 (A : Option Addr) (n c k : Nat) (w : World) (hr : Rd w w.heap.size A ((marks k n).map (Value.int .i64))) (hn : n ≤ 1048576) (h1 : k ≤ 100000000) :
    Calls Tryd.prog 18 #[.slice A n c, .int .i64 (k : Int)] w fun e w' => e = .returned (.int .i64 ((k + n : Nat) : Int)) ∧ w = w' := by
  go_enter Tryd.func18, Tryd.ntmps18
  go_wp2
  go_loop [1, 5] (fun q i => ∃ (j : Nat) (z : Int), j ≤ n ∧ i = .int .i64 j ∧ q = .int .i64 z ∧ z = ((k + j : Nat) : Int)) (fun _ i => n - (intOf i).toNat)
  case atStart => exact ⟨0, (k : Int), Nat.zero_le _, rfl, rfl, by simp⟩
  case round =>
    obtain ⟨j, z, hj, rfl, rfl, hz⟩ := hrel
    have HZ := Lib.hid hz
    have hz0 : 0 ≤ z := by omega
    have hz1 : z ≤ 200000000 := by omega
    clear hz
    by_cases hlt : j < n
    · have hat : ∀ i, i < 1 → ∃ ad, A = some ad ∧ w.cell? (ad.add (j + i)) = some (.int .i64 (z + (i : Int))) := by
        intro i hi
        obtain ⟨ad, e, _, hc⟩ := hr (j + i) (.int .i64 (z + (i : Int))) (by
          rw [List.getElem?_map, marks_get k n (j + i) (by omega)]
          have e9 : ((k + (j + i) : Nat) : Int) = z + (i : Int) := by have := HZ.out; omega
          rw [e9]; rfl)
        exact ⟨ad, e, hc⟩
      obtain ⟨ad, rfl, q0⟩ := hat 0 (by omega)
      rw [Nat.add_zero] at q0
      have y0 : z + ((0 : Nat) : Int) = z := by omega
      rw [y0] at q0
      clear y0  hat
      go_wp2
      go_round
      case rel => exact ⟨j + 1, _, by omega, by go_num, rfl, by have := HZ.out; omega⟩
      case measure => simp [intOf]; omega
    · have hjn : j = n := by omega
      subst hjn
      have HR : Hid (z = ((k + j : Nat) : Int)) := Lib.hid (by have := HZ.out; omega)
      clear hlt
      go_wp2
      go_ret
      exact ⟨reti HR.out, rfl⟩
theorem eqStr_nil9 (A A' : Option Addr) (c c' : Nat) (w : World) :
    Calls Tryd.prog 36 #[.slice A 0 c, .slice A' 0 c'] w fun e w' => e = .returned (.bool true) ∧ Below w.heap.size w w' := by
  go_enter Tryd.func36, Tryd.ntmps36
  go_wp2
  go_loop [5] (fun i => i = .int .i64 0) (fun _ => 0)
  case atStart => exact rfl
  case round =>
    obtain rfl := hrel
    go_wp2
    go_ret
    exact ⟨rfl, Below.refl _ _⟩
theorem eqFib_nil9 (A A' : Option Addr) (c c' : Nat) (w : World) :
    Calls Tryd.prog 37 #[.slice A 0 c, .slice A' 0 c'] w fun e w' => e = .returned (.bool true) ∧ Below w.heap.size w w' := by
  go_enter Tryd.func37, Tryd.ntmps37
  go_wp2
  go_loop [5] (fun i => i = .int .i64 0) (fun _ => 0)
  case atStart => exact rfl
  case round =>
    obtain rfl := hrel
    go_wp2
    go_ret
    exact ⟨rfl, Below.refl _ _⟩
end Go.Proofs.YtlgkjidginibdaaDoor
