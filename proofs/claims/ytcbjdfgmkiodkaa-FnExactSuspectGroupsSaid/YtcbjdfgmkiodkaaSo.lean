/- The set of lights with some numbers: contracts of slices.IndexFunc at lights with the closure of setOf, and of setOf. No condition but those typed. -/
import Derived.Test.YtcbjdfgmkiodkaaOl
import Derived.Test.YtcbjdfgmkiodkaaDw
namespace Go.Proofs.Ytcbjdfgmkiodkaa
open Go.ChangeShapes Go.WideShapes Go.ChangeAt Go.RowKit Go.Maps

set_option maxHeartbeats 1000000 in
theorem idcl_ (p0 p1 q0 q1 : Int) (A : Option Addr) (n c : Nat) (x : Int) (Bp : Nat) (w : World) (hB : w.cell? ⟨Bp, 0, none⟩ = some (.int .i64 x)) (hBs : Bp < w.heap.size) :
    Calls Try.prog 254 #[.agg #[.int .i64 p0, .int .i64 p1, .slice A n c, .int .i64 q0, .int .i64 q1], .pointer (some ⟨Bp, 0, none⟩)] w (RetP (.bool (decide (p0 = x))) w) := by
  have HB := Lib.hid ((Below.refl w.heap.size w).alloc (Nat.le_refl _) (Obj.cells #[.int .i64 p0, .int .i64 p1, .slice A n c, .int .i64 q0, .int .i64 q1] 106))
  by_cases hm : p0 = x
  case pos =>
    subst hm
    rw [decide_eq_true rfl]
    go_enter Try.func254, Try.ntmps254
    go_wp2
    go_ret
    exact ⟨retb (by simp), HB.out⟩
  case neg =>
    rw [decide_eq_false hm]
    have hb2 : (p0 == x) = false := beq_eq_false_iff_ne.2 hm
    go_enter Try.func254, Try.ntmps254
    go_wp2
    go_ret
    exact ⟨retb (by simp [hm]), HB.out⟩

set_option maxRecDepth 100000 in
set_option maxHeartbeats 4000000 in
theorem ixf_ {B g3 n3 : Nat} {ys : List Lt} {ds : List LtD} {w : World} (x : Int) (Bp : Nat) (hT : Lts B g3 n3 ys w) (hd : ys.map Lt.d = ds) (hs : n3 ≤ 1048576) (hB : w.cell? ⟨Bp, 0, none⟩ = some (.int .i64 x)) (hBs : Bp < w.heap.size) :
    Calls Try.prog 253 #[.slice (some ⟨g3, 0, none⟩) n3 n3, .func (.func 254) #[] #[.pointer (some ⟨Bp, 0, none⟩)]] w (RetP (.int .i64 (idxI ds x)) w) := by
  have HT := Lib.hid hT; have HD := Lib.hid hd; have HCB := Lib.hid hB
  have HLD : Hid (ds.length = n3) := Lib.hid (by rw [← hd, List.length_map]; exact hT.len)
  obtain ⟨r, hr⟩ : ∃ r, idxI ds x = r := ⟨_, rfl⟩
  rw [hr]
  have HRR := Lib.hid hr
  clear hT hd hB hr
  go_enter Try.func253, Try.ntmps253
  go_wp2
  go_loopw [8] (fun i wr => ∃ k : Nat, k ≤ n3 ∧ i = .int .i64 k ∧ Hid (∀ j, j < k → (dn ds j).p0 ≠ x) ∧ Below w.heap.size w wr) (fun i _ => n3 - (intOf i).toNat)
  case atStart => exact ⟨0, Nat.zero_le _, rfl, Lib.hid (fun j hj => by omega), Below.refl _ _⟩
  case round =>
    obtain ⟨k, hk, rfl, HA, hb⟩ := hrel
    have HBR := Lib.hid hb
    clear hb
    by_cases hlt : k < n3
    case neg =>
      obtain rfl : r = -1 := by rw [← HRR.out]; unfold idxI; rw [idx_none (fun i hi => HA.out i (by have := HLD.out; omega))]
      have hlt2 : ¬ (k : Int) < n3 := by omega
      clear hlt
      go_wp2
      go_ret
      exact ⟨rfl, HBR.out⟩
    case pos =>
    have hjl : k < ys.length := by have := HT.out.len; omega
    obtain ⟨z, hze⟩ : ∃ y, ys[k]'hjl = y := ⟨_, rfl⟩
    have HDK := Lib.hid (dn_at HD.out hjl hze)
    obtain ⟨_, f0, f1, f2, f3, f4⟩ := (HT.out.moved HBR.out).rd.ltc hjl
    rw [Nat.zero_add, hze] at f0 f1 f2 f3 f4
    obtain ⟨p0, p1, zA, zn, zc, zzs, q0, q1⟩ := z
    simp only at f0 f1 f2 f3 f4
    have HID : Hid ((dn ds k).p0 = p0) := Lib.hid (by rw [HDK.out]; rfl)
    have CC := Lib.hid (idcl_ p0 p1 q0 q1 zA zn zc x Bp wr ((HBR.out.cell (p := ⟨Bp, 0, none⟩) hBs).trans HCB.out) (Nat.lt_of_lt_of_le hBs HBR.out.size))
    clear hze
    by_cases hpx : p0 = x
    case pos =>
      obtain rfl : r = (k : Int) := by
        rw [← HRR.out]; unfold idxI
        rw [idx_at (k := k) (by have := HLD.out; omega) (by rw [HID.out]; exact hpx) HA.out]
      rw [decide_eq_true hpx] at CC
      clear hpx
      go_wp2_with fail
      go_at_call 254
      refine CC.out.mono ?_
      rintro e w2 ⟨rfl, hb2⟩
      have HB2 := Lib.hid (HBR.out.trans (hb2.mono HBR.out.size))
      clear hb2 f0 f1 f2 f3 f4
      go_wp2
      go_ret
      exact ⟨rfl, HB2.out⟩
    case neg =>
      have HA2 : Hid (∀ j, j < k + 1 → (dn ds j).p0 ≠ x) := Lib.hid (fun j hj => by
        by_cases e : j = k
        · subst e; rw [HID.out]; exact hpx
        · exact HA.out j (by omega))
      rw [decide_eq_false hpx] at CC
      clear hpx
      go_wp2_with fail
      go_at_call 254
      refine CC.out.mono ?_
      rintro e w2 ⟨rfl, hb2⟩
      have HB2 := Lib.hid (HBR.out.trans (hb2.mono HBR.out.size))
      clear hb2 f0 f1 f2 f3 f4
      go_wp2
      go_roundw
      case rel => exact ⟨k + 1, by omega, by go_num, HA2, HB2.out⟩
      case measure => simp [intOf]; omega

set_option maxRecDepth 100000 in
set_option maxHeartbeats 8000000 in
theorem setOf_ {ss : List ByteArray} {fs : List Q4} {B g3 n3 : Nat} {ys : List Lt} {ds : List LtD} {w : World} (hp : planP ss fs ds) (hT : Lts B g3 n3 ys w) (hd : ys.map Lt.d = ds) (hs : n3 ≤ 1048576) {A : Option Addr} {n c : Nat} {zs : List Int} (hn : zs.length = n) (hr : Rd w w.heap.size A (zs.map (Value.int .i64))) (hx : n ≤ 1048576) (AH : Option Addr) (NH dH : Nat) :
    Calls Try.prog 227 #[.agg #[.slice (some ⟨g3, 0, none⟩) n3 n3, .slice AH NH dH], .slice A n c] w (RetP (dwR ss fs ds zs) w) := by
  have HT := Lib.hid hT; have HD := Lib.hid hd; have HN := Lib.hid hn; have HR := Lib.hid hr; have HP := Lib.hid hp
  have HLD : Hid (ds.length = n3) := Lib.hid (by rw [← hd, List.length_map]; exact hT.len)
  have hl12 : n3 ≤ 12 := by have := hp.2.1; have := HLD.out; omega
  obtain ⟨R, hR⟩ : ∃ r, dwR ss fs ds zs = r := ⟨_, rfl⟩
  have HNO : Hid (¬ dwP ss fs ds zs → (.tuple #[.int .i64 0, .bool false] : Value) = R) := Lib.hid (fun e => by rw [← hR]; exact dw_no e)
  have HYES : Hid (dwP ss fs ds zs → (.tuple #[.int .i64 (mskK ds zs zs.length : Int), .bool true] : Value) = R) := Lib.hid (fun e => by rw [← hR]; exact dw_yes e)
  rw [hR]
  clear hT hd hn hr hR hp
  go_enter Try.func227, Try.ntmps227
  go_wp2
  obtain ⟨W0, hW0⟩ : ∃ W0, (w.alloc (Obj.cells #[.slice (some ⟨g3, 0, none⟩) n3 n3, .slice AH NH dH] 181)) = W0 := ⟨_, rfl⟩
  have hb0 : Below w.heap.size w W0 := by rw [← hW0]; exact (Below.refl _ _).alloc (Nat.le_refl _) _
  have k0 : W0.cell? ⟨w.heap.size, 0, none⟩ = some (.slice (some ⟨g3, 0, none⟩) n3 n3) := by rw [← hW0]; simp [go_sem]
  have hz0 : w.heap.size < W0.heap.size := by rw [← hW0]; simp
  have HB0 := Lib.hid hb0; have HK0 := Lib.hid k0; have HZ0 := Lib.hid hz0
  rw [hW0]
  clear hW0 hb0 k0 hz0
  go_loopw [6, 7, 13] (fun v l i wr => ∃ (k m : Nat) (y : Int), k ≤ n ∧ i = .int .i64 k ∧ v = .int .i64 m ∧ l = .int .i64 y ∧ Hid (mskK ds zs k = m) ∧ m < 2 ^ 12 ∧ Hid (las1 zs k = y ∧ ri1N zs 1000 k = true) ∧ 0 ≤ y ∧ y ≤ 999 ∧ Hid (∀ j, j < k → (idxN ds (nth zs j)).isSome = true) ∧ Below W0.heap.size W0 wr) (fun _ _ i _ => n - (intOf i).toNat)
  case atStart => exact ⟨0, 0, 0, Nat.zero_le _, rfl, rfl, rfl, Lib.hid rfl, by decide, Lib.hid ⟨rfl, rfl⟩, by omega, by omega, Lib.hid (fun j hj => by omega), Below.refl _ _⟩
  case round =>
    obtain ⟨k, m, y, hk, rfl, rfl, rfl, HM, hm, HL, hy0, hy1, HA, hb⟩ := hrel
    have HBR := Lib.hid hb
    have HBY := Lib.hid (HB0.out.trans (hb.mono HB0.out.size))
    have k0 := (hb.cell (p := ⟨w.heap.size, 0, none⟩) HZ0.out).trans HK0.out
    have hz1 : w.heap.size < wr.heap.size := Nat.lt_of_lt_of_le HZ0.out hb.size
    clear hb
    by_cases hlt : k < n
    case neg =>
      obtain rfl : k = n := by omega
      have HE := Lib.hid (HYES.out ⟨HP.out, ri1_end HN.out HL.out.2, fun j hj => HA.out j (by have := HN.out; omega)⟩)
      rw [HN.out, HM.out] at HE
      clear hlt k0 hz1
      go_wp2
      go_ret2
      exact ⟨ret_tupC HE.out, HBY.out⟩
    case pos =>
    have hks : k < zs.length := by have := HN.out; omega
    obtain ⟨x, hxe⟩ : ∃ x, nth zs k = x := ⟨_, rfl⟩
    have HXE := Lib.hid hxe
    obtain ⟨ad, hA, _, f0⟩ := ints_at (HR.out.moved HBY.out) hks
    subst hA
    rw [nth_eq hks, hxe] at f0
    obtain ⟨W2, hW2⟩ : ∃ W2, wr.alloc (Obj.cells #[.int .i64 x] 3) = W2 := ⟨_, rfl⟩
    have hb2 : Below wr.heap.size wr W2 := by rw [← hW2]; exact (Below.refl _ _).alloc (Nat.le_refl _) _
    have hc2 : W2.cell? ⟨wr.heap.size, 0, none⟩ = some (.int .i64 x) := by rw [← hW2]; simp [go_sem]
    have hz2 : wr.heap.size < W2.heap.size := by rw [← hW2]; simp
    have HB2 := Lib.hid (HBY.out.trans (hb2.mono HBY.out.size)); have HB2W := Lib.hid (HBR.out.trans (hb2.mono HBR.out.size))
    have CI := Lib.hid (ixf_ x wr.heap.size (HT.out.moved HB2.out) HD.out hs hc2 hz2)
    have HW2 := Lib.hid hW2; have HC2 := Lib.hid hc2; have HZ2 := Lib.hid hz2
    have HKS := Lib.hid hks
    clear hxe hks hW2 hb2 hc2 hz2
    by_cases hf : (idxN ds x).isSome = true
    case neg =>
      have HE := Lib.hid (HNO.out (fun hp => hf (by have h9 := hp.2.2 k HKS.out; rw [HXE.out] at h9; exact h9)))
      rw [idxI_none hf] at CI
      clear hf
      go_wp2_with fail
      rw [HW2.out]
      refine CI.out.mono ?_
      rintro e w3 ⟨rfl, hb3⟩
      have HB3 := Lib.hid (HB2.out.trans (hb3.mono HB2.out.size))
      clear hb3 k0 hz1 f0
      go_wp2
      go_ret2
      exact ⟨ret_tupC HE.out, HB3.out⟩
    case pos =>
    rw [idxI_some hf] at CI
    have hil : idxD ds x < 12 := by have := idxD_lt hf; have := HLD.out; omega
    have hx9 : x ≤ 999 := by
      obtain ⟨i, hi⟩ := Option.isSome_iff_exists.1 hf
      have h1 := idx_lt hi
      have h2 := (HP.out.2.2.1 i h1).1.1
      have h3 : (dn ds i).p0 = x := by
        unfold idxN at hi
        have h4 := (List.findIdx?_eq_some_iff_getElem.1 hi)
        obtain ⟨h5, h6, _⟩ := h4
        rw [dn_eq h5]; exact of_decide_eq_true h6
      omega
    by_cases hyx : y < x
    case neg =>
      have HE := Lib.hid (HNO.out (fun hp => by
        have h9 := ri1_no (lim := 1000) HKS.out (by rw [HL.out.1, HXE.out]; omega)
        rw [hp.2.1] at h9; cases h9))
      have hyx2 : x ≤ y := by omega
      obtain ⟨i, hi⟩ : ∃ i, idxD ds x = i := ⟨_, rfl⟩
      rw [hi] at CI
      clear hf hyx hi
      go_wp2_with fail
      rw [HW2.out]
      refine CI.out.mono ?_
      rintro e w3 ⟨rfl, hb3⟩
      have HB3 := Lib.hid (HB2.out.trans (hb3.mono HB2.out.size))
      have hc3 := (hb3.cell (p := ⟨wr.heap.size, 0, none⟩) HZ2.out).trans HC2.out
      clear hb3 k0 hz1 f0
      go_wp2
      go_ret2
      exact ⟨ret_tupC HE.out, HB3.out⟩
    case pos =>
      have HM2 : Hid (mskK ds zs (k + 1) = m ||| 2 ^ idxD ds x) := Lib.hid (by unfold mskK; rw [HM.out, HXE.out])
      have HA2 : Hid (∀ j, j < k + 1 → (idxN ds (nth zs j)).isSome = true) := Lib.hid (fun j hj => by
        by_cases e : j = k
        · subst e; rw [HXE.out]; exact hf
        · exact HA.out j (by omega))
      have HL2 : Hid (las1 zs (k + 1) = x ∧ ri1N zs 1000 (k + 1) = true) := Lib.hid ⟨HXE.out, ri1_yes HL.out.2 (by rw [HL.out.1, HXE.out]; exact hyx) (by rw [HXE.out]; omega)⟩
      obtain ⟨i, hi⟩ : ∃ i, idxD ds x = i := ⟨_, rfl⟩
      rw [hi] at CI hil HM2
      have hp : 2 ^ i < 2 ^ 12 := Nat.pow_lt_pow_right (by decide) hil
      have hpi : (2 : Int) ^ i = ((2 ^ i : Nat) : Int) := by simp
      have hp0 : 0 ≤ (2 : Int) ^ i := Int.pow_nonneg (by omega)
      have hp1 : (2 : Int) ^ i ≤ 4096 := by rw [hpi]; omega
      have hor : bits .or .i64 (m : Int) ((2 : Int) ^ i) = ((m ||| 2 ^ i : Nat) : Int) := by rw [hpi]; exact or_i64_ m (2 ^ i) (by omega) (by omega)
      have hlm : m ||| 2 ^ i < 2 ^ 12 := Nat.or_lt_two_pow hm hp
      obtain ⟨m2, hm2⟩ : ∃ x, m ||| 2 ^ i = x := ⟨_, rfl⟩
      rw [hm2] at HM2 hor hlm
      clear hm2 hpi hp hi hf
      go_wp2_with fail
      rw [HW2.out]
      refine CI.out.mono ?_
      rintro e w3 ⟨rfl, hb3⟩
      have HB3 := Lib.hid (HB2W.out.trans (hb3.mono HB2W.out.size))
      have hc3 := (hb3.cell (p := ⟨wr.heap.size, 0, none⟩) HZ2.out).trans HC2.out
      clear hb3 k0 hz1 f0
      go_wp2
      go_roundw
      case rel => exact ⟨k + 1, m2, x, by omega, by go_num, by go_num, rfl, HM2, hlm, HL2, by omega, by omega, HA2, HB3.out⟩
      case measure => simp [intOf]; omega
end Go.Proofs.Ytcbjdfgmkiodkaa
