/- The fewest units: contract of spec.FewestUnits. No condition. -/
import Derived.Test.YtlgkjidginibdaaDoorFuP
import Derived.Test.YtlgkjidginibdaaDoorRch
import Derived.BigRegion
import Derived.BigQuiet
import Derived.Deep.RegionHeld3
import Derived.Deep.DeepCutAuto
namespace Go.Proofs.YtlgkjidginibdaaDoor
open Go.ChangeShapes Go.WideShapes Go.ChangeAt Go.RowKit

theorem own_setC {w : World} {B E s n c : Nat} {A : Option Addr} {xs : List Value} (h : w.ownsRow B E s (.slice A n c) n xs) {gm : Nat} (hp : (Value.slice A n c).ownBlock ≠ some gm) (f : Nat) (u : Value) : (w.setCell ⟨gm, f, none⟩ u).ownsRow B E s (.slice A n c) n xs := ownsRow_setCell_other h hp u
theorem bitF (m k : Nat) (hm : m < 1024) : bits .and .i64 ((m : Int) / 2 ^ k) 1 = if m.testBit k then 1 else 0 := by
  have e : (m : Int) / 2 ^ k = ((m / 2 ^ k : Nat) : Int) := by simp
  have h1 : m / 2 ^ k ≤ m := Nat.div_le_self _ _
  rw [e]
  have := and_i64q (m / 2 ^ k) 1 (by omega) (by omega)
  have e1 : ((1 : Nat) : Int) = 1 := rfl
  rw [e1] at this
  rw [this, Nat.and_one_is_mod, Nat.testBit_eq_decide_div_mod_eq]
  by_cases h : m / 2 ^ k % 2 = 1
  · rw [h]; simp
  · have : m / 2 ^ k % 2 = 0 := by omega
    rw [this]; simp
theorem xorF (a b : Nat) (ha : a < 2 ^ 62) (hb : b < 2 ^ 62) : bits .xor .i64 (a : Int) (b : Int) = ((a ^^^ b : Nat) : Int) := by
  have hp : (2 : Nat) ^ 62 ≤ 2 ^ 64 := Nat.pow_le_pow_right (by decide) (by decide)
  have ha' : a % 2 ^ 64 = a := Nat.mod_eq_of_lt (Nat.lt_of_lt_of_le ha hp)
  have hb' : b % 2 ^ 64 = b := Nat.mod_eq_of_lt (Nat.lt_of_lt_of_le hb hp)
  have hx := Nat.xor_lt_two_pow (n := 62) ha hb
  show IntKind.i64.wrap ((BitVec.ofInt 64 (a : Int) ^^^ BitVec.ofInt 64 (b : Int)).toNat : Int) = _
  rw [BitVec.ofInt_natCast, BitVec.ofInt_natCast, BitVec.toNat_xor, BitVec.toNat_ofNat, BitVec.toNat_ofNat, ha', hb', IntKind.wrap_i64]
  have : ((a ^^^ b : Nat) : Int) < 2 ^ 62 := by exact_mod_cast hx
  omega
set_option maxRecDepth 100000 in
set_option maxHeartbeats 4000000 in
theorem specFU {A : Option Addr} {n c : Nat} {L : List Int} {w : World} (cap : Int) (hn : L.length = n) (hr : Rd w w.heap.size A (L.map (Value.int .i64))) (hs : n ≤ 1048576) :
    Calls Tryd.prog 21 #[.slice A n c, .int .i64 cap] w (RetP (fuR cap L) w) := by
  have HN := Lib.hid hn; have HRL := Lib.hid hr
  have CR := Lib.hid (l18Rates_ (c := c) cap hn hr hs)
  obtain ⟨rv, hrv⟩ : ∃ r, fuR cap L = r := ⟨_, rfl⟩
  have HRV := Lib.hid hrv
  rw [hrv]
  clear hrv hn hr
  obtain ⟨i0, hi, hz0_, hz1_, hz2_⟩ := info_parts Tryd.inf_int
  have HI := Lib.hid hi; have HZI0 := Lib.hid hz0_; have HZI1 := Lib.hid hz1_; have HZI2 := Lib.hid hz2_
  clear hi hz0_ hz1_ hz2_
  by_cases hp : ratesP cap L
  case neg =>
    rw [pb_false hp] at CR
    have HE := Lib.hid (HRV.out.symm.trans (fu_no (pb_false (fun e => hp (ratesT_iff.1 e).1))).symm).symm
    clear hp
    go_enter Tryd.func21, Tryd.ntmps21
    go_wp2_with fail
    refine CR.out.mono ?_
    rintro e w' ⟨rfl, rfl⟩
    go_wp2
    go_ret2
    exact ⟨by rw [← HE.out]; rfl, Below.refl _ _⟩
  case pos =>
  rw [pb_true hp] at CR
  by_cases h10 : n ≤ 10
  case neg =>
    have HE := Lib.hid (HRV.out.symm.trans (fu_no (pb_false (fun e => h10 (by have := (ratesT_iff.1 e).2; have := HN.out; omega)))).symm).symm
    have h10I : (10 : Int) < (n : Int) := by omega
    clear hp h10
    go_enter Tryd.func21, Tryd.ntmps21
    go_wp2_with fail
    refine CR.out.mono ?_
    rintro e w' ⟨rfl, rfl⟩
    go_wp2
    go_ret2
    exact ⟨by rw [← HE.out]; rfl, Below.refl _ _⟩
  case pos =>
  have HT := Lib.hid (ratesT_iff.2 ⟨hp, by have := HN.out; omega⟩)
  have HPB : Hid (pb (ratesT cap L) = true) := Lib.hid (pb_true HT.out)
  have hcap := HT.out.2.1
  have hP10 : 2 ^ n ≤ 1024 := Nat.le_trans (Nat.pow_le_pow_right (by decide) h10) (by decide)
  have hP1 : 1 ≤ 2 ^ n := Nat.one_le_two_pow
  clear hp
  obtain ⟨P, hP⟩ : ∃ p, 2 ^ n = p := ⟨_, rfl⟩
  have hPI : (2 : Int) ^ n = (P : Int) := by rw [← hP]; exact (Int.natCast_pow 2 n).symm
  rw [hP] at hP10 hP1
  have HP := Lib.hid hP
  clear hP
  have h10I : (n : Int) ≤ 10 := by omega
  go_enter Tryd.func21, Tryd.ntmps21
  go_wp2_with fail
  refine CR.out.mono ?_
  rintro e w' ⟨rfl, rfl⟩
  obtain ⟨MC, hMC⟩ : ∃ m, madeCells (Value.int .i64 0).cells P = m := ⟨_, rfl⟩
  have hmk : ∀ W, (Instr.makeSlice 29 (.int .i64 (P : Int)) (.int .i64 (P : Int))).run Tryd.prog W = .ok (.slice (some ⟨W.heap.size, 0, none⟩) P P) (W.alloc (.cells MC 3)) := fun W => by
    have h9 := run_make (P := Tryd.prog) (w := W) 29 3 i0 _ Tryd.underlying29 HI.out HZI0.out .i64 .i64 (P : Int) (P : Int) (by omega) (Int.le_refl _) (by rw [HZI2.out]; omega) (by omega)
    rw [Int.toNat_natCast, HZI1.out, Nat.mul_one, hMC] at h9
    exact h9
  have HROW : Hid (∀ (W : World) (B : Nat), B ≤ W.heap.size → (W.alloc (.cells MC 3)).ownsRow B 3 1 (.slice (some ⟨W.heap.size, 0, none⟩) P P) P ((rwT (fun _ => 0) P).map (Value.int .i64))) := Lib.hid (fun W B hB => by
    obtain ⟨w9, h1, h2, _⟩ := run_make_full (P := Tryd.prog) (w := W) B 29 3 i0 _ 1 Tryd.underlying29 HI.out HZI0.out HZI1.out .i64 .i64 P (by rw [HZI2.out]; omega) (by unfold maxLen; omega) hB
    rw [hmk W] at h1
    have h3 : W.alloc (.cells MC 3) = w9 := by injection h1
    rw [Nat.mul_one] at h2
    have h4 := toList_madeCells_one (.int .i64 0) P
    rw [show (madeCells (Value.int .i64 0).cells P).toList = List.replicate P (.int .i64 0) from h4] at h2
    rw [h3, rwT_zero, List.map_replicate]
    exact h2)
  clear hMC HI HZI0 HZI1 HZI2
  go_upto_region 4 with fail
  try rw [hPI]
  go_cut [7, 8] (fun s7 s8 wx => ∃ gU gL : Nat, s7 = .slice (some ⟨gU, 0, none⟩) P P ∧ s8 = .slice (some ⟨gL, 0, none⟩) P P ∧ Hid (gU ≠ gL ∧ w.heap.size ≤ gU ∧ w.heap.size ≤ gL) ∧ Hid (wx.ownsRow w.heap.size 3 1 (.slice (some ⟨gU, 0, none⟩) P P) P ((rwT (fun _ => 0) P).map (Value.int .i64))) ∧ Hid (wx.ownsRow w.heap.size 3 1 (.slice (some ⟨gL, 0, none⟩) P P) P ((rwT (fun _ => 0) P).map (Value.int .i64))) ∧ Hid (Below w.heap.size w wx))
  case first =>
    have H1 : Hid (((w.alloc (.cells MC 3)).alloc (.cells MC 3)).drew.ownsRow w.heap.size 3 1 (.slice (some ⟨w.heap.size, 0, none⟩) P P) P ((rwT (fun _ => 0) P).map (Value.int .i64))) := Lib.hid (ownB ((HROW.out w w.heap.size (Nat.le_refl _)).alloc _) (Below.refl _ _).drew)
    have H2 : Hid (((w.alloc (.cells MC 3)).alloc (.cells MC 3)).drew.ownsRow w.heap.size 3 1 (.slice (some ⟨w.heap.size + 1, 0, none⟩) P P) P ((rwT (fun _ => 0) P).map (Value.int .i64))) := Lib.hid (by
      have h9 := HROW.out (w.alloc (.cells MC 3)) w.heap.size (by simp)
      rw [show (w.alloc (.cells MC 3)).heap.size = w.heap.size + 1 by simp] at h9
      exact ownB h9 (Below.refl _ _).drew)
    have H3 : Hid (Below w.heap.size w ((w.alloc (.cells MC 3)).alloc (.cells MC 3)).drew) := Lib.hid (((Below.refl _ _).alloc (Nat.le_refl _) _).alloc (by simp) _).drew
    go_region
    all_goals
      go_wp2_with fail
      go_meet
      first
        | exact ⟨w.heap.size, w.heap.size + 1, rfl, rfl, Lib.hid (by omega), H1, H2, H3⟩
        | exact ⟨w.heap.size + 1, w.heap.size, rfl, rfl, Lib.hid (by omega), H2, H1, H3⟩
  case rest =>
  clear hmk HROW
  revert hcut; generalize wc = w2; intro hcut
  obtain ⟨gU, gL, rfl, rfl, HG, HU, HLD, HB⟩ := hcut
  go_wp2
  go_loopw [9] (fun i wr => ∃ s q : Nat, q ≤ P ∧ i = .int .i64 q ∧ Hid (q = s + 1) ∧ Hid (wr.ownsRow w.heap.size 3 1 (.slice (some ⟨gU, 0, none⟩) P P) P ((rwT (fun x => (dpT cap L s x).u) P).map (Value.int .i64))) ∧ Hid (wr.ownsRow w.heap.size 3 1 (.slice (some ⟨gL, 0, none⟩) P P) P ((rwT (fun x => (dpT cap L s x).l) P).map (Value.int .i64))) ∧ Hid (Below w.heap.size w wr)) (fun i _ => P - (intOf i).toNat)
  case atStart => exact ⟨0, 1, hP1, rfl, Lib.hid rfl, HU, HLD, HB⟩
  case round =>
    clear HU HLD HB
    obtain ⟨s, q, hq, rfl, HQ, HU, HLD, HB⟩ := hrel
    by_cases hlt : q < P
    case neg =>
      obtain rfl : P = q := by omega
      by_cases h0 : n = 0
      case pos =>
        have HE := Lib.hid (HRV.out.symm.trans (fu_zero HPB.out (by rw [HN.out]; exact h0)).symm).symm
        have hn0 : ((n : Int) == 0) = true := by rw [h0]; rfl
        clear hlt
        go_wp2
        go_ret2
        exact ⟨by rw [← HE.out]; rfl, HB.out⟩
      case neg =>
      have hn0 : ((n : Int) == 0) = false := by have : (n : Int) ≠ 0 := by omega
                                                simpa using this
      have HE := Lib.hid (HRV.out.symm.trans (fu_yes HPB.out (by rw [HN.out]; exact h0)).symm).symm
      rw [HN.out, HP.out, show P - 1 = s by have := HQ.out; omega] at HE
      have hs1 : s < P := by have := HQ.out; omega
      have hv := HU.out.cellAt s (by omega)
      rw [List.getElem?_map, List.getElem?_eq_getElem (by rw [rwT_len]; exact hs1), rwT_get] at hv
      have hv2 : wr.cell? ⟨gU, s, none⟩ = some (.int .i64 (dpT cap L s s).u) := by rw [hv]; rfl
      have hgs : gU < wr.heap.size := (HU.out.lt gU rfl).2
      have h10b := dpT_ten HT.out (s := s) (x := s) (by rw [HN.out, HP.out]; exact hs1) (by rw [HN.out, HP.out]; exact hs1)
      have h0b := (dpT_in HT.out s s).1
      obtain ⟨u, hu⟩ : ∃ u, (dpT cap L s s).u = u := ⟨_, rfl⟩
      rw [hu] at hv2 h10b h0b HE
      have hps : ((P : Int) - 1) = (s : Int) := by have := HQ.out; omega
      clear hv hu hlt
      go_wp2
      go_ret2
      exact ⟨by rw [← HE.out]; rfl, HB.out⟩
    case pos =>
    go_wp2
    go_loopw [10, 11, 12] (fun u l k wi => ∃ (j : Nat) (a b : Int), j ≤ n ∧ k = .int .i64 j ∧ u = .int .i64 a ∧ l = .int .i64 b ∧ Hid (cdF cap L (dpT cap L s) q j = ⟨a, b⟩) ∧ (0 ≤ a ∧ a ≤ 1000) ∧ (0 ≤ b ∧ b ≤ cap) ∧ Hid (Below wr.heap.size wr wi)) (fun _ _ k _ => n - (intOf k).toNat)
    case atStart => exact ⟨0, 1000, 0, Nat.zero_le _, rfl, rfl, rfl, Lib.hid rfl, ⟨by decide, by decide⟩, ⟨by decide, by omega⟩, Lib.hid (Below.refl _ _)⟩
    case round =>
      rename_i wr0
      obtain ⟨k, a, b, hk, rfl, rfl, rfl, HC, ha, hb, HBI⟩ := hrel
      have HU2 := Lib.hid (ownB HU.out HBI.out)
      have HL2 := Lib.hid (ownB HLD.out HBI.out)
      have HB2 := Lib.hid (HB.out.trans (HBI.out.mono HB.out.size))
      by_cases hlk : k < n
      case neg =>
        obtain rfl : n = k := by omega
        have HD : Hid (∀ x, dpT cap L q x = if x = q then ⟨a, b⟩ else dpT cap L s x) := Lib.hid (fun x => by
          rw [HQ.out]
          split
          · rename_i e; rw [e, dpT_new, ← HQ.out, HN.out]; exact HC.out
          · rename_i e; exact dpT_old s x e)
        have e1 := rwT_set (f := fun x => (dpT cap L s x).u) (g := fun x => (dpT cap L q x).u) (n := P) (s := q) (v := a) (by show a = (dpT cap L q q).u; rw [HD.out, if_pos rfl]) (fun x hx => by show (dpT cap L s x).u = (dpT cap L q x).u; rw [HD.out, if_neg hx])
        have e2 := rwT_set (f := fun x => (dpT cap L s x).l) (g := fun x => (dpT cap L q x).l) (n := P) (s := q) (v := b) (by show b = (dpT cap L q q).l; rw [HD.out, if_pos rfl]) (fun x hx => by show (dpT cap L s x).l = (dpT cap L q x).l; rw [HD.out, if_neg hx])
        have hu1 := (HU2.out.stored q (.int .i64 a)).1
        rw [← List.map_set, e1] at hu1
        have hl1 := own_setC HL2.out (gm := gU) (by simp [Value.ownBlock]; exact fun e => HG.out.1 e.symm) q (.int .i64 a)
        have hl2 := (hl1.stored q (.int .i64 b)).1
        rw [← List.map_set, e2] at hl2
        have hu2 := own_setC hu1 (gm := gL) (by simp [Value.ownBlock]; exact HG.out.1) q (.int .i64 b)
        have HU3 := Lib.hid hu2; have HL3 := Lib.hid hl2
        have HB3 := Lib.hid ((HB2.out.setCell (p := ⟨gU, q, none⟩) HG.out.2.1 (.int .i64 a)).setCell (p := ⟨gL, q, none⟩) HG.out.2.2 (.int .i64 b))
        have hvU := HU2.out.cellAt q (by omega)
        rw [List.getElem?_map, List.getElem?_eq_getElem (by rw [rwT_len]; exact hlt), rwT_get] at hvU
        have vU : wr.cell? ⟨gU, q, none⟩ = some (.int .i64 (dpT cap L s q).u) := by rw [hvU]; rfl
        have hfU := HU2.out.frozenAt q
        have hvL := HL2.out.cellAt q (by omega)
        rw [List.getElem?_map, List.getElem?_eq_getElem (by rw [rwT_len]; exact hlt), rwT_get] at hvL
        have vL : wr.cell? ⟨gL, q, none⟩ = some (.int .i64 (dpT cap L s q).l) := by rw [hvL]; rfl
        have hfL := HL2.out.frozenAt q
        have hgU : gU < wr.heap.size := (HU2.out.lt gU rfl).2
        have hgL : gL < wr.heap.size := (HL2.out.lt gL rfl).2
        have hne := HG.out.1
        have hqI : (q : Int) < (P : Int) := by omega
        clear hvU hvL
        clear e1 e2 hu1 hl1 hl2 hu2
        go_wp2
        go_roundw
        case rel => exact ⟨q, q + 1, by omega, by go_num, Lib.hid rfl, HU3, HL3, HB3⟩
        case measure => simp [intOf]; omega
      case pos =>
      have hq1024 : q < 1024 := by omega
      have hk10 : k < 10 := by omega
      have hw1 : (2 : Int) ^ k ≤ 1048576 := by rw [pow_int]; have : 2 ^ k < 2 ^ 20 := Nat.pow_lt_pow_right (by decide) (by omega); omega
      have hw0 : 0 ≤ (2 : Int) ^ k := Int.pow_nonneg (by omega)
      have hbt := bitF q k hq1024
      have HS : Hid (cdF cap L (dpT cap L s) q (k + 1) = if q.testBit k then btr (cdP cap L (dpT cap L s) q k) ⟨a, b⟩ else ⟨a, b⟩) := Lib.hid (by rw [cdF, HC.out])
      cases htb : q.testBit k
      case false =>
        rw [htb] at hbt HS
        have hbt2 : bits .and .i64 ((q : Int) / 2 ^ k) 1 = 0 := hbt
        have HS2 : Hid (cdF cap L (dpT cap L s) q (k + 1) = ⟨a, b⟩) := Lib.hid HS.out
        clear hbt htb HS
        go_wp2
        go_roundw
        case rel => exact ⟨k + 1, a, b, by omega, by go_num, rfl, rfl, HS2, ha, hb, HBI⟩
        case measure => simp [intOf]; omega
      case true =>
      rw [htb] at hbt HS
      have hbt2 : bits .and .i64 ((q : Int) / 2 ^ k) 1 = 1 := hbt
      obtain ⟨x1, x2, x3⟩ := bit_at hq1024 hk10 htb
      have hxo : bits .xor .i64 (q : Int) ((2 : Int) ^ k) = ((q - 2 ^ k : Nat) : Int) := by
        rw [pow_int, xorF q (2 ^ k) (by omega) (by omega), x1]
      have hps : q - 2 ^ k ≤ s := by have := HQ.out; have := Nat.two_pow_pos k; omega
      obtain ⟨p, hp⟩ : ∃ p, q - 2 ^ k = p := ⟨_, rfl⟩
      have HCD : Hid (cdP cap L (dpT cap L s) q k = stp cap (L.getD k 0) (dpT cap L s p)) := Lib.hid (by unfold cdP; rw [hp])
      rw [hp] at hxo hps
      have hpP : p < P := by have := HQ.out; omega
      have hpI : (p : Int) < (P : Int) := by omega
      have hvU := HU2.out.cellAt p (by omega)
      rw [List.getElem?_map, List.getElem?_eq_getElem (by rw [rwT_len]; exact hpP), rwT_get] at hvU
      have hvL := HL2.out.cellAt p (by omega)
      rw [List.getElem?_map, List.getElem?_eq_getElem (by rw [rwT_len]; exact hpP), rwT_get] at hvL
      have h10b := dpT_ten HT.out (s := s) (x := p) (by rw [HN.out, HP.out]; have := HQ.out; omega) (by rw [HN.out, HP.out]; exact hpP)
      have hin := dpT_in HT.out s p
      obtain ⟨u0, l0, hul⟩ : ∃ u l, dpT cap L s p = ⟨u, l⟩ := ⟨_, _, rfl⟩
      rw [hul] at HCD hin h10b
      have vU : wr.cell? ⟨gU, p, none⟩ = some (.int .i64 u0) := by rw [hvU]; show some (Value.int .i64 (dpT cap L s p).u) = _; rw [hul]
      have vL : wr.cell? ⟨gL, p, none⟩ = some (.int .i64 l0) := by rw [hvL]; show some (Value.int .i64 (dpT cap L s p).l) = _; rw [hul]
      have hgU : gU < wr.heap.size := (HU2.out.lt gU rfl).2
      have hgL : gL < wr.heap.size := (HL2.out.lt gL rfl).2
      have hks : k < L.length := by have := HN.out; omega
      obtain ⟨ad, rfl, had, hcx⟩ := ints_at (HRL.out.moved HB2.out) hks
      have hrr := HT.out.2.2 k hks
      have hgd : L.getD k 0 = L[k]'hks := by rw [List.getD_eq_getElem?_getD, List.getElem?_eq_getElem hks]; rfl
      obtain ⟨r, hr⟩ : ∃ r, L[k]'hks = r := ⟨_, rfl⟩
      rw [hgd, hr] at hrr HCD
      rw [hr] at hcx
      obtain ⟨hu0, hl0, hl1⟩ := hin
      dsimp only at hu0 hl0 hl1 h10b
      have HS3 : Hid (cdF cap L (dpT cap L s) q (k + 1) = btr (stp cap r ⟨u0, l0⟩) ⟨a, b⟩) := Lib.hid (by rw [HS.out, if_pos rfl, HCD.out])
      clear HS HCD hbt htb hvU hvL hul hgd hr hks x1 x2 x3 hp hq1024 hk10
      by_cases hov : cap < l0 + r
      case pos =>
        have HS4 : Hid (cdF cap L (dpT cap L s) q (k + 1) = btr ⟨u0 + 1, r⟩ ⟨a, b⟩) := Lib.hid (by rw [HS3.out]; unfold stp; rw [if_pos hov])
        clear HS3
        by_cases c1 : u0 + 1 < a
        case pos =>
          have HS5 : Hid (cdF cap L (dpT cap L s) q (k + 1) = ⟨u0 + 1, r⟩) := Lib.hid (by rw [HS4.out]; unfold btr lsP; rw [if_pos (by simp; omega)])
          clear HS4
          go_wp2
          go_quiet (fail)
          go_wp2
          go_roundw
          case rel => exact ⟨k + 1, u0 + 1, r, by omega, by go_num, by first | rfl | go_num, by first | rfl | go_num, HS5, by omega, by omega, Lib.hid (drewN_below HBI.out _)⟩
          case measure => simp [intOf]; omega
        case neg =>
        by_cases c2 : a = u0 + 1
        case pos =>
          have c2b : ((u0 + 1) == a) = true := by rw [c2]; simp
          by_cases c3 : r < b
          case pos =>
            have HS5 : Hid (cdF cap L (dpT cap L s) q (k + 1) = ⟨u0 + 1, r⟩) := Lib.hid (by rw [HS4.out]; unfold btr lsP; rw [if_pos (by simp; omega)])
            clear HS4
            go_wp2
            go_quiet (fail)
            go_wp2
            go_roundw
            case rel => exact ⟨k + 1, u0 + 1, r, by omega, by go_num, by first | rfl | go_num, by first | rfl | go_num, HS5, by omega, by omega, Lib.hid (drewN_below HBI.out _)⟩
            case measure => simp [intOf]; omega
          case neg =>
            have HS5 : Hid (cdF cap L (dpT cap L s) q (k + 1) = ⟨a, b⟩) := Lib.hid (by rw [HS4.out]; unfold btr lsP; rw [if_neg (by simp; omega)])
            clear HS4
            go_wp2
            go_quiet (fail)
            go_wp2
            go_roundw
            case rel => exact ⟨k + 1, a, b, by omega, by go_num, by first | rfl | go_num, by first | rfl | go_num, HS5, by omega, by omega, Lib.hid (drewN_below HBI.out _)⟩
            case measure => simp [intOf]; omega
        case neg =>
          have c2b : ((u0 + 1) == a) = false := beq_eq_false_iff_ne.2 (fun e => c2 e.symm)
          have HS5 : Hid (cdF cap L (dpT cap L s) q (k + 1) = ⟨a, b⟩) := Lib.hid (by rw [HS4.out]; unfold btr lsP; rw [if_neg (by simp; omega)])
          clear HS4
          go_wp2
          go_quiet (fail)
          go_wp2
          go_roundw
          case rel => exact ⟨k + 1, a, b, by omega, by go_num, by first | rfl | go_num, by first | rfl | go_num, HS5, by omega, by omega, Lib.hid (drewN_below HBI.out _)⟩
          case measure => simp [intOf]; omega
      case neg =>
        have HS4 : Hid (cdF cap L (dpT cap L s) q (k + 1) = btr ⟨u0, l0 + r⟩ ⟨a, b⟩) := Lib.hid (by rw [HS3.out]; unfold stp; rw [if_neg hov])
        clear HS3
        by_cases c1 : u0 < a
        case pos =>
          have HS5 : Hid (cdF cap L (dpT cap L s) q (k + 1) = ⟨u0, l0 + r⟩) := Lib.hid (by rw [HS4.out]; unfold btr lsP; rw [if_pos (by simp; omega)])
          clear HS4
          go_wp2
          go_quiet (fail)
          go_wp2
          go_roundw
          case rel => exact ⟨k + 1, u0, l0 + r, by omega, by go_num, by first | rfl | go_num, by first | rfl | go_num, HS5, by omega, by omega, Lib.hid (drewN_below HBI.out _)⟩
          case measure => simp [intOf]; omega
        case neg =>
        by_cases c2 : a = u0
        case pos =>
          have c2b : ((u0) == a) = true := by rw [c2]; simp
          by_cases c3 : l0 + r < b
          case pos =>
            have HS5 : Hid (cdF cap L (dpT cap L s) q (k + 1) = ⟨u0, l0 + r⟩) := Lib.hid (by rw [HS4.out]; unfold btr lsP; rw [if_pos (by simp; omega)])
            clear HS4
            go_wp2
            go_quiet (fail)
            go_wp2
            go_roundw
            case rel => exact ⟨k + 1, u0, l0 + r, by omega, by go_num, by first | rfl | go_num, by first | rfl | go_num, HS5, by omega, by omega, Lib.hid (drewN_below HBI.out _)⟩
            case measure => simp [intOf]; omega
          case neg =>
            have HS5 : Hid (cdF cap L (dpT cap L s) q (k + 1) = ⟨a, b⟩) := Lib.hid (by rw [HS4.out]; unfold btr lsP; rw [if_neg (by simp; omega)])
            clear HS4
            go_wp2
            go_quiet (fail)
            go_wp2
            go_roundw
            case rel => exact ⟨k + 1, a, b, by omega, by go_num, by first | rfl | go_num, by first | rfl | go_num, HS5, by omega, by omega, Lib.hid (drewN_below HBI.out _)⟩
            case measure => simp [intOf]; omega
        case neg =>
          have c2b : ((u0) == a) = false := beq_eq_false_iff_ne.2 (fun e => c2 e.symm)
          have HS5 : Hid (cdF cap L (dpT cap L s) q (k + 1) = ⟨a, b⟩) := Lib.hid (by rw [HS4.out]; unfold btr lsP; rw [if_neg (by simp; omega)])
          clear HS4
          go_wp2
          go_quiet (fail)
          go_wp2
          go_roundw
          case rel => exact ⟨k + 1, a, b, by omega, by go_num, by first | rfl | go_num, by first | rfl | go_num, HS5, by omega, by omega, Lib.hid (drewN_below HBI.out _)⟩
          case measure => simp [intOf]; omega
end Go.Proofs.YtlgkjidginibdaaDoor
