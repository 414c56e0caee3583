/- Contracts: tables turned by the implementation. No condition but those typed. -/
import Derived.Test.YtgaankdmppoghaaTab
namespace Go.Proofs.Ytgaankdmppoghaa
open Go.ChangeShapes Go.WideShapes Go.ChangeAt Go.RowKit

set_option maxHeartbeats 4000000 in
set_option maxRecDepth 100000 in
theorem iCols (A : Option Addr) (n c : Nat) (zs : List Int) (R C : Nat) (w : World) (hn : zs.length = n) (hs : n ≤ 120) (hrc : n = R * C) (hR1 : 1 ≤ R) (hR : R ≤ 8) (hr : Rd w w.heap.size A (zs.map (Value.int .i64))) :
    Calls Try.prog 81 #[.slice A n c, .int .i64 R] w (Ans1 3 1 ((turnL R C zs n).map (Value.int .i64)) n (fun v => v) w) := by
  obtain ⟨i0, hi, hz0, hz1, hz2⟩ := info_parts Try.inf_int
  have HN := Lib.hid hn; have HR := Lib.hid hr; have HRC := Lib.hid hrc
  have hq : (n : Int) / (R : Int) = (C : Int) := by
    have : n / R = C := by rw [hrc]; exact Nat.mul_div_cancel_left C hR1
    rw [← this]; simp
  have hC120 : C ≤ 120 := by have := Nat.le_mul_of_pos_left C hR1; omega
  clear hn hr hrc
  go_enter Try.func81, Try.ntmps81
  go_wp2_with (at_make; refine wpList_make_full _ rfl _ _ 35 rfl w.heap.size 3 i0 (.int .i64 0) 1 Try.underlying35 hi hz0 hz1 .i64 .i64 n n n rfl rfl rfl rfl (by rw [hz2]; omega) (by unfold maxLen; omega) (Nat.le_refl _) ?_)
  intro w1 hown hgrow
  have hb1 : Below w.heap.size w w1 := (Below.refl _ _).grown hgrow (Nat.le_refl _) (fun k h => by cases h)
  clear hgrow
  rw [toList_madeCells_one] at hown
  have e0 : List.replicate n (Value.int .i64 0) = (fillT R C zs 0 n).map (Value.int .i64) := by rw [fillT_zero]; simp
  have HO1 : Hid (w1.ownsRow w.heap.size 3 1 (.slice (some ⟨w.heap.size, 0, none⟩) n n) n ((fillT R C zs 0 n).map (Value.int .i64))) := Lib.hid (by rw [← e0]; exact hown)
  have HB1 := Lib.hid hb1
  clear hi hz0 hz1 hz2 hown hb1 e0
  go_wp2
  clear hq
  go_loopw [18] (fun i wr => ∃ k : Nat, k ≤ n ∧ i = .int .i64 k ∧ Hid (wr.ownsRow w.heap.size 3 1 (.slice (some ⟨w.heap.size, 0, none⟩) n n) n ((fillT R C zs k n).map (Value.int .i64))) ∧ Hid (Below w.heap.size w wr)) (fun i _ => n - (intOf i).toNat)
  case atStart => exact ⟨0, Nat.zero_le _, rfl, HO1, HB1⟩
  case round =>
    clear HO1 HB1
    obtain ⟨k, hk, rfl, HO, HB⟩ := hrel
    by_cases hlt : k < n
    case neg =>
      obtain rfl : k = n := by omega
      have HE : Hid (fillT R C zs k k = turnL R C zs k) := Lib.hid (fillT_end zs HRC.out)
      go_wp2
      go_ret
      exact ⟨_, k, rfl, by rw [← HE.out]; exact HO.out, HB.out⟩
    case pos =>
    have hks : k < zs.length := by have := HN.out; omega
    obtain ⟨ad, rfl, _, f0⟩ := (HR.out.over HB.out).got (k := k) (by simpa using hks)
    simp only [List.getElem_map] at f0
    have hd := dst_lt HRC.out hlt
    have hset := fillT_set zs HRC.out hlt
    rw [← getD_get hks] at hset
    obtain ⟨z, hz⟩ : ∃ z, zs[k]'hks = z := ⟨_, rfl⟩
    rw [hz] at f0 hset
    have hold := HO.out.cellAt (k % C * R + k / C) (by omega)
    rw [List.getElem?_map, fillT_get zs hd] at hold
    simp only [Option.map_some] at hold
    have hfz := HO.out.frozenAt (k % C * R + k / C)
    have hst := (HO.out.stored (k % C * R + k / C) (.int .i64 z)).1
    have hmap : ((fillT R C zs k n).map (Value.int .i64)).set (k % C * R + k / C) (.int .i64 z) = (fillT R C zs (k + 1) n).map (Value.int .i64) := by rw [← hset, List.map_set]
    rw [hmap] at hst
    have HST := Lib.hid hst
    have hC : 1 ≤ C := by
      have := HRC.out
      rcases Nat.eq_zero_or_pos C with h0 | h0
      · subst h0; omega
      · exact h0
    have e1 : (k : Int).tmod (C : Int) = ((k % C : Nat) : Int) := by rw [Int.ofNat_tmod]
    have e2 : (k : Int).tdiv (C : Int) = ((k / C : Nat) : Int) := by rw [Int.ofNat_tdiv]
    obtain ⟨u, hu⟩ : ∃ u, k % C = u := ⟨_, rfl⟩
    obtain ⟨v, hv⟩ : ∃ u, k / C = u := ⟨_, rfl⟩
    rw [hu, hv] at hold hfz HST hd
    rw [hu] at e1; rw [hv] at e2
    obtain ⟨o, ho⟩ : ∃ o, (if srcN R C (u * R + v) < k then zs.getD (srcN R C (u * R + v)) 0 else 0) = o := ⟨_, rfl⟩
    rw [ho] at hold
    obtain ⟨m, hm⟩ : ∃ m, u * R = m := ⟨_, rfl⟩
    rw [hm] at hold hfz HST hd
    have e3 : IntKind.i64.wrap ((u : Int) * (R : Int)) = (m : Int) := by
      rw [show (u : Int) * (R : Int) = (m : Int) by rw [← hm]; simp]
      exact IntWalk.i64_in _ (by omega)
    have e4 : IntKind.i64.wrap ((m : Int) + (v : Int)) = (m : Int) + (v : Int) := IntWalk.i64_in _ (by omega)
    have e5 : ((m : Int) + (v : Int)).toNat = m + v := by omega
    have e6 : 0 ≤ (m : Int) + (v : Int) := by omega
    have e7 : (m : Int) + (v : Int) < n := by omega
    clear hu hv hm
    clear hz hset hst hmap ho hks
    go_wp2
    go_region
    clear e1 e2 e3 e4 e5 e6 e7 hold hfz f0
    go_wp2
    go_roundw
    case rel => exact ⟨k + 1, by omega, by go_num, Lib.hid HST.out.drew, Lib.hid (HB.out.setCell (Nat.le_refl _) _).drew⟩
    case measure => simp [intOf]; omega
set_option maxHeartbeats 4000000 in
set_option maxRecDepth 100000 in
theorem iRows (A : Option Addr) (n c : Nat) (zs : List Int) (R C : Nat) (w : World) (hn : zs.length = n) (hs : n ≤ 120) (hrc : n = R * C) (hC1 : 1 ≤ C) (hC8 : C ≤ 8) (hr : Rd w w.heap.size A (zs.map (Value.int .i64))) :
    Calls Try.prog 82 #[.slice A n c, .int .i64 C] w (Ans1 3 1 ((turnL R C zs n).map (Value.int .i64)) n (fun v => v) w) := by
  obtain ⟨i0, hi, hz0, hz1, hz2⟩ := info_parts Try.inf_int
  have HN := Lib.hid hn; have HR := Lib.hid hr; have HRC := Lib.hid hrc
  have hq : (n : Int) / (C : Int) = (R : Int) := by
    have : n / C = R := by rw [hrc]; exact Nat.mul_div_cancel R hC1
    rw [← this]; simp
  have hC120 : R ≤ 120 := by have := Nat.le_mul_of_pos_right R hC1; omega
  clear hn hr hrc
  go_enter Try.func82, Try.ntmps82
  go_wp2_with (at_make; refine wpList_make_full _ rfl _ _ 35 rfl w.heap.size 3 i0 (.int .i64 0) 1 Try.underlying35 hi hz0 hz1 .i64 .i64 n n n rfl rfl rfl rfl (by rw [hz2]; omega) (by unfold maxLen; omega) (Nat.le_refl _) ?_)
  intro w1 hown hgrow
  have hb1 : Below w.heap.size w w1 := (Below.refl _ _).grown hgrow (Nat.le_refl _) (fun k h => by cases h)
  clear hgrow
  rw [toList_madeCells_one] at hown
  have e0 : List.replicate n (Value.int .i64 0) = (fillT R C zs 0 n).map (Value.int .i64) := by rw [fillT_zero]; simp
  have HO1 : Hid (w1.ownsRow w.heap.size 3 1 (.slice (some ⟨w.heap.size, 0, none⟩) n n) n ((fillT R C zs 0 n).map (Value.int .i64))) := Lib.hid (by rw [← e0]; exact hown)
  have HB1 := Lib.hid hb1
  clear hi hz0 hz1 hz2 hown hb1 e0
  go_wp2
  clear hq
  go_loopw [18] (fun i wr => ∃ k : Nat, k ≤ n ∧ i = .int .i64 k ∧ Hid (wr.ownsRow w.heap.size 3 1 (.slice (some ⟨w.heap.size, 0, none⟩) n n) n ((fillT R C zs k n).map (Value.int .i64))) ∧ Hid (Below w.heap.size w wr)) (fun i _ => n - (intOf i).toNat)
  case atStart => exact ⟨0, Nat.zero_le _, rfl, HO1, HB1⟩
  case round =>
    clear HO1 HB1
    obtain ⟨k, hk, rfl, HO, HB⟩ := hrel
    by_cases hlt : k < n
    case neg =>
      obtain rfl : k = n := by omega
      have HE : Hid (fillT R C zs k k = turnL R C zs k) := Lib.hid (fillT_end zs HRC.out)
      go_wp2
      go_ret
      exact ⟨_, k, rfl, by rw [← HE.out]; exact HO.out, HB.out⟩
    case pos =>
    have hks : k < zs.length := by have := HN.out; omega
    obtain ⟨ad, rfl, _, f0⟩ := (HR.out.over HB.out).got (k := k) (by simpa using hks)
    simp only [List.getElem_map] at f0
    have hd := dst_lt HRC.out hlt
    have hset := fillT_set zs HRC.out hlt
    rw [← getD_get hks] at hset
    obtain ⟨z, hz⟩ : ∃ z, zs[k]'hks = z := ⟨_, rfl⟩
    rw [hz] at f0 hset
    have hold := HO.out.cellAt (k % C * R + k / C) (by omega)
    rw [List.getElem?_map, fillT_get zs hd] at hold
    simp only [Option.map_some] at hold
    have hfz := HO.out.frozenAt (k % C * R + k / C)
    have hst := (HO.out.stored (k % C * R + k / C) (.int .i64 z)).1
    have hmap : ((fillT R C zs k n).map (Value.int .i64)).set (k % C * R + k / C) (.int .i64 z) = (fillT R C zs (k + 1) n).map (Value.int .i64) := by rw [← hset, List.map_set]
    rw [hmap] at hst
    have HST := Lib.hid hst
    have hR1 : 1 ≤ R := by
      have := HRC.out
      rcases Nat.eq_zero_or_pos R with h0 | h0
      · subst h0; omega
      · exact h0
    have e1 : (k : Int).tmod (C : Int) = ((k % C : Nat) : Int) := by rw [Int.ofNat_tmod]
    have e2 : (k : Int).tdiv (C : Int) = ((k / C : Nat) : Int) := by rw [Int.ofNat_tdiv]
    obtain ⟨u, hu⟩ : ∃ u, k % C = u := ⟨_, rfl⟩
    obtain ⟨v, hv⟩ : ∃ u, k / C = u := ⟨_, rfl⟩
    rw [hu, hv] at hold hfz HST hd
    rw [hu] at e1; rw [hv] at e2
    obtain ⟨o, ho⟩ : ∃ o, (if srcN R C (u * R + v) < k then zs.getD (srcN R C (u * R + v)) 0 else 0) = o := ⟨_, rfl⟩
    rw [ho] at hold
    obtain ⟨m, hm⟩ : ∃ m, u * R = m := ⟨_, rfl⟩
    rw [hm] at hold hfz HST hd
    have e3 : IntKind.i64.wrap ((u : Int) * (R : Int)) = (m : Int) := by
      rw [show (u : Int) * (R : Int) = (m : Int) by rw [← hm]; simp]
      exact IntWalk.i64_in _ (by omega)
    have e4 : IntKind.i64.wrap ((m : Int) + (v : Int)) = (m : Int) + (v : Int) := IntWalk.i64_in _ (by omega)
    have e5 : ((m : Int) + (v : Int)).toNat = m + v := by omega
    have e6 : 0 ≤ (m : Int) + (v : Int) := by omega
    have e7 : (m : Int) + (v : Int) < n := by omega
    clear hu hv hm
    clear hz hset hst hmap ho hks
    go_wp2
    go_region
    clear e1 e2 e3 e4 e5 e6 e7 hold hfz f0
    go_wp2
    go_roundw
    case rel => exact ⟨k + 1, by omega, by go_num, Lib.hid HST.out.drew, Lib.hid (HB.out.setCell (Nat.le_refl _) _).drew⟩
    case measure => simp [intOf]; omega

/-- what is read of a table, or nothing. -/
def ilvL (zs : List Int) (r : Int) : List Int := if tabB zs r then turnL r.toNat (zs.length / r.toNat) zs zs.length else []
def dlvL (zs : List Int) (r : Int) : List Int := if tabB zs r then turnL (zs.length / r.toNat) r.toNat zs zs.length else []
theorem ilv_no {zs : List Int} {r : Int} (h : tabB zs r = false) : ilvL zs r = [] ∧ dlvL zs r = [] := by unfold ilvL dlvL; rw [h]; exact ⟨rfl, rfl⟩
theorem ilv_yes {zs : List Int} {R C n : Nat} (h : tabB zs (R : Int) = true) (hR : 1 ≤ R) (hn : zs.length = n) (hrc : n = R * C) : ilvL zs R = turnL R C zs n ∧ dlvL zs R = turnL C R zs n := by
  have e : zs.length / ((R : Int)).toNat = C := by rw [hn, hrc]; exact Nat.mul_div_cancel_left C hR
  unfold ilvL dlvL; rw [h, e, hn]; exact ⟨rfl, rfl⟩
theorem ilv_len (zs : List Int) (r : Int) : (ilvL zs r).length ≤ 120 ∧ (dlvL zs r).length ≤ 120 := by
  cases h : tabB zs r with
  | false => rw [(ilv_no h).1, (ilv_no h).2]; exact ⟨Nat.zero_le _, Nat.zero_le _⟩
  | true =>
    obtain ⟨_, _, _, _, _, _, hl⟩ := tab_true h
    unfold ilvL dlvL; rw [h]; simp only [if_true]; rw [turnL_len, turnL_len]; exact ⟨hl, hl⟩

set_option maxHeartbeats 2000000 in
theorem sIlv (A : Option Addr) (n c : Nat) (zs : List Int) (r : Int) (w : World) (hn : zs.length = n) (hs : n ≤ 1048576) (hr : Rd w w.heap.size A (zs.map (Value.int .i64))) :
    Calls Try.prog 47 #[.slice A n c, .int .i64 r] w (Ans1 3 1 ((ilvL zs r).map (Value.int .i64)) (ilvL zs r).length (fun v => .tuple #[v, .bool (tabB zs r)]) w) := by
  have CT := Lib.hid (sTab_ A n c zs r w hn hs hr)
  cases h : tabB zs r
  case false =>
    rw [h] at CT
    rw [(ilv_no h).1]
    clear hn hr h
    go_enter Try.func47, Try.ntmps47
    go_wp2_with fail
    refine CT.out.mono ?_
    rintro e w' ⟨rfl, rfl⟩
    go_wp2
    go_ret2
    exact ⟨_, _, rfl, own_empty_ w (Nat.le_refl _) 3 1, (Below.refl _ _).alloc (Nat.le_refl _) _⟩
  case true =>
    rw [h] at CT
    obtain ⟨R, C, rfl, hR1, hR8, hlen, h120⟩ := tab_true h
    rw [hn] at hlen h120
    rw [(ilv_yes h hR1 hn hlen).1, turnL_len]
    have hC120 : C ≤ 120 := by have := Nat.le_mul_of_pos_left C hR1; omega
    have HN := Lib.hid hn; have HR := Lib.hid hr; have HRC := Lib.hid hlen
    have CC := Lib.hid (sTurn A n c zs R C w HN.out (by omega) HRC.out (by omega) (by omega) HR.out)
    have hq : (n : Int) / (R : Int) = (C : Int) := by
      have : n / R = C := by rw [hlen]; exact Nat.mul_div_cancel_left C hR1
      rw [← this]; simp
    obtain ⟨zz, hzz⟩ : ∃ zz, turnL R C zs n = zz := ⟨_, rfl⟩
    rw [hzz] at CC ⊢
    clear hn hr h hlen hzz
    go_enter Try.func47, Try.ntmps47
    go_wp2_with fail
    refine CT.out.mono ?_
    rintro e w' ⟨rfl, rfl⟩
    go_wp2_with fail
    refine CC.out.mono ?_
    rintro e w1 ⟨A1, c1, rfl, ho, hb1⟩
    have HO := Lib.hid ho; have HB := Lib.hid hb1
    clear ho hb1 hq
    go_wp2
    go_ret2
    exact ⟨A1, c1, rfl, HO.out, HB.out⟩
set_option maxHeartbeats 2000000 in
theorem iIlv (A : Option Addr) (n c : Nat) (zs : List Int) (r : Int) (w : World) (hn : zs.length = n) (hs : n ≤ 1048576) (hr : Rd w w.heap.size A (zs.map (Value.int .i64))) :
    Calls Try.prog 49 #[.slice A n c, .int .i64 r] w (Ans1 3 1 ((ilvL zs r).map (Value.int .i64)) (ilvL zs r).length (fun v => .tuple #[v, .bool (tabB zs r)]) w) := by
  have CT := Lib.hid (iTab A n c zs r w hn hs hr)
  cases h : tabB zs r
  case false =>
    rw [h] at CT
    rw [(ilv_no h).1]
    clear hn hr h
    go_enter Try.func49, Try.ntmps49
    go_wp2_with fail
    refine CT.out.mono ?_
    rintro e w' ⟨rfl, rfl⟩
    go_wp2
    go_ret2
    exact ⟨none, 0, rfl, World.ownsRow_nil _ _ _ _, Below.refl _ _⟩
  case true =>
    rw [h] at CT
    obtain ⟨R, C, rfl, hR1, hR8, hlen, h120⟩ := tab_true h
    rw [hn] at hlen h120
    rw [(ilv_yes h hR1 hn hlen).1, turnL_len]
    have hC120 : C ≤ 120 := by have := Nat.le_mul_of_pos_left C hR1; omega
    have HN := Lib.hid hn; have HR := Lib.hid hr; have HRC := Lib.hid hlen
    have CC := Lib.hid (iCols A n c zs R C w HN.out h120 HRC.out hR1 hR8 HR.out)
    have hq : (n : Int) / (R : Int) = (C : Int) := by
      have : n / R = C := by rw [hlen]; exact Nat.mul_div_cancel_left C hR1
      rw [← this]; simp
    obtain ⟨zz, hzz⟩ : ∃ zz, turnL R C zs n = zz := ⟨_, rfl⟩
    rw [hzz] at CC ⊢
    clear hn hr h hlen hzz
    go_enter Try.func49, Try.ntmps49
    go_wp2_with fail
    refine CT.out.mono ?_
    rintro e w' ⟨rfl, rfl⟩
    go_wp2_with fail
    refine CC.out.mono ?_
    rintro e w1 ⟨A1, c1, rfl, ho, hb1⟩
    have HO := Lib.hid ho; have HB := Lib.hid hb1
    clear ho hb1 hq
    go_wp2
    go_ret2
    exact ⟨A1, c1, rfl, HO.out, HB.out⟩
set_option maxHeartbeats 2000000 in
theorem sDlv (A : Option Addr) (n c : Nat) (zs : List Int) (r : Int) (w : World) (hn : zs.length = n) (hs : n ≤ 1048576) (hr : Rd w w.heap.size A (zs.map (Value.int .i64))) :
    Calls Try.prog 50 #[.slice A n c, .int .i64 r] w (Ans1 3 1 ((dlvL zs r).map (Value.int .i64)) (dlvL zs r).length (fun v => .tuple #[v, .bool (tabB zs r)]) w) := by
  have CT := Lib.hid (sTab_ A n c zs r w hn hs hr)
  cases h : tabB zs r
  case false =>
    rw [h] at CT
    rw [(ilv_no h).2]
    clear hn hr h
    go_enter Try.func50, Try.ntmps50
    go_wp2_with fail
    refine CT.out.mono ?_
    rintro e w' ⟨rfl, rfl⟩
    go_wp2
    go_ret2
    exact ⟨_, _, rfl, own_empty_ w (Nat.le_refl _) 3 1, (Below.refl _ _).alloc (Nat.le_refl _) _⟩
  case true =>
    rw [h] at CT
    obtain ⟨R, C, rfl, hR1, hR8, hlen, h120⟩ := tab_true h
    rw [hn] at hlen h120
    rw [(ilv_yes h hR1 hn hlen).2, turnL_len]
    have hC120 : C ≤ 120 := by have := Nat.le_mul_of_pos_left C hR1; omega
    have HN := Lib.hid hn; have HR := Lib.hid hr; have HRC := Lib.hid hlen
    have CC := Lib.hid (sTurn A n c zs C R w HN.out (by omega) (by rw [Nat.mul_comm]; exact HRC.out) (by omega) (by omega) HR.out)
    have hq : (n : Int) / (R : Int) = (C : Int) := by
      have : n / R = C := by rw [hlen]; exact Nat.mul_div_cancel_left C hR1
      rw [← this]; simp
    obtain ⟨zz, hzz⟩ : ∃ zz, turnL C R zs n = zz := ⟨_, rfl⟩
    rw [hzz] at CC ⊢
    clear hn hr h hlen hzz
    go_enter Try.func50, Try.ntmps50
    go_wp2_with fail
    refine CT.out.mono ?_
    rintro e w' ⟨rfl, rfl⟩
    go_wp2_with fail
    refine CC.out.mono ?_
    rintro e w1 ⟨A1, c1, rfl, ho, hb1⟩
    have HO := Lib.hid ho; have HB := Lib.hid hb1
    clear ho hb1 hq
    go_wp2
    go_ret2
    exact ⟨A1, c1, rfl, HO.out, HB.out⟩
set_option maxHeartbeats 2000000 in
theorem iDlv (A : Option Addr) (n c : Nat) (zs : List Int) (r : Int) (w : World) (hn : zs.length = n) (hs : n ≤ 1048576) (hr : Rd w w.heap.size A (zs.map (Value.int .i64))) :
    Calls Try.prog 51 #[.slice A n c, .int .i64 r] w (Ans1 3 1 ((dlvL zs r).map (Value.int .i64)) (dlvL zs r).length (fun v => .tuple #[v, .bool (tabB zs r)]) w) := by
  have CT := Lib.hid (iTab A n c zs r w hn hs hr)
  cases h : tabB zs r
  case false =>
    rw [h] at CT
    rw [(ilv_no h).2]
    clear hn hr h
    go_enter Try.func51, Try.ntmps51
    go_wp2_with fail
    refine CT.out.mono ?_
    rintro e w' ⟨rfl, rfl⟩
    go_wp2
    go_ret2
    exact ⟨none, 0, rfl, World.ownsRow_nil _ _ _ _, Below.refl _ _⟩
  case true =>
    rw [h] at CT
    obtain ⟨R, C, rfl, hR1, hR8, hlen, h120⟩ := tab_true h
    rw [hn] at hlen h120
    rw [(ilv_yes h hR1 hn hlen).2, turnL_len]
    have hC120 : C ≤ 120 := by have := Nat.le_mul_of_pos_left C hR1; omega
    have HN := Lib.hid hn; have HR := Lib.hid hr; have HRC := Lib.hid hlen
    have CC := Lib.hid (iRows A n c zs C R w HN.out h120 (by rw [Nat.mul_comm]; exact HRC.out) hR1 hR8 HR.out)
    have hq : (n : Int) / (R : Int) = (C : Int) := by
      have : n / R = C := by rw [hlen]; exact Nat.mul_div_cancel_left C hR1
      rw [← this]; simp
    obtain ⟨zz, hzz⟩ : ∃ zz, turnL C R zs n = zz := ⟨_, rfl⟩
    rw [hzz] at CC ⊢
    clear hn hr h hlen hzz
    go_enter Try.func51, Try.ntmps51
    go_wp2_with fail
    refine CT.out.mono ?_
    rintro e w' ⟨rfl, rfl⟩
    go_wp2_with fail
    refine CC.out.mono ?_
    rintro e w1 ⟨A1, c1, rfl, ho, hb1⟩
    have HO := Lib.hid ho; have HB := Lib.hid hb1
    clear ho hb1 hq
    go_wp2
    go_ret2
    exact ⟨A1, c1, rfl, HO.out, HB.out⟩
end Go.Proofs.Ytgaankdmppoghaa
