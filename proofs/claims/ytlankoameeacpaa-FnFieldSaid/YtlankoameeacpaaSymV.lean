/- Contracts: lists of symbols, MultiplySymbols, InverseSymbol, tables: both sides. No condition but those typed. -/
import Derived.Test.YtlankoameeacpaaSym
namespace Go.Proofs.Ytlankoameeacpaa
open Go.ChangeShapes Go.WideShapes Go.ChangeAt Go.RowKit

theorem rd_newS {W : World} {n : Nat} (hn : W.heap.size = n) (xs : List Value) (T : TypeId) : Rd (W.alloc (.cells xs.toArray T)) (W.alloc (.cells xs.toArray T)).heap.size (some ⟨n, 0, none⟩) xs := by
  subst hn
  intro k u hu
  refine ⟨_, rfl, by simp, ?_⟩
  have e : (⟨W.heap.size, 0, none⟩ : Addr).add k = ⟨W.heap.size, k, none⟩ := by unfold Addr.add; by_cases h : k = 0 <;> simp [h]
  rw [e]
  have := cell_of_row (W.alloc (.cells xs.toArray T)) W.heap.size k xs.toArray T (0, 0) (heap_alloc_new W _)
  rw [this]; simpa using hu
theorem rd_j1 {W : World} {n : Nat} (hn : W.heap.size = n) (a : Int) (T : TypeId) : Rd (W.alloc (.cells #[.int .i64 a] T)) (W.alloc (.cells #[.int .i64 a] T)).heap.size (some ⟨n, 0, none⟩) ([a].map (Value.int .i64)) := rd_newS hn [.int .i64 a] T
theorem rd_j2 {W : World} {n : Nat} (hn : W.heap.size = n) (a b : Int) (T : TypeId) : Rd (W.alloc (.cells #[.int .i64 a, .int .i64 b] T)) (W.alloc (.cells #[.int .i64 a, .int .i64 b] T)).heap.size (some ⟨n, 0, none⟩) ([a, b].map (Value.int .i64)) := rd_newS hn [.int .i64 a, .int .i64 b] T

/-- impl.areSymbols of a slice, nil let in. -/
theorem iSyms (A : Option Addr) (n c : Nat) (zs : List Int) (w : World) (hn : zs.length = n) (hs : n ≤ 1048576) (hr : Rd w w.heap.size A (zs.map (Value.int .i64))) :
    Calls Try.prog 51 #[.slice A n c] w fun e w' => e = .returned (.bool (zs.all symB)) ∧ w = w' := by
  have HN := Lib.hid hn; clear hn
  obtain ⟨R, hR⟩ : ∃ r, zs.all symB = r := ⟨_, rfl⟩
  rw [hR]
  have HR := Lib.hid hR; clear hR
  go_enter Try.func51, Try.ntmps51
  go_wp2
  go_loop [7] (fun i => ∃ k : Nat, k ≤ n ∧ i = .int .i64 k ∧ Hid ((zs.take k).all symB = true)) (fun i => n - (intOf i).toNat)
  case atStart => exact ⟨0, Nat.zero_le _, rfl, Lib.hid all_zero⟩
  case round =>
    obtain ⟨k, hk, rfl, HA⟩ := hrel
    by_cases hlt : k < n
    case neg =>
      obtain rfl : R = true := HR.out.symm.trans (all_end (n := k) (by have := HN.out; omega) HA.out)
      have hkn : ¬ (k : Int) < n := by omega
      clear hlt
      go_wp2
      go_ret
      exact ⟨rfl, rfl⟩
    case pos =>
    have hks : k < zs.length := by have := HN.out; omega
    obtain ⟨ad, rfl, _, f0⟩ := hr.got (k := k) (by simpa using hks)
    simp only [List.getElem_map] at f0
    obtain ⟨z, hz⟩ : ∃ z, zs[k]'hks = z := ⟨_, rfl⟩
    rw [hz] at f0
    by_cases hin : 0 ≤ z ∧ z ≤ 15
    · have HS : Hid ((zs.take (k + 1)).all symB = true) := Lib.hid (all_snoc hks HA.out (by rw [hz]; exact inB_mk hin.1 hin.2))
      obtain ⟨z0, z1⟩ := hin
      have z2 : z < 16 := by omega
      clear hz z1
      go_wp2
      go_round
      case rel => exact ⟨k + 1, by omega, by go_num, HS⟩
      case measure => simp [intOf]; omega
    · obtain rfl : R = false := HR.out.symm.trans (all_no hks (by rw [hz]; exact inB_no (by omega)))
      by_cases h0 : z < 0
      · clear hz hin
        go_wp2
        go_ret
        exact ⟨rfl, rfl⟩
      · have h1 : 16 ≤ z := by omega
        have h2 : decide (z < 0) = false := decide_eq_false h0
        clear hz hin h0
        go_wp2
        go_ret
        exact ⟨rfl, rfl⟩
def mulB (a b : Int) : Bool := symB a && symB b
def mulI (a b : Int) : Int := if mulB a b then (mulN a.toNat b.toNat : Nat) else 0
theorem mul_no {a b : Int} (h : mulB a b = false) : mulI a b = 0 := by unfold mulI; rw [h]; rfl
theorem mul_yes {a b : Nat} (ha : a < 16) (hb : b < 16) : mulB a b = true ∧ mulI a b = (mulN a b : Nat) := by
  have h : mulB a b = true := by unfold mulB symB; rw [inB_mk (by omega) (by omega), inB_mk (by omega) (by omega)]; rfl
  exact ⟨h, by unfold mulI; rw [h]; rfl⟩
theorem sMulS (a b : Int) (w : World) : Calls Try.prog 12 #[.int .i64 a, .int .i64 b] w (RetV (.tuple #[.int .i64 (mulI a b), .bool (mulB a b)]) w) := by
  have CA := Lib.hid (fun W => in_ a 0 15 W)
  have CB := Lib.hid (fun W => in_ b 0 15 W)
  cases h1 : symB a
  case false =>
    have e : mulB a b = false := by unfold mulB; rw [h1]; rfl
    rw [mul_no e, e]
    have h1' : inB a 0 15 = false := h1
    rw [h1'] at CA
    clear h1 h1' e
    go_enter Try.func12, Try.ntmps12
    go_wp2_with fail
    refine (CA.out _).mono ?_
    rintro e w' ⟨rfl, rfl⟩
    go_wp2
    go_ret2
    exact retV rfl (Below.refl _ _)
  case true =>
  obtain ⟨x, rfl, hx⟩ := symB_nat h1
  have h1' : inB (x : Int) 0 15 = true := h1
  rw [h1'] at CA
  cases h2 : symB b
  case false =>
    have e : mulB x b = false := by unfold mulB; rw [h1, h2]; rfl
    rw [mul_no e, e]
    have h2' : inB b 0 15 = false := h2
    rw [h2'] at CB
    clear h1 h1' h2 h2' e
    go_enter Try.func12, Try.ntmps12
    go_wp2_with fail
    refine (CA.out _).mono ?_
    rintro e w' ⟨rfl, rfl⟩
    go_wp2_with fail
    refine (CB.out _).mono ?_
    rintro e w' ⟨rfl, rfl⟩
    go_wp2
    go_ret2
    exact retV rfl (Below.refl _ _)
  case true =>
  obtain ⟨y, rfl, hy⟩ := symB_nat h2
  have h2' : inB (y : Int) 0 15 = true := h2
  rw [h2'] at CB
  obtain ⟨e1, e2⟩ := mul_yes hx hy
  rw [e1, e2]
  have CM := Lib.hid (fun W => sMul x y hx hy W)
  obtain ⟨m, hm⟩ : ∃ m, mulN x y = m := ⟨_, rfl⟩
  rw [hm] at CM ⊢
  clear h1 h1' h2 h2' e1 e2 hm
  go_enter Try.func12, Try.ntmps12
  go_wp2_with fail
  refine (CA.out _).mono ?_
  rintro e w' ⟨rfl, rfl⟩
  go_wp2_with fail
  refine (CB.out _).mono ?_
  rintro e w' ⟨rfl, rfl⟩
  go_wp2_with fail
  refine (CM.out _).mono ?_
  rintro e w' ⟨rfl, rfl⟩
  go_wp2
  go_ret2
  exact retV rfl (Below.refl _ _)
theorem iSym2 (a b : Int) {W : World} {g c : Nat} (hr : Rd W W.heap.size (some ⟨g, 0, none⟩) ([a, b].map (Value.int .i64))) : Calls Try.prog 51 #[.slice (some ⟨g, 0, none⟩) 2 c] W fun e w' => e = .returned (.bool (mulB a b)) ∧ W = w' := by
  have := iSyms _ 2 c [a, b] W rfl (by omega) hr
  have e : [a, b].all symB = mulB a b := by simp [mulB]
  rw [e] at this; exact this
theorem iMulS (a b : Int) (w : World) : Calls Try.prog 11 #[.int .i64 a, .int .i64 b] w (RetV (.tuple #[.int .i64 (mulI a b), .bool (mulB a b)]) w) := by
  have CS : Hid (∀ (W : World) (g c : Nat), Rd W W.heap.size (some ⟨g, 0, none⟩) ([a, b].map (Value.int .i64)) → Calls Try.prog 51 #[.slice (some ⟨g, 0, none⟩) 2 c] W fun e w' => e = .returned (.bool (mulB a b)) ∧ W = w') := Lib.hid (fun W g c h => iSym2 a b h)
  cases h : mulB a b
  case false =>
    rw [h] at CS
    rw [mul_no h]
    clear h
    go_enter Try.func11, Try.ntmps11
    go_wp2_with fail
    refine (CS.out _ _ _ (rd_j2 (by simp) a b _)).mono ?_
    rintro e w' ⟨rfl, rfl⟩
    go_wp2
    go_ret2
    exact retV rfl ((Below.refl _ _).alloc (Nat.le_refl _) _)
  case true =>
    rw [h] at CS
    have hh := h
    unfold mulB at hh
    simp only [Bool.and_eq_true] at hh
    obtain ⟨x, rfl, hx⟩ := symB_nat hh.1
    obtain ⟨y, rfl, hy⟩ := symB_nat hh.2
    rw [(mul_yes hx hy).2]
    have CM := Lib.hid (fun W => iMul x y hx hy W)
    obtain ⟨m, hm⟩ : ∃ m, mulN x y = m := ⟨_, rfl⟩
    rw [hm] at CM ⊢
    clear h hh hm
    go_enter Try.func11, Try.ntmps11
    go_wp2_with fail
    refine (CS.out _ _ _ (rd_j2 (by simp) _ _ _)).mono ?_
    rintro e w' ⟨rfl, rfl⟩
    go_wp2_with fail
    refine (CM.out _).mono ?_
    rintro e w' ⟨rfl, rfl⟩
    go_wp2
    go_ret2
    exact retV rfl ((Below.refl _ _).alloc (Nat.le_refl _) _)

theorem iInv (a : Nat) (ha : a < 16) (h0 : a ≠ 0) (w : World) : Calls Try.prog 55 #[.int .i64 a] w fun e w' => e = .returned (.int .i64 (invN a : Nat)) ∧ w = w' := by
  obtain ⟨i1, i2, i3, i4⟩ := inv_ok a ha h0
  obtain ⟨R, hR⟩ : ∃ r, invN a = r := ⟨_, rfl⟩
  rw [hR] at i1 i2 i3 i4 ⊢
  have H3 := Lib.hid i3; have H4 := Lib.hid i4
  clear i3 i4 hR
  go_enter Try.func55, Try.ntmps55
  go_wp2
  go_loop [3] (fun i => ∃ k : Nat, k ≤ R ∧ 1 ≤ k ∧ i = .int .i64 k) (fun i => R - (intOf i).toNat)
  case atStart => exact ⟨1, i1, by omega, rfl⟩
  case round =>
    obtain ⟨k, hk, hk1, rfl⟩ := hrel
    have CM := Lib.hid (iMul a k ha (by omega) w)
    by_cases e : k = R
    · subst e
      rw [H3.out] at CM
      go_wp2_with fail
      refine CM.out.mono ?_
      rintro e w' ⟨rfl, rfl⟩
      go_wp2
      go_ret
      exact ⟨rfl, rfl⟩
    · have hne := H4.out k (by omega) hk1
      obtain ⟨m, hm⟩ : ∃ m, mulN a k = m := ⟨_, rfl⟩
      rw [hm] at CM hne
      have q1 : ((m : Int) != 1) = true := by have : ¬ (m : Int) = 1 := by omega
                                              simpa using this
      have q2 : ((m : Int) == 1) = false := by have : ¬ (m : Int) = 1 := by omega
                                               simpa using this
      clear hne hm
      go_wp2_with fail
      refine CM.out.mono ?_
      rintro e w' ⟨rfl, rfl⟩
      go_wp2
      go_round
      case rel => exact ⟨k + 1, by omega, by omega, by go_num⟩
      case measure => simp [intOf]; omega
theorem sInv (a : Nat) (ha : a < 16) (h0 : a ≠ 0) (w : World) : Calls Try.prog 56 #[.int .i64 a] w fun e w' => e = .returned (.int .i64 (invN a : Nat)) ∧ w = w' := by
  obtain ⟨i1, i2, i3, i4⟩ := inv_ok a ha h0
  obtain ⟨R, hR⟩ : ∃ r, invN a = r := ⟨_, rfl⟩
  rw [hR] at i1 i2 i3 i4 ⊢
  have H3 := Lib.hid i3; have H4 := Lib.hid i4
  clear i3 i4 hR
  go_enter Try.func56, Try.ntmps56
  go_wp2
  go_loop [3] (fun i => ∃ k : Nat, k ≤ R ∧ 1 ≤ k ∧ i = .int .i64 k) (fun i => R - (intOf i).toNat)
  case atStart => exact ⟨1, i1, by omega, rfl⟩
  case round =>
    obtain ⟨k, hk, hk1, rfl⟩ := hrel
    have CM := Lib.hid (sMul a k ha (by omega) w)
    have hk16 : (k : Int) < 16 := by omega
    by_cases e : k = R
    · subst e
      rw [H3.out] at CM
      go_wp2_with fail
      refine CM.out.mono ?_
      rintro e w' ⟨rfl, rfl⟩
      go_wp2
      go_ret
      exact ⟨rfl, rfl⟩
    · have hne := H4.out k (by omega) hk1
      obtain ⟨m, hm⟩ : ∃ m, mulN a k = m := ⟨_, rfl⟩
      rw [hm] at CM hne
      have q2 : ((m : Int) == 1) = false := by have : ¬ (m : Int) = 1 := by omega
                                               simpa using this
      clear hne hm
      go_wp2_with fail
      refine CM.out.mono ?_
      rintro e w' ⟨rfl, rfl⟩
      go_wp2
      go_round
      case rel => exact ⟨k + 1, by omega, by omega, by go_num⟩
      case measure => simp [intOf]; omega
def invB (a : Int) : Bool := inB a 1 15
def invI (a : Int) : Int := if invB a then (invN a.toNat : Nat) else 0
theorem inv_no {a : Int} (h : invB a = false) : invI a = 0 := by unfold invI; rw [h]; rfl
theorem inv_yes {a : Nat} (h : invB a = true) : invI a = (invN a : Nat) := by unfold invI; rw [h]; rfl
theorem sInvS (a : Int) (w : World) : Calls Try.prog 15 #[.int .i64 a] w (RetV (.tuple #[.int .i64 (invI a), .bool (invB a)]) w) := by
  have CA := Lib.hid (fun W => in_ a 1 15 W)
  cases h : invB a
  case false =>
    rw [inv_no h]
    have h' : inB a 1 15 = false := h
    rw [h'] at CA
    clear h h'
    go_enter Try.func15, Try.ntmps15
    go_wp2_with fail
    refine (CA.out _).mono ?_
    rintro e w' ⟨rfl, rfl⟩
    go_wp2
    go_ret2
    exact retV rfl (Below.refl _ _)
  case true =>
    have h' : inB a 1 15 = true := h
    rw [h'] at CA
    have hb := inB_true h'
    obtain ⟨x, rfl⟩ : ∃ x : Nat, a = (x : Int) := ⟨a.toNat, by omega⟩
    rw [inv_yes h]
    have CM := Lib.hid (fun W => sInv x (by omega) (by omega) W)
    obtain ⟨m, hm⟩ : ∃ m, invN x = m := ⟨_, rfl⟩
    rw [hm] at CM ⊢
    clear h h' hb hm
    go_enter Try.func15, Try.ntmps15
    go_wp2_with fail
    refine (CA.out _).mono ?_
    rintro e w' ⟨rfl, rfl⟩
    go_wp2_with fail
    refine (CM.out _).mono ?_
    rintro e w' ⟨rfl, rfl⟩
    go_wp2
    go_ret2
    exact retV rfl (Below.refl _ _)
theorem iSym1 (a : Int) {W : World} {g c : Nat} (hr : Rd W W.heap.size (some ⟨g, 0, none⟩) ([a].map (Value.int .i64))) : Calls Try.prog 51 #[.slice (some ⟨g, 0, none⟩) 1 c] W fun e w' => e = .returned (.bool (symB a)) ∧ W = w' := by
  have := iSyms _ 1 c [a] W rfl (by omega) hr
  have e : [a].all symB = symB a := by simp
  rw [e] at this; exact this
theorem iInvS (a : Int) (w : World) : Calls Try.prog 14 #[.int .i64 a] w (RetV (.tuple #[.int .i64 (invI a), .bool (invB a)]) w) := by
  have CS : Hid (∀ (W : World) (g c : Nat), Rd W W.heap.size (some ⟨g, 0, none⟩) ([a].map (Value.int .i64)) → Calls Try.prog 51 #[.slice (some ⟨g, 0, none⟩) 1 c] W fun e w' => e = .returned (.bool (symB a)) ∧ W = w') := Lib.hid (fun W g c h => iSym1 a h)
  cases h : symB a
  case false =>
    have e : invB a = false := by have := inB_false h; exact inB_no (by omega)
    rw [h] at CS
    rw [inv_no e, e]
    clear h e
    go_enter Try.func14, Try.ntmps14
    go_wp2_with fail
    refine (CS.out _ _ _ (rd_j1 (by simp) a _)).mono ?_
    rintro e w' ⟨rfl, rfl⟩
    go_wp2
    go_ret2
    exact retV rfl ((Below.refl _ _).alloc (Nat.le_refl _) _)
  case true =>
    rw [h] at CS
    obtain ⟨x, rfl, hx⟩ := symB_nat h
    by_cases h0 : x = 0
    · subst h0
      have e : invB ((0 : Nat) : Int) = false := by decide
      rw [inv_no e, e]
      clear h e
      rw [Int.natCast_zero] at CS ⊢
      go_enter Try.func14, Try.ntmps14
      go_wp2_with fail
      refine (CS.out _ _ _ (rd_j1 (by simp) _ _)).mono ?_
      rintro e w' ⟨rfl, rfl⟩
      go_wp2
      go_ret2
      exact retV rfl ((Below.refl _ _).alloc (Nat.le_refl _) _)
    · have e : invB (x : Int) = true := inB_mk (by omega) (by omega)
      have q1 : ((x : Int) == 0) = false := by have : ¬ (x : Int) = 0 := by omega
                                               simpa using this
      rw [inv_yes e, e]
      have CM := Lib.hid (fun W => iInv x hx h0 W)
      obtain ⟨m, hm⟩ : ∃ m, invN x = m := ⟨_, rfl⟩
      rw [hm] at CM ⊢
      clear h e hm h0
      go_enter Try.func14, Try.ntmps14
      go_wp2_with fail
      refine (CS.out _ _ _ (rd_j1 (by simp) _ _)).mono ?_
      rintro e w' ⟨rfl, rfl⟩
      go_wp2_with fail
      refine (CM.out _).mono ?_
      rintro e w' ⟨rfl, rfl⟩
      go_wp2
      go_ret2
      exact retV rfl ((Below.refl _ _).alloc (Nat.le_refl _) _)
end Go.Proofs.Ytlankoameeacpaa
