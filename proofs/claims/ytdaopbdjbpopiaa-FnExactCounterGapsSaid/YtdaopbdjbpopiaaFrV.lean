/- Contracts: lists of bytes, valid frames: both sides. No condition but those typed. -/
import Derived.Test.YtdaopbdjbpopiaaInts
import Derived.Test.YtdaopbdjbpopiaaAll
namespace Go.Proofs.Ytdaopbdjbpopiaa
open Go.ChangeShapes Go.WideShapes Go.ChangeAt Go.RowKit

def bytB (x : Int) : Bool := inB x 0 255
theorem rd_newF {W : World} {n : Nat} (hn : W.heap.size = n) (xs : List Value) (T : TypeId) : Rd (W.alloc (.cells xs.toArray T)) (W.alloc (.cells xs.toArray T)).heap.size (some ⟨n, 0, none⟩) xs := by
  subst hn
  intro k u hu
  refine ⟨_, rfl, by simp, ?_⟩
  have e : (⟨W.heap.size, 0, none⟩ : Addr).add k = ⟨W.heap.size, k, none⟩ := by unfold Addr.add; by_cases h : k = 0 <;> simp [h]
  rw [e]
  have := cell_of_row (W.alloc (.cells xs.toArray T)) W.heap.size k xs.toArray T (0, 0) (heap_alloc_new W _)
  rw [this]; simpa using hu
theorem rd_f1 {W : World} {n : Nat} (hn : W.heap.size = n) (a : Int) (T : TypeId) : Rd (W.alloc (.cells #[.int .i64 a] T)) (W.alloc (.cells #[.int .i64 a] T)).heap.size (some ⟨n, 0, none⟩) ([a].map (Value.int .i64)) := rd_newF hn [.int .i64 a] T
/-- impl.areBytes of a slice, nil let in. -/
theorem iByts (A : Option Addr) (n c : Nat) (zs : List Int) (w : World) (hn : zs.length = n) (hs : n ≤ 1048576) (hr : Rd w w.heap.size A (zs.map (Value.int .i64))) :
    Calls Try.prog 204 #[.slice A n c] w fun e w' => e = .returned (.bool (zs.all bytB)) ∧ w = w' := by
  have HN := Lib.hid hn; clear hn
  obtain ⟨R, hR⟩ : ∃ r, zs.all bytB = r := ⟨_, rfl⟩
  rw [hR]
  have HR := Lib.hid hR; clear hR
  go_enter Try.func204, Try.ntmps204
  go_wp2
  go_loop [7] (fun i => ∃ k : Nat, k ≤ n ∧ i = .int .i64 k ∧ Hid ((zs.take k).all bytB = true)) (fun i => n - (intOf i).toNat)
  case atStart => exact ⟨0, Nat.zero_le _, rfl, Lib.hid all_zero⟩
  case round =>
    obtain ⟨k, hk, rfl, HA⟩ := hrel
    by_cases hlt : k < n
    case neg =>
      obtain rfl : R = true := HR.out.symm.trans (all_end (n := k) (by have := HN.out; omega) HA.out)
      have hkn : ¬ (k : Int) < n := by omega
      clear hlt
      go_wp2
      go_ret
      exact ⟨rfl, rfl⟩
    case pos =>
    have hks : k < zs.length := by have := HN.out; omega
    obtain ⟨ad, rfl, _, f0⟩ := hr.got (k := k) (by simpa using hks)
    simp only [List.getElem_map] at f0
    obtain ⟨z, hz⟩ : ∃ z, zs[k]'hks = z := ⟨_, rfl⟩
    rw [hz] at f0
    by_cases hin : 0 ≤ z ∧ z ≤ 255
    · have HS : Hid ((zs.take (k + 1)).all bytB = true) := Lib.hid (all_snoc hks HA.out (by rw [hz]; exact inB_mk hin.1 hin.2))
      obtain ⟨z0, z1⟩ := hin
      have z2 : decide (255 < z) = false := decide_eq_false (by omega)
      clear hz
      go_wp2
      go_round
      case rel => exact ⟨k + 1, by omega, by go_num, HS⟩
      case measure => simp [intOf]; omega
    · obtain rfl : R = false := HR.out.symm.trans (all_no hks (by rw [hz]; exact inB_no (by omega)))
      by_cases h0 : z < 0
      · clear hz hin
        go_wp2
        go_ret
        exact ⟨rfl, rfl⟩
      · have h1 : 255 < z := by omega
        have h2 : decide (z < 0) = false := decide_eq_false h0
        clear hz hin h0
        go_wp2
        go_ret
        exact ⟨rfl, rfl⟩
theorem sByts (A : Option Addr) (n c : Nat) (zs : List Int) (w : World) (hn : zs.length = n) (hs : n ≤ 1048576) (hr : Rd w w.heap.size A (zs.map (Value.int .i64))) :
    Calls Try.prog 203 #[.slice A n c] w fun e w' => e = .returned (.bool (zs.all bytB)) ∧ w = w' := by
  have HN := Lib.hid hn; clear hn
  obtain ⟨R, hR⟩ : ∃ r, zs.all bytB = r := ⟨_, rfl⟩
  rw [hR]
  have HR := Lib.hid hR; clear hR
  go_enter Try.func203, Try.ntmps203
  go_wp2
  go_loop [3] (fun i => ∃ k : Nat, k ≤ n ∧ i = .int .i64 k ∧ Hid ((zs.take k).all bytB = true)) (fun i => n - (intOf i).toNat)
  case atStart => exact ⟨0, Nat.zero_le _, rfl, Lib.hid all_zero⟩
  case round =>
    obtain ⟨k, hk, rfl, HA⟩ := hrel
    by_cases hlt : k < n
    case neg =>
      obtain rfl : R = true := HR.out.symm.trans (all_end (n := k) (by have := HN.out; omega) HA.out)
      go_wp2
      go_ret
      exact ⟨rfl, rfl⟩
    case pos =>
    have hks : k < zs.length := by have := HN.out; omega
    obtain ⟨ad, rfl, _, f0⟩ := hr.got (k := k) (by simpa using hks)
    simp only [List.getElem_map] at f0
    obtain ⟨z, hz⟩ : ∃ z, zs[k]'hks = z := ⟨_, rfl⟩
    rw [hz] at f0
    have CI := Lib.hid (fun W => in_ z 0 255 W)
    by_cases hin : 0 ≤ z ∧ z ≤ 255
    · have HS : Hid ((zs.take (k + 1)).all bytB = true) := Lib.hid (all_snoc hks HA.out (by rw [hz]; exact inB_mk hin.1 hin.2))
      rw [inB_mk hin.1 hin.2] at CI
      clear hz hin
      go_wp2_with fail
      refine (CI.out _).mono ?_
      rintro e w' ⟨rfl, rfl⟩
      go_wp2
      go_round
      case rel => exact ⟨k + 1, by omega, by go_num, HS⟩
      case measure => simp [intOf]; omega
    · obtain rfl : R = false := HR.out.symm.trans (all_no hks (by rw [hz]; exact inB_no (by omega)))
      rw [inB_no (by omega)] at CI
      clear hz hin
      go_wp2_with fail
      refine (CI.out _).mono ?_
      rintro e w' ⟨rfl, rfl⟩
      go_wp2
      go_ret
      exact ⟨rfl, rfl⟩


def frB (st sp : Int) (zs : List Int) : Bool := inB st 0 255 && inB sp 0 11 && decide (zs.length = 12) && zs.all bytB
theorem frB_st {st sp : Int} {zs : List Int} (h : inB st 0 255 = false) : frB st sp zs = false := by unfold frB; rw [h]; rfl
theorem frB_sp {st sp : Int} {zs : List Int} (h : inB sp 0 11 = false) : frB st sp zs = false := by unfold frB; rw [h]; simp
theorem frB_len {st sp : Int} {zs : List Int} (h : zs.length ≠ 12) : frB st sp zs = false := by unfold frB; rw [decide_eq_false h]; simp
theorem frB_rest {st sp : Int} {zs : List Int} (h1 : inB st 0 255 = true) (h2 : inB sp 0 11 = true) (h3 : zs.length = 12) : frB st sp zs = zs.all bytB := by unfold frB; rw [h1, h2, decide_eq_true h3]; rfl
theorem iByt1 (a : Int) {W : World} {g c : Nat} (hr : Rd W W.heap.size (some ⟨g, 0, none⟩) ([a].map (Value.int .i64))) : Calls Try.prog 204 #[.slice (some ⟨g, 0, none⟩) 1 c] W fun e w' => e = .returned (.bool (bytB a)) ∧ W = w' := by
  have := iByts _ 1 c [a] W rfl (by omega) hr
  have e : [a].all bytB = bytB a := by simp
  rw [e] at this; exact this
theorem iPt_yes (p : Int) (w : World) (h0 : 0 ≤ p) (h1 : p ≤ 11) : Calls Try.prog 205 #[.int .i64 p] w fun e w' => e = .returned (.bool true) ∧ w = w' := by
  have h2 : decide (p < 12) = true := decide_eq_true (by omega)
  go_enter Try.func205, Try.ntmps205
  go_wp2
  go_ret
  exact ⟨rfl, rfl⟩
theorem iPt_no (p : Int) (w : World) (h : p < 0 ∨ 11 < p) : Calls Try.prog 205 #[.int .i64 p] w fun e w' => e = .returned (.bool false) ∧ w = w' := by
  by_cases h0 : p < 0
  · clear h
    go_enter Try.func205, Try.ntmps205
    go_wp2
    go_ret
    exact ⟨rfl, rfl⟩
  · have h1 : decide (p < 12) = false := decide_eq_false (by omega)
    have h2 : 0 ≤ p := by omega
    clear h h0
    go_enter Try.func205, Try.ntmps205
    go_wp2
    go_ret
    exact ⟨rfl, rfl⟩
theorem iPt (p : Int) (w : World) : Calls Try.prog 205 #[.int .i64 p] w fun e w' => e = .returned (.bool (inB p 0 11)) ∧ w = w' := by
  by_cases h : 0 ≤ p ∧ p ≤ 11
  · rw [inB_mk h.1 h.2]; exact iPt_yes p w h.1 h.2
  · rw [inB_no (by omega)]; exact iPt_no p w (by omega)
theorem iPay (A : Option Addr) (n c : Nat) (zs : List Int) (w : World) (hn : zs.length = n) (hs : n ≤ 1048576) (hr : Rd w w.heap.size A (zs.map (Value.int .i64))) :
    Calls Try.prog 206 #[.slice A n c] w fun e w' => e = .returned (.bool (decide (n = 12) && zs.all bytB)) ∧ w = w' := by
  have CB := Lib.hid (iByts A n c zs w hn hs hr)
  clear hn hr
  by_cases h12 : n = 12
  · subst h12
    rw [decide_eq_true rfl, Bool.true_and]
    obtain ⟨b, hb⟩ : ∃ b, zs.all bytB = b := ⟨_, rfl⟩
    rw [hb] at CB ⊢
    clear hb
    go_enter Try.func206, Try.ntmps206
    go_wp2_with fail
    refine CB.out.mono ?_
    rintro e w' ⟨rfl, rfl⟩
    go_wp2
    go_ret
    exact ⟨rfl, rfl⟩
  · rw [decide_eq_false h12, Bool.false_and]
    have q : ((n : Int) == 12) = false := by have : ¬ (n : Int) = 12 := by omega
                                             simpa using this
    clear h12
    go_enter Try.func206, Try.ntmps206
    go_wp2
    go_ret
    exact ⟨rfl, rfl⟩

set_option maxHeartbeats 2000000 in
theorem sGood (st sp : Int) (A : Option Addr) (n c : Nat) (zs : List Int) (w : World) (hn : zs.length = n) (hs : n ≤ 1048576) (hr : Rd w w.heap.size A (zs.map (Value.int .i64))) :
    Calls Try.prog 192 #[.agg #[.int .i64 st, .int .i64 sp, .slice A n c]] w (RetV (.bool (frB st sp zs)) w) := by
  have hb := (Below.refl w.heap.size w).alloc (Nat.le_refl _) (Obj.cells #[.int .i64 st, .int .i64 sp, .slice A n c] 199)
  have CB := Lib.hid (sByts A n c zs _ hn hs (hr.moved hb))
  have C1 := Lib.hid (fun W => in_ st 0 255 W)
  have C2 := Lib.hid (fun W => in_ sp 0 11 W)
  have HB := Lib.hid hb
  clear hb hr
  cases h1 : inB st 0 255
  case false =>
    rw [frB_st h1]
    rw [h1] at C1
    clear h1 hn
    go_enter Try.func192, Try.ntmps192
    go_wp2_with fail
    refine (C1.out _).mono ?_
    rintro e w' ⟨rfl, rfl⟩
    go_wp2
    go_ret
    exact retB rfl HB.out
  case true =>
  rw [h1] at C1
  cases h2 : inB sp 0 11
  case false =>
    rw [frB_sp h2]
    rw [h2] at C2
    clear h1 h2 hn
    go_enter Try.func192, Try.ntmps192
    go_wp2_with fail
    refine (C1.out _).mono ?_
    rintro e w' ⟨rfl, rfl⟩
    go_wp2_with fail
    refine (C2.out _).mono ?_
    rintro e w' ⟨rfl, rfl⟩
    go_wp2
    go_ret
    exact retB rfl HB.out
  case true =>
  rw [h2] at C2
  by_cases h12 : n = 12
  case neg =>
    rw [frB_len (by omega)]
    have q : ((n : Int) == 12) = false := by have : ¬ (n : Int) = 12 := by omega
                                             simpa using this
    clear h1 h2 hn h12
    go_enter Try.func192, Try.ntmps192
    go_wp2_with fail
    refine (C1.out _).mono ?_
    rintro e w' ⟨rfl, rfl⟩
    go_wp2_with fail
    refine (C2.out _).mono ?_
    rintro e w' ⟨rfl, rfl⟩
    go_wp2
    go_ret
    exact retB rfl HB.out
  case pos =>
  subst h12
  rw [frB_rest h1 h2 hn]
  obtain ⟨b, hb⟩ : ∃ b, zs.all bytB = b := ⟨_, rfl⟩
  rw [hb] at CB ⊢
  clear h1 h2 hn hb
  go_enter Try.func192, Try.ntmps192
  go_wp2_with fail
  refine (C1.out _).mono ?_
  rintro e w' ⟨rfl, rfl⟩
  go_wp2_with fail
  refine (C2.out _).mono ?_
  rintro e w' ⟨rfl, rfl⟩
  go_wp2_with fail
  refine CB.out.mono ?_
  rintro e w' ⟨rfl, rfl⟩
  go_wp2
  go_ret
  exact retB rfl HB.out
set_option maxHeartbeats 2000000 in
theorem iFrV (st sp : Int) (A : Option Addr) (n c : Nat) (zs : List Int) (w : World) (hn : zs.length = n) (hs : n ≤ 1048576) (hr : Rd w w.heap.size A (zs.map (Value.int .i64))) :
    Calls Try.prog 193 #[.agg #[.int .i64 st, .int .i64 sp, .slice A n c]] w (RetV (.bool (frB st sp zs)) w) := by
  have hb := ((Below.refl w.heap.size w).alloc (Nat.le_refl _) (Obj.cells #[.int .i64 st, .int .i64 sp, .slice A n c] 199)).alloc (by simp) (Obj.cells #[.int .i64 st] 3)
  have CP := Lib.hid (iPay A n c zs _ hn hs (hr.moved hb))
  have C1 : Hid (∀ (W : World) (g c : Nat), Rd W W.heap.size (some ⟨g, 0, none⟩) ([st].map (Value.int .i64)) → Calls Try.prog 204 #[.slice (some ⟨g, 0, none⟩) 1 c] W fun e w' => e = .returned (.bool (bytB st)) ∧ W = w') := Lib.hid (fun W g c h => iByt1 st h)
  have C2 := Lib.hid (fun W => iPt sp W)
  have HB := Lib.hid hb
  clear hb hr
  have hfr : frB st sp zs = (bytB st && inB sp 0 11 && (decide (n = 12) && zs.all bytB)) := by unfold frB; rw [hn, Bool.and_assoc]; rfl
  rw [hfr]
  obtain ⟨b1, h1⟩ : ∃ b, bytB st = b := ⟨_, rfl⟩
  obtain ⟨b2, h2⟩ : ∃ b, inB sp 0 11 = b := ⟨_, rfl⟩
  obtain ⟨b3, h3⟩ : ∃ b, (decide (n = 12) && zs.all bytB) = b := ⟨_, rfl⟩
  rw [h1] at C1 ⊢; rw [h2] at C2 ⊢; rw [h3] at CP ⊢
  clear hfr h1 h2 h3 hn
  cases b1
  case false =>
    go_enter Try.func193, Try.ntmps193
    go_wp2_with fail
    refine (C1.out _ _ _ (rd_f1 (by simp) st _)).mono ?_
    rintro e w' ⟨rfl, rfl⟩
    go_wp2
    go_ret
    exact retB rfl HB.out
  case true =>
  cases b2
  case false =>
    go_enter Try.func193, Try.ntmps193
    go_wp2_with fail
    refine (C1.out _ _ _ (rd_f1 (by simp) st _)).mono ?_
    rintro e w' ⟨rfl, rfl⟩
    go_wp2_with fail
    refine (C2.out _).mono ?_
    rintro e w' ⟨rfl, rfl⟩
    go_wp2
    go_ret
    exact retB rfl HB.out
  case true =>
  go_enter Try.func193, Try.ntmps193
  go_wp2_with fail
  refine (C1.out _ _ _ (rd_f1 (by simp) st _)).mono ?_
  rintro e w' ⟨rfl, rfl⟩
  go_wp2_with fail
  refine (C2.out _).mono ?_
  rintro e w' ⟨rfl, rfl⟩
  go_wp2_with fail
  refine CP.out.mono ?_
  rintro e w' ⟨rfl, rfl⟩
  go_wp2
  go_ret
  exact retB rfl HB.out
end Go.Proofs.Ytdaopbdjbpopiaa
