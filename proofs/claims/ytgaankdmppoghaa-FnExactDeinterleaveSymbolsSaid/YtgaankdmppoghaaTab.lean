/- Contracts: tables of symbols read by columns and by rows: both sides. No condition but those typed. -/
import Derived.Test.YtgaankdmppoghaaSymV
import Derived.Test.YtgaankdmppoghaaTurn
import Derived.Test.YtgaankdmppoghaaApd
import Derived.RegionTactic
import Derived.ChangeAlike
namespace Go.Proofs.Ytgaankdmppoghaa
open Go.ChangeShapes Go.WideShapes Go.ChangeAt Go.RowKit

def tabB (zs : List Int) (r : Int) : Bool := inB r 1 8 && decide (zs.length ≤ 120) && decide ((zs.length : Int) % r = 0) && zs.all symB
theorem tab_true {zs : List Int} {r : Int} (h : tabB zs r = true) : ∃ R C : Nat, r = (R : Int) ∧ 1 ≤ R ∧ R ≤ 8 ∧ zs.length = R * C ∧ zs.length ≤ 120 := by
  unfold tabB at h
  simp only [Bool.and_eq_true, decide_eq_true_eq] at h
  obtain ⟨⟨⟨h1, h2⟩, h3⟩, _⟩ := h
  have hb := inB_true h1
  obtain ⟨R, rfl⟩ : ∃ R : Nat, r = (R : Int) := ⟨r.toNat, by omega⟩
  have h4 : zs.length % R = 0 := by exact_mod_cast h3
  exact ⟨R, zs.length / R, rfl, by omega, by omega, by rw [Nat.mul_comm]; exact (Nat.div_mul_cancel (Nat.dvd_of_mod_eq_zero h4)).symm, h2⟩
theorem tab_no {zs : List Int} {r : Int} (h : r < 1 ∨ 8 < r ∨ 120 < zs.length ∨ (zs.length : Int) % r ≠ 0 ∨ zs.all symB = false) : tabB zs r = false := by
  cases h2 : tabB zs r with
  | false => rfl
  | true =>
    unfold tabB at h2
    simp only [Bool.and_eq_true, decide_eq_true_eq] at h2
    obtain ⟨⟨⟨h3, h4⟩, h5⟩, h6⟩ := h2
    have := inB_true h3
    rcases h with h | h | h | h | h
    · omega
    · omega
    · omega
    · exact absurd h5 h
    · rw [h6] at h; exact absurd h (by decide)
theorem tab_rest {zs : List Int} {r : Int} (h1 : 1 ≤ r) (h2 : r ≤ 8) (h3 : zs.length ≤ 120) (h4 : (zs.length : Int) % r = 0) : tabB zs r = zs.all symB := by
  unfold tabB; rw [inB_mk h1 h2, decide_eq_true h3, decide_eq_true h4]; simp

theorem iTab (A : Option Addr) (n c : Nat) (zs : List Int) (r : Int) (w : World) (hn : zs.length = n) (hs : n ≤ 1048576) (hr : Rd w w.heap.size A (zs.map (Value.int .i64))) :
    Calls Try.prog 80 #[.slice A n c, .int .i64 r] w fun e w' => e = .returned (.bool (tabB zs r)) ∧ w = w' := by
  have CS := Lib.hid (iSyms A n c zs w hn hs hr)
  by_cases h1 : 1 ≤ r
  case neg =>
    rw [tab_no (.inl (by omega))]
    have q : decide (1 ≤ r) = false := decide_eq_false h1
    clear h1 hn
    go_enter Try.func80, Try.ntmps80
    go_wp2
    go_ret
    exact ⟨rfl, rfl⟩
  case pos =>
  by_cases h2 : r ≤ 8
  case neg =>
    rw [tab_no (.inr (.inl (by omega)))]
    have q : decide (r ≤ 8) = false := decide_eq_false h2
    clear h2 hn
    go_enter Try.func80, Try.ntmps80
    go_wp2
    go_ret
    exact ⟨rfl, rfl⟩
  case pos =>
  by_cases h3 : n ≤ 120
  case neg =>
    rw [tab_no (.inr (.inr (.inl (by omega))))]
    have q : decide ((n : Int) ≤ 120) = false := decide_eq_false (by omega)
    clear h3 hn
    go_enter Try.func80, Try.ntmps80
    go_wp2
    go_ret
    exact ⟨rfl, rfl⟩
  case pos =>
  have h3' : (n : Int) ≤ 120 := by omega
  by_cases h4 : (n : Int) % r = 0
  case neg =>
    rw [tab_no (.inr (.inr (.inr (.inl (by rw [hn]; exact h4)))))]
    have q : ((n : Int) % r == 0) = false := by simpa using h4
    clear h4 hn
    go_enter Try.func80, Try.ntmps80
    go_wp2
    go_ret
    exact ⟨rfl, rfl⟩
  case pos =>
  rw [tab_rest h1 h2 (by omega) (by rw [hn]; exact h4)]
  have q : ((n : Int) % r == 0) = true := by simpa using h4
  obtain ⟨b, hb⟩ : ∃ b, zs.all symB = b := ⟨_, rfl⟩
  rw [hb] at CS ⊢
  clear h4 hn hb
  go_enter Try.func80, Try.ntmps80
  go_wp2_with fail
  refine CS.out.mono ?_
  rintro e w' ⟨rfl, rfl⟩
  go_wp2
  go_ret
  exact ⟨rfl, rfl⟩
theorem sTab_ (A : Option Addr) (n c : Nat) (zs : List Int) (r : Int) (w : World) (hn : zs.length = n) (hs : n ≤ 1048576) (hr : Rd w w.heap.size A (zs.map (Value.int .i64))) :
    Calls Try.prog 78 #[.slice A n c, .int .i64 r] w fun e w' => e = .returned (.bool (tabB zs r)) ∧ w = w' := by
  have CS := Lib.hid (sSyms A n c zs w hn hs hr)
  have CI := Lib.hid (fun W => in_ r 1 8 W)
  by_cases h3 : n ≤ 120
  case neg =>
    rw [tab_no (.inr (.inr (.inl (by omega))))]
    have q : decide ((n : Int) ≤ 120) = false := decide_eq_false (by omega)
    clear h3 hn
    go_enter Try.func78, Try.ntmps78
    go_wp2
    go_ret
    exact ⟨rfl, rfl⟩
  case pos =>
  have h3' : (n : Int) ≤ 120 := by omega
  obtain ⟨b, hb⟩ : ∃ b, zs.all symB = b := ⟨_, rfl⟩
  rw [hb] at CS
  cases b
  case false =>
    rw [tab_no (.inr (.inr (.inr (.inr hb))))]
    clear hb hn
    go_enter Try.func78, Try.ntmps78
    go_wp2_with fail
    refine CS.out.mono ?_
    rintro e w' ⟨rfl, rfl⟩
    go_wp2
    go_ret
    exact ⟨rfl, rfl⟩
  case true =>
  by_cases h1 : 1 ≤ r ∧ r ≤ 8
  case neg =>
    rw [tab_no (by omega)]
    rw [inB_no (by omega)] at CI
    clear hb hn h1
    go_enter Try.func78, Try.ntmps78
    go_wp2_with fail
    refine CS.out.mono ?_
    rintro e w' ⟨rfl, rfl⟩
    go_wp2_with fail
    refine (CI.out _).mono ?_
    rintro e w' ⟨rfl, rfl⟩
    go_wp2
    go_ret
    exact ⟨rfl, rfl⟩
  case pos =>
  obtain ⟨h1, h2⟩ := h1
  rw [inB_mk h1 h2] at CI
  by_cases h4 : (n : Int) % r = 0
  case neg =>
    rw [tab_no (.inr (.inr (.inr (.inl (by rw [hn]; exact h4)))))]
    have q : ((n : Int) % r == 0) = false := by simpa using h4
    clear h4 hn hb
    go_enter Try.func78, Try.ntmps78
    go_wp2_with fail
    refine CS.out.mono ?_
    rintro e w' ⟨rfl, rfl⟩
    go_wp2_with fail
    refine (CI.out _).mono ?_
    rintro e w' ⟨rfl, rfl⟩
    go_wp2
    go_ret
    exact ⟨rfl, rfl⟩
  case pos =>
  rw [tab_rest h1 h2 (by omega) (by rw [hn]; exact h4), hb]
  have q : ((n : Int) % r == 0) = true := by simpa using h4
  clear h4 hn hb
  go_enter Try.func78, Try.ntmps78
  go_wp2_with fail
  refine CS.out.mono ?_
  rintro e w' ⟨rfl, rfl⟩
  go_wp2_with fail
  refine (CI.out _).mono ?_
  rintro e w' ⟨rfl, rfl⟩
  go_wp2
  go_ret
  exact ⟨rfl, rfl⟩

theorem own_empty_ (W : World) {B : Nat} (hB : B ≤ W.heap.size) (E : TypeId) (s : Nat) : (W.alloc (.cells #[] E)).ownsRow B E s (.slice (some ⟨W.heap.size, 0, none⟩) 0 0) 0 [] := by
  have := World.ownsRow_lit (base := B) (e := E) (size := s) W #[] 0 hB (by unfold maxLen; omega) (by simp)
  simpa using this
theorem getD_get {zs : List Int} {k : Nat} (h : k < zs.length) : zs[k] = zs.getD k 0 := by
  rw [List.getD_eq_getElem?_getD, List.getElem?_eq_getElem h]; rfl

set_option maxHeartbeats 4000000 in
set_option maxRecDepth 100000 in
theorem sTurn (A : Option Addr) (n c : Nat) (zs : List Int) (R C : Nat) (w : World) (hn : zs.length = n) (hs : n ≤ 1048576) (hrc : n = R * C) (hR : R ≤ 1048576) (hC : C ≤ 1048576) (hr : Rd w w.heap.size A (zs.map (Value.int .i64))) :
    Calls Try.prog 79 #[.slice A n c, .int .i64 R, .int .i64 C] w (Ans1 3 1 ((turnL R C zs n).map (Value.int .i64)) n (fun v => v) w) := by
  have HN := Lib.hid hn; have HR := Lib.hid hr; have HRC := Lib.hid hrc
  clear hn hr hrc
  go_enter Try.func79, Try.ntmps79
  go_wp2
  go_loopw [7, 8] (fun v k' wr => ∃ (k : Nat) (A1 : Option Addr) (c1 N : Nat), k ≤ C ∧ N ≤ n ∧ k' = .int .i64 k ∧ v = .slice A1 N c1 ∧ Hid (N = k * R) ∧ Hid (wr.ownsRow w.heap.size 3 1 (.slice A1 N c1) N ((turnL R C zs N).map (Value.int .i64))) ∧ Hid (Below w.heap.size w wr)) (fun _ k _ => C - (intOf k).toNat)
  case atStart => exact ⟨0, _, 0, 0, Nat.zero_le _, Nat.zero_le _, rfl, rfl, Lib.hid (by omega), Lib.hid (own_empty_ w (Nat.le_refl _) 3 1), Lib.hid ((Below.refl _ _).alloc (Nat.le_refl _) _)⟩
  case round =>
    obtain ⟨k, A1, c1, N, hk, hNn, rfl, rfl, HNK, HO, HB⟩ := hrel
    by_cases hlt : k < C
    case neg =>
      obtain rfl : k = C := by omega
      obtain rfl : N = n := by rw [HNK.out, HRC.out, Nat.mul_comm]
      go_wp2
      go_ret
      exact ⟨A1, c1, rfl, HO.out, HB.out⟩
    case pos =>
    obtain ⟨wo, rfl⟩ : ∃ wo : World, wo = wr := ⟨_, rfl⟩
    go_wp2
    go_loopw [7, 9] (fun v i' wr => ∃ (i : Nat) (A2 : Option Addr) (c2 M : Nat), i ≤ R ∧ M ≤ n ∧ i' = .int .i64 i ∧ v = .slice A2 M c2 ∧ Hid (M = k * R + i) ∧ Hid (wr.ownsRow w.heap.size 3 1 (.slice A2 M c2) M ((turnL R C zs M).map (Value.int .i64))) ∧ Hid (Below w.heap.size w wr)) (fun _ i _ => R - (intOf i).toNat)
    case atStart => exact ⟨0, A1, c1, N, Nat.zero_le _, hNn, rfl, rfl, Lib.hid (by rw [HNK.out, Nat.add_zero]), HO, HB⟩
    case round =>
      obtain ⟨i, A2, c2, M, hi, hMn, rfl, rfl, HM, HO2, HB2⟩ := hrel
      by_cases hil : i < R
      case neg =>
        obtain rfl : i = R := by omega
        have HM2 : Hid (M = (k + 1) * i) := Lib.hid (by rw [HM.out, Nat.succ_mul])
        go_wp2
        go_roundw
        case rel => exact ⟨k + 1, A2, c2, M, by omega, hMn, by go_num, rfl, HM2, HO2, HB2⟩
        case measure => simp [intOf]; omega
      case pos =>
      have hnat : i * C + k < n := by
        have h3 : (i + 1) * C ≤ R * C := Nat.mul_le_mul_right C hil
        rw [Nat.succ_mul] at h3
        have := HRC.out
        omega
      have hMl : M < n := by
        have h3 : (k + 1) * R ≤ C * R := Nat.mul_le_mul_right R hlt
        rw [Nat.succ_mul, Nat.mul_comm C R] at h3
        have := HRC.out; have := HM.out
        omega
      have p0 : 0 ≤ (i : Int) * (C : Int) := Int.mul_nonneg (by omega) (by omega)
      have p1 : (i : Int) * (C : Int) + (k : Int) < n := by exact_mod_cast hnat
      have hks : i * C + k < zs.length := by have := HN.out; omega
      obtain ⟨ad, rfl, _, f0⟩ := (HR.out.over HB2.out).got (k := i * C + k) (by simpa using hks)
      simp only [List.getElem_map] at f0
      have hst := turn_step (k := k) (C := C) zs hil
      rw [← getD_get hks] at hst
      obtain ⟨z, hz⟩ : ∃ z, zs[i * C + k]'hks = z := ⟨_, rfl⟩
      rw [hz] at f0 hst
      rw [← HM.out] at hst
      have HST := Lib.hid hst
      clear hz hst
      go_wp2_with (at_builtin; refine wp_app rfl (.tmp 21) (.tmp 30) 35 3 rfl w.heap.size Try.underlying35 Try.inf_int rfl (by decide) (by decide) _ M _ rfl (HO2.out.alloc _) _ _ [.int .i64 z] rfl rfl (news1 (by simp [go_sem])) (news_int _) (by omega) (by have := HB2.out.size; simp; omega) ?_)
      intro A3 c3 N3 w3 hN3 ho3 hg3 hl3
      subst hN3
      have e : (turnL R C zs M).map (Value.int .i64) ++ [.int .i64 z] = (turnL R C zs (M + 1)).map (Value.int .i64) := by rw [HST.out, List.map_append]; rfl
      rw [e] at ho3
      have HO3 := Lib.hid ho3
      have HB3 := Lib.hid ((HB2.out.alloc HB2.out.size (Obj.cells #[.int .i64 z] 3)).grown hg3 (by have := HB2.out.size; simp; omega) (fun g h => ((HO2.out.alloc (Obj.cells #[.int .i64 z] 3)).lt g h).1))
      clear ho3 hg3 hl3 e f0 p0 p1
      go_wp2
      go_roundw
      case rel => exact ⟨i + 1, A3, c3, M + 1, by omega, by omega, by go_num, rfl, Lib.hid (by rw [HM.out, Nat.add_assoc]), HO3, HB3⟩
      case measure => simp [intOf]; omega
end Go.Proofs.Ytgaankdmppoghaa
