/- Contracts: which mask and count are asked for, where blocks fit: specification and implementation. No condition but those typed. -/
import Derived.Test.YtflniajjecfgeaaGreatDoorBits
import Derived.Test.YtflniajjecfgeaaGreatDoorDBase
import Derived.Laws.OwnMore
namespace Go.Proofs.YtflniajjecfgeaaGreatDoor
open Go.ChangeShapes Go.WideShapes Go.ChangeAt Go.RowKit

def askP (m c : Int) : Prop := (0 ≤ m ∧ m ≤ 16777215) ∧ 1 ≤ c ∧ c ≤ 24
/-- a list of ints in memory of the call's own. -/
def RowP (zs : List Int) (w : World) (e : Ending) (w' : World) : Prop :=
  ∃ (A : Option Addr) (N c : Nat), e = .returned (.slice A N c) ∧ Hid (N = zs.length) ∧ w'.ownsRow w.heap.size 3 1 (.slice A N c) N (zs.map (Value.int .i64)) ∧ Below w.heap.size w w'
theorem fits_no (m c : Int) (w : World) (h : ¬ askP m c) : Calls Tryz.prog 130 #[.int .i64 m, .int .i64 c] w fun e w' => e = .returned (.tuple #[.int .i64 0, .bool false]) ∧ w = w' := by
  by_cases h1 : 0 ≤ m ∧ m ≤ 16777215
  · have C1 := Lib.hid (fun W => imask_yes m W h1.1 h1.2)
    by_cases h3 : c < 1
    · clear h1 h
      go_enter Tryz.func130, Tryz.ntmps130
      go_wp2_with fail
      refine (C1.out _).mono ?_
      rintro e w' ⟨rfl, rfl⟩
      go_wp2
      go_ret2
      exact ⟨rfl, rfl⟩
    · have h4 : 24 < c := by have : ¬ c ≤ 24 := fun h4 => h ⟨h1, by omega, h4⟩
                             omega
      have h5 : 1 ≤ c := by omega
      clear h1 h h3
      go_enter Tryz.func130, Tryz.ntmps130
      go_wp2_with fail
      refine (C1.out _).mono ?_
      rintro e w' ⟨rfl, rfl⟩
      go_wp2
      go_ret2
      exact ⟨rfl, rfl⟩
  · have C1 := Lib.hid (fun W => imask_no m W (by omega))
    clear h1 h
    go_enter Tryz.func130, Tryz.ntmps130
    go_wp2_with fail
    refine (C1.out _).mono ?_
    rintro e w' ⟨rfl, rfl⟩
    go_wp2
    go_ret2
    exact ⟨rfl, rfl⟩

set_option maxHeartbeats 1000000 in
theorem fits_yes (m c : Nat) (w : World) (h : askP m c) : Calls Tryz.prog 130 #[.int .i64 (m : Int), .int .i64 (c : Int)] w fun e w' => e = .returned (.tuple #[.int .i64 (begN m (c - 1) : Int), .bool true]) ∧ w = w' := by
  obtain ⟨⟨h1, h2⟩, h3, h4⟩ := h
  have C1 := Lib.hid (fun W => imask_yes m W h1 h2)
  have HF := Lib.hid (bits_free m)
  obtain ⟨f, hf⟩ : ∃ f, freeN m = f := ⟨_, rfl⟩
  have hfl : f < 16777216 := by rw [← hf]; exact freeN_lt m
  rw [hf] at HF
  obtain ⟨r, hr⟩ : ∃ r, begN m (c - 1) = r := ⟨_, rfl⟩
  have HR := Lib.hid hr
  rw [hr]
  clear hr
  go_enter Tryz.func130, Tryz.ntmps130
  go_wp2_with fail
  refine (C1.out _).mono ?_
  rintro e w' ⟨rfl, rfl⟩
  go_wp2
  rw [HF.out]
  go_loop [7, 8] (fun b i => ∃ k : Nat, k + 1 ≤ c ∧ i = .int .i64 ((k + 1 : Nat) : Int) ∧ b = .int .i64 (begN m k : Int)) (fun _ i => c - (intOf i).toNat)
  case atStart => exact ⟨0, by omega, rfl, by rw [← hf]; rfl⟩
  case round =>
    obtain ⟨k, hk, rfl, rfl⟩ := hrel
    by_cases hlt : k + 1 < c
    · have hlt' : ((k + 1 : Nat) : Int) < (c : Int) := by omega
      have hk24 : k + 1 ≤ 24 := by omega
      have HS := Lib.hid (beg_step m k f hf)
      go_wp2
      rw [HS.out]
      exact ⟨⟨k + 1, by omega, by go_num, rfl⟩, by simp [intOf]; omega⟩
    · have hlt' : ¬ ((k + 1 : Nat) : Int) < (c : Int) := by omega
      have HE : Hid (begN m k = r) := Lib.hid (by rw [← HR.out, show c - 1 = k from by omega])
      obtain ⟨b, hb⟩ : ∃ b, begN m k = b := ⟨_, rfl⟩
      rw [hb] at HE ⊢
      obtain rfl : b = r := HE.out
      go_wp2
      go_ret2
      exact ⟨rfl, rfl⟩

set_option maxRecDepth 100000 in
set_option maxHeartbeats 4000000 in
theorem specFits (m c : Nat) (w : World) (hm : m ≤ 16777215) (h1 : 1 ≤ c) (h2 : c ≤ 24) : Calls Tryz.prog 95 #[.int .i64 (m : Int), .int .i64 (c : Int)] w (RowP (fitK m c (25 - c)) w) := by
  obtain ⟨i0, hi, hz0_, hz1_, hz2_⟩ := info_parts Tryz.inf_int
  have HI := Lib.hid hi; have HZ0 := Lib.hid hz0_; have HZ1 := Lib.hid hz1_; have HZ2 := Lib.hid hz2_
  clear hi hz0_ hz1_ hz2_
  go_enter Tryz.func95, Tryz.ntmps95
  go_wp2_with fail
  obtain ⟨W0, hW0⟩ : ∃ W0, (w.alloc (Obj.cells #[] 3)) = W0 := ⟨_, rfl⟩
  have hown0 : W0.ownsRow w.heap.size 3 1 (.slice (some ⟨w.heap.size, 0, none⟩) 0 0) 0 [] := by
    rw [← hW0]
    have := World.ownsRow_lit (base := w.heap.size) (e := 3) (size := 1) w #[] 0 (by simp) (by unfold maxLen; omega) rfl
    simpa using this
  have HB0 := Lib.hid ((Below.refl w.heap.size w).alloc (Nat.le_refl _) (Obj.cells #[] 3))
  rw [hW0] at HB0 ⊢
  clear hW0
  have HO0 := Lib.hid hown0; clear hown0
  go_loopw [5, 6] (fun v i wr => ∃ (k : Nat) (A : Option Addr) (N cc : Nat), k ≤ 25 - c ∧ i = .int .i64 k ∧ v = .slice A N cc ∧ Hid (N = (fitK m c k).length) ∧ Hid (wr.ownsRow w.heap.size 3 1 (.slice A N cc) N ((fitK m c k).map (Value.int .i64))) ∧ Below w.heap.size w wr) (fun _ i _ => 25 - c - (intOf i).toNat)
  case atStart => exact ⟨0, _, 0, _, Nat.zero_le _, rfl, rfl, Lib.hid rfl, HO0, HB0.out⟩
  case round =>
    obtain ⟨k, A, N, cc, hk, rfl, rfl, HNN, HOW, hb⟩ := hrel
    have hN : N ≤ 24 := by have := HNN.out; have := fitK_len m c k; omega
    by_cases hlt : k < 25 - c
    · have hlt' : (k : Int) + (c : Int) ≤ 24 := by omega
      have hstep := fitK_step m c k
      have HC := Lib.hid (fun W => specBits (k : Int) (c : Int) W ⟨by omega, by omega, by omega⟩)
      have HT := Lib.hid (fit_test m c k hm h2 (by omega))
      have hfb : fitB m c k = decide (m &&& ((2 ^ c - 1) * 2 ^ k) = 0) := rfl
      obtain ⟨u, hu⟩ : ∃ u, (m &&& ((2 ^ c - 1) * 2 ^ k)) = u := ⟨_, rfl⟩
      rw [hu] at HT hfb
      obtain ⟨z, hz⟩ : ∃ z, bitsV (k : Int) (c : Int) = z := ⟨_, rfl⟩
      rw [hz] at HT HC
      clear hz hu
      have hsz := hb.size
      go_wp2_with fail
      refine (HC.out _).mono ?_
      rintro e w2 ⟨rfl, hb2⟩
      have hB2 : Below w.heap.size w w2 := hb.trans (hb2.mono hb.size)
      have hown := ownB HOW.out hb2
      have hsz2 := hB2.size
      by_cases hzz : u = 0
      · rw [hfb, decide_eq_true hzz, if_pos rfl] at hstep
        have HST := Lib.hid hstep
        subst hzz
        have q := HT.out
        clear hstep hfb hb2
        go_wp2_with (at_builtin; refine wpList_append_own _ rfl _ _ 42 rfl w.heap.size 3 i0 (.int .i64 0) 1 8 Tryz.underlying42 HI.out HZ0.out HZ1.out HZ2.out rfl (by decide) _ N _ rfl (hown.alloc _) ⟨w2.heap.size, 0, none⟩ 1 1 [.int .i64 (k : Int)] rfl rfl (new_one _ _ _) (new_int _) (by unfold maxLen; omega) (by omega) (by simp; omega) ?_)
        intro v1 w3 hown1 hgrow1 _
        have hB3 : Below w.heap.size w w3 := (hB2.alloc hsz2 _).grown hgrow1 (by simp; omega) (fun g hg => (hown.lt g hg).1)
        obtain ⟨N1, hN1⟩ : ∃ N1, N + 1 = N1 := ⟨_, rfl⟩
        rw [hN1] at hown1
        obtain ⟨A1, c1', rfl⟩ := formOf hown1
        have hxs : (fitK m c k).map (Value.int .i64) ++ [.int .i64 (k : Int)] = (fitK m c (k + 1)).map (Value.int .i64) := by rw [HST.out, List.map_append]; rfl
        rw [hxs] at hown1
        have HOW1 := Lib.hid hown1
        have HN1' : Hid (N1 = (fitK m c (k + 1)).length) := Lib.hid (by rw [HST.out, List.length_append, ← HNN.out, ← hN1]; rfl)
        clear hxs hown1 hN1 hgrow1 hown hB2
        go_wp2
        go_roundw
        case rel => exact ⟨k + 1, A1, N1, c1', by omega, by go_num, rfl, HN1', HOW1, hB3⟩
        case measure => simp [intOf]; omega
      · rw [hfb, decide_eq_false hzz, if_neg Bool.false_ne_true, List.append_nil] at hstep
        have HN1' : Hid (N = (fitK m c (k + 1)).length) := Lib.hid (by rw [hstep]; exact HNN.out)
        rw [← hstep] at hown
        have HOW1 := Lib.hid hown
        have q := HT.out
        have q2 : decide ((u : Int) = 0) = false := decide_eq_false (by omega)
        have q3 : ((u : Int) == 0) = false := by simpa using hzz
        clear hstep hfb hzz hown hb2
        go_wp2
        go_roundw
        case rel => exact ⟨k + 1, A, N, cc, by omega, by go_num, rfl, HN1', HOW1, hB2⟩
        case measure => simp [intOf]; omega
    · have hkn : k = 25 - c := by omega
      have hlt' : ¬ (k : Int) + (c : Int) ≤ 24 := by omega
      have HNF : Hid (N = (fitK m c (25 - c)).length) := Lib.hid (by rw [← hkn]; exact HNN.out)
      have HOF : Hid (wr.ownsRow w.heap.size 3 1 (.slice A N cc) N ((fitK m c (25 - c)).map (Value.int .i64))) := Lib.hid (by rw [← hkn]; exact HOW.out)
      clear hlt
      go_wp2
      go_ret
      exact ⟨A, N, cc, rfl, HNF, HOF.out, hb⟩
end Go.Proofs.YtflniajjecfgeaaGreatDoor
