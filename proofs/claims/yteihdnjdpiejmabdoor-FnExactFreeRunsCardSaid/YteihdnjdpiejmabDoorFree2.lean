/- Contracts: slices.Clone over blocks; spec.FreeRuns and impl.FreeRuns answer alike. Condition: the table of math/bits holds what Go's text lays. -/
import Derived.Test.YteihdnjdpiejmabDoorFree
import Derived.Lib.SliceRun
namespace Go.Proofs.YteihdnjdpiejmabDoor
open Go.ChangeShapes Go.WideShapes Go.ChangeAt Go.RowKit

theorem bcells_at (l : List (Nat × Nat)) (j : Nat) (v : Value) (h : (bcells l)[j]? = some v) : ∃ k, ∃ hk : k < l.length, (j = k * 2 ∧ v = .int .i64 ((l[k]).1 : Int)) ∨ (j = k * 2 + 1 ∧ v = .int .i64 ((l[k]).2 : Int)) := by
  induction l generalizing j with
  | nil => simp [bcells] at h
  | cons q r ih =>
    have e : bcells (q :: r) = .int .i64 (q.1 : Int) :: .int .i64 (q.2 : Int) :: bcells r := rfl
    rw [e] at h
    match j, h with
    | 0, h => simp at h; exact ⟨0, by simp, .inl ⟨rfl, h.symm⟩⟩
    | 1, h => simp at h; exact ⟨0, by simp, .inr ⟨rfl, h.symm⟩⟩
    | j + 2, h =>
      simp only [List.getElem?_cons_succ] at h
      obtain ⟨k, hk, h2⟩ := ih j h
      refine ⟨k + 1, by simp; omega, ?_⟩
      rcases h2 with ⟨h3, h4⟩ | ⟨h3, h4⟩
      · exact .inl ⟨by omega, by simpa using h4⟩
      · exact .inr ⟨by omega, by simpa using h4⟩
theorem bcells_one (l : List (Nat × Nat)) : ∀ u ∈ bcells l, u.oneCell' = true := by
  intro u hu
  obtain ⟨j, hj, h⟩ := List.getElem_of_mem hu
  obtain ⟨k, hk, h2⟩ := bcells_at l j u (by rw [List.getElem?_eq_getElem hj, h])
  rcases h2 with ⟨_, rfl⟩ | ⟨_, rfl⟩ <;> rfl
theorem bcells_len (l : List (Nat × Nat)) : (bcells l).length = l.length * 2 := by
  induction l with
  | nil => rfl
  | cons q r ih =>
    have e : bcells (q :: r) = .int .i64 (q.1 : Int) :: .int .i64 (q.2 : Int) :: bcells r := rfl
    rw [e, List.length_cons, List.length_cons, ih, List.length_cons]; omega

set_option maxRecDepth 100000 in
set_option maxHeartbeats 2000000 in
theorem clone_ (b n c : Nat) (l : List (Nat × Nat)) (w : World) (hz : l.length = n) (hbig : n ≤ 1000) (hc : ∀ j u, (bcells l)[j]? = some u → w.cell? ⟨b, j, none⟩ = some u) :
    Calls Tryd.prog 27 #[.slice (some ⟨b, 0, none⟩) n c] w fun e w' => ∃ v', e = .returned v' ∧ w'.ownsRow w.heap.size 29 2 v' n (bcells l) ∧ Below w.heap.size w w' := by
  obtain ⟨i0, hi, hz0_, hz1_, hz2_⟩ := info_parts Tryd.inf_Blk
  have HI := Lib.hid hi; have HZ0 := Lib.hid hz0_; have HZ1 := Lib.hid hz1_; have HZ2 := Lib.hid hz2_
  clear hi hz0_ hz1_ hz2_
  have q22 : ∀ (w : World) (a : Option Addr) (n c n' c' : Nat), (binOp .eql 22 (.slice a n c) (.slice none n' c')).run Tryd.prog w = .ok (.bool a.isNone) w := fun w a n c n' c' => Lib.run_eql_slice_nil w _ _ a n c n' c' Tryd.underlying22
  have A := Lib.hid hc
  have HN := Lib.hid hz
  have HLN := Lib.hid (bcells_len l)
  clear hc hz
  go_enter Tryd.func27, Tryd.ntmps27
  go_wp2_with (at_builtin; refine wpList_append_own _ rfl _ _ 22 rfl w.heap.size 29 i0 (.agg #[.int .i64 0, .int .i64 0]) 2 16 Tryd.underlying22 HI.out HZ0.out HZ1.out HZ2.out rfl (by decide) _ _ _ rfl (World.ownsRow_made w #[] 0 (Nat.le_refl _) (Nat.zero_le _) rfl) ⟨b, 0, none⟩ n c (bcells l) rfl ?qc1 ?qc2 ?qc3 ?qc4 ?qc5 ?qc6 ?_)
  case qc1 => rw [HLN.out, HN.out]
  case qc2 =>
    intro j u hj
    rw [Addr.add_lit, Nat.zero_add]
    exact Lib.cell?_alloc_some _ (A.out j u hj)
  case qc3 => exact bcells_one l
  case qc4 => unfold maxLen; omega
  case qc5 => omega
  case qc6 => simp
  intro v' w1 hown hgrow hnil
  go_wp2
  go_ret
  refine ⟨v', rfl, by simpa using hown, ?_⟩
  exact ((Below.refl _ w).alloc (Nat.le_refl _) _).grown hgrow (by simp) (by intro k hk; simp [Value.ownBlock] at hk; omega)

def BlkP (l : List (Nat × Nat)) (b : Bool) (w : World) (e : Ending) (w' : World) : Prop :=
  ∃ (A : Option Addr) (N c : Nat), e = .returned (.tuple #[.slice A N c, .bool b]) ∧ Hid (N = l.length) ∧ w'.ownsRow w.heap.size 29 2 (.slice A N c) N (bcells l) ∧ Below w.heap.size w w'
open Classical in
noncomputable def freeL (m : Int) : List (Nat × Nat) := if mskP m then (sp (fr m.toNat) 25).1 else []
open Classical in
noncomputable def freeB (m : Int) : Bool := decide (mskP m)
theorem free_no {m : Int} (h : ¬ mskP m) : freeL m = [] ∧ freeB m = false := by unfold freeL freeB; exact ⟨by rw [if_neg h], by simpa using h⟩
theorem free_yes {m : Nat} (h : mskP m) : freeL m = (sp (fr m) 25).1 ∧ freeB m = true := by
  have e : ((m : Int)).toNat = m := by omega
  unfold freeL freeB; exact ⟨by rw [if_pos h, e], by simpa using h⟩
theorem sp_len (f : Nat → Bool) : ∀ n, (sp f n).1.length ≤ n
  | 0 => by simp [sp]
  | n + 1 => by
    have ih := sp_len f n
    unfold sp
    split
    · simp only; omega
    · simp only
      split
      · rw [List.length_append]; simp; omega
      · omega
theorem freeL_len (m : Int) : (freeL m).length ≤ 25 := by
  unfold freeL
  split
  · exact sp_len _ 25
  · simp

set_option maxHeartbeats 1000000 in
theorem specFree (m : Int) (w : World) : Calls Tryd.prog 8 #[.int .i64 m] w (BlkP (freeL m) (freeB m) w) := by
  by_cases ha : mskP m
  case neg =>
    obtain ⟨h1, h2⟩ := free_no ha
    rw [h1, h2]
    have C := Lib.hid (fun W => mask_no m W (by unfold mskP at ha; omega))
    clear ha h1 h2
    have HE := Lib.hid (World.ownsRow_lit (base := w.heap.size) (e := 29) (size := 2) w #[] 0 (Nat.le_refl _) (by unfold maxLen; omega) rfl)
    have HBB := Lib.hid ((Below.refl w.heap.size w).alloc (Nat.le_refl _) (Obj.cells #[] 29))
    go_enter Tryd.func8, Tryd.ntmps8
    go_wp2_with fail
    refine (C.out _).mono ?_
    rintro e w' ⟨rfl, rfl⟩
    go_wp2
    go_ret2
    exact ⟨_, 0, _, rfl, Lib.hid rfl, HE.out, HBB.out⟩
  case pos =>
    obtain ⟨mn, rfl⟩ : ∃ mn : Nat, m = mn := ⟨m.toNat, by have := ha.1; omega⟩
    obtain ⟨h1, h2⟩ := free_yes ha
    rw [h1, h2]
    have C := Lib.hid (fun W => mask_yes mn W ha.1 ha.2)
    have CR := Lib.hid (fun W => specRuns mn W (by have := ha.2; omega))
    obtain ⟨l, hl⟩ : ∃ l, (sp (fr mn) 25).1 = l := ⟨_, rfl⟩
    rw [hl] at CR ⊢
    clear ha h1 h2 hl
    go_enter Tryd.func8, Tryd.ntmps8
    go_wp2_with fail
    refine (C.out _).mono ?_
    rintro e w' ⟨rfl, rfl⟩
    go_wp2_with fail
    refine (CR.out _).mono ?_
    rintro e w1 ⟨A, N, cc, rfl, HN, hown, hb1⟩
    have HO := Lib.hid hown; have HB := Lib.hid hb1
    clear hown hb1
    go_wp2
    go_ret2
    exact ⟨A, N, cc, rfl, HN, HO.out, HB.out⟩

set_option maxRecDepth 100000 in
set_option maxHeartbeats 4000000 in
theorem implFree (m : Int) (w : World) (hT : Tab w) : Calls Tryd.prog 9 #[.int .i64 m] w (BlkP (freeL m) (freeB m) w) := by
  by_cases ha : mskP m
  case neg =>
    obtain ⟨h1, h2⟩ := free_no ha
    rw [h1, h2]
    have C := Lib.hid (fun W => imask_no m W (by unfold mskP at ha; omega))
    clear ha h1 h2
    go_enter Tryd.func9, Tryd.ntmps9
    go_wp2_with fail
    refine (C.out _).mono ?_
    rintro e w' ⟨rfl, rfl⟩
    go_wp2
    go_ret2
    exact ⟨none, 0, 0, rfl, Lib.hid rfl, World.ownsRow_nil _ _ _ _, Below.refl _ _⟩
  case pos =>
  obtain ⟨mn, rfl⟩ : ∃ mn : Nat, m = mn := ⟨m.toNat, by have := ha.1; omega⟩
  obtain ⟨h1, h2⟩ := free_yes ha
  rw [h1, h2]
  have C := Lib.hid (fun W => imask_yes mn W ha.1 ha.2)
  have HM : Hid (mn ≤ 16777215) := Lib.hid (by have := ha.2; omega)
  have HTAB := Lib.hid hT
  obtain ⟨mi, hmi⟩ : ∃ mi : Int, (mn : Int) = mi := ⟨_, rfl⟩
  rw [hmi] at C ⊢
  have CR : Hid (∀ W, Tab W → Calls Tryd.prog 26 #[.int .i64 mi] W (RunsP mn W)) := Lib.hid fun W hW => by rw [← hmi]; exact freeRuns_ mn W HM.out hW
  obtain ⟨L, hLL⟩ : ∃ L, (sp (fr mn) 25).1 = L := ⟨_, rfl⟩
  rw [hLL]
  have HLL := Lib.hid hLL
  clear hmi ha h1 h2 hT hLL
  go_enter Tryd.func9, Tryd.ntmps9
  go_wp2_with fail
  refine (C.out _).mono ?_
  rintro e w' ⟨rfl, rfl⟩
  go_wp2_with fail
  refine (CR.out _ HTAB.out).mono ?_
  rintro e w1 ⟨acc, hacc, hlen, rfl, hb1⟩
  have HB1 := Lib.hid hb1
  have HACC : Hid (acc = L) := Lib.hid (by have h := HLL.out; rw [hacc] at h; exact h)
  have HL := Lib.hid hlen
  have hlen25 := rcells_len acc
  have hone := rcells_one acc
  obtain ⟨cs, hcs⟩ : ∃ cs, rcells acc = cs := ⟨_, rfl⟩
  rw [hcs] at hlen25 hone ⊢
  have HCS := Lib.hid hcs
  have hi1 : (Tryd.prog.info? 46).map (·.size) = some cs.toArray.size := by rw [List.size_toArray, hlen25]; exact Tryd.inf_Runs
  have hth : (w1.alloc (.cells zer25 46)).there w1.heap.size 0 cs.toArray.size := by
    have e25 : cs.toArray.size = 25 := by rw [List.size_toArray]; exact hlen25
    rw [e25]
    intro j hj
    rw [Nat.zero_add]
    have hg := heap_alloc_new w1 (.cells zer25 46)
    exact ⟨by rw [cell_of_row _ w1.heap.size j _ _ _ hg, zer_at j hj]; rfl, frozen_of_row _ w1.heap.size j _ _ hg⟩
  have hth2 : (w1.alloc (.cells zer25 46)).there w1.heap.size 0 cs.length := hth
  have HRG := Lib.hid (World.rangeAt_setCells_same (w1.alloc (.cells zer25 46)) w1.heap.size 0 cs hth2)
  have HI1 := Lib.hid hi1; have HTH := Lib.hid hth; have HONE := Lib.hid hone
  have HB2 := Lib.hid (below_setCells w1.heap.size w1.heap.size (Nat.le_refl _) cs 0 _ ((Below.refl _ w1).alloc (Nat.le_refl _) (.cells zer25 46)))
  clear hb1 hacc hlen25 hone hcs hi1 hth hth2
  obtain ⟨n, hn⟩ : ∃ n, acc.length = n := ⟨_, rfl⟩
  have hn12 : (n : Int) ≤ 12 := by omega
  have HN := Lib.hid hn; clear hn
  go_wp2_with (refine wpList_store_mid rfl 46 _ _ rfl w1.heap.size 0 cs.toArray rfl rfl HTH.out HI1.out HONE.out ?_; generalize hX : World.setCells _ _ _ _ = X; (have hrg : X.rangeAt w1.heap.size 0 (rcells acc) := by (rw [← hX, HCS.out]; exact HRG.out)); (have HB3 : Hid (Below w1.heap.size w1 X) := Lib.hid (by (rw [← hX]; exact HB2.out))); (have k24 := runs_laid (w := w) hrg 24 (by omega)); rw [rcell_24, HN.out] at k24; have hxs := World.block_lt_of_cell? X _ k24; have HRX := Lib.hid hrg; clear hX hrg)
  have HBX := Lib.hid (HB1.out.trans (HB3.out.mono HB1.out.size))
  clear hxs k24
  refine (clone_ w1.heap.size n _ acc X HN.out (by omega) ?_).mono ?_
  · intro j u hj
    obtain ⟨k, hk, h2⟩ := bcells_at acc j u hj
    rcases h2 with ⟨rfl, rfl⟩ | ⟨rfl, rfl⟩
    · rw [← rcell_even acc k hk HL.out]; exact runs_laid (w := w) HRX.out (k * 2) (by have := HL.out; omega)
    · rw [← rcell_odd acc k hk HL.out]; exact runs_laid (w := w) HRX.out (k * 2 + 1) (by have := HL.out; omega)
  rintro e w3 ⟨v', rfl, hown, hb3⟩
  obtain ⟨A1, c1, rfl⟩ := formOf hown
  have HO := Lib.hid (own_base hown HBX.out.size)
  have HBB := Lib.hid (HBX.out.trans (hb3.mono HBX.out.size))
  clear hown hb3
  go_wp2
  go_ret2
  exact ⟨A1, n, c1, rfl, Lib.hid (by rw [← HACC.out]; exact HN.out.symm), by rw [← HACC.out]; exact HO.out, HBB.out⟩
end Go.Proofs.YteihdnjdpiejmabDoor
