/- Contract of impl.freeRunsOf: the runs that the specification's pass finds, in a struct's cells. Condition: the table of math/bits holds what Go's text lays. -/
import Derived.Test.YtnbeomnlobfpfaaDoorRunL
import Derived.Deep.MidRow
namespace Go.Proofs.YtnbeomnlobfpfaaDoor
open Go.ChangeShapes Go.WideShapes Go.ChangeAt Go.RowKit

theorem results_cell_mid {P : Program} {fn : Func} {p : Tmp} {ty : TypeId} (h : fn.results = #[.cell p ty]) (tmps : Array Value) (w : World) (g : Nat) (cs : Array Value)
    (hp : tmps.getD p undef = .pointer (some ⟨g, 0, none⟩)) (hl : (loadVar ty ⟨g, 0, none⟩).run P w = .ok (.agg cs) w) :
    (results fn tmps).run P w = .ok (.agg cs) w := by
  have hp' : tmps[p]?.getD undef = .pointer (some ⟨g, 0, none⟩) := by simpa using hp
  simp [results, h, hp', asAddr, hl]
theorem below_setCells (B b : Nat) (hB : B ≤ b) {a : World} : ∀ (vs : List Value) (o : Nat) (w : World), Below B a w → Below B a (w.setCells b o vs)
  | [], _, _, h => h
  | v :: r, o, w, h => below_setCells B b hB r (o + 1) (w.setCell ⟨b, o, none⟩ v) (h.setCell (p := ⟨b, o, none⟩) hB v)
set_option maxHeartbeats 2000000 in
theorem freeRuns_ (m : Nat) (w : World) (hm : m ≤ 16777215) (hT : Tab w) : Calls Tryd.prog 101 #[.int .i64 (m : Int)] w (RunsP m w) := by
  have HF := Lib.hid (bits_free m)
  have HTAB := Lib.hid hT; clear hT
  go_enter Tryd.func101, Tryd.ntmps101
  go_wp2
  rw [HF.out]
  generalize hW : World.alloc (World.alloc w _) _ = W0
  go_loopw [4, 5, 6] (fun v _ _ wr => ∃ (x p : Nat) (acc : List (Nat × Nat)), v = .int .i64 (x : Int) ∧ RInv m (w.heap.size + 1) x p acc w wr) (fun v _ _ _ => (intOf v).toNat)
  case atStart =>
    refine ⟨freeN m, 0, [], rfl, freeN_lt m, fun i => by simp [fr], rfl, Nat.le_refl _, ?_, ?_, ?_, ?_, Nat.zero_le _, ?_⟩
    · intro j hj
      rw [rcell_nil, ← hW]
      have := cell_of_row (World.alloc (World.alloc w (.cells zer25 141)) (.cells zer25 141)) (w.heap.size + 1) j zer25 141 (0, 0) (by
        have := heap_alloc_new (World.alloc w (.cells zer25 141)) (.cells zer25 141)
        rwa [World.size_alloc] at this)
      exact this.trans (zer_at j hj)
    · intro j
      rw [← hW]
      exact frozen_of_row _ (w.heap.size + 1) j zer25 141 (by
        have := heap_alloc_new (World.alloc w (.cells zer25 141)) (.cells zer25 141)
        rwa [World.size_alloc] at this)
    · rw [← hW]; simp
    · rw [← hW]; exact ((Below.refl _ w).alloc (Nat.le_refl _) _).alloc (by simp) _
    · rw [← hW]
      exact (Below.heap_alloc _ _ _ (by simp)).trans (heap_alloc_new w _)
  case round =>
    obtain ⟨x, p, acc, rfl, hI⟩ := hrel
    by_cases hz : x = 0
    · subst hz
      obtain ⟨hxl, hbits, hsp, h2, hcells, hfrz, hG, hb, htop, hres⟩ := hI
      have HEND := Lib.hid (sp_end (fr m) p 25 acc hsp (fun i => by rw [← hbits]; simp) htop)
      have hac : acc.length ≤ 12 := by omega
      have hrg : wr.rangeAt (w.heap.size + 1) 0 (rcells acc) := by
        intro j v hv
        obtain ⟨hj, rfl⟩ := rcells_at acc j v hv
        rw [Nat.zero_add]
        exact hcells j hj
      have hth : wr.there w.heap.size 0 25 := by
        intro j hj
        rw [Nat.zero_add]
        exact ⟨by rw [cell_of_row wr w.heap.size j _ _ _ hres, zer_at j hj]; rfl, frozen_of_row wr w.heap.size j _ _ hres⟩
      have hlen := rcells_len acc
      have hone := rcells_one acc
      obtain ⟨cs, hcs⟩ : ∃ cs, rcells acc = cs := ⟨_, rfl⟩
      rw [hcs] at hrg hlen hone
      have HCS := Lib.hid hcs
      have hi1 : (Tryd.prog.info? 141).map (·.size) = some cs.length := by rw [hlen]; exact Tryd.inf_Runs
      have hi2 : (Tryd.prog.info? 141).map (·.size) = some cs.toArray.size := by rw [List.size_toArray]; exact hi1
      have hsz25 : cs.toArray.size = 25 := by rw [List.size_toArray]; exact hlen
      have hth' : wr.there w.heap.size 0 cs.toArray.size := by rw [hsz25]; exact hth
      have hth2 : wr.there w.heap.size 0 cs.length := by rw [hlen]; exact hth
      have hrl := run_loadVar_mid (P := Tryd.prog) (wr.setCells w.heap.size 0 cs) w.heap.size 0 141 cs _ (World.rangeAt_setCells_same wr w.heap.size 0 cs hth2) Tryd.underlying141 rfl hi1
      have HRL := Lib.hid hrl
      have HBS := Lib.hid (below_setCells w.heap.size w.heap.size (Nat.le_refl _) cs 0 wr hb)
      have HI1 := Lib.hid hi1; have HI2 := Lib.hid hi2; have HTH := Lib.hid hth'; have HRG := Lib.hid hrg; have HONE := Lib.hid hone; have HLEN := Lib.hid hlen
      clear hrl hth2 hsz25 hcells hfrz hbits hres hcs hi1 hi2 hth hth' hrg hone hlen hsp
      go_wp2_with (first
        | refine wpList_load_mid rfl 141 _ rfl (w.heap.size + 1) 0 rfl cs _ HRG.out Tryd.underlying141 rfl HI1.out ?_
        | refine wpList_store_mid rfl 141 _ _ rfl w.heap.size 0 cs.toArray rfl rfl HTH.out HI2.out HONE.out ?_)
      refine bodyPost_ret (v := .agg cs.toArray) (results_cell_mid (ty := 141) rfl _ _ w.heap.size _ rfl HRL.out) rfl ⟨acc, HEND.out, hac, by rw [HCS.out], HBS.out⟩
    · obtain ⟨hxl, hbits, hsp, h2, hcells, hfrz, hG, hb, htop, hres⟩ := hI
      have CL0 : ∀ W, Below w.heap.size w W → Calls Tryd.prog 104 #[.int .u64 (x : Int)] W fun e w' => e = .returned (.int .i64 (Lib.ctz 64 x : Int)) ∧ W = w' := fun W hW => tz x W (by omega) hz (HTAB.out.over hW)
      obtain ⟨hl1, hl2⟩ := low_bit x hz (by omega)
      obtain ⟨t, ht⟩ : ∃ t, Lib.ctz 64 x = t := ⟨_, rfl⟩
      rw [ht] at CL0 hl1 hl2
      have ht24 : t < 24 := by
        have := hl1
        rw [hbits] at this
        unfold fr at this
        rw [freeN_bit] at this
        simp only [Bool.and_eq_true, decide_eq_true_eq] at this
        exact this.1.1
      have hpt : p ≤ t := by
        have := hl1
        rw [hbits, Bool.and_eq_true] at this
        exact of_decide_eq_true this.2
      have hk24 := hcells 24 (by omega)
      have e24 : rcell acc 24 = (acc.length : Int) := rfl
      rw [e24] at hk24
      obtain ⟨n, hn⟩ : ∃ n, acc.length = n := ⟨_, rfl⟩
      rw [hn] at hk24 h2
      have hn11 : n ≤ 11 := by omega
      have hka := hcells (n * 2) (by omega)
      have hkb := hcells (n * 2 + 1) (by omega)
      have hfa := hfrz (n * 2); have hfb := hfrz (n * 2 + 1); have hf24 := hfrz 24
      have q3 : IntKind.u64.wrap (x : Int) = x := by rw [IntKind.wrap_u64]; omega
      have q2 : decide ((x : Int) = 0) = false := decide_eq_false (by omega)
      have q4 : ((x : Int) == 0) = false := by simpa using hz
      have CL := Lib.hid CL0
      have hsz := hb.size
      clear CL0 ht
      go_wp2_with fail
      refine (CL.out _ hb).mono ?_
      rintro e w' ⟨rfl, rfl⟩
      have ht' : (t : Int) ≤ 23 := by omega
      obtain ⟨hr1, hr2⟩ := run_len x t hxl
      have hdv : x / 2 ^ t ≤ x := Nat.div_le_self _ _
      have hy1 : 18446744073709551615 - x / 2 ^ t < 18446744073709551616 := by
        generalize x / 2 ^ t = y at hdv
        omega
      have hy2 : 18446744073709551615 - x / 2 ^ t ≠ 0 := by
        generalize x / 2 ^ t = y at hdv
        omega
      have CC0 : ∀ W, Below w.heap.size w W → Calls Tryd.prog 104 #[.int .u64 (bits BinOp.xor IntKind.u64 IntKind.u64.max (IntKind.u64.wrap ((x : Int) / 2 ^ t)))] W fun e w' => e = .returned (.int .i64 (Lib.ctz 64 (18446744073709551615 - x / 2 ^ t) : Int)) ∧ W = w' := by
        intro W hW
        have e : (x : Int) / 2 ^ t = ((x / 2 ^ t : Nat) : Int) := by simp
        rw [e, compl_u64 _ (by omega)]
        exact tz _ W hy1 hy2 (HTAB.out.over hW)
      obtain ⟨c, hc⟩ : ∃ c, Lib.ctz 64 (18446744073709551615 - x / 2 ^ t) = c := ⟨_, rfl⟩
      rw [hc] at CC0 hr1 hr2
      obtain ⟨hcp, hsp'⟩ := sp_step (fr m) p t c x acc hsp hbits hl1 hl2 hr1 hr2
      have htc : t + c ≤ 24 := by
        apply Nat.le_of_not_lt
        intro hlt
        have := hr1 (24 - t) (by omega)
        rw [hbits, Bool.and_eq_true] at this
        have h5 := this.1
        unfold fr at h5
        rw [freeN_bit, Bool.and_eq_true] at h5
        have := of_decide_eq_true h5.1
        omega
      have CC := Lib.hid CC0
      have CB := Lib.hid (fun W => implBits (t : Int) (c : Int) W ⟨by omega, by omega, by omega⟩)
      obtain ⟨kb, hkb'⟩ : ∃ kb : Nat, (2 ^ c - 1) * 2 ^ t = kb := ⟨_, rfl⟩
      have hbv : bitsV (t : Int) (c : Int) = (kb : Int) := by
        rw [bitsV_nat ⟨c, by omega⟩ ⟨t, by omega⟩]
        show (((2 ^ c - 1) * 2 ^ t : Nat) : Int) = _
        rw [hkb']
      rw [hbv] at CB
      have HCL := Lib.hid (bits_clr x kb hxl)
      clear CC0 hc hbv
      go_wp2_with fail
      refine (CC.out _ hb).mono ?_
      rintro e w' ⟨rfl, rfl⟩
      have hne : wr.heap.size ≠ w.heap.size + 1 := by omega
      go_wp2_with fail
      obtain ⟨W3, hW3⟩ : ∃ W3, ((wr.setCell ⟨w.heap.size + 1, n * 2, none⟩ (.int .i64 (t : Int))).setCell ⟨w.heap.size + 1, n * 2 + 1, none⟩ (.int .i64 (c : Int))).setCell ⟨w.heap.size + 1, 24, none⟩ (.int .i64 ((n : Int) + 1)) = W3 := ⟨_, rfl⟩
      have hkb : ∀ i, kb.testBit i = (decide (t ≤ i) && decide (i - t < c)) := fun i => by rw [← hkb']; exact ones_bit c t i
      have hcl : ∀ i, (clr x kb).testBit i = (fr m i && decide (t + c + 1 ≤ i)) := by
        intro i
        rw [clr_bit x kb i hxl, hkb]
        by_cases h1 : i < t
        · rw [hl2 i h1, decide_eq_false (by omega : ¬ t + c + 1 ≤ i), Bool.and_false, Bool.false_and]
        · by_cases h3 : i < t + c
          · rw [decide_eq_true (by omega : t ≤ i), decide_eq_true (by omega : i - t < c), decide_eq_false (by omega : ¬ t + c + 1 ≤ i), Bool.and_false, Bool.and_self, Bool.not_true, Bool.and_false]
          · by_cases h4 : i = t + c
            · rw [h4, hr2, decide_eq_false (by omega : ¬ t + c + 1 ≤ t + c), Bool.and_false, Bool.false_and]
            · rw [hbits, decide_eq_false (by omega : ¬ i - t < c), decide_eq_true (by omega : p ≤ i), decide_eq_true (by omega : t + c + 1 ≤ i), Bool.and_false, Bool.not_false, Bool.and_true, Bool.and_true]
      have hltx : clr x kb < x := by
        have h1 := clr_lt x kb hxl
        have h3 : clr x kb ≠ x := by
          intro e
          have h4 := hcl t
          rw [e, hl1, decide_eq_false (by omega : ¬ t + c + 1 ≤ t), Bool.and_false] at h4
          exact absurd h4 (by decide)
        omega
      have hI3 : RInv m (w.heap.size + 1) (clr x kb) (t + c + 1) (acc ++ [(t, c)]) w W3 := by
        refine ⟨by omega, hcl, hsp', by rw [List.length_append, hn]; show 2 * (n + 1) ≤ _; omega, ?_, ?_, ?_, ?_, by omega, ?_⟩
        · rw [← hW3]; exact set_cells t c hn hn11 hcells
        · intro j; rw [← hW3, World.frozen?_setCell, World.frozen?_setCell, World.frozen?_setCell]; exact hfrz j
        · rw [← hW3]; simpa using hG
        · rw [← hW3]; exact ((hb.setCell (p := ⟨w.heap.size + 1, n * 2, none⟩) (Nat.le_succ _) _).setCell (p := ⟨w.heap.size + 1, n * 2 + 1, none⟩) (Nat.le_succ _) _).setCell (p := ⟨w.heap.size + 1, 24, none⟩) (Nat.le_succ _) _
        · rw [← hW3]
          refine (Below.heap_setCell _ _ _ _ (fun e => Nat.succ_ne_self _ e.symm)).trans ?_
          refine (Below.heap_setCell _ _ _ _ (fun e => Nat.succ_ne_self _ e.symm)).trans ?_
          exact (Below.heap_setCell _ _ _ _ (fun e => Nat.succ_ne_self _ e.symm)).trans hres
      rw [hW3]
      have hB3 := hI3.bel
      have hI4 := Lib.hid (hI3.over ((Below.refl W3.heap.size W3).alloc (Nat.le_refl _) (Obj.cells #[.int .i64 (t : Int), .int .i64 (c : Int)] 121)))
      clear hW3 hI3
      refine (CB.out _).mono ?_
      rintro e w2 ⟨rfl, hb2⟩
      have hI5 := Lib.hid (hI4.out.over hb2)
      go_wp2
      rw [HCL.out]
      exact ⟨⟨_, _, _, rfl, hI5.out⟩, by simp [intOf]; omega⟩
end Go.Proofs.YtnbeomnlobfpfaaDoor
