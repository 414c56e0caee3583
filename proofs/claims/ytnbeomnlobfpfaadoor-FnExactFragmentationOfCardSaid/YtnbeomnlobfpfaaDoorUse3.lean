/- Contract: impl.SpectrumUse answers as spec.SpectrumUse. Condition: the table of math/bits holds what Go's text lays. -/
import Derived.Test.YtnbeomnlobfpfaaDoorUse2
import Derived.Test.YtnbeomnlobfpfaaDoorBest3
namespace Go.Proofs.YtnbeomnlobfpfaaDoor
open Go.ChangeShapes Go.WideShapes Go.ChangeAt Go.RowKit

set_option maxRecDepth 100000 in
set_option maxHeartbeats 4000000 in
theorem implUse (m : Int) (w : World) (hT : Tab w) : Calls Tryd.prog 57 #[.int .i64 m] w (RetP (useR m) w) := by
  by_cases ha : mskP m
  case neg =>
    have HR := Lib.hid (use_no ha)
    have C := Lib.hid (fun W => imask_no m W (by unfold mskP at ha; omega))
    clear ha
    obtain ⟨r, hr⟩ : ∃ r, useR m = r := ⟨_, rfl⟩
    rw [hr] at HR ⊢
    clear hr
    go_enter Tryd.func57, Tryd.ntmps57
    go_wp2_with fail
    refine (C.out _).mono ?_
    rintro e w' ⟨rfl, rfl⟩
    go_wp2
    exact bodyPost_ret (v := .tuple #[.int .i64 0, .int .i64 0, .int .i64 0, .bool false]) (by simp [results, Tryd.results57, go_sem]) rfl (retP HR.out (Below.refl _ _))
  case pos =>
  obtain ⟨mn, rfl⟩ : ∃ mn : Nat, m = mn := ⟨m.toNat, by have := ha.1; omega⟩
  have hm := ha.2
  have C := Lib.hid (fun W => imask_yes mn W ha.1 ha.2)
  have CO := Lib.hid (fun W => ones_ mn W (by omega))
  have hcv : IntKind.u64.wrap (mn : Int) = (mn : Int) := by rw [IntKind.wrap_u64]; omega
  by_cases h24 : popN mn 24 = 24
  case pos =>
    have HR := Lib.hid (use_full ha h24)
    rw [h24] at CO
    clear ha hm h24
    obtain ⟨r, hr⟩ : ∃ r, useR mn = r := ⟨_, rfl⟩
    rw [hr] at HR ⊢
    clear hr
    obtain ⟨mi, hmi⟩ : ∃ mi : Int, (mn : Int) = mi := ⟨_, rfl⟩
    rw [hmi] at C CO hcv ⊢
    clear hmi
    go_enter Tryd.func57, Tryd.ntmps57
    go_wp2_with fail
    refine (C.out _).mono ?_
    rintro e w' ⟨rfl, rfl⟩
    go_wp2_with fail
    refine (CO.out _).mono ?_
    rintro e w' ⟨rfl, rfl⟩
    go_wp2
    exact bodyPost_ret (v := .tuple #[.int .i64 24, .int .i64 0, .int .i64 0, .bool true]) (by simp [results, Tryd.results57, go_sem]) rfl (retP HR.out (Below.refl _ _))
  case neg =>
    have HR := Lib.hid (use_part ha h24)
    have h1 := popN_le mn 24
    have h2 := lonN_le mn
    have HLO : Hid (lonN mn = mxN (sp (fr mn) 25).1 (sp (fr mn) 25).1.length) := Lib.hid rfl
    have HRL : Hid (∀ q, q ∈ (sp (fr mn) 25).1 → q.2 ≤ 25) := Lib.hid fun q hq => by have := (sp_runs (fr mn) 25 q hq).2.1; omega
    obtain ⟨u, hu⟩ : ∃ u : Int, (popN mn 24 : Int) = u := ⟨_, rfl⟩
    obtain ⟨L, hL⟩ : ∃ L : Int, (lonN mn : Int) = L := ⟨_, rfl⟩
    have HLI := Lib.hid hL
    have hu0 : 0 ≤ u := by omega
    have hu1 : u < 24 := by omega
    have hL0 : 0 ≤ L := by omega
    have hL1 : L ≤ 25 := by omega
    have hwr : wrap64 (1000 - (1000 * L + (24 - u) - 1) / (24 - u)) = 1000 - (1000 * L + (24 - u) - 1) / (24 - u) := by
      have q0 := Int.ediv_nonneg (a := 1000 * L + (24 - u) - 1) (b := 24 - u) (by omega) (by omega)
      have q1 := Int.ediv_le_self (a := 1000 * L + (24 - u) - 1) (24 - u) (by omega)
      generalize (1000 * L + (24 - u) - 1) / (24 - u) = q at q0 q1
      unfold wrap64; omega
    rw [hu] at CO HR
    rw [hL] at HR
    have HM : Hid (mn ≤ 16777215) := Lib.hid (by omega)
    have HTAB := Lib.hid hT
    have hq24 : (u == 24) = false := by simp; omega
    clear ha hm h24 h1 h2 hu hL hT
    obtain ⟨r, hr⟩ : ∃ r, useR mn = r := ⟨_, rfl⟩
    rw [hr] at HR ⊢
    clear hr
    obtain ⟨mi, hmi⟩ : ∃ mi : Int, (mn : Int) = mi := ⟨_, rfl⟩
    rw [hmi] at C CO hcv ⊢
    have CR : Hid (∀ W, Tab W → Calls Tryd.prog 101 #[.int .i64 mi] W (RunsP mn W)) := Lib.hid fun W hW => by rw [← hmi]; exact freeRuns_ mn W HM.out hW
    clear hmi
    go_enter Tryd.func57, Tryd.ntmps57
    go_wp2_with fail
    refine (C.out _).mono ?_
    rintro e w' ⟨rfl, rfl⟩
    go_wp2_with fail
    refine (CO.out _).mono ?_
    rintro e w' ⟨rfl, rfl⟩
    go_wp2_with fail
    refine (CR.out _ HTAB.out).mono ?_
    rintro e w1 ⟨acc, hacc, hlen, rfl, hb1⟩
    have HB1 := Lib.hid hb1
    have HACC : Hid ((mxN acc acc.length : Int) = L) := Lib.hid (by have h1 := HLO.out; have h2 := HLI.out; rw [hacc] at h1; rw [← h2, h1])
    have HRA : Hid (∀ q, q ∈ acc → q.2 ≤ 25) := Lib.hid (by have := HRL.out; rw [hacc] at this; exact this)
    have HL := Lib.hid hlen
    have hlen25 := rcells_len acc
    have hone := rcells_one acc
    obtain ⟨cs, hcs⟩ : ∃ cs, rcells acc = cs := ⟨_, rfl⟩
    rw [hcs] at hlen25 hone ⊢
    have HCS := Lib.hid hcs
    have hi1 : (Tryd.prog.info? 141).map (·.size) = some cs.toArray.size := by rw [List.size_toArray, hlen25]; exact Tryd.inf_Runs
    have hth : (w1.alloc (.cells zer25 141)).there w1.heap.size 0 cs.toArray.size := by
      have e25 : cs.toArray.size = 25 := by rw [List.size_toArray]; exact hlen25
      rw [e25]
      intro j hj
      rw [Nat.zero_add]
      have hg := heap_alloc_new w1 (.cells zer25 141)
      exact ⟨by rw [cell_of_row _ w1.heap.size j _ _ _ hg, zer_at j hj]; rfl, frozen_of_row _ w1.heap.size j _ _ hg⟩
    have hth2 : (w1.alloc (.cells zer25 141)).there w1.heap.size 0 cs.length := hth
    have HRG := Lib.hid (World.rangeAt_setCells_same (w1.alloc (.cells zer25 141)) w1.heap.size 0 cs hth2)
    have HI1 := Lib.hid hi1; have HTH := Lib.hid hth; have HONE := Lib.hid hone
    have HB2 := Lib.hid (below_setCells w1.heap.size w1.heap.size (Nat.le_refl _) cs 0 _ ((Below.refl _ w1).alloc (Nat.le_refl _) (.cells zer25 141)))
    clear hb1 hacc hlen25 hone hcs hi1 hth hth2
    obtain ⟨n, hn⟩ : ∃ n, acc.length = n := ⟨_, rfl⟩
    have hn12 : (n : Int) ≤ 12 := by omega
    have HN := Lib.hid hn; clear hn
    go_wp2_with (refine wpList_store_mid rfl 141 _ _ rfl w1.heap.size 0 cs.toArray rfl rfl HTH.out HI1.out HONE.out ?_; generalize hX : World.setCells _ _ _ _ = X; (have hrg : X.rangeAt w1.heap.size 0 (rcells acc) := by (rw [← hX, HCS.out]; exact HRG.out)); (have HB3 : Hid (Below w1.heap.size w1 X) := Lib.hid (by (rw [← hX]; exact HB2.out))); (have k24 := runs_laid (w := w) hrg 24 (by omega)); rw [rcell_24, HN.out] at k24; have hxs := World.block_lt_of_cell? X _ k24; have HRX := Lib.hid hrg; clear hX hrg)
    have HXS := Lib.hid hxs
    have HBX := Lib.hid (HB1.out.trans (HB3.out.mono HB1.out.size))
    clear hxs k24
    go_loopw [8, 31] (fun v i wr => ∃ (k : Nat) (y : Int), k ≤ n ∧ i = .int .i64 k ∧ v = .int .i64 y ∧ Hid (y = (mxN acc k : Int)) ∧ 0 ≤ y ∧ y ≤ 25 ∧ Below X.heap.size X wr) (fun _ i _ => n - (intOf i).toNat)
    case atStart => exact ⟨0, 0, Nat.zero_le _, rfl, rfl, Lib.hid rfl, Int.le_refl _, by omega, Below.refl _ _⟩
    case round =>
      obtain ⟨k, y, hk, rfl, rfl, HY, hy0, hy25, hb⟩ := hrel
      have hzw := hb.size
      by_cases hlt : k < n
      case pos =>
        have hkl : k < acc.length := by have := HN.out; omega
        have f0 := runs_laid (w := w) HRX.out (k * 2) (by omega)
        have f1 := runs_laid (w := w) HRX.out (k * 2 + 1) (by omega)
        rw [rcell_even acc k hkl HL.out, ← hb.cell (p := ⟨w1.heap.size, k * 2, none⟩) HXS.out] at f0
        rw [rcell_odd acc k hkl HL.out, ← hb.cell (p := ⟨w1.heap.size, k * 2 + 1, none⟩) HXS.out] at f1
        obtain ⟨x1, hx1⟩ : ∃ x1 : Int, ((acc[k]'hkl).1 : Int) = x1 := ⟨_, rfl⟩
        obtain ⟨x2, hx2⟩ : ∃ x2 : Int, ((acc[k]'hkl).2 : Int) = x2 := ⟨_, rfl⟩
        rw [hx1] at f0; rw [hx2] at f1
        have hxb : x2 ≤ 25 := by have := HRA.out _ (List.getElem_mem hkl); omega
        have hx0 : 0 ≤ x2 := by omega
        have HX : Hid ((if y < x2 then x2 else y) = (mxN acc (k + 1) : Int)) := Lib.hid (by
          rw [mxN_step acc k hkl, ← hx2, HY.out]
          split <;> split <;> omega)
        have hz0 : 0 ≤ (if y < x2 then x2 else y) := by split <;> omega
        have hz1 : (if y < x2 then x2 else y) ≤ 25 := by split <;> omega
        clear hx1 hx2
        have HAB := Lib.hid (hb.alloc hzw (.cells #[.int .i64 x1, .int .i64 x2] 121))
        have hk12 : (k : Int) < 12 := by omega
        go_wp2
        go_roundw
        case rel => exact ⟨k + 1, (if y < x2 then x2 else y), by omega, by go_num, by first | rfl | trivial | (congr 1; split <;> omega) | (congr 1; omega), HX, hz0, hz1, HAB.out⟩
        case measure => simp [intOf]; omega
      case neg =>
        have hkn : k = n := by omega
        have HE1 : Hid (y = L) := Lib.hid (by rw [← HACC.out, HN.out, ← hkn]; exact HY.out)
        have HBW := Lib.hid (HBX.out.trans (hb.mono HBX.out.size))
        obtain rfl := HE1.out
        clear hkn
        go_wp2
        exact bodyPost_ret (v := .tuple #[.int .i64 u, .int .i64 y, .int .i64 (1000 - (1000 * y + (24 - u) - 1) / (24 - u)), .bool true]) (by simp [results, Tryd.results57, go_sem, hwr]) rfl (retP HR.out HBW.out)
end Go.Proofs.YtnbeomnlobfpfaaDoor
