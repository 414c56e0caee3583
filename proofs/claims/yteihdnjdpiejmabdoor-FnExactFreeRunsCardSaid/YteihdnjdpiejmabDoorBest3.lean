/- Contract: impl.BestFit answers as spec.BestFit. Condition: the table of math/bits holds what Go's text lays. -/
import Derived.Test.YteihdnjdpiejmabDoorBest2
namespace Go.Proofs.YteihdnjdpiejmabDoor
open Go.ChangeShapes Go.WideShapes Go.ChangeAt Go.RowKit

/-- a freeRuns variable, laid and filled: its cells read. -/
theorem runs_laid {w W : World} {b : Nat} {acc : List (Nat × Nat)} (hr : W.rangeAt b 0 (rcells acc)) (k : Nat) (hk : k < 25) : W.cell? ⟨b, k, none⟩ = some (.int .i64 (rcell acc k)) := by
  have h : (rcells acc)[k]? = some (.int .i64 (rcell acc k)) := by
    unfold rcells; rw [List.getElem?_map, List.getElem?_range hk]; rfl
  have := hr k _ h
  rwa [Nat.zero_add] at this
theorem rcell_even (acc : List (Nat × Nat)) (k : Nat) (hk : k < acc.length) (h12 : acc.length ≤ 12) : rcell acc (k * 2) = ((acc[k]).1 : Int) := by
  unfold rcell
  rw [if_neg (by omega), if_pos (by omega), show k * 2 / 2 = k by omega, List.getElem?_eq_getElem hk]; rfl
theorem rcell_odd (acc : List (Nat × Nat)) (k : Nat) (hk : k < acc.length) (h12 : acc.length ≤ 12) : rcell acc (k * 2 + 1) = ((acc[k]).2 : Int) := by
  unfold rcell
  rw [if_neg (by omega), if_neg (by omega), show (k * 2 + 1) / 2 = k by omega, List.getElem?_eq_getElem hk]; rfl
theorem rcell_24 (acc : List (Nat × Nat)) : rcell acc 24 = (acc.length : Int) := rfl

theorem own_lt {w w' : World} {B B' E s n g c : Nat} {xs : List Value} (ho : w.ownsRow B E s (.slice (some ⟨g, 0, none⟩) n c) n xs) (h : Below B' w w') (hg : g < B') : w'.ownsRow B E s (.slice (some ⟨g, 0, none⟩) n c) n xs := by
  refine ⟨ho.1, ?_⟩
  rcases ho.2 with hn | ⟨g', cap', cur, e, hg', hh, rest⟩
  · exact .inl hn
  · have e' := e
    injection e with e1
    injection e1 with e1; injection e1 with e1
    subst e1
    exact .inr ⟨g, cap', cur, e', hg', (h.block g hg).trans hh, rest⟩
set_option maxRecDepth 100000 in
set_option maxHeartbeats 4000000 in
theorem implBestFit (m c : Int) (w : World) (hT : Tab w) : Calls Tryd.prog 14 #[.int .i64 m, .int .i64 c] w (RetP (bestR m c) w) := by
  by_cases ha : askP m c
  case neg =>
    have HR := Lib.hid (best_no (m := m) (c := c) fun h => ha h.1)
    have C := Lib.hid (fun W => fits_no m c W ha)
    clear ha
    obtain ⟨r, hr⟩ : ∃ r, bestR m c = r := ⟨_, rfl⟩
    rw [hr] at HR ⊢
    clear hr
    go_enter Tryd.func14, Tryd.ntmps14
    go_wp2_with fail
    refine (C.out _).mono ?_
    rintro e w' ⟨rfl, rfl⟩
    go_wp2
    exact bodyPost_ret (v := .tuple #[.agg #[.int .i64 0, .int .i64 0], .bool false]) (by simp [results, Tryd.results14, go_sem]) rfl (retP HR.out ((Below.refl _ _).alloc (Nat.le_refl _) _))
  case pos =>
  obtain ⟨mn, rfl⟩ : ∃ mn : Nat, m = mn := ⟨m.toNat, by have := ha.1.1; omega⟩
  obtain ⟨cn, rfl⟩ : ∃ cn : Nat, c = cn := ⟨c.toNat, by have := ha.2.1; omega⟩
  have C := Lib.hid (fun W => fits_yes mn cn W ha)
  have hm := ha.1.2
  have hc1 : 1 ≤ cn := by have := ha.2.1; omega
  rcases best_rel mn cn hc1 with ⟨h0, hb⟩ | ⟨h0, hb, hfo⟩
  · have HR := Lib.hid (best_no (m := mn) (c := cn) fun h => h.2 hb)
    rw [hb] at C
    clear ha h0 hb hm hc1
    obtain ⟨r, hr⟩ : ∃ r, bestR mn cn = r := ⟨_, rfl⟩
    rw [hr] at HR ⊢
    clear hr
    go_enter Tryd.func14, Tryd.ntmps14
    go_wp2_with fail
    refine (C.out _).mono ?_
    rintro e w' ⟨rfl, rfl⟩
    go_wp2
    exact bodyPost_ret (v := .tuple #[.agg #[.int .i64 0, .int .i64 0], .bool false]) (by simp [results, Tryd.results14, go_sem]) rfl (retP HR.out ((Below.refl _ _).alloc (Nat.le_refl _) _))
  · have HR := Lib.hid (best_yes (m := mn) (c := cn) ⟨ha, by
      have e1 : ((mn : Int)).toNat = mn := by omega
      have e2 : ((cn : Int)).toNat = cn := by omega
      rw [e1, e2]; exact hb⟩)
    have HFO := Lib.hid hfo
    obtain ⟨b, hbb⟩ : ∃ b, begN mn (cn - 1) = b := ⟨_, rfl⟩
    rw [hbb] at C hb
    have q : ((b : Int) == 0) = false := by simpa using hb
    have q2 : decide ((b : Int) = 0) = false := decide_eq_false (by omega)
    have HM : Hid (mn ≤ 16777215) := Lib.hid (by omega)
    have HTAB := Lib.hid hT
    obtain ⟨ci, hci⟩ : ∃ ci : Int, (cn : Int) = ci := ⟨_, rfl⟩
    obtain ⟨mi, hmi⟩ : ∃ mi : Int, (mn : Int) = mi := ⟨_, rfl⟩
    have CR : Hid (∀ W, Tab W → Calls Tryd.prog 26 #[.int .i64 mi] W (RunsP mn W)) := Lib.hid fun W hW => by rw [← hmi]; exact freeRuns_ mn W HM.out hW
    obtain ⟨r, hr⟩ : ∃ r, bestR mn cn = r := ⟨_, rfl⟩
    rw [hr] at HR ⊢
    rw [hci] at C HR ⊢
    rw [hmi] at C ⊢
    have HCI := Lib.hid hci
    clear ha h0 hb hfo hbb hm hci hmi hr hT
    go_enter Tryd.func14, Tryd.ntmps14
    go_wp2_with fail
    refine (C.out _).mono ?_
    rintro e w' ⟨rfl, rfl⟩
    go_wp2_with fail
    have HB0 := Lib.hid ((Below.refl w.heap.size w).alloc (Nat.le_refl _) (Obj.cells #[z0, z0] 29))
    generalize hW : World.alloc w _ = W0
    have hown : W0.ownsRow w.heap.size 29 2 (.slice (some ⟨w.heap.size, 0, none⟩) 1 1) 1 [z0, z0] := by rw [← hW]; exact one_row w z0 z0 (Nat.le_refl _)
    rw [hW] at HB0
    clear hW
    have HO := Lib.hid hown; clear hown
    refine (CR.out _ (HTAB.out.over HB0.out)).mono ?_
    rintro e w1 ⟨acc, hacc, hlen, rfl, hb1⟩
    have HO1 := Lib.hid (ownB HO.out hb1)
    have HB1 := Lib.hid (HB0.out.trans (hb1.mono HB0.out.size))
    have HACC : Hid (foI cn acc acc.length = bestN mn cn) := Lib.hid (by have := HFO.out; rw [hacc] at this; exact this)
    have HL := Lib.hid hlen
    have hlen25 := rcells_len acc
    have hone := rcells_one acc
    obtain ⟨cs, hcs⟩ : ∃ cs, rcells acc = cs := ⟨_, rfl⟩
    rw [hcs] at hlen25 hone ⊢
    have HCS := Lib.hid hcs
    have hi1 : (Tryd.prog.info? 46).map (·.size) = some cs.toArray.size := by rw [List.size_toArray, hlen25]; exact Tryd.inf_Runs
    have hth : (w1.alloc (.cells zer25 46)).there w1.heap.size 0 cs.toArray.size := by
      have e25 : cs.toArray.size = 25 := by rw [List.size_toArray]; exact hlen25
      rw [e25]
      intro j hj
      rw [Nat.zero_add]
      have hg := heap_alloc_new w1 (.cells zer25 46)
      exact ⟨by rw [cell_of_row _ w1.heap.size j _ _ _ hg, zer_at j hj]; rfl, frozen_of_row _ w1.heap.size j _ _ hg⟩
    have hth2 : (w1.alloc (.cells zer25 46)).there w1.heap.size 0 cs.length := hth
    have HRG := Lib.hid (World.rangeAt_setCells_same (w1.alloc (.cells zer25 46)) w1.heap.size 0 cs hth2)
    have HI1 := Lib.hid hi1; have HTH := Lib.hid hth; have HONE := Lib.hid hone
    have HB2 := Lib.hid (below_setCells w1.heap.size w1.heap.size (Nat.le_refl _) cs 0 _ ((Below.refl _ w1).alloc (Nat.le_refl _) (.cells zer25 46)))
    clear hb1 hacc hlen25 hone hcs hi1 hth hth2
    obtain ⟨n, hn⟩ : ∃ n, acc.length = n := ⟨_, rfl⟩
    have hn12 : (n : Int) ≤ 12 := by omega
    have HN := Lib.hid hn; clear hn
    go_wp2_with (refine wpList_store_mid rfl 46 _ _ rfl w1.heap.size 0 cs.toArray rfl rfl HTH.out HI1.out HONE.out ?_; generalize hX : World.setCells _ _ _ _ = X; (have hrg : X.rangeAt w1.heap.size 0 (rcells acc) := by (rw [← hX, HCS.out]; exact HRG.out)); (have HB3 : Hid (Below w1.heap.size w1 X) := Lib.hid (by (rw [← hX]; exact HB2.out))); (have k24 := runs_laid (w := w) hrg 24 (by omega)); rw [rcell_24, HN.out] at k24; have hxs := World.block_lt_of_cell? X _ k24; have HRX := Lib.hid hrg; clear hX hrg)
    have HXS := Lib.hid hxs
    have hp4 := (ownB HO1.out (HB3.out)).alloc (.cells #[.int .i64 0, .int .i64 25] 29)
    have hp5 := one_row X (.int .i64 0) (.int .i64 25) (Nat.le_refl _)
    have HBX := Lib.hid (HB1.out.trans (HB3.out.mono HB1.out.size))
    have hbv := HBX.out.alloc HBX.out.size (.cells #[.int .i64 0, .int .i64 25] 29)
    have hrv := World.rangeAt_alloc HRX.out (.cells #[.int .i64 0, .int .i64 25] 29)
    generalize hV : World.alloc X _ = V
    rw [hV] at hp4 hp5 hbv hrv
    have HP4 := Lib.hid hp4; have HP5 := Lib.hid hp5; have HBV := Lib.hid hbv; have HRV := Lib.hid hrv
    have hxv : X.heap.size < V.heap.size := by rw [← hV]; simp
    have HXV := Lib.hid hxv
    clear hV hp4 hp5 hbv hrv hxv hxs k24
    go_loopw [33] (fun i wr => ∃ (k : Nat) (y1 y2 : Int), k ≤ n ∧ i = .int .i64 k ∧ Hid (y1 = ((foI cn acc k).1 : Int) ∧ y2 = ((foI cn acc k).2 : Int)) ∧ Hid (wr.ownsRow X.heap.size 29 2 (.slice (some ⟨X.heap.size, 0, none⟩) 1 1) 1 [.int .i64 y1, .int .i64 y2])
      ∧ Hid (wr.ownsRow w.heap.size 29 2 (.slice (some ⟨w.heap.size, 0, none⟩) 1 1) 1 [z0, z0]) ∧ Below X.heap.size V wr) (fun i _ => n - (intOf i).toNat)
    case atStart => exact ⟨0, 0, 25, Nat.zero_le _, rfl, Lib.hid ⟨rfl, rfl⟩, HP5, HP4, Below.refl _ _⟩
    case round =>
      obtain ⟨k, y1, y2, hk, rfl, HY, HQ5, HQ4, hb⟩ := hrel
      have hzw : X.heap.size < wr.heap.size := Nat.lt_of_lt_of_le HXV.out hb.size
      have c0 := HQ5.out.cellAt 0 (by omega)
      have c1 := HQ5.out.cellAt 1 (by omega)
      simp only [List.getElem?_cons_zero, List.getElem?_cons_succ] at c0 c1
      have z0_ := HQ5.out.frozenAt 0
      have z1_ := HQ5.out.frozenAt 1
      by_cases hlt : k < n
      case pos =>
        have hkl : k < acc.length := by have := HN.out; omega
        have f0 := runs_laid (w := w) HRV.out (k * 2) (by omega)
        have f1 := runs_laid (w := w) HRV.out (k * 2 + 1) (by omega)
        rw [rcell_even acc k hkl HL.out, ← hb.cell (p := ⟨w1.heap.size, k * 2, none⟩) HXS.out] at f0
        rw [rcell_odd acc k hkl HL.out, ← hb.cell (p := ⟨w1.heap.size, k * 2 + 1, none⟩) HXS.out] at f1
        obtain ⟨x1, hx1⟩ : ∃ x1 : Int, ((acc[k]'hkl).1 : Int) = x1 := ⟨_, rfl⟩
        obtain ⟨x2, hx2⟩ : ∃ x2 : Int, ((acc[k]'hkl).2 : Int) = x2 := ⟨_, rfl⟩
        rw [hx1] at f0; rw [hx2] at f1
        have HST := Lib.hid (foI_step cn acc k hkl)
        have HXX : Hid ((ci ≤ x2 ∧ x2 < y2) → x1 = ((foI cn acc (k + 1)).1 : Int) ∧ x2 = ((foI cn acc (k + 1)).2 : Int)) := Lib.hid fun h => by
          rw [HST.out]; unfold stI
          have h1 := HY.out.2; have h2 := HCI.out
          rw [if_pos ⟨by omega, by omega⟩]
          exact ⟨hx1.symm, hx2.symm⟩
        have HNX : Hid (¬ (ci ≤ x2 ∧ x2 < y2) → y1 = ((foI cn acc (k + 1)).1 : Int) ∧ y2 = ((foI cn acc (k + 1)).2 : Int)) := Lib.hid fun h => by
          rw [HST.out]; unfold stI
          have h1 := HY.out.2; have h2 := HCI.out
          rw [if_neg (fun hh => h (by omega))]
          exact HY.out
        clear hx1 hx2
        have HA4 := Lib.hid (HQ4.out.alloc (.cells #[.int .i64 x1, .int .i64 x2] 29))
        have HA5 := Lib.hid (HQ5.out.alloc (.cells #[.int .i64 x1, .int .i64 x2] 29))
        have HAB := Lib.hid (hb.alloc (Nat.le_of_lt hzw) (.cells #[.int .i64 x1, .int .i64 x2] 29))
        have hne : wr.heap.size ≠ X.heap.size := by omega
        have hk12 : (k : Int) < 12 := by omega
        by_cases t1 : ci ≤ x2
        case neg =>
          have HE := Lib.hid (HNX.out (fun h => t1 h.1))
          have t1' : decide (ci ≤ x2) = false := decide_eq_false t1
          clear t1 HXX HNX
          go_wp2
          go_roundw
          case rel => exact ⟨k + 1, y1, y2, by omega, by go_num, HE, HA5, HA4, HAB.out⟩
          case measure => simp [intOf]; omega
        case pos =>
        by_cases t2 : x2 < y2
        case neg =>
          have HE := Lib.hid (HNX.out (fun h => t2 h.2))
          have t2' : decide (x2 < y2) = false := decide_eq_false t2
          clear t2 HXX HNX
          go_wp2
          go_roundw
          case rel => exact ⟨k + 1, y1, y2, by omega, by go_num, HE, HA5, HA4, HAB.out⟩
          case measure => simp [intOf]; omega
        case pos =>
          have HE := Lib.hid (HXX.out ⟨t1, t2⟩)
          have HS5 := Lib.hid (((HQ5.out.stored 0 (.int .i64 x1)).1.stored 1 (.int .i64 x2)).1.alloc (.cells #[.int .i64 x1, .int .i64 x2] 29))
          have HS4 := Lib.hid ((own_lt (HQ4.out) (((Below.refl X.heap.size _).setCell (p := ⟨X.heap.size, 0, none⟩) (Nat.le_refl _) (.int .i64 x1)).setCell (p := ⟨X.heap.size, 1, none⟩) (Nat.le_refl _) (.int .i64 x2)) (by have h1 := (HO1.out.lt w.heap.size rfl).2; have h2 := HXS.out; omega)).alloc (.cells #[.int .i64 x1, .int .i64 x2] 29))
          have HSB := Lib.hid (((hb.setCell (p := ⟨X.heap.size, 0, none⟩) (Nat.le_refl _) (.int .i64 x1)).setCell (p := ⟨X.heap.size, 1, none⟩) (Nat.le_refl _) (.int .i64 x2)).alloc (by simpa using Nat.le_of_lt hzw) (.cells #[.int .i64 x1, .int .i64 x2] 29))
          clear HXX HNX
          go_wp2
          go_roundw
          case rel => exact ⟨k + 1, x1, x2, by omega, by go_num, HE, HS5, HS4, HSB.out⟩
          case measure => simp [intOf]; omega
      case neg =>
        have hkn : k = n := by omega
        have HE1 : Hid (y1 = ((bestN mn cn).1 : Int)) := Lib.hid (by rw [← HACC.out, HN.out, ← hkn]; exact HY.out.1)
        have d0 := HQ4.out.cellAt 0 (by omega)
        have d1 := HQ4.out.cellAt 1 (by omega)
        simp only [List.getElem?_cons_zero, List.getElem?_cons_succ] at d0 d1
        have e0_ := HQ4.out.frozenAt 0
        have e1_ := HQ4.out.frozenAt 1
        have hsz := (HQ4.out.lt w.heap.size rfl).2
        rw [← HE1.out] at HR
        have HBW := Lib.hid (HBV.out.trans (hb.mono (by have h1 := HBX.out.size; omega)))
        clear hkn
        go_wp2
        exact bodyPost_ret (v := .tuple #[.agg #[.int .i64 y1, .int .i64 ci], .bool true]) (by simp [results, Tryd.results14, go_sem, d0, d1, hsz]) rfl (retP HR.out ((HBW.out.setCell (p := ⟨w.heap.size, 0, none⟩) (Nat.le_refl _) _).setCell (p := ⟨w.heap.size, 1, none⟩) (Nat.le_refl _) _))
end Go.Proofs.YteihdnjdpiejmabDoor
