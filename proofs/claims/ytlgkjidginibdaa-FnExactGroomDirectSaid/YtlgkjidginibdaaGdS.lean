/- Descending packing: contract of spec.l18Pack, the number of units told. No condition but those typed. -/
import Derived.Test.YtlgkjidginibdaaPdP
import Derived.Test.YtlgkjidginibdaaGdP
import Derived.Test.YtlgkjidginibdaaPdS
namespace Go.Proofs.Ytlgkjidginibdaa
open Go.ChangeShapes Go.WideShapes Go.ChangeAt Go.RowKit

set_option maxRecDepth 100000 in
set_option maxHeartbeats 4000000 in
theorem l18PackR_ {A : Option Addr} {n c go_ c2 : Nat} {L os : List Int} {w : World} (cap : Int) (hn : L.length = n) (hr : Rd w w.heap.size A (L.map (Value.int .i64))) (hp : ratesP cap L) (hos : ordP L.length os) (ho : Rd w w.heap.size (some ⟨go_, 0, none⟩) (os.map (Value.int .i64))) (hgo0 : go_ < w.heap.size) :
    Calls Try.prog 124 #[.slice A n c, .slice (some ⟨go_, 0, none⟩) n c2, .int .i64 cap] w fun e w' => e = .returned (.tuple #[.slice (some ⟨w.heap.size, 0, none⟩) n n, .int .i64 ((roomK cap (ratM L os) n).length : Int)]) ∧
      w'.ownsRow w.heap.size 3 1 (.slice (some ⟨w.heap.size, 0, none⟩) n n) n ((unP cap L os n).map (Value.int .i64)) ∧ Below w.heap.size w w' := by
  have HN := Lib.hid hn; have HP := Lib.hid hp; have HR := Lib.hid hr; have HO := Lib.hid ho; have HOS := Lib.hid hos; have HPM : Hid (ratesP cap (ratM L os)) := Lib.hid (ratM_ok hp hos)
  have hs : n ≤ 12 := by have := hp.1; omega
  have hc := hp.2.1
  clear hn hp hr ho hos
  obtain ⟨i0, hi, hz0_, hz1_, hz2_⟩ := info_parts Try.inf_int
  have HI := Lib.hid hi; have HZI0 := Lib.hid hz0_; have HZI1 := Lib.hid hz1_; have HZI2 := Lib.hid hz2_
  clear hi hz0_ hz1_ hz2_
  go_enter Try.func124, Try.ntmps124
  go_wp2_with (at_make; refine wpList_make_full _ rfl _ _ 26 rfl w.heap.size 3 i0 (.int .i64 0) 1 Try.underlying26 HI.out HZI0.out HZI1.out .i64 .i64 n n n rfl rfl rfl rfl (by rw [HZI2.out]; omega) (by unfold maxLen; omega) (Nat.le_refl _) ?_)
  intro w1 hown1 hgrow1
  obtain ⟨gU, hgU⟩ : ∃ g, w.heap.size = g := ⟨_, rfl⟩
  have HGU := Lib.hid hgU
  have HB1 : Hid (Below gU w w1) := Lib.hid (by rw [← hgU]; exact (Below.refl _ _).grown hgrow1 (Nat.le_refl _) (fun k h => by cases h))
  rw [toList_madeCells_one] at hown1
  have HU1 : Hid (w1.ownsRow gU 3 1 (.slice (some ⟨gU, 0, none⟩) n n) n ((unP cap L os 0).map (Value.int .i64))) := Lib.hid (by rw [← hgU]; unfold unP; rw [HN.out, List.map_replicate]; exact hown1)
  have HZ1 : Hid (gU + 1 ≤ w1.heap.size) := Lib.hid (by have := (HU1.out.lt gU rfl).2; omega)
  rw [hgU]
  rw [hgU] at hgo0
  clear hgU hown1 hgrow1
  go_wp2
  have HL2 : Hid ((w1.alloc (Obj.cells #[] 3)).ownsRow (gU + 1) 3 1 (.slice (some ⟨w1.heap.size, 0, none⟩) 0 0) 0 ((roomK cap (ratM L os) 0).map (Value.int .i64))) := Lib.hid (lit_rowH rfl _ HZ1.out)
  have HU2 : Hid ((w1.alloc (Obj.cells #[] 3)).ownsRow gU 3 1 (.slice (some ⟨gU, 0, none⟩) n n) n ((unP cap L os 0).map (Value.int .i64))) := Lib.hid (HU1.out.alloc _)
  have HB2 : Hid (Below gU w (w1.alloc (Obj.cells #[] 3))) := Lib.hid (HB1.out.alloc (by have := HZ1.out; omega) _)
  go_loopw [9, 10] (fun l i wr => ∃ (k : Nat) (A1 : Option Addr) (m c1 : Nat), k ≤ n ∧ l = .slice A1 m c1 ∧ i = .int .i64 k ∧ Hid (m = (roomK cap (ratM L os) k).length) ∧ Hid (wr.ownsRow (gU + 1) 3 1 (.slice A1 m c1) m ((roomK cap (ratM L os) k).map (Value.int .i64))) ∧ Hid (wr.ownsRow gU 3 1 (.slice (some ⟨gU, 0, none⟩) n n) n ((unP cap L os k).map (Value.int .i64))) ∧ Below gU w wr) (fun _ i _ => n - (intOf i).toNat)
  case atStart => exact ⟨0, some ⟨w1.heap.size, 0, none⟩, 0, 0, Nat.zero_le _, rfl, rfl, Lib.hid rfl, HL2, HU2, HB2.out⟩
  case round =>
    clear HL2 HU2 HB2 HB1 HU1 HZ1
    obtain ⟨k, A1, m, c1, hk, rfl, rfl, HM, HLD, HU, hb⟩ := hrel
    have HB := Lib.hid hb
    clear hb
    by_cases hlt : k < n
    case neg =>
      obtain rfl : k = n := by omega
      clear hlt
      have hu := HU.out
      have HU9 := Lib.hid hu
      clear hu
      go_wp2
      go_ret2
      rw [HGU.out]
      exact ⟨by rw [← HM.out]; rfl, HU9.out, HB.out⟩
    case pos =>
    have hks : k < L.length := by have := HN.out; omega
    have hbw : Below w.heap.size w wr := by rw [HGU.out]; exact HB.out
    obtain ⟨i, hi9⟩ : ∃ i, ix os k = i := ⟨_, rfl⟩
    have hat9 := HOS.out.at_ hks
    rw [hi9] at hat9
    have hks2 : i < L.length := hat9.1
    have hin : i < n := by have := HN.out; omega
    have hinI : (i : Int) < (n : Int) := by omega
    have hosk : k < os.length := by rw [HOS.out.1]; exact hks
    have hoe : os[k]'hosk = (i : Int) := by
      have h9 := hat9.2
      rw [List.getElem?_eq_getElem hosk] at h9
      exact Option.some.inj h9
    obtain ⟨ad, rfl, hb, cx⟩ := ints_at (HR.out.over hbw) (k := i) hks2
    obtain ⟨x, hx⟩ : ∃ x, L[i]'hks2 = x := ⟨_, rfl⟩
    have HX : Hid ((ratM L os).getD k 0 = x) := Lib.hid (by rw [ratM_at hosk, hi9, List.getD_eq_getElem?_getD, List.getElem?_eq_getElem hks2, hx]; rfl)
    have hx1 : 1 ≤ x ∧ x ≤ cap := by have := HPM.out.2.2 k (by rw [ratM_len]; exact hosk); rw [HX.out] at this; exact this
    rw [hx] at cx
    clear hx
    have HCY : Hid (∀ W, Below gU w W → W.cell? ⟨go_, k, none⟩ = some (.int .i64 (i : Int))) := Lib.hid (fun W hW => by
      obtain ⟨_, cy⟩ := (HO.out.over (by rw [HGU.out]; exact hW)).intc (k := k) hosk
      rw [hoe, Nat.zero_add] at cy
      exact cy)
    have cy := HCY.out wr HB.out
    obtain ⟨R, hR⟩ : ∃ R, roomK cap (ratM L os) k = R := ⟨_, rfl⟩
    have HRIN : Hid (∀ j, j < R.length → 0 ≤ R.getD j 0 ∧ R.getD j 0 ≤ cap) := Lib.hid (by rw [← hR]; exact roomK_in HPM.out k (by rw [ratM_len]; omega))
    have HSTP : Hid (roomK cap (ratM L os) (k + 1) = roomS cap x R) := Lib.hid (by rw [← hR, ← HX.out]; rfl)
    have HUN : Hid (unitK cap (ratM L os) k = (fitK R x : Int)) := Lib.hid (by rw [← hR, ← HX.out]; rfl)
    have HUP : Hid (unP cap L os (k + 1) = (unP cap L os k).set i (fitK R x : Int)) := Lib.hid (by
      show (unP cap L os k).set (ix os k) (unitK cap (ratM L os) k) = _
      rw [hi9, HUN.out])
    clear hi9 hat9
    have hm12 : m ≤ 12 := by have := HM.out; have := roomK_len cap (ratM L os) k; omega
    rw [hR] at HM HLD
    clear hR
    go_wp2
    go_loop [12] (fun l => ∃ u : Nat, u ≤ m ∧ l = .int .i64 (u : Int) ∧ Hid (∀ j, j < u → R.getD j 0 < x)) (fun l => m - (intOf l).toNat)
    case atStart => exact ⟨0, Nat.zero_le _, rfl, Lib.hid (fun j hj => by omega)⟩
    case round =>
      obtain ⟨u, hum, rfl, HJ⟩ := hrel
      by_cases hlu : u < m
      case neg =>
        obtain rfl : u = m := by omega
        clear hlu
        have HFT : Hid (fitK R x = u) := Lib.hid (fit_is (by have := HM.out; omega) HJ.out (fun h => by have := HM.out; omega))
        have HZw : Hid (gU + 1 ≤ wr.heap.size) := Lib.hid (by have := (HU.out.lt gU rfl).2; omega)
        go_wp2_with (at_builtin; refine wp_app rfl (.tmp 48) (.tmp 50) 26 3 rfl (gU + 1) Try.underlying26 Try.inf_int rfl (by decide) (by decide) _ u _ rfl (HLD.out.alloc _) _ _ [.int .i64 cap] rfl rfl (news1 (new_at_ _ _ _ _ rfl)) (news_int _) (by omega) (by have := HZw.out; simp; omega) ?_)
        intro A4 c4 m4 w4 hm4 hown4 hgrow4 hloc4
        subst hm4
        have HBw : Hid (Below gU w w4) := Lib.hid ((HB.out.alloc (by have := HZw.out; omega) _).grown hgrow4 (by have := HZw.out; simp; omega) (fun g hg => by have := (HLD.out.lt g hg).1; omega))
        have hap : Apart (.slice (some ⟨gU, 0, none⟩) n n) (.slice A1 u c1) := fun g h1 h2 => by
          have := (HLD.out.lt g h2).1
          simp [Value.ownBlock] at h1; omega
        have HUw := Lib.hid (hap.kept (HU.out.alloc _) hgrow4)
        obtain ⟨gL, rfl⟩ := own_some hown4 (by omega)
        have hbase := (hown4.lt gL rfl).1
        obtain ⟨v, hv⟩ : ∃ v : Int, cap = v := ⟨_, rfl⟩
        have HLw : Hid (w4.ownsRow (gU + 1) 3 1 (.slice (some ⟨gL, 0, none⟩) (u + 1) c4) (u + 1) ((R ++ [v]).map (Value.int .i64))) := Lib.hid (by rw [List.map_append, ← hv]; exact hown4)
        clear hown4 hgrow4 hloc4 hap cx cy
        have HSET : Hid ((R ++ [v]).set u (v - x) = roomS cap x R) := Lib.hid (by rw [← hv]; exact sp_new HFT.out HM.out)
        have HLEN : Hid ((roomS cap x R).length = u + 1) := Lib.hid (roomS_new_len HFT.out HM.out)
        have cy := HCY.out w4 HBw.out
        have hwv : IntKind.i64.wrap (v - x) = v - x := IntWalk.i64_in _ (by omega)
        clear hv
        have cl := HLw.out.cellAt u (by omega)
        rw [List.getElem?_map, List.getElem?_append_right (by have := HM.out; omega), ← HM.out, Nat.sub_self] at cl
        simp only [List.getElem?_cons_zero, Option.map_some] at cl
        have zl := HLw.out.frozenAt u
        have HGL : Hid (gL ≠ gU) := Lib.hid (by have := (HLw.out.lt gL rfl).1; omega)
        have hgo : go_ ≠ gL := by have := (HLw.out.lt gL rfl).1; have := HGU.out; omega
        have hgn : gL ≠ gU := HGL.out
        have HUs := Lib.hid (own_set HUw.out (p := ⟨gL, u, none⟩) (by exact HGL.out) (.int .i64 (v - x)))
        have HLs := Lib.hid (HLw.out.stored u (.int .i64 (v - x))).1
        have HBs := Lib.hid (HBw.out.setCell (p := ⟨gL, u, none⟩) (by have := (HLw.out.lt gL rfl).1; show gU ≤ gL; omega) (.int .i64 (v - x)))
        have cy3 := HCY.out _ HBs.out
        have hold := HUs.out.cellAt i (by omega)
        rw [List.getElem?_map, List.getElem?_eq_getElem (by rw [unP_len]; exact hks2)] at hold
        simp only [Option.map_some] at hold
        have hfz := HUs.out.frozenAt i
        have hst := HUs.out.stored i (.int .i64 (fitK R x : Int))
        rw [← List.map_set, ← HUP.out, HFT.out] at hst
        have HUe := Lib.hid hst.1
        have HLe := Lib.hid (own_set HLs.out (p := ⟨gU, i, none⟩) (fun e => HGL.out e.symm) (.int .i64 (u : Int)))
        have HBe := Lib.hid (HBs.out.setCell (p := ⟨gU, i, none⟩) (Nat.le_refl _) (.int .i64 (u : Int)))
        clear hst
        have HLe := Lib.hid (by have h9 := HLe.out; rw [← List.map_set] at h9; exact h9)
        have hunI : (u : Int) < (u + 1 : Int) := by omega
        have hunN : u < u + 1 := by omega
        go_wp2
        go_roundw
        case rel => exact ⟨k + 1, some ⟨gL, 0, none⟩, u + 1, c4, by omega, by first | rfl | (congr 1 <;> simp), by go_num, Lib.hid (by rw [HSTP.out, HLEN.out]), Lib.hid (by rw [HSTP.out, ← HSET.out]; exact HLe.out), Lib.hid HUe.out, HBe.out⟩
        case measure => simp [intOf]; omega
      case pos =>
      have hmr : u < R.length := by have := HM.out; omega
      have huI : (u : Int) < (m : Int) := by omega
      obtain ⟨gL, rfl⟩ := own_some HLD.out (by omega)
      obtain ⟨v, hrr⟩ : ∃ r, R.getD u 0 = r := ⟨_, rfl⟩
      have hri := HRIN.out u hmr
      rw [hrr] at hri
      by_cases hrx : v < x
      case pos =>
        have HJ2 : Hid (∀ j, j < u + 1 → R.getD j 0 < x) := Lib.hid (fun j hj => by
          by_cases e : j = u
          · rw [e, hrr]; exact hrx
          · exact HJ.out j (by omega))
        have cl := HLD.out.cellAt u (by omega)
        rw [List.getElem?_map, of_nth hmr hrr] at cl
        simp only [Option.map_some] at cl
        clear hrr
        go_wp2
        go_round
        case rel => exact ⟨u + 1, by omega, by go_num, HJ2⟩
        case measure => simp [intOf]; omega
      case neg =>
        have HFT : Hid (fitK R x = u) := Lib.hid (fit_is (by omega) HJ.out (fun _ => by rw [hrr]; exact hrx))
        have hneI : ¬ (u : Int) = (m : Int) := by omega
        have hneB : ((u : Int) == (m : Int)) = false := beq_eq_false_iff_ne.2 hneI
        have hneN : ¬ u = m := by omega
        have HBw := HB
        have HUw := HU
        have HLw := HLD
        have hbase := (HLD.out.lt gL rfl).1
        have HRR := Lib.hid hrr
        have HSET : Hid (R.set u (v - x) = roomS cap x R) := Lib.hid (sp_old HFT.out hmr hrr)
        have HLEN : Hid ((roomS cap x R).length = m) := Lib.hid (by rw [roomS_old_len HFT.out hmr, HM.out])
        have hwv : IntKind.i64.wrap (v - x) = v - x := IntWalk.i64_in _ (by omega)
        clear hrr
        have cl := HLw.out.cellAt u (by omega)
        rw [List.getElem?_map, of_nth hmr HRR.out] at cl
        simp only [Option.map_some] at cl
        have zl := HLw.out.frozenAt u
        have HGL : Hid (gL ≠ gU) := Lib.hid (by have := (HLw.out.lt gL rfl).1; omega)
        have hgo : go_ ≠ gL := by have := (HLw.out.lt gL rfl).1; have := HGU.out; omega
        have hgn : gL ≠ gU := HGL.out
        have HUs := Lib.hid (own_set HUw.out (p := ⟨gL, u, none⟩) (by exact HGL.out) (.int .i64 (v - x)))
        have HLs := Lib.hid (HLw.out.stored u (.int .i64 (v - x))).1
        have HBs := Lib.hid (HBw.out.setCell (p := ⟨gL, u, none⟩) (by have := (HLw.out.lt gL rfl).1; show gU ≤ gL; omega) (.int .i64 (v - x)))
        have cy3 := HCY.out _ HBs.out
        have hold := HUs.out.cellAt i (by omega)
        rw [List.getElem?_map, List.getElem?_eq_getElem (by rw [unP_len]; exact hks2)] at hold
        simp only [Option.map_some] at hold
        have hfz := HUs.out.frozenAt i
        have hst := HUs.out.stored i (.int .i64 (fitK R x : Int))
        rw [← List.map_set, ← HUP.out, HFT.out] at hst
        have HUe := Lib.hid hst.1
        have HLe := Lib.hid (own_set HLs.out (p := ⟨gU, i, none⟩) (fun e => HGL.out e.symm) (.int .i64 (u : Int)))
        have HBe := Lib.hid (HBs.out.setCell (p := ⟨gU, i, none⟩) (Nat.le_refl _) (.int .i64 (u : Int)))
        clear hst
        have HLe := Lib.hid (by have h9 := HLe.out; rw [← List.map_set] at h9; exact h9)
        have hunI : (u : Int) < (m : Int) := by omega
        have hunN : u < m := by omega
        go_wp2
        go_roundw
        case rel => exact ⟨k + 1, some ⟨gL, 0, none⟩, m, c1, by omega, by first | rfl | (congr 1 <;> simp), by go_num, Lib.hid (by rw [HSTP.out, HLEN.out]), Lib.hid (by rw [HSTP.out, ← HSET.out]; exact HLe.out), Lib.hid HUe.out, HBe.out⟩
        case measure => simp [intOf]; omega


end Go.Proofs.Ytlgkjidginibdaa
