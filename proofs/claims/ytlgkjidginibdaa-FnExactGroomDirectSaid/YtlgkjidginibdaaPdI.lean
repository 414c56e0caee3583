/- First fit in an order of the rates: contract of impl.pack. No condition but those typed. -/
import Derived.Test.YtlgkjidginibdaaPdP
namespace Go.Proofs.Ytlgkjidginibdaa
open Go.ChangeShapes Go.WideShapes Go.ChangeAt Go.RowKit

set_option maxRecDepth 100000 in
set_option maxHeartbeats 4000000 in
theorem packD_ {A : Option Addr} {n c go_ c2 : Nat} {L os : List Int} {w : World} (cap : Int) (hn : L.length = n) (hr : Rd w w.heap.size A (L.map (Value.int .i64))) (hp : ratesP cap L) (hos : ordP L.length os) (ho : Rd w w.heap.size (some ⟨go_, 0, none⟩) (os.map (Value.int .i64))) :
    Calls Try.prog 196 #[.slice A n c, .int .i64 cap, .slice (some ⟨go_, 0, none⟩) n c2] w fun e w' => e = .returned (.slice (some ⟨w.heap.size, 0, none⟩) n n) ∧
      w'.ownsRow w.heap.size 3 1 (.slice (some ⟨w.heap.size, 0, none⟩) n n) n ((unP cap L os n).map (Value.int .i64)) ∧ Below w.heap.size w w' := by
  have HN := Lib.hid hn; have HP := Lib.hid hp; have HR := Lib.hid hr; have HO := Lib.hid ho; have HOS := Lib.hid hos; have HPM : Hid (ratesP cap (ratM L os)) := Lib.hid (ratM_ok hp hos)
  have hs : n ≤ 12 := by have := hp.1; omega
  have hc := hp.2.1
  clear hn hp hr ho hos
  obtain ⟨i0, hi, hz0_, hz1_, hz2_⟩ := info_parts Try.inf_int
  have HI := Lib.hid hi; have HZI0 := Lib.hid hz0_; have HZI1 := Lib.hid hz1_; have HZI2 := Lib.hid hz2_
  clear hi hz0_ hz1_ hz2_
  go_enter Try.func196, Try.ntmps196
  go_wp2_with (at_make; refine wpList_make_full _ rfl _ _ 26 rfl w.heap.size 3 i0 (.int .i64 0) 1 Try.underlying26 HI.out HZI0.out HZI1.out .i64 .i64 n n n rfl rfl rfl rfl (by rw [HZI2.out]; omega) (by unfold maxLen; omega) (Nat.le_refl _) ?_)
  intro w1 hown1 hgrow1
  obtain ⟨gU, hgU⟩ : ∃ g, w.heap.size = g := ⟨_, rfl⟩
  have HGU := Lib.hid hgU
  have HB1 : Hid (Below gU w w1) := Lib.hid (by rw [← hgU]; exact (Below.refl _ _).grown hgrow1 (Nat.le_refl _) (fun k h => by cases h))
  rw [toList_madeCells_one] at hown1
  have HU1 : Hid (w1.ownsRow gU 3 1 (.slice (some ⟨gU, 0, none⟩) n n) n ((unP cap L os 0).map (Value.int .i64))) := Lib.hid (by rw [← hgU]; unfold unP; rw [HN.out, List.map_replicate]; exact hown1)
  rw [hgU]
  clear hgU hown1 hgrow1
  go_wp2
  go_loopw [8, 17] (fun l i wr => ∃ (k : Nat) (A1 : Option Addr) (m c1 : Nat), k ≤ n ∧ l = .slice A1 m c1 ∧ i = .int .i64 k ∧ Hid (m = (roomK cap (ratM L os) k).length) ∧ Hid (wr.ownsRow (gU + 1) 3 1 (.slice A1 m c1) m ((ldL cap (roomK cap (ratM L os) k)).map (Value.int .i64))) ∧ Hid (wr.ownsRow gU 3 1 (.slice (some ⟨gU, 0, none⟩) n n) n ((unP cap L os k).map (Value.int .i64))) ∧ Below gU w wr) (fun _ i _ => n - (intOf i).toNat)
  case atStart => exact ⟨0, none, 0, 0, Nat.zero_le _, rfl, rfl, Lib.hid rfl, Lib.hid (World.ownsRow_nil _ _ _ _), HU1, HB1.out⟩
  case round =>
    obtain ⟨k, A1, m, c1, hk, rfl, rfl, HM, HLD, HU, hb⟩ := hrel
    have HB := Lib.hid hb
    clear hb
    by_cases hlt : k < n
    case neg =>
      obtain rfl : k = n := by omega
      clear hlt
      have hu := HU.out
      have HU9 := Lib.hid hu
      clear hu
      go_wp2
      go_ret
      rw [HGU.out]
      exact ⟨rfl, HU9.out, HB.out⟩
    case pos =>
    have hks : k < L.length := by have := HN.out; omega
    have hbw : Below w.heap.size w wr := by rw [HGU.out]; exact HB.out
    obtain ⟨i, hi9⟩ : ∃ i, ix os k = i := ⟨_, rfl⟩
    have hat9 := HOS.out.at_ hks
    rw [hi9] at hat9
    have hks2 : i < L.length := hat9.1
    have hin : i < n := by have := HN.out; omega
    have hinI : (i : Int) < (n : Int) := by omega
    have hosk : k < os.length := by rw [HOS.out.1]; exact hks
    have hoe : os[k]'hosk = (i : Int) := by
      have h9 := hat9.2
      rw [List.getElem?_eq_getElem hosk] at h9
      exact Option.some.inj h9
    obtain ⟨ad, rfl, hb, cx⟩ := ints_at (HR.out.over hbw) (k := i) hks2
    obtain ⟨hb2, cy⟩ := (HO.out.over hbw).intc (k := k) hosk
    rw [hoe, Nat.zero_add] at cy
    obtain ⟨x, hx⟩ : ∃ x, L[i]'hks2 = x := ⟨_, rfl⟩
    have HX : Hid ((ratM L os).getD k 0 = x) := Lib.hid (by rw [ratM_at hosk, hi9, List.getD_eq_getElem?_getD, List.getElem?_eq_getElem hks2, hx]; rfl)
    have hx1 : 1 ≤ x ∧ x ≤ cap := by have := HPM.out.2.2 k (by rw [ratM_len]; exact hosk); rw [HX.out] at this; exact this
    rw [hx] at cx
    have HCX : Hid (∀ W, Below gU w W → W.cell? (ad.add i) = some (.int .i64 x)) := Lib.hid (fun W hW => by
      obtain ⟨ad8, h8, _, c8⟩ := ints_at (HR.out.over (by rw [HGU.out]; exact hW)) (k := i) hks2
      obtain rfl := Option.some.inj h8
      rw [c8, hx])
    clear hx
    obtain ⟨R, hR⟩ : ∃ R, roomK cap (ratM L os) k = R := ⟨_, rfl⟩
    have HRIN : Hid (∀ j, j < R.length → 0 ≤ R.getD j 0 ∧ R.getD j 0 ≤ cap) := Lib.hid (by rw [← hR]; exact roomK_in HPM.out k (by rw [ratM_len]; omega))
    have HSTP : Hid (roomK cap (ratM L os) (k + 1) = roomS cap x R) := Lib.hid (by rw [← hR, ← HX.out]; rfl)
    have HUN : Hid (unitK cap (ratM L os) k = (fitK R x : Int)) := Lib.hid (by rw [← hR, ← HX.out]; rfl)
    have HUP : Hid (unP cap L os (k + 1) = (unP cap L os k).set i (fitK R x : Int)) := Lib.hid (by
      show (unP cap L os k).set (ix os k) (unitK cap (ratM L os) k) = _
      rw [hi9, HUN.out])
    clear hi9 hat9
    have hm12 : m ≤ 12 := by have := HM.out; have := roomK_len cap (ratM L os) k; omega
    rw [hR] at HM HLD
    clear hR
    go_wp2
    refine wp_scope_jumps 0 (fun a2 w2 => ∃ (u : Nat) (u21 u22 u23 u24 u25 u26 u27 u28 u29 u30 u31 u32 u33 u34 u35 u36 u37 u38 u39 u40 u41 u42 u43 u44 u45 u46 u47 u48 u49 u50 u51 u52 u53 u54 u55 : Value), a2 = { tmps := #[.slice (some ad) n c, .int .i64 cap, .slice (some ⟨go_, 0, none⟩) n c2, undef, undef, undef, .slice none 0 0, .slice (some ⟨gU, 0, none⟩) n n, .slice A1 m c1, undef, .int .i64 (i : Int), .int .i64 ((u : Int)), .slice (some ad) n c, .int .i64 (n : Int), .slice (some ⟨gU, 0, none⟩) n n, .slice (some ⟨go_, 0, none⟩) n c2, .int .i64 (n : Int), .int .i64 (k : Int), .bool true, .pointer (some ⟨go_, k, none⟩), .int .i64 (i : Int), u21, u22, u23, u24, u25, u26, u27, u28, u29, u30, u31, u32, u33, u34, u35, u36, u37, u38, u39, u40, u41, u42, u43, u44, u45, u46, u47, u48, u49, u50, u51, u52, u53, u54, u55, undef], defers := [] } ∧ Hid (u ≤ m) ∧ Hid (∀ j, j < u → R.getD j 0 < x) ∧ Hid (w2.ownsRow (gU + 1) 3 1 (.slice A1 m c1) m ((ldL cap R).map (Value.int .i64))) ∧ Hid (w2.ownsRow gU 3 1 (.slice (some ⟨gU, 0, none⟩) n n) n ((unP cap L os k).map (Value.int .i64))) ∧ Hid (Below gU w w2)) (fun a2 _ => m - (intOf (a2.tmps.getD 11 undef)).toNat) rfl ?_ ?_
    · go_wp2
      go_step3
      have HLw0 := HLD; have HUw0 := HU; have HBw0 := HB
      have HJw : Hid (∀ j, j < 0 → R.getD j 0 < x) := Lib.hid (fun j h => by omega)
      have HUM : Hid (0 ≤ m) := Lib.hid (Nat.zero_le _)
      have HZw : Hid (gU + 1 ≤ wr.heap.size) := Lib.hid (by have := (HUw0.out.lt gU rfl).2; omega)
      by_cases hq : 0 = m
      case pos =>
        obtain rfl := hq
        have HFT : Hid (fitK R x = 0) := Lib.hid (fit_is (by have := HM.out; omega) HJw.out (fun h => by have := HM.out; omega))
        go_wp2_with (at_builtin; refine wp_app rfl (.tmp 25) (.tmp 26) 26 3 rfl (gU + 1) Try.underlying26 Try.inf_int rfl (by decide) (by decide) _ (0) _ rfl (HLw0.out.alloc _) _ _ [.int .i64 0] rfl rfl (news1 (new_at_ _ _ _ _ rfl)) (news_int _) (by omega) (by have := HZw.out; simp; omega) ?_)
        intro A4 c4 m4 w4 hm4 hown4 hgrow4 hloc4
        subst hm4
        have HBw : Hid (Below gU w w4) := Lib.hid ((HBw0.out.alloc (by have := HZw.out; omega) _).grown hgrow4 (by have := HZw.out; simp; omega) (fun g hg => by have := (HLw0.out.lt g hg).1; omega))
        have hap : Apart (.slice (some ⟨gU, 0, none⟩) n n) (.slice A1 (0) c1) := fun g h1 h2 => by
          have := (HLw0.out.lt g h2).1
          simp [Value.ownBlock] at h1; omega
        have HUw := Lib.hid (hap.kept (HUw0.out.alloc _) hgrow4)
        obtain ⟨gL, rfl⟩ := own_some hown4 (by omega)
        obtain ⟨v, hv⟩ : ∃ v : Int, 0 = v := ⟨_, rfl⟩
        have hvx : v + x ≤ cap ∧ 0 ≤ v := by omega
        have hnov : ¬ cap < v + x := by omega
        have HLw : Hid (w4.ownsRow (gU + 1) 3 1 (.slice (some ⟨gL, 0, none⟩) (0 + 1) c4) (0 + 1) ((ldL cap R ++ [v]).map (Value.int .i64))) := Lib.hid (by rw [List.map_append, ← hv]; exact hown4)
        clear hown4 hgrow4 hloc4 hap
        have HSET : Hid ((ldL cap R ++ [v]).set (0) (v + x) = ldL cap (roomS cap x R)) := Lib.hid (by rw [← hv]; exact ld_new HFT.out HM.out)
        have HLEN : Hid ((roomS cap x R).length = 0 + 1) := Lib.hid (roomS_new_len HFT.out HM.out)
        have cl := HLw.out.cellAt (0) (by omega)
        rw [List.getElem?_map, List.getElem?_append_right (by rw [ldL_len]; have := HM.out; omega), ldL_len, ← HM.out, Nat.sub_self] at cl
        simp only [List.getElem?_cons_zero, Option.map_some] at cl
        have zl := HLw.out.frozenAt (0)
        have cx := HCX.out w4 HBw.out
        have cx2 : ad.block < w.heap.size := hb
        have hwv : IntKind.i64.wrap (v + x) = v + x := IntWalk.i64_in _ (by omega)
        clear hv
        have HLs := Lib.hid (HLw.out.stored (0) (.int .i64 (v + x))).1
        have HUs := Lib.hid (own_set HUw.out (p := ⟨gL, (0), none⟩) (by have := (HLw.out.lt gL rfl).1; show gL ≠ gU; omega) (.int .i64 (v + x)))
        have HGL : Hid (gL ≠ gU) := Lib.hid (by have := (HLw.out.lt gL rfl).1; omega)
        have hunI : 0 < (0 + 1 : Int) := by omega
        have hunN : (0) < 0 + 1 := by omega
        go_wp2
        go_quiet (fail)
        go_wp2
        go_region
        obtain ⟨wd, hwd⟩ : ∃ wd, (w4.drewN (nq + 1)).setCell ⟨gL, (0), none⟩ (.int .i64 (v + x)) = wd := ⟨_, rfl⟩
        rw [hwd]
        have HLd : Hid (wd.ownsRow (gU + 1) 3 1 (.slice (some ⟨gL, 0, none⟩) (0 + 1) c4) (0 + 1) (((ldL cap R ++ [v]).set (0) (v + x)).map (Value.int .i64))) := Lib.hid (by rw [← hwd, List.map_set]; exact own_heapW rfl HLs.out)
        have HUd : Hid (wd.ownsRow gU 3 1 (.slice (some ⟨gU, 0, none⟩) n n) n ((unP cap L os k).map (Value.int .i64))) := Lib.hid (by rw [← hwd]; exact own_heapW rfl HUs.out)
        have HBd : Hid (Below gU w wd) := Lib.hid (by rw [← hwd]; exact (drewN_below HBw.out _).setCell (p := ⟨gL, (0), none⟩) (by have := (HLw.out.lt gL rfl).1; show gU ≤ gL; omega) _)
        clear hwd cl zl cx
        have hold := HUd.out.cellAt i (by omega)
        rw [List.getElem?_map, List.getElem?_eq_getElem (by rw [unP_len]; exact hks2)] at hold
        simp only [Option.map_some] at hold
        have hfz := HUd.out.frozenAt i
        have hst := HUd.out.stored i (.int .i64 (fitK R x : Int))
        rw [← List.map_set, ← HUP.out, HFT.out] at hst
        have HUe := Lib.hid hst.1
        have HLe := Lib.hid (own_set HLd.out (p := ⟨gU, i, none⟩) (fun e => HGL.out e.symm) (.int .i64 (0)))
        have HBe := Lib.hid (HBd.out.setCell (p := ⟨gU, i, none⟩) (Nat.le_refl _) (.int .i64 (0)))
        clear hst
        go_wp2
        try simp only [Exit.jump]
        go_wp2
        go_roundw
        case rel => exact ⟨k + 1, some ⟨gL, 0, none⟩, 0 + 1, c4, by omega, by first | rfl | (congr 1 <;> simp), by go_num, Lib.hid (by rw [HSTP.out, HLEN.out]), Lib.hid (by rw [HSTP.out, ← HSET.out]; exact HLe.out), HUe.out |> Lib.hid, HBe.out⟩
        case measure => simp [intOf]; omega
      case neg =>
        have hum : 0 < m := by have := HUM.out; omega
        have humI : 0 < (m : Int) := by omega
        have hneI : ¬ 0 = (m : Int) := by omega
        have hneB : ((0 : Int) == (m : Int)) = false := beq_eq_false_iff_ne.2 hneI
        have hmr : 0 < R.length := by have := HM.out; omega
        obtain ⟨gL, rfl⟩ := own_some HLw0.out (by omega)
        have HUw := HUw0
        have HBw := HBw0
        obtain ⟨r, hrr⟩ : ∃ r, R.getD (0) 0 = r := ⟨_, rfl⟩
        have hri := HRIN.out (0) hmr
        rw [hrr] at hri
        obtain ⟨v, hv⟩ : ∃ v : Int, cap - r = v := ⟨_, rfl⟩
        have HLw : Hid (wr.ownsRow (gU + 1) 3 1 (.slice (some ⟨gL, 0, none⟩) m c1) m ((ldL cap R).map (Value.int .i64))) := HLw0
        have cl := HLw.out.cellAt (0) (by omega)
        rw [List.getElem?_map, ldL_at hmr, hrr, hv] at cl
        simp only [Option.map_some] at cl
        have zl := HLw.out.frozenAt (0)
        have cx := HCX.out wr HBw.out
        have hvx : 0 ≤ v ∧ v ≤ cap := by omega
        have hwv : IntKind.i64.wrap (v + x) = v + x := IntWalk.i64_in _ (by omega)
        by_cases hrx : r < x
        case pos =>
          have hov : cap < v + x := by omega
          have HJ2 : Hid (∀ j, j < 0 + 1 → R.getD j 0 < x) := Lib.hid (fun j hj => by
            by_cases e : j = 0
            · rw [e, hrr]; exact hrx
            · exact HJw.out j (by omega))
          clear hv hrx
          go_wp2
          go_quiet (fail)
          go_wp2
          go_step3
          refine ⟨rfl, 1, _, _, _, _, _, _, _, _, _, _, _, _, _, _, _, _, _, _, _, _, _, _, _, _, _, _, _, _, _, _, _, _, _, _, _, rfl, Lib.hid (by omega), HJ2, Lib.hid (ownD HLw.out _), Lib.hid (ownD HUw.out _), Lib.hid (drewN_below HBw.out _)⟩
        case neg =>
          have HFT : Hid (fitK R x = 0) := Lib.hid (fit_is (by omega) HJw.out (fun _ => by rw [hrr]; exact hrx))
          have hnov : ¬ cap < v + x := by omega
          have HSET : Hid ((ldL cap R).set (0) (v + x) = ldL cap (roomS cap x R)) := Lib.hid (by rw [← hv]; exact ld_old HFT.out hmr hrr)
          have HLEN : Hid ((roomS cap x R).length = m) := Lib.hid (by rw [roomS_old_len HFT.out hmr, HM.out])
          clear hv hrx hrr
          have HLs := Lib.hid (HLw.out.stored (0) (.int .i64 (v + x))).1
          have HUs := Lib.hid (own_set HUw.out (p := ⟨gL, (0), none⟩) (by have := (HLw.out.lt gL rfl).1; show gL ≠ gU; omega) (.int .i64 (v + x)))
          have HGL : Hid (gL ≠ gU) := Lib.hid (by have := (HLw.out.lt gL rfl).1; omega)
          have hunI : 0 < (m : Int) := by omega
          have hunN : (0) < m := by omega
          go_wp2
          go_quiet (fail)
          go_wp2
          go_region
          obtain ⟨wd, hwd⟩ : ∃ wd, (wr.drewN (nq + 1)).setCell ⟨gL, (0), none⟩ (.int .i64 (v + x)) = wd := ⟨_, rfl⟩
          rw [hwd]
          have HLd : Hid (wd.ownsRow (gU + 1) 3 1 (.slice (some ⟨gL, 0, none⟩) (m) c1) (m) (((ldL cap R).set (0) (v + x)).map (Value.int .i64))) := Lib.hid (by rw [← hwd, List.map_set]; exact own_heapW rfl HLs.out)
          have HUd : Hid (wd.ownsRow gU 3 1 (.slice (some ⟨gU, 0, none⟩) n n) n ((unP cap L os k).map (Value.int .i64))) := Lib.hid (by rw [← hwd]; exact own_heapW rfl HUs.out)
          have HBd : Hid (Below gU w wd) := Lib.hid (by rw [← hwd]; exact (drewN_below HBw.out _).setCell (p := ⟨gL, (0), none⟩) (by have := (HLw.out.lt gL rfl).1; show gU ≤ gL; omega) _)
          clear hwd cl zl cx
          have hold := HUd.out.cellAt i (by omega)
          rw [List.getElem?_map, List.getElem?_eq_getElem (by rw [unP_len]; exact hks2)] at hold
          simp only [Option.map_some] at hold
          have hfz := HUd.out.frozenAt i
          have hst := HUd.out.stored i (.int .i64 (fitK R x : Int))
          rw [← List.map_set, ← HUP.out, HFT.out] at hst
          have HUe := Lib.hid hst.1
          have HLe := Lib.hid (own_set HLd.out (p := ⟨gU, i, none⟩) (fun e => HGL.out e.symm) (.int .i64 (0)))
          have HBe := Lib.hid (HBd.out.setCell (p := ⟨gU, i, none⟩) (Nat.le_refl _) (.int .i64 (0)))
          clear hst
          go_wp2
          try simp only [Exit.jump]
          go_wp2
          go_roundw
          case rel => exact ⟨k + 1, some ⟨gL, 0, none⟩, m, c1, by omega, by first | rfl | (congr 1 <;> simp), by go_num, Lib.hid (by rw [HSTP.out, HLEN.out]), Lib.hid (by rw [HSTP.out, ← HSET.out]; exact HLe.out), HUe.out |> Lib.hid, HBe.out⟩
          case measure => simp [intOf]; omega
    · rintro a2 w2 ⟨u, _, _, _, _, _, _, _, _, _, _, _, _, _, _, _, _, _, _, _, _, _, _, _, _, _, _, _, _, _, _, _, _, _, _, _, rfl, HUM, HJw, HLw0, HUw0, HBw0⟩
      clear cx HLD HU HB hbw
      have HZw : Hid (gU + 1 ≤ w2.heap.size) := Lib.hid (by have := (HUw0.out.lt gU rfl).2; omega)
      by_cases hq : u = m
      case pos =>
        obtain rfl := hq
        have HFT : Hid (fitK R x = u) := Lib.hid (fit_is (by have := HM.out; omega) HJw.out (fun h => by have := HM.out; omega))
        go_wp2_with (at_builtin; refine wp_app rfl (.tmp 25) (.tmp 26) 26 3 rfl (gU + 1) Try.underlying26 Try.inf_int rfl (by decide) (by decide) _ (u) _ rfl (HLw0.out.alloc _) _ _ [.int .i64 0] rfl rfl (news1 (new_at_ _ _ _ _ rfl)) (news_int _) (by omega) (by have := HZw.out; simp; omega) ?_)
        intro A4 c4 m4 w4 hm4 hown4 hgrow4 hloc4
        subst hm4
        have HBw : Hid (Below gU w w4) := Lib.hid ((HBw0.out.alloc (by have := HZw.out; omega) _).grown hgrow4 (by have := HZw.out; simp; omega) (fun g hg => by have := (HLw0.out.lt g hg).1; omega))
        have hap : Apart (.slice (some ⟨gU, 0, none⟩) n n) (.slice A1 (u) c1) := fun g h1 h2 => by
          have := (HLw0.out.lt g h2).1
          simp [Value.ownBlock] at h1; omega
        have HUw := Lib.hid (hap.kept (HUw0.out.alloc _) hgrow4)
        obtain ⟨gL, rfl⟩ := own_some hown4 (by omega)
        obtain ⟨v, hv⟩ : ∃ v : Int, 0 = v := ⟨_, rfl⟩
        have hvx : v + x ≤ cap ∧ 0 ≤ v := by omega
        have hnov : ¬ cap < v + x := by omega
        have HLw : Hid (w4.ownsRow (gU + 1) 3 1 (.slice (some ⟨gL, 0, none⟩) (u + 1) c4) (u + 1) ((ldL cap R ++ [v]).map (Value.int .i64))) := Lib.hid (by rw [List.map_append, ← hv]; exact hown4)
        clear hown4 hgrow4 hloc4 hap
        have HSET : Hid ((ldL cap R ++ [v]).set (u) (v + x) = ldL cap (roomS cap x R)) := Lib.hid (by rw [← hv]; exact ld_new HFT.out HM.out)
        have HLEN : Hid ((roomS cap x R).length = u + 1) := Lib.hid (roomS_new_len HFT.out HM.out)
        have cl := HLw.out.cellAt (u) (by omega)
        rw [List.getElem?_map, List.getElem?_append_right (by rw [ldL_len]; have := HM.out; omega), ldL_len, ← HM.out, Nat.sub_self] at cl
        simp only [List.getElem?_cons_zero, Option.map_some] at cl
        have zl := HLw.out.frozenAt (u)
        have cx := HCX.out w4 HBw.out
        have cx2 : ad.block < w.heap.size := hb
        have hwv : IntKind.i64.wrap (v + x) = v + x := IntWalk.i64_in _ (by omega)
        clear hv
        have HLs := Lib.hid (HLw.out.stored (u) (.int .i64 (v + x))).1
        have HUs := Lib.hid (own_set HUw.out (p := ⟨gL, (u), none⟩) (by have := (HLw.out.lt gL rfl).1; show gL ≠ gU; omega) (.int .i64 (v + x)))
        have HGL : Hid (gL ≠ gU) := Lib.hid (by have := (HLw.out.lt gL rfl).1; omega)
        have hunI : (u : Int) < (u + 1 : Int) := by omega
        have hunN : (u) < u + 1 := by omega
        go_wp2
        go_quiet (fail)
        go_wp2
        go_region
        obtain ⟨wd, hwd⟩ : ∃ wd, (w4.drewN (nq + 1)).setCell ⟨gL, (u), none⟩ (.int .i64 (v + x)) = wd := ⟨_, rfl⟩
        rw [hwd]
        have HLd : Hid (wd.ownsRow (gU + 1) 3 1 (.slice (some ⟨gL, 0, none⟩) (u + 1) c4) (u + 1) (((ldL cap R ++ [v]).set (u) (v + x)).map (Value.int .i64))) := Lib.hid (by rw [← hwd, List.map_set]; exact own_heapW rfl HLs.out)
        have HUd : Hid (wd.ownsRow gU 3 1 (.slice (some ⟨gU, 0, none⟩) n n) n ((unP cap L os k).map (Value.int .i64))) := Lib.hid (by rw [← hwd]; exact own_heapW rfl HUs.out)
        have HBd : Hid (Below gU w wd) := Lib.hid (by rw [← hwd]; exact (drewN_below HBw.out _).setCell (p := ⟨gL, (u), none⟩) (by have := (HLw.out.lt gL rfl).1; show gU ≤ gL; omega) _)
        clear hwd cl zl cx
        have hold := HUd.out.cellAt i (by omega)
        rw [List.getElem?_map, List.getElem?_eq_getElem (by rw [unP_len]; exact hks2)] at hold
        simp only [Option.map_some] at hold
        have hfz := HUd.out.frozenAt i
        have hst := HUd.out.stored i (.int .i64 (fitK R x : Int))
        rw [← List.map_set, ← HUP.out, HFT.out] at hst
        have HUe := Lib.hid hst.1
        have HLe := Lib.hid (own_set HLd.out (p := ⟨gU, i, none⟩) (fun e => HGL.out e.symm) (.int .i64 ((u : Int))))
        have HBe := Lib.hid (HBd.out.setCell (p := ⟨gU, i, none⟩) (Nat.le_refl _) (.int .i64 ((u : Int))))
        clear hst
        go_wp2
        try simp only [Exit.jump]
        go_wp2
        go_roundw
        case rel => exact ⟨k + 1, some ⟨gL, 0, none⟩, u + 1, c4, by omega, by first | rfl | (congr 1 <;> simp), by go_num, Lib.hid (by rw [HSTP.out, HLEN.out]), Lib.hid (by rw [HSTP.out, ← HSET.out]; exact HLe.out), HUe.out |> Lib.hid, HBe.out⟩
        case measure => simp [intOf]; omega
      case neg =>
        have hum : u < m := by have := HUM.out; omega
        have humI : (u : Int) < (m : Int) := by omega
        have hneI : ¬ (u : Int) = (m : Int) := by omega
        have hneB : (((u : Int) : Int) == (m : Int)) = false := beq_eq_false_iff_ne.2 hneI
        have hmr : u < R.length := by have := HM.out; omega
        obtain ⟨gL, rfl⟩ := own_some HLw0.out (by omega)
        have HUw := HUw0
        have HBw := HBw0
        obtain ⟨r, hrr⟩ : ∃ r, R.getD (u) 0 = r := ⟨_, rfl⟩
        have hri := HRIN.out (u) hmr
        rw [hrr] at hri
        obtain ⟨v, hv⟩ : ∃ v : Int, cap - r = v := ⟨_, rfl⟩
        have HLw : Hid (w2.ownsRow (gU + 1) 3 1 (.slice (some ⟨gL, 0, none⟩) m c1) m ((ldL cap R).map (Value.int .i64))) := HLw0
        have cl := HLw.out.cellAt (u) (by omega)
        rw [List.getElem?_map, ldL_at hmr, hrr, hv] at cl
        simp only [Option.map_some] at cl
        have zl := HLw.out.frozenAt (u)
        have cx := HCX.out w2 HBw.out
        have hvx : 0 ≤ v ∧ v ≤ cap := by omega
        have hwv : IntKind.i64.wrap (v + x) = v + x := IntWalk.i64_in _ (by omega)
        by_cases hrx : r < x
        case pos =>
          have hov : cap < v + x := by omega
          have HJ2 : Hid (∀ j, j < u + 1 → R.getD j 0 < x) := Lib.hid (fun j hj => by
            by_cases e : j = u
            · rw [e, hrr]; exact hrx
            · exact HJw.out j (by omega))
          clear hv hrx
          go_wp2
          go_quiet (fail)
          go_wp2
          go_step3
          refine ⟨rfl, ⟨u + 1, _, _, _, _, _, _, _, _, _, _, _, _, _, _, _, _, _, _, _, _, _, _, _, _, _, _, _, _, _, _, _, _, _, _, _, rfl, Lib.hid (by omega), HJ2, Lib.hid (ownD HLw.out _), Lib.hid (ownD HUw.out _), Lib.hid (drewN_below HBw.out _)⟩, ?_⟩
          simp [intOf]; omega
        case neg =>
          have HFT : Hid (fitK R x = u) := Lib.hid (fit_is (by omega) HJw.out (fun _ => by rw [hrr]; exact hrx))
          have hnov : ¬ cap < v + x := by omega
          have HSET : Hid ((ldL cap R).set (u) (v + x) = ldL cap (roomS cap x R)) := Lib.hid (by rw [← hv]; exact ld_old HFT.out hmr hrr)
          have HLEN : Hid ((roomS cap x R).length = m) := Lib.hid (by rw [roomS_old_len HFT.out hmr, HM.out])
          clear hv hrx hrr
          have HLs := Lib.hid (HLw.out.stored (u) (.int .i64 (v + x))).1
          have HUs := Lib.hid (own_set HUw.out (p := ⟨gL, (u), none⟩) (by have := (HLw.out.lt gL rfl).1; show gL ≠ gU; omega) (.int .i64 (v + x)))
          have HGL : Hid (gL ≠ gU) := Lib.hid (by have := (HLw.out.lt gL rfl).1; omega)
          have hunI : (u : Int) < (m : Int) := by omega
          have hunN : (u) < m := by omega
          go_wp2
          go_quiet (fail)
          go_wp2
          go_region
          obtain ⟨wd, hwd⟩ : ∃ wd, (w2.drewN (nq + 1)).setCell ⟨gL, (u), none⟩ (.int .i64 (v + x)) = wd := ⟨_, rfl⟩
          rw [hwd]
          have HLd : Hid (wd.ownsRow (gU + 1) 3 1 (.slice (some ⟨gL, 0, none⟩) (m) c1) (m) (((ldL cap R).set (u) (v + x)).map (Value.int .i64))) := Lib.hid (by rw [← hwd, List.map_set]; exact own_heapW rfl HLs.out)
          have HUd : Hid (wd.ownsRow gU 3 1 (.slice (some ⟨gU, 0, none⟩) n n) n ((unP cap L os k).map (Value.int .i64))) := Lib.hid (by rw [← hwd]; exact own_heapW rfl HUs.out)
          have HBd : Hid (Below gU w wd) := Lib.hid (by rw [← hwd]; exact (drewN_below HBw.out _).setCell (p := ⟨gL, (u), none⟩) (by have := (HLw.out.lt gL rfl).1; show gU ≤ gL; omega) _)
          clear hwd cl zl cx
          have hold := HUd.out.cellAt i (by omega)
          rw [List.getElem?_map, List.getElem?_eq_getElem (by rw [unP_len]; exact hks2)] at hold
          simp only [Option.map_some] at hold
          have hfz := HUd.out.frozenAt i
          have hst := HUd.out.stored i (.int .i64 (fitK R x : Int))
          rw [← List.map_set, ← HUP.out, HFT.out] at hst
          have HUe := Lib.hid hst.1
          have HLe := Lib.hid (own_set HLd.out (p := ⟨gU, i, none⟩) (fun e => HGL.out e.symm) (.int .i64 ((u : Int))))
          have HBe := Lib.hid (HBd.out.setCell (p := ⟨gU, i, none⟩) (Nat.le_refl _) (.int .i64 ((u : Int))))
          clear hst
          go_wp2
          try simp only [Exit.jump]
          go_wp2
          go_roundw
          case rel => exact ⟨k + 1, some ⟨gL, 0, none⟩, m, c1, by omega, by first | rfl | (congr 1 <;> simp), by go_num, Lib.hid (by rw [HSTP.out, HLEN.out]), Lib.hid (by rw [HSTP.out, ← HSET.out]; exact HLe.out), HUe.out |> Lib.hid, HBe.out⟩
          case measure => simp [intOf]; omega
end Go.Proofs.Ytlgkjidginibdaa
