/- Critical risk groups: contract of the specification. No condition but those typed. -/
import Derived.Test.YtcbjdfgmkiodkaaCrit
namespace Go.Proofs.Ytcbjdfgmkiodkaa
open Go.ChangeShapes Go.WideShapes Go.ChangeAt Go.RowKit

set_option maxRecDepth 100000 in
set_option maxHeartbeats 8000000 in
theorem specCG6 {g1 g2 n1 n2 c1 c2 : Nat} {ss : List ByteArray} {fs : List Q4} {w : World} (h : NetAt g1 g2 n1 n2 c1 c2 ss fs w) :
    Calls Try.prog 55 #[.agg #[.slice (some ⟨g1, 0, none⟩) n1 c1, .slice (some ⟨g2, 0, none⟩) n2 c2]] w (IntsP (selV (netP ss fs) (crQ n1 fs (rgL fs)) (rgL fs).length) (pb (netP ss fs)) w) := by
  have HNT := Lib.hid h
  have HL2 := Lib.hid h.ln2
  have hs2 := h.sm2
  clear h
  have HL1 := Lib.hid HNT.out.ln1
  obtain ⟨RL, hRL⟩ : ∃ r, selV (netP ss fs) (crQ n1 fs (rgL fs)) (rgL fs).length = r := ⟨_, rfl⟩
  obtain ⟨RB, hRB⟩ : ∃ r, pb (netP ss fs) = r := ⟨_, rfl⟩
  have HNO : Hid (¬ netP ss fs → RL = [] ∧ RB = false) := Lib.hid (fun e => by rw [← hRL, ← hRB]; exact selV_no e)
  have HYES : Hid (netP ss fs → RL = selK (crQ n1 fs (rgL fs)) (rgL fs).length ∧ RB = true) := Lib.hid (fun e => by rw [← hRL, ← hRB]; exact selV_yes e)
  rw [hRL, hRB]
  clear hRL
  go_enter Try.func55, Try.ntmps55
  go_wp2_with fail
  obtain ⟨W0, hW0⟩ : ∃ W0, (w.alloc (Obj.cells #[.slice (some ⟨g1, 0, none⟩) n1 c1, .slice (some ⟨g2, 0, none⟩) n2 c2] 32)).alloc (Obj.cells #[] 3) = W0 := ⟨_, rfl⟩
  have hb0 : Below w.heap.size w W0 := by rw [← hW0]; exact ((Below.refl _ _).alloc (Nat.le_refl _) _).alloc (by simp) _
  have hk0 : W0.cell? ⟨w.heap.size, 0, none⟩ = some (.slice (some ⟨g1, 0, none⟩) n1 c1) := by rw [← hW0]; simp [go_sem]
  have hk1 : W0.cell? ⟨w.heap.size, 1, none⟩ = some (.slice (some ⟨g2, 0, none⟩) n2 c2) := by rw [← hW0]; simp [go_sem]
  have hz0 : w.heap.size + 1 < W0.heap.size := by rw [← hW0]; simp
  have HB0 := Lib.hid hb0; have HK0 := Lib.hid hk0; have HK1 := Lib.hid hk1; have HZB := Lib.hid hz0
  have HO0 : Hid (W0.ownsRow (w.heap.size + 1) 3 1 (.slice (some ⟨w.heap.size + 1, 0, none⟩) 0 0) 0 []) := Lib.hid (by
    rw [← hW0]
    have h9 := World.ownsRow_lit (base := w.heap.size + 1) (e := 3) (size := 1) (w.alloc (Obj.cells #[.slice (some ⟨g1, 0, none⟩) n1 c1, .slice (some ⟨g2, 0, none⟩) n2 c2] 32)) #[] 0 (by simp) (by unfold maxLen; omega) rfl
    simpa using h9)
  rw [hW0]
  clear hW0 hb0
  clear hk0 hk1 hz0
  refine (specNet_ (HNT.out.moved HB0.out)).mono ?_
  rw [hRB]
  rintro e w1 ⟨rfl, hb1⟩
  have HB1 := Lib.hid (HB0.out.trans (hb1.mono HB0.out.size))
  have HO1 := Lib.hid (ownB HO0.out hb1)
  have k0 := (hb1.cell (p := ⟨w.heap.size, 0, none⟩) (by show w.heap.size < _; have := HZB.out; omega)).trans HK0.out
  have k1 := (hb1.cell (p := ⟨w.heap.size, 1, none⟩) (by show w.heap.size < _; have := HZB.out; omega)).trans HK1.out
  have HK0b := Lib.hid k0
  have HK1b := Lib.hid k1
  have HZ1 : Hid (w.heap.size + 1 < w1.heap.size) := Lib.hid (by have := HZB.out; have := hb1.size; omega)
  have hg0 : w.heap.size < w1.heap.size := by have := HZ1.out; omega
  clear hb1
  cases RB
  case false =>
    have HE := Lib.hid (HNO.out (of_npb hRB))
    clear hRB k0 k1 hg0
    go_wp2
    go_ret2
    obtain ⟨rfl, _⟩ := HE.out
    exact ⟨_, 0, _, rfl, Lib.hid rfl, own_base HO1.out (by omega), HB1.out⟩
  case true =>
  have hv := of_pb hRB
  have HV := Lib.hid hv
  have HE := Lib.hid (HYES.out hv)
  have hn8 : n1 ≤ 8 := by have := hv.1; have := HL1.out; omega
  have CL := Lib.hid (l2Groups_ (HNT.out.moved HB1.out) hv)
  have hgl : (rgL fs).length ≤ 14 := by have := rgp_len fs; have := hv.2.1; omega
  have HGS : Hid (∀ g ∈ rgL fs, g.length ≤ 14) := Lib.hid (fun g hg => by have := rgp_le hg; have := hv.2.1; omega)
  have HGB := Lib.hid (fun g (hg : g ∈ rgL fs) => rgp_bd6 hv hg)
  obtain ⟨gs, hgs⟩ : ∃ gs, rgL fs = gs := ⟨_, rfl⟩
  rw [hgs] at CL HE hgl HGS HGB
  clear hRB hv hgs
  go_wp2_with fail
  clear k0 k1 hg0
  refine CL.out.mono ?_
  rintro e w3 ⟨A0, N0, d0, zs, rfl, HD, hR3, hb3⟩
  have HB3 := Lib.hid (HB1.out.trans (hb3.mono HB1.out.size))
  have HBA3 := Lib.hid hb3
  have HO3 := Lib.hid (ownB HO1.out hb3)
  have HRW := Lib.hid hR3
  have HNL : Hid (N0 = gs.length) := Lib.hid (by have h1 := hR3.len; have h2 := congrArg List.length HD.out; rw [List.length_map] at h2; omega)
  have hn0 : N0 ≤ 14 := by have := HNL.out; omega
  clear hb3 hR3
  go_wp2
  go_loopw [4, 6] (fun v i wr => ∃ (k : Nat) (A1 : Option Addr) (N1 d1 : Nat), k ≤ N0 ∧ i = .int .i64 k ∧ v = .slice A1 N1 d1 ∧ N1 ≤ k ∧ Hid (N1 = (selK (crQ n1 fs gs) k).length) ∧ Hid (wr.ownsRow (w.heap.size + 1) 3 1 (.slice A1 N1 d1) N1 ((selK (crQ n1 fs gs) k).map (Value.int .i64))) ∧ Hid (Rws w1.heap.size A0 N0 d0 zs wr) ∧ Hid (∀ y ∈ zs, Apart y.val (.slice A1 N1 d1)) ∧ Below (w.heap.size + 1) w1 wr) (fun _ i _ => N0 - (intOf i).toNat)
  case atStart => exact ⟨0, _, 0, _, Nat.zero_le _, rfl, rfl, Nat.le_refl _, Lib.hid rfl, HO3, HRW, Lib.hid (fun y hy => apart_new HO1.out (HRW.out.own y hy).2 (Nat.le_refl _)), HBA3.out.mono (by have := HZ1.out; omega)⟩
  case round =>
    obtain ⟨k, A1, N1, d1, hk, rfl, rfl, hNk, HN1, HOW, HRR, HBK, hb⟩ := hrel
    have HBR := Lib.hid hb
    have HBW := Lib.hid (HB1.out.trans (hb.mono (by omega)))
    have HSZ : Hid (w.heap.size + 1 ≤ wr.heap.size) := Lib.hid (by have := hb.size; have := HZ1.out; omega)
    clear hb
    by_cases hlt : k < N0
    case neg =>
      have hkL : k = gs.length := by have := HNL.out; omega
      have HF : Hid (RL = selK (crQ n1 fs gs) k) := Lib.hid (by rw [HE.out.1, hkL])
      clear hkL
      go_wp2
      go_ret2
      rw [HF.out]
      exact ⟨A1, N1, d1, rfl, HN1, own_base HOW.out (by omega), HBW.out⟩
    case pos =>
    have hkz : k < zs.length := by have := HRR.out.len; omega
    have hkl : k < gs.length := by have := HNL.out; omega
    obtain ⟨y, hy⟩ : ∃ y, zs[k]'hkz = y := ⟨_, rfl⟩
    have hz : y.zs = gs[k] := by
      have h9 := congrArg (fun l : List (List Int) => l[k]?) HD.out
      simp only [List.getElem?_map, List.getElem?_eq_getElem hkz, List.getElem?_eq_getElem hkl, hy, Option.map_some] at h9
      injection h9
    have hgl2 := HGS.out gs[k] (List.getElem_mem hkl)
    have hgb2 := HGB.out gs[k] (List.getElem_mem hkl)
    have HQ : Hid (crQ n1 fs gs k = pb (splP n1 fs (mkN y.zs) (-1))) := Lib.hid (by
      unfold crQ
      rw [show gs.getD k [] = gs[k] by rw [List.getD_eq_getElem?_getD, List.getElem?_eq_getElem hkl]; rfl, hz])
    rw [← hz] at hgl2 hgb2
    obtain ⟨g0, hA0, hg0_, hc0, ho0⟩ := HRR.out.at_ hkz hy
    subst hA0
    obtain ⟨T, f, x0, hx0, hTT, HST⟩ := above wr
    haveI : Nonempty T := ⟨x0⟩
    have hbW : ∀ x, Below w.heap.size w (f x) := fun x => HBW.out.trans ((hTT x).mono HBW.out.size)
    have hb1x : ∀ x, Below (w.heap.size + 1) w1 (f x) := fun x => HBR.out.trans ((hTT x).mono HSZ.out)
    have s0 : ∀ x, (f x).cell? ⟨w.heap.size, 0, none⟩ = some (.slice (some ⟨g1, 0, none⟩) n1 c1) := fun x => ((hb1x x).cell (p := ⟨w.heap.size, 0, none⟩) (by show w.heap.size < _; omega)).trans HK0b.out
    have s1 : ∀ x, (f x).cell? ⟨w.heap.size, 1, none⟩ = some (.slice (some ⟨g2, 0, none⟩) n2 c2) := fun x => ((hb1x x).cell (p := ⟨w.heap.size, 1, none⟩) (by show w.heap.size < _; omega)).trans HK1b.out
    have s2 : ∀ x, (f x).cell? ⟨g0, k, none⟩ = some (.slice y.A y.n y.c) := fun x => ((hTT x).cell (p := ⟨g0, k, none⟩) hg0_).trans hc0
    obtain ⟨yA, yn, yc, zz⟩ := y
    obtain ⟨e1, o1⟩ := ho0
    simp only at e1 o1 hgl2 hgb2 HQ s2
    have hyn : yn ≤ 1048576 := by omega
    have e1s := e1.symm
    have hm20 : mkN zz < 2 ^ 20 := maskU_lt hgb2
    have CM : Hid (∀ x, Calls Try.prog 136 #[.slice yA yn yc] (f x) (RetP (.int .i64 (mkN zz : Nat)) (f x))) := Lib.hid fun x => by
      refine (l6Mask_ yA yn yc zz (f x) e1s hyn ((Rd.ofOwn o1).moved (hTT x)) (fun j hj => hgb2 j (by omega))).mono ?_
      rintro e w' ⟨rfl, rfl⟩
      exact ⟨by unfold mkN; rw [e1], Below.refl _ _⟩
    have CO : Hid (∀ x, Calls Try.prog 143 #[.agg #[.slice (some ⟨g1, 0, none⟩) n1 c1, .slice (some ⟨g2, 0, none⟩) n2 c2], .int .i64 (mkN zz : Nat), .int .i64 (-1)] (f x) (RetP (.bool (pb (splP n1 fs (mkN zz) (-1)))) (f x))) := Lib.hid fun x => splits_ (HNT.out.moved (hbW x)) HV.out (mkN zz) (-1) hm20
    have HT1 : Hid (∀ x, Below wr.heap.size wr (f x)) := Lib.hid hTT
    have HXX := Lib.hid hx0
    obtain ⟨m, hm⟩ : ∃ m, mkN zz = m := ⟨_, rfl⟩
    obtain ⟨u, hu⟩ : ∃ u, pb (splP n1 fs (mkN zz) (-1)) = u := ⟨_, rfl⟩
    rw [hu] at CO HQ
    rw [hm] at CM CO
    clear hbW hb1x hTT hx0 hy hz hkz hkl e1 e1s o1 hgl2 hgb2 hc0 hg0_ hm20 hm hu
    cases u
    case false =>
      have HTO := Lib.hid (sel_out (p := crQ n1 fs gs) (k := k) HQ.out)
      go_wp2_with fail
      refine wp_region_class f (by kernel_rfl) (by kernel_rfl) x0 HXX.out ?_
      repeat (go_big_quiet_step (first | (go_at_call 136; exact Calls.inClass HST (CM.out _)) | (go_at_call 143; exact Calls.inClass HST (CO.out _))))
      refine wpQuiet_nil ?_
      rintro _ ⟨t, rfl⟩
      have HB4 := Lib.hid (HBR.out.trans ((HT1.out t).mono HSZ.out))
      have HO4 : Hid ((f t).ownsRow (w.heap.size + 1) 3 1 (.slice A1 N1 d1) N1 ((selK (crQ n1 fs gs) (k + 1)).map (Value.int .i64))) := Lib.hid (by rw [HTO.out]; exact ownB HOW.out (HT1.out t))
      have HN2 : Hid (N1 = (selK (crQ n1 fs gs) (k + 1)).length) := Lib.hid (by rw [HTO.out]; exact HN1.out)
      have HR4 := Lib.hid (HRR.out.moved (HT1.out t))
      clear s0 s1 s2
      go_wp2
      go_roundw
      case rel => exact ⟨k + 1, A1, N1, d1, by omega, by go_num, rfl, by omega, HN2, HO4, HR4, HBK, HB4.out⟩
      case measure => simp [intOf]; omega
    case true =>
      have HTO := Lib.hid (sel_in (p := crQ n1 fs gs) (k := k) HQ.out)
      have HQT : Hid (crQ n1 fs gs k = true) := Lib.hid HQ.out
      go_wp2_with fail
      refine wp_region_class f (by kernel_rfl) (by kernel_rfl) x0 HXX.out ?_
      repeat (go_big_quiet_step (first | (go_at_call 136; exact Calls.inClass HST (CM.out _)) | (go_at_call 143; exact Calls.inClass HST (CO.out _))))
      refine wpQuiet_nil ?_
      rintro _ ⟨t, rfl⟩
      have HBD := Lib.hid (HBR.out.trans ((HT1.out t).mono HSZ.out))
      have HOD := Lib.hid (ownB HOW.out (HT1.out t))
      have HRD2 := Lib.hid (HRR.out.moved (HT1.out t))
      have HSD : Hid (w.heap.size + 1 ≤ (f t).heap.size) := Lib.hid (by have := (HT1.out t).size; have := HSZ.out; omega)
      clear s0 s1 s2
      generalize f t = wd at HBD HOD HRD2 HSD ⊢
      go_wp2_with (at_builtin; refine wp_app rfl (.tmp 27) (.tmp 29) 39 3 rfl (w.heap.size + 1) Try.underlying39 Try.inf_int rfl (by decide) (by decide) _ N1 _ rfl (HOD.out.alloc _) _ _ [.int .i64 (k : Int)] rfl rfl (news1 (new_at_ _ _ _ _ rfl)) (news_int _) (by omega) (by have := HSD.out; simp; omega) ?_)
      intro A3 d3 N3 w4 hN3 hown3 hgrow3 hloc3
      have HB3_ := Lib.hid ((HBD.out.alloc HSD.out _).grown hgrow3 (by have := HSD.out; simp; omega) (fun g hg => (HOD.out.lt g hg).1))
      have HO3_ : Hid (w4.ownsRow (w.heap.size + 1) 3 1 (.slice A3 N3 d3) N3 ((selK (crQ n1 fs gs) (k + 1)).map (Value.int .i64))) := Lib.hid (by rw [HTO.out, List.map_append]; exact hown3)
      have HN4 := Lib.hid (sel_pushed HQT.out HN1.out hN3)
      have hN5 : N3 ≤ k + 1 := by omega
      have HRD3 : Hid (Rws w1.heap.size (some ⟨g0, 0, none⟩) N0 d0 zs w4) := Lib.hid ((HRD2.out.alloc _).grown (HOD.out.alloc _) HBK.out hgrow3)
      have HBK2 : Hid (∀ y ∈ zs, Apart y.val (.slice A3 N3 d3)) := Lib.hid (HRD2.out.loc HBK.out hloc3 (Nat.le_succ _))
      clear hown3 hgrow3 hloc3 hN3
      go_wp2
      go_roundw
      case rel => exact ⟨k + 1, A3, N3, d3, by omega, by go_num, rfl, hN5, HN4, HO3_, HRD3, HBK2, HB3_.out⟩
      case measure => simp [intOf]; omega
end Go.Proofs.Ytcbjdfgmkiodkaa
