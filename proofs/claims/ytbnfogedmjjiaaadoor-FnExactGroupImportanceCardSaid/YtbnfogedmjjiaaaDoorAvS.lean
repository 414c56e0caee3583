/- Sums over the states of a network: contract of spec.l16Connected. No condition but those typed. -/
import Derived.Test.YtbnfogedmjjiaaaDoorAv
import Derived.Test.YtbnfogedmjjiaaaDoorLab
import Derived.Test.YtbnfogedmjjiaaaDoorGB
namespace Go.Proofs.YtbnfogedmjjiaaaDoor
open Go.ChangeShapes Go.WideShapes Go.ChangeAt Go.RowKit

set_option maxRecDepth 100000 in
set_option maxHeartbeats 4000000 in
theorem con16C_ {g1 g2 n1 n2 c1 c2 : Nat} {ss : List ByteArray} {fs : List Q4} {w : World} (h : NetAt g1 g2 n1 n2 c1 c2 ss fs w) (hv : netP ss fs) (u : Int) {A : Option Addr} {n c : Nat} {ds : List Int} (hn : ds.length = n) (hr : Rd w w.heap.size A (ds.map (Value.int .i64))) (hx : n ≤ 14) (hg : n = (rgL fs).length) (hu0 : 0 ≤ u) (hu : u ≤ 20) (hd : ∀ j, j < n → 0 ≤ nth ds j ∧ nth ds j ≤ u) (x y : Nat) (hx1 : x < n1) (hy1 : y < n1) :
    Calls Tryd.prog 107 #[.agg #[.slice (some ⟨g1, 0, none⟩) n1 c1, .slice (some ⟨g2, 0, none⟩) n2 c2], .agg #[.int .i64 u, .slice A n c], .int .i64 (x : Int), .int .i64 (y : Int)] w (RetP (.int .i64 (avN (fun z => wtN u ds z n) (fun z => pb (Cn fs (gnN (rgL fs) z) (x : Int) (y : Int))) (2 ^ n))) w) := by
  have HNT := Lib.hid h; have HN := Lib.hid hn; have HR := Lib.hid hr; have HD := Lib.hid hd; have HGN := Lib.hid hg; have HV := Lib.hid hv
  have HL1 := Lib.hid h.ln1
  have hn8 : n1 ≤ 8 := by have := hv.1; have := h.ln1; omega
  have hn2 : 2 ≤ n1 := by have := hv.1; have := h.ln1; omega
  have HGB := Lib.hid (rg_gb hv)
  have HZG : Hid (∀ g ∈ rgL fs, g.length ≤ 1048576) := Lib.hid (fun g hg => by have := rgp_le hg; have := hv.2.1; omega)
  have HBD : Hid (∀ f : Nat, f < 2 ^ n → 0 ≤ (avN (fun z => wtN u ds z n) (fun z => pb (Cn fs (gnN (rgL fs) z) (x : Int) (y : Int))) f) ∧ 0 ≤ wtN u ds f n ∧ (avN (fun z => wtN u ds z n) (fun z => pb (Cn fs (gnN (rgL fs) z) (x : Int) (y : Int))) f) + wtN u ds f n ≤ 20 ^ 14) := Lib.hid (fun f hf => av_bd hu0 hu hd hx _ hf)
  have hP14 : 2 ^ n ≤ 16384 := Nat.pow_le_pow_right (by decide : 0 < 2) hx
  have hpi : (2 : Int) ^ n = ((2 ^ n : Nat) : Int) := pow_int n
  obtain ⟨P, hP⟩ : ∃ P : Nat, 2 ^ n = P := ⟨_, rfl⟩
  rw [hP] at hpi hP14 HBD ⊢
  have HPI2 := Lib.hid hpi
  clear h hn hr hd hv hg hP hpi
  go_enter Tryd.func107, Tryd.ntmps107
  go_wp2_with fail
  obtain ⟨W0, hW0⟩ : ∃ W0, (w.alloc (Obj.cells #[.slice (some ⟨g1, 0, none⟩) n1 c1, .slice (some ⟨g2, 0, none⟩) n2 c2] 34)).alloc (Obj.cells #[.int .i64 u, .slice A n c] 60) = W0 := ⟨_, rfl⟩
  have hb0 : Below w.heap.size w W0 := by rw [← hW0]; exact ((Below.refl _ _).alloc (Nat.le_refl _) _).alloc (by simp) _
  have k0 : W0.cell? ⟨w.heap.size, 0, none⟩ = some (.slice (some ⟨g1, 0, none⟩) n1 c1) := by rw [← hW0]; simp [go_sem]
  have k1 : W0.cell? ⟨w.heap.size, 1, none⟩ = some (.slice (some ⟨g2, 0, none⟩) n2 c2) := by rw [← hW0]; simp [go_sem]
  have k2 : W0.cell? ⟨w.heap.size + 1, 0, none⟩ = some (.int .i64 u) := by rw [← hW0]; simp [go_sem]
  have k3 : W0.cell? ⟨w.heap.size + 1, 1, none⟩ = some (.slice A n c) := by rw [← hW0]; simp [go_sem]
  have hz0 : w.heap.size + 1 < W0.heap.size := by rw [← hW0]; simp
  have HB0 := Lib.hid hb0; have HK0 := Lib.hid k0; have HK1 := Lib.hid k1; have HK2 := Lib.hid k2; have HK3 := Lib.hid k3; have HZ0 := Lib.hid hz0
  rw [hW0]
  clear hW0 hb0 k0 k1 k2 k3 hz0
  refine (l2Groups_ (HNT.out.moved HB0.out) HV.out).mono ?_
  rintro e w1 ⟨AG, NG, cG, ysG, rfl, HGD, hrw, hb1⟩
  have HB1 := Lib.hid (HB0.out.trans (hb1.mono HB0.out.size))
  have HRW := Lib.hid hrw
  obtain rfl : NG = n := by have h1 := hrw.len; have h2 := congrArg List.length HGD.out; rw [List.length_map] at h2; rw [HGN.out]; omega
  have HKB : Hid (∀ W, Below w1.heap.size w1 W → W.cell? ⟨w.heap.size + 1, 0, none⟩ = some (.int .i64 u) ∧ W.cell? ⟨w.heap.size + 1, 1, none⟩ = some (.slice A NG c)) := Lib.hid (fun W hW => ⟨((hb1.trans (hW.mono hb1.size)).cell (p := ⟨w.heap.size + 1, 0, none⟩) (by show w.heap.size + 1 < _; have := HZ0.out; omega)).trans HK2.out, ((hb1.trans (hW.mono hb1.size)).cell (p := ⟨w.heap.size + 1, 1, none⟩) (by show w.heap.size + 1 < _; have := HZ0.out; omega)).trans HK3.out⟩)
  have HKN : Hid (∀ W, Below w1.heap.size w1 W → W.cell? ⟨w.heap.size, 0, none⟩ = some (.slice (some ⟨g1, 0, none⟩) n1 c1) ∧ W.cell? ⟨w.heap.size, 1, none⟩ = some (.slice (some ⟨g2, 0, none⟩) n2 c2) ∧ w.heap.size < W.heap.size) := Lib.hid (fun W hW => ⟨((hb1.trans (hW.mono hb1.size)).cell (p := ⟨w.heap.size, 0, none⟩) (by show w.heap.size < _; have := HZ0.out; omega)).trans HK0.out, ((hb1.trans (hW.mono hb1.size)).cell (p := ⟨w.heap.size, 1, none⟩) (by show w.heap.size < _; have := HZ0.out; omega)).trans HK1.out, by have := HZ0.out; have := hb1.size; have := hW.size; omega⟩)
  clear hb1 hrw
  have hpi := HPI2.out
  go_wp2
  go_loopw [10, 11] (fun v i wr => ∃ (f : Nat) (S : Int), f ≤ P ∧ i = .int .i64 f ∧ v = .int .i64 S ∧ Hid ((avN (fun z => wtN u ds z NG) (fun z => pb (Cn fs (gnN (rgL fs) z) (x : Int) (y : Int))) f) = S) ∧ Below w1.heap.size w1 wr) (fun _ i _ => P - (intOf i).toNat)
  case atStart => exact ⟨0, 0, Nat.zero_le _, rfl, rfl, Lib.hid rfl, Below.refl _ _⟩
  case round =>
    obtain ⟨f, S, hf, rfl, rfl, HS, hb⟩ := hrel
    have HBR := Lib.hid hb
    have HBW := Lib.hid (HB1.out.trans (hb.mono HB1.out.size))
    clear hb
    by_cases hlt : f < P
    case neg =>
      have HE : Hid (S = (avN (fun z => wtN u ds z NG) (fun z => pb (Cn fs (gnN (rgL fs) z) (x : Int) (y : Int))) P)) := Lib.hid (by rw [← HS.out, show f = P by omega])
      have hlt2 : ¬ (f : Int) < P := by omega
      clear hlt
      go_wp2
      go_ret
      exact ⟨reti HE.out, HBW.out⟩
    case pos =>
    have hf62 : f < 2 ^ 62 := by omega
    obtain ⟨hS0, hw0, hS1⟩ := HBD.out f hlt
    rw [HS.out] at hS0 hS1
    have CG : Hid (∀ W, Bel wr W → Calls Tryd.prog 98 #[.slice AG NG cG, .int .i64 (f : Int)] W (RetP (.int .i64 (gnN (rgL fs) f : Nat)) W)) := Lib.hid (fun W hW => gone16_ (HRW.out.moved (HBR.out.trans (hW.out.mono HBR.out.size))) HGD.out hx HGB.out HZG.out f hf62)
    have CB : Hid (∀ W, Bel wr W → Calls Tryd.prog 135 #[.agg #[.slice (some ⟨g1, 0, none⟩) n1 c1, .slice (some ⟨g2, 0, none⟩) n2 c2], .int .i64 (gnN (rgL fs) f : Nat)] W (LabO n1 fs (gnN (rgL fs) f) W)) := Lib.hid (fun W hW => labels_ (HNT.out.moved (HBW.out.trans (hW.out.mono HBW.out.size))) HV.out _ (gn_lt HGB.out f))
    have CW : Hid (∀ W, Below w.heap.size w W → Calls Tryd.prog 100 #[.agg #[.int .i64 u, .slice A NG c], .int .i64 (f : Int)] W (RetP (.int .i64 (wtN u ds f NG)) W)) := Lib.hid (fun W hW => l16Weight_ (c := c) u f HN.out (HR.out.moved hW) hx hu0 hu HD.out hf62)
    obtain ⟨wt, hwt⟩ : ∃ wt, wtN u ds f NG = wt := ⟨_, rfl⟩
    have HST : Hid (∀ b : Bool, (pb (Cn fs (gnN (rgL fs) f) (x : Int) (y : Int))) = b → (avN (fun z => wtN u ds z NG) (fun z => pb (Cn fs (gnN (rgL fs) z) (x : Int) (y : Int))) (f + 1)) = S + (if b then wt else 0)) := Lib.hid (fun b hb => by rw [← HS.out, ← hwt, ← hb]; rfl)
    rw [hwt] at CW hw0 hS1
    have hS2 : S + wt ≤ 1638400000000000000 := hS1
    obtain ⟨gz, hgz⟩ : ∃ z, gnN (rgL fs) f = z := ⟨_, rfl⟩
    rw [hgz] at CG CB HST
    obtain ⟨k0, k1, hgk⟩ := HKN.out _ HBR.out
    clear hwt hgz hS1
    go_wp2
    have hbd : Bel wr wr.drew := Bel.of (Below.refl _ _).drew
    go_upto_region 6 with fail
    go_cut [12] (fun s12 wx => ∃ (A9 : Option Addr) (N9 c9 : Nat) (L : List Int), s12 = .slice A9 N9 c9 ∧ Hid (N9 = n1) ∧ Hid (LabP n1 fs gz L) ∧ Hid (Rd wx wx.heap.size A9 (L.map (Value.int .i64))) ∧ Bel wr wx)
    case first =>
      go_region_held3 (fun U => U.cell? ⟨w.heap.size, 0, none⟩ = some (.slice (some ⟨g1, 0, none⟩) n1 c1) ∧ U.cell? ⟨w.heap.size, 1, none⟩ = some (.slice (some ⟨g2, 0, none⟩) n2 c2) ∧ Bel wr U)
        (first | (go_keep; done) | (go_split_ands; (refine ⟨?_, ?_, ?_⟩ <;> first | assumption | exact Bel.step (by assumption) hb8 | exact (Bel.at_ (by assumption) hb8 (by assumption)).trans (by assumption) | exact Bel.step (by assumption) hb9 | exact (Bel.at_ (by assumption) hb9 (by assumption)).trans (by assumption))))
        (first
          | (go_at_call 98; go_split_ands; refine (CG.out _ (by assumption)).mono ?_; rintro e u1 ⟨rfl, hb8⟩)
          | (go_at_call 135; go_split_ands; refine (CB.out _ (by assumption)).mono ?_; rintro e u2 ⟨L, A9, N9, c9, rfl, HN9, HL9, ho9, hb9⟩))
      all_goals
        go_split_ands
        have hbl9 : Bel wr u2 := by assumption
        go_wp2_with fail
        go_meet
        exact ⟨A9, N9, c9, L, rfl, HN9, HL9, Lib.hid (Rd.ofOwn ho9), hbl9⟩
    case rest =>
    clear hbd k0 k1 hgk
    revert hcut; generalize wc = w6; intro hcut
    obtain ⟨A9, N9, c9, L, h0_, HN9, HL9, HR9, hb9⟩ := hcut
    subst h0_
    have HB6 := Lib.hid (HBR.out.trans ((Bel.out hb9).mono HBR.out.size))
    have HB6W := Lib.hid (HBW.out.trans ((Bel.out hb9).mono HBW.out.size))
    clear hb9
    obtain ⟨ad, hA, _, cx⟩ := ints_at HR9.out (k := x) (by rw [HL9.out.len]; exact hx1)
    obtain ⟨ad2, hA2, _, cy⟩ := ints_at HR9.out (k := y) (by rw [HL9.out.len]; exact hy1)
    subst hA
    obtain rfl : ad = ad2 := by injection hA2
    clear hA2
    have HSM := Lib.hid (HL9.out.same (i := x) (j := y) hx1 hy1)
    have ex : L[x]'(by rw [HL9.out.len]; exact hx1) = L.getD x 0 := by rw [List.getD_eq_getElem?_getD, List.getElem?_eq_getElem (by rw [HL9.out.len]; exact hx1)]; rfl
    have ey : L[y]'(by rw [HL9.out.len]; exact hy1) = L.getD y 0 := by rw [List.getD_eq_getElem?_getD, List.getElem?_eq_getElem (by rw [HL9.out.len]; exact hy1)]; rfl
    rw [ex] at cx; rw [ey] at cy
    obtain ⟨lx, hlx⟩ : ∃ z, L.getD x 0 = z := ⟨_, rfl⟩
    obtain ⟨ly, hly⟩ : ∃ z, L.getD y 0 = z := ⟨_, rfl⟩
    rw [hlx] at cx HSM; rw [hly] at cy HSM
    have hxN : (x : Int) < N9 := by have := HN9.out; omega
    have hyN : (y : Int) < N9 := by have := HN9.out; omega
    have hx0 : 0 ≤ (x : Int) := by omega
    have hx9 : ¬ (x : Int) < 0 := by omega
    clear ex ey hlx hly
    by_cases hxy : lx = ly
    case neg =>
      have p1 : (lx == ly) = false := by simpa using hxy
      have HST2 : Hid ((avN (fun z => wtN u ds z NG) (fun z => pb (Cn fs (gnN (rgL fs) z) (x : Int) (y : Int))) (f + 1)) = S) := Lib.hid (by rw [HST.out false (pb_false (fun h => hxy (HSM.out.2 h)))]; show S + 0 = S; omega)
      clear hxy
      go_wp2_with fail
      go_quiet (fail)
      go_wp2
      go_roundw
      case rel => exact ⟨f + 1, S, by omega, by go_num, rfl, HST2, drewN_below_ HB6.out _⟩
      case measure => simp [intOf]; omega
    case pos =>
      have HST2 : Hid ((avN (fun z => wtN u ds z NG) (fun z => pb (Cn fs (gnN (rgL fs) z) (x : Int) (y : Int))) (f + 1)) = S + wt) := Lib.hid (by rw [HST.out true (pb_true (HSM.out.1 hxy))]; rfl)
      subst hxy
      go_wp2_with fail
      go_quiet (fail)
      obtain ⟨wd, hwd⟩ : ∃ wd, w6.drewN nq = wd := ⟨_, rfl⟩
      have HBD1 : Hid (Below w1.heap.size w1 wd) := Lib.hid (by rw [← hwd]; exact drewN_below_ HB6.out _)
      have HBDW : Hid (Below w.heap.size w wd) := Lib.hid (by rw [← hwd]; exact drewN_below_ HB6W.out _)
      rw [hwd]
      clear hwd cx cy
      obtain ⟨k2, k3⟩ := HKB.out _ HBD1.out
      go_wp2_with fail
      clear k2 k3
      refine (CW.out _ HBDW.out).mono ?_
      rintro e w8 ⟨rfl, hb8⟩
      have HB8 := Lib.hid (HBD1.out.trans (hb8.mono HBD1.out.size))
      clear hb8
      go_wp2
      go_roundw
      case rel => exact ⟨f + 1, S + wt, by omega, by go_num, by go_num, HST2, HB8.out⟩
      case measure => simp [intOf]; omega
set_option maxRecDepth 100000 in
set_option maxHeartbeats 4000000 in
theorem con16N_ {g1 g2 n1 n2 c1 c2 : Nat} {ss : List ByteArray} {fs : List Q4} {w : World} (h : NetAt g1 g2 n1 n2 c1 c2 ss fs w) (hv : netP ss fs) (u : Int) {A : Option Addr} {n c : Nat} {ds : List Int} (hn : ds.length = n) (hr : Rd w w.heap.size A (ds.map (Value.int .i64))) (hx : n ≤ 14) (hg : n = (rgL fs).length) (hu0 : 0 ≤ u) (hu : u ≤ 20) (hd : ∀ j, j < n → 0 ≤ nth ds j ∧ nth ds j ≤ u) :
    Calls Tryd.prog 107 #[.agg #[.slice (some ⟨g1, 0, none⟩) n1 c1, .slice (some ⟨g2, 0, none⟩) n2 c2], .agg #[.int .i64 u, .slice A n c], .int .i64 (-1), .int .i64 (-1)] w (RetP (.int .i64 (avN (fun z => wtN u ds z n) (fun z => pb (allC n1 fs (gnN (rgL fs) z))) (2 ^ n))) w) := by
  have HNT := Lib.hid h; have HN := Lib.hid hn; have HR := Lib.hid hr; have HD := Lib.hid hd; have HGN := Lib.hid hg; have HV := Lib.hid hv
  have HL1 := Lib.hid h.ln1
  have hn8 : n1 ≤ 8 := by have := hv.1; have := h.ln1; omega
  have hn2 : 2 ≤ n1 := by have := hv.1; have := h.ln1; omega
  have HGB := Lib.hid (rg_gb hv)
  have HZG : Hid (∀ g ∈ rgL fs, g.length ≤ 1048576) := Lib.hid (fun g hg => by have := rgp_le hg; have := hv.2.1; omega)
  have HBD : Hid (∀ f : Nat, f < 2 ^ n → 0 ≤ (avN (fun z => wtN u ds z n) (fun z => pb (allC n1 fs (gnN (rgL fs) z))) f) ∧ 0 ≤ wtN u ds f n ∧ (avN (fun z => wtN u ds z n) (fun z => pb (allC n1 fs (gnN (rgL fs) z))) f) + wtN u ds f n ≤ 20 ^ 14) := Lib.hid (fun f hf => av_bd hu0 hu hd hx _ hf)
  have hP14 : 2 ^ n ≤ 16384 := Nat.pow_le_pow_right (by decide : 0 < 2) hx
  have hpi : (2 : Int) ^ n = ((2 ^ n : Nat) : Int) := pow_int n
  obtain ⟨P, hP⟩ : ∃ P : Nat, 2 ^ n = P := ⟨_, rfl⟩
  rw [hP] at hpi hP14 HBD ⊢
  have HPI2 := Lib.hid hpi
  clear h hn hr hd hv hg hP hpi
  go_enter Tryd.func107, Tryd.ntmps107
  go_wp2_with fail
  obtain ⟨W0, hW0⟩ : ∃ W0, (w.alloc (Obj.cells #[.slice (some ⟨g1, 0, none⟩) n1 c1, .slice (some ⟨g2, 0, none⟩) n2 c2] 34)).alloc (Obj.cells #[.int .i64 u, .slice A n c] 60) = W0 := ⟨_, rfl⟩
  have hb0 : Below w.heap.size w W0 := by rw [← hW0]; exact ((Below.refl _ _).alloc (Nat.le_refl _) _).alloc (by simp) _
  have k0 : W0.cell? ⟨w.heap.size, 0, none⟩ = some (.slice (some ⟨g1, 0, none⟩) n1 c1) := by rw [← hW0]; simp [go_sem]
  have k1 : W0.cell? ⟨w.heap.size, 1, none⟩ = some (.slice (some ⟨g2, 0, none⟩) n2 c2) := by rw [← hW0]; simp [go_sem]
  have k2 : W0.cell? ⟨w.heap.size + 1, 0, none⟩ = some (.int .i64 u) := by rw [← hW0]; simp [go_sem]
  have k3 : W0.cell? ⟨w.heap.size + 1, 1, none⟩ = some (.slice A n c) := by rw [← hW0]; simp [go_sem]
  have hz0 : w.heap.size + 1 < W0.heap.size := by rw [← hW0]; simp
  have HB0 := Lib.hid hb0; have HK0 := Lib.hid k0; have HK1 := Lib.hid k1; have HK2 := Lib.hid k2; have HK3 := Lib.hid k3; have HZ0 := Lib.hid hz0
  rw [hW0]
  clear hW0 hb0 k0 k1 k2 k3 hz0
  refine (l2Groups_ (HNT.out.moved HB0.out) HV.out).mono ?_
  rintro e w1 ⟨AG, NG, cG, ysG, rfl, HGD, hrw, hb1⟩
  have HB1 := Lib.hid (HB0.out.trans (hb1.mono HB0.out.size))
  have HRW := Lib.hid hrw
  obtain rfl : NG = n := by have h1 := hrw.len; have h2 := congrArg List.length HGD.out; rw [List.length_map] at h2; rw [HGN.out]; omega
  have HKB : Hid (∀ W, Below w1.heap.size w1 W → W.cell? ⟨w.heap.size + 1, 0, none⟩ = some (.int .i64 u) ∧ W.cell? ⟨w.heap.size + 1, 1, none⟩ = some (.slice A NG c)) := Lib.hid (fun W hW => ⟨((hb1.trans (hW.mono hb1.size)).cell (p := ⟨w.heap.size + 1, 0, none⟩) (by show w.heap.size + 1 < _; have := HZ0.out; omega)).trans HK2.out, ((hb1.trans (hW.mono hb1.size)).cell (p := ⟨w.heap.size + 1, 1, none⟩) (by show w.heap.size + 1 < _; have := HZ0.out; omega)).trans HK3.out⟩)
  have HKN : Hid (∀ W, Below w1.heap.size w1 W → W.cell? ⟨w.heap.size, 0, none⟩ = some (.slice (some ⟨g1, 0, none⟩) n1 c1) ∧ W.cell? ⟨w.heap.size, 1, none⟩ = some (.slice (some ⟨g2, 0, none⟩) n2 c2) ∧ w.heap.size < W.heap.size) := Lib.hid (fun W hW => ⟨((hb1.trans (hW.mono hb1.size)).cell (p := ⟨w.heap.size, 0, none⟩) (by show w.heap.size < _; have := HZ0.out; omega)).trans HK0.out, ((hb1.trans (hW.mono hb1.size)).cell (p := ⟨w.heap.size, 1, none⟩) (by show w.heap.size < _; have := HZ0.out; omega)).trans HK1.out, by have := HZ0.out; have := hb1.size; have := hW.size; omega⟩)
  clear hb1 hrw
  have hpi := HPI2.out
  go_wp2
  go_loopw [10, 11] (fun v i wr => ∃ (f : Nat) (S : Int), f ≤ P ∧ i = .int .i64 f ∧ v = .int .i64 S ∧ Hid ((avN (fun z => wtN u ds z NG) (fun z => pb (allC n1 fs (gnN (rgL fs) z))) f) = S) ∧ Below w1.heap.size w1 wr) (fun _ i _ => P - (intOf i).toNat)
  case atStart => exact ⟨0, 0, Nat.zero_le _, rfl, rfl, Lib.hid rfl, Below.refl _ _⟩
  case round =>
    obtain ⟨f, S, hf, rfl, rfl, HS, hb⟩ := hrel
    have HBR := Lib.hid hb
    have HBW := Lib.hid (HB1.out.trans (hb.mono HB1.out.size))
    clear hb
    by_cases hlt : f < P
    case neg =>
      have HE : Hid (S = (avN (fun z => wtN u ds z NG) (fun z => pb (allC n1 fs (gnN (rgL fs) z))) P)) := Lib.hid (by rw [← HS.out, show f = P by omega])
      have hlt2 : ¬ (f : Int) < P := by omega
      clear hlt
      go_wp2
      go_ret
      exact ⟨reti HE.out, HBW.out⟩
    case pos =>
    have hf62 : f < 2 ^ 62 := by omega
    obtain ⟨hS0, hw0, hS1⟩ := HBD.out f hlt
    rw [HS.out] at hS0 hS1
    have CG : Hid (∀ W, Bel wr W → Calls Tryd.prog 98 #[.slice AG NG cG, .int .i64 (f : Int)] W (RetP (.int .i64 (gnN (rgL fs) f : Nat)) W)) := Lib.hid (fun W hW => gone16_ (HRW.out.moved (HBR.out.trans (hW.out.mono HBR.out.size))) HGD.out hx HGB.out HZG.out f hf62)
    have CB : Hid (∀ W, Bel wr W → Calls Tryd.prog 135 #[.agg #[.slice (some ⟨g1, 0, none⟩) n1 c1, .slice (some ⟨g2, 0, none⟩) n2 c2], .int .i64 (gnN (rgL fs) f : Nat)] W (LabO n1 fs (gnN (rgL fs) f) W)) := Lib.hid (fun W hW => labels_ (HNT.out.moved (HBW.out.trans (hW.out.mono HBW.out.size))) HV.out _ (gn_lt HGB.out f))
    have CW : Hid (∀ W, Below w.heap.size w W → Calls Tryd.prog 100 #[.agg #[.int .i64 u, .slice A NG c], .int .i64 (f : Int)] W (RetP (.int .i64 (wtN u ds f NG)) W)) := Lib.hid (fun W hW => l16Weight_ (c := c) u f HN.out (HR.out.moved hW) hx hu0 hu HD.out hf62)
    obtain ⟨wt, hwt⟩ : ∃ wt, wtN u ds f NG = wt := ⟨_, rfl⟩
    have HST : Hid (∀ b : Bool, (pb (allC n1 fs (gnN (rgL fs) f))) = b → (avN (fun z => wtN u ds z NG) (fun z => pb (allC n1 fs (gnN (rgL fs) z))) (f + 1)) = S + (if b then wt else 0)) := Lib.hid (fun b hb => by rw [← HS.out, ← hwt, ← hb]; rfl)
    rw [hwt] at CW hw0 hS1
    have hS2 : S + wt ≤ 1638400000000000000 := hS1
    obtain ⟨gz, hgz⟩ : ∃ z, gnN (rgL fs) f = z := ⟨_, rfl⟩
    rw [hgz] at CG CB HST
    obtain ⟨k0, k1, hgk⟩ := HKN.out _ HBR.out
    clear hwt hgz hS1
    go_wp2
    have hbd : Bel wr wr.drew := Bel.of (Below.refl _ _).drew
    go_upto_region 6 with fail
    go_cut [12] (fun s12 wx => ∃ (A9 : Option Addr) (N9 c9 : Nat) (L : List Int), s12 = .slice A9 N9 c9 ∧ Hid (N9 = n1) ∧ Hid (LabP n1 fs gz L) ∧ Hid (Rd wx wx.heap.size A9 (L.map (Value.int .i64))) ∧ Bel wr wx)
    case first =>
      go_region_held3 (fun U => U.cell? ⟨w.heap.size, 0, none⟩ = some (.slice (some ⟨g1, 0, none⟩) n1 c1) ∧ U.cell? ⟨w.heap.size, 1, none⟩ = some (.slice (some ⟨g2, 0, none⟩) n2 c2) ∧ Bel wr U)
        (first | (go_keep; done) | (go_split_ands; (refine ⟨?_, ?_, ?_⟩ <;> first | assumption | exact Bel.step (by assumption) hb8 | exact (Bel.at_ (by assumption) hb8 (by assumption)).trans (by assumption) | exact Bel.step (by assumption) hb9 | exact (Bel.at_ (by assumption) hb9 (by assumption)).trans (by assumption))))
        (first
          | (go_at_call 98; go_split_ands; refine (CG.out _ (by assumption)).mono ?_; rintro e u1 ⟨rfl, hb8⟩)
          | (go_at_call 135; go_split_ands; refine (CB.out _ (by assumption)).mono ?_; rintro e u2 ⟨L, A9, N9, c9, rfl, HN9, HL9, ho9, hb9⟩))
      all_goals
        go_split_ands
        have hbl9 : Bel wr u2 := by assumption
        go_wp2_with fail
        go_meet
        exact ⟨A9, N9, c9, L, rfl, HN9, HL9, Lib.hid (Rd.ofOwn ho9), hbl9⟩
    case rest =>
    clear hbd k0 k1 hgk
    revert hcut; generalize wc = w6; intro hcut
    obtain ⟨A9, N9, c9, L, h0_, HN9, HL9, HR9, hb9⟩ := hcut
    subst h0_
    have HB6 := Lib.hid (HBR.out.trans ((Bel.out hb9).mono HBR.out.size))
    have HB6W := Lib.hid (HBW.out.trans ((Bel.out hb9).mono HBW.out.size))
    clear hb9
    have HLA := Lib.hid (lab_all HL9.out (by omega))
    have hn9 : N9 ≤ 8 := by have := HN9.out; omega
    have HCL : Hid (∀ k, k < n1 → ∃ ad, A9 = some ad ∧ w6.cell? (ad.add k) = some (.int .i64 (L.getD k 0))) := Lib.hid (fun k hk => by
      have hkL : k < L.length := by rw [HL9.out.len]; exact hk
      obtain ⟨ad, hA, _, cx⟩ := ints_at HR9.out hkL
      exact ⟨ad, hA, by rw [cx, List.getD_eq_getElem?_getD, List.getElem?_eq_getElem hkL]; rfl⟩)
    go_wp2_with fail
    go_quiet (fail)
    obtain ⟨wd, hwd⟩ : ∃ wd, w6.drewN nq = wd := ⟨_, rfl⟩
    have HBD1 : Hid (Below w1.heap.size w1 wd) := Lib.hid (by rw [← hwd]; exact drewN_below_ HB6.out _)
    have HBDW : Hid (Below w.heap.size w wd) := Lib.hid (by rw [← hwd]; exact drewN_below_ HB6W.out _)
    have HCD : Hid (∀ k, k < n1 → ∃ ad, A9 = some ad ∧ wd.cell? (ad.add k) = some (.int .i64 (L.getD k 0))) := Lib.hid (by rw [← hwd]; exact HCL.out)
    rw [hwd]
    clear hwd HCL
    go_wp2
    go_loop [13, 14] (fun b i => ∃ (k : Nat) (bb : Bool), k ≤ N9 ∧ i = .int .i64 k ∧ b = .bool bb ∧ Hid (bb = true ↔ ∀ j, j < k → L.getD j 0 = 0)) (fun _ i => N9 - (intOf i).toNat)
    case atStart => exact ⟨0, true, Nat.zero_le _, rfl, rfl, Lib.hid ⟨fun _ j hj => by omega, fun _ => rfl⟩⟩
    case round =>
      obtain ⟨k, bb, hk, rfl, rfl, HBB⟩ := hrel
      by_cases hlt2 : k < N9
      case neg =>
        have HAL : Hid (bb = true ↔ allC n1 fs gz) := Lib.hid (by rw [HBB.out, show k = n1 by have := HN9.out; omega]; exact HLA.out)
        have hlt3 : ¬ (k : Int) < N9 := by omega
        clear hlt2
        cases bb
        case false =>
          have HST2 : Hid ((avN (fun z => wtN u ds z NG) (fun z => pb (allC n1 fs (gnN (rgL fs) z))) (f + 1)) = S) := Lib.hid (by rw [HST.out false (pb_false (fun h => by have := HAL.out.2 h; cases this))]; show S + 0 = S; omega)
          go_wp2
          go_roundw
          case rel => exact ⟨f + 1, S, by omega, by go_num, rfl, HST2, HBD1.out⟩
          case measure => simp [intOf]; omega
        case true =>
          have HST2 : Hid ((avN (fun z => wtN u ds z NG) (fun z => pb (allC n1 fs (gnN (rgL fs) z))) (f + 1)) = S + wt) := Lib.hid (by rw [HST.out true (pb_true (HAL.out.1 rfl))]; rfl)
          obtain ⟨k2, k3⟩ := HKB.out _ HBD1.out
          go_wp2_with fail
          clear k2 k3
          refine (CW.out _ HBDW.out).mono ?_
          rintro e w8 ⟨rfl, hb8⟩
          have HB8 := Lib.hid (HBD1.out.trans (hb8.mono HBD1.out.size))
          clear hb8
          go_wp2
          go_roundw
          case rel => exact ⟨f + 1, S + wt, by omega, by go_num, by go_num, HST2, HB8.out⟩
          case measure => simp [intOf]; omega
      case pos =>
      have hltI : (k : Int) < N9 := by omega
      obtain ⟨ad, hA, cx⟩ := HCD.out k (by have := HN9.out; omega)
      subst hA
      cases bb
      case false =>
        have HB2 : Hid (false = true ↔ ∀ j, j < k + 1 → L.getD j 0 = 0) := Lib.hid ⟨fun h => (by cases h), fun h => HBB.out.2 (fun j hj => h j (by omega))⟩
        go_wp2
        go_round
        case rel => exact ⟨k + 1, false, by omega, by go_num, rfl, HB2⟩
        case measure => simp [intOf]; omega
      case true =>
        obtain ⟨lk, hlk⟩ : ∃ z, L.getD k 0 = z := ⟨_, rfl⟩
        rw [hlk] at cx
        by_cases hz : lk = 0
        case pos =>
          have HB2 : Hid (true = true ↔ ∀ j, j < k + 1 → L.getD j 0 = 0) := Lib.hid ⟨fun _ j hj => by
            by_cases e : j = k
            · subst e; rw [hlk]; exact hz
            · exact HBB.out.1 rfl j (by omega), fun _ => rfl⟩
          subst hz
          clear hlk
          go_wp2
          go_round
          case rel => exact ⟨k + 1, true, by omega, by go_num, rfl, HB2⟩
          case measure => simp [intOf]; omega
        case neg =>
          have HB2 : Hid (false = true ↔ ∀ j, j < k + 1 → L.getD j 0 = 0) := Lib.hid ⟨fun h => (by cases h), fun h => absurd (by rw [← hlk]; exact h k (by omega)) hz⟩
          have hzn : (lk == 0) = false := beq_eq_false_iff_ne.2 hz
          clear hlk
          go_wp2
          go_round
          case rel => exact ⟨k + 1, false, by omega, by go_num, rfl, HB2⟩
          case measure => simp [intOf]; omega
end Go.Proofs.YtbnfogedmjjiaaaDoor
