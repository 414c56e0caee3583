/- Critical risk groups: contracts of CriticalGroups, both sides. No condition but those typed. -/
import Derived.Test.YtcbjdfgmkiodkaaBrg
import Derived.Test.YtcbjdfgmkiodkaaGrpS
import Derived.WalkMore
namespace Go.Proofs.Ytcbjdfgmkiodkaa
open Go.ChangeShapes Go.WideShapes Go.ChangeAt Go.RowKit

noncomputable def crQ (n1 : Nat) (fs : List Q4) (gs : List (List Int)) (i : Nat) : Bool := pb (splP n1 fs (mkN (gs.getD i [])) (-1))
theorem crit_iff {n1 : Nat} {fs : List Q4} {g : Nat} : (∃ x, x < n1 ∧ rchN n1 fs g (x : Int) ≠ rchN n1 fs 0 (x : Int)) ↔ splP n1 fs g (-1) := by
  constructor
  · rintro ⟨x, hx, hne⟩
    have : ∃ v, v < n1 ∧ ¬ pb (Cn fs g (x : Int) (v : Int)) = pb (Cn fs 0 (x : Int) (v : Int)) := by
      refine Classical.byContradiction fun hn => hne ?_
      unfold rchN
      refine setN_ext.2 fun v hv => Classical.byContradiction fun h => hn ⟨v, hv, h⟩
    obtain ⟨v, hv, h⟩ := this
    by_cases hg : Cn fs g (x : Int) (v : Int)
    · exact absurd ((pb_true hg).trans (pb_true (hg.mono fun i _ => Nat.zero_testBit i)).symm) h
    · by_cases h0 : Cn fs 0 (x : Int) (v : Int)
      · exact spl_any hx hv ⟨by omega, by omega, h0, hg⟩
      · exact absurd ((pb_false hg).trans (pb_false h0).symm) h
  · rintro ⟨a, b, hab, hb, _, _, h0, hg⟩
    refine ⟨a, by omega, fun e => ?_⟩
    have h1 := setN_ext.1 e b hb
    rw [pb_false hg, pb_true h0] at h1
    cases h1
theorem crQ_no {n1 : Nat} {fs : List Q4} {gs : List (List Int)} {i g : Nat} (hg : mkN (gs.getD i []) = g) (h : ∀ x, x < n1 → rchN n1 fs g (x : Int) = rchN n1 fs 0 (x : Int)) : crQ n1 fs gs i = false := by
  unfold crQ
  rw [hg]
  exact pb_false fun hs => by
    obtain ⟨x, hx, hne⟩ := crit_iff.2 hs
    exact hne (h x hx)
theorem crQ_yes {n1 : Nat} {fs : List Q4} {gs : List (List Int)} {i g x : Nat} (hg : mkN (gs.getD i []) = g) (hx : x < n1) (h : rchN n1 fs g (x : Int) ≠ rchN n1 fs 0 (x : Int)) : crQ n1 fs gs i = true := by
  unfold crQ
  rw [hg]
  exact pb_true (crit_iff.1 ⟨x, hx, h⟩)
theorem rgp_bd6 {ss : List ByteArray} {fs : List Q4} (hv : netP ss fs) {g : List Int} (hg : g ∈ rgL fs) : ∀ k, k < g.length → 0 ≤ nth g k ∧ nth g k < 20 := by
  intro k hk
  have h1 := (rgp_eq hg (x := g[k]) (List.getElem_mem hk)).1
  rw [nth_eq hk] at h1
  have := hv.2.1
  omega
theorem maskU_lt {zs : List Int} : ∀ {k : Nat}, (∀ j, j < k → 0 ≤ nth zs j ∧ nth zs j < 20) → maskN zs k < 2 ^ 20
  | 0, _ => Nat.two_pow_pos 20
  | k + 1, h => by
    unfold maskN
    have h0 := h k (by omega)
    exact Nat.or_lt_two_pow (maskU_lt (fun j hj => h j (by omega))) (Nat.pow_lt_pow_right (by decide) (by omega))
set_option maxRecDepth 100000 in
set_option maxHeartbeats 8000000 in
theorem implCG6 {g1 g2 n1 n2 c1 c2 : Nat} {ss : List ByteArray} {fs : List Q4} {w : World} (h : NetAt g1 g2 n1 n2 c1 c2 ss fs w) :
    Calls Try.prog 56 #[.agg #[.slice (some ⟨g1, 0, none⟩) n1 c1, .slice (some ⟨g2, 0, none⟩) n2 c2]] w (IntsP (selV (netP ss fs) (crQ n1 fs (rgL fs)) (rgL fs).length) (pb (netP ss fs)) w) := by
  have HNT := Lib.hid h
  have HL2 := Lib.hid h.ln2
  have hs2 := h.sm2
  clear h
  have HL1 := Lib.hid HNT.out.ln1
  obtain ⟨RL, hRL⟩ : ∃ r, selV (netP ss fs) (crQ n1 fs (rgL fs)) (rgL fs).length = r := ⟨_, rfl⟩
  obtain ⟨RB, hRB⟩ : ∃ r, pb (netP ss fs) = r := ⟨_, rfl⟩
  have HNO : Hid (¬ netP ss fs → RL = [] ∧ RB = false) := Lib.hid (fun e => by rw [← hRL, ← hRB]; exact selV_no e)
  have HYES : Hid (netP ss fs → RL = selK (crQ n1 fs (rgL fs)) (rgL fs).length ∧ RB = true) := Lib.hid (fun e => by rw [← hRL, ← hRB]; exact selV_yes e)
  have CGM : Hid (∀ W, Below w.heap.size w W → Calls Try.prog 133 #[.agg #[.slice (some ⟨g1, 0, none⟩) n1 c1, .slice (some ⟨g2, 0, none⟩) n2 c2]] W (IntsP (gmV ss fs) (pb (netP ss fs)) W)) := Lib.hid (fun W hb => groupMasks_ (HNT.out.moved hb))
  rw [hRL, hRB]
  rw [hRB] at CGM
  clear hRL
  go_enter Try.func56, Try.ntmps56
  go_wp2_with fail
  go_step3
  go_wp2_with fail
  obtain ⟨W0, hW0⟩ : ∃ W0, (w.alloc (Obj.cells #[.slice (some ⟨g1, 0, none⟩) n1 c1, .slice (some ⟨g2, 0, none⟩) n2 c2] 32)) = W0 := ⟨_, rfl⟩
  have hb0 : Below w.heap.size w W0 := by rw [← hW0]; exact (Below.refl _ _).alloc (Nat.le_refl _) _
  have hk0 : W0.cell? ⟨w.heap.size, 0, none⟩ = some (.slice (some ⟨g1, 0, none⟩) n1 c1) := by rw [← hW0]; simp [go_sem]
  have hk1 : W0.cell? ⟨w.heap.size, 1, none⟩ = some (.slice (some ⟨g2, 0, none⟩) n2 c2) := by rw [← hW0]; simp [go_sem]
  have hz0 : w.heap.size < W0.heap.size := by rw [← hW0]; simp
  have HB0 := Lib.hid hb0; have HK0 := Lib.hid hk0; have HK1 := Lib.hid hk1; have HZB := Lib.hid hz0
  rw [hW0]
  clear hW0 hb0
  clear hk0 hk1 hz0
  refine (CGM.out _ HB0.out).mono ?_
  rintro e w1 ⟨A0, N0, d0, rfl, HN0, ho0, hb1⟩
  have HB1 := Lib.hid (HB0.out.trans (hb1.mono HB0.out.size))
  have HK0b := Lib.hid ((hb1.cell (p := ⟨w.heap.size, 0, none⟩) (by show w.heap.size < _; have := HZB.out; omega)).trans HK0.out)
  have HK1b := Lib.hid ((hb1.cell (p := ⟨w.heap.size, 1, none⟩) (by show w.heap.size < _; have := HZB.out; omega)).trans HK1.out)
  have HZ1 : Hid (w.heap.size < w1.heap.size) := Lib.hid (by have := HZB.out; have := hb1.size; omega)
  have HO0 := Lib.hid (Rd.ofOwn ho0)
  clear hb1 ho0
  cases RB
  case false =>
    have HE := Lib.hid (HNO.out (of_npb hRB))
    clear hRB
    go_wp2
    go_ret2
    exact ints_no ⟨HE.out.1, rfl⟩ HB1.out
  case true =>
  have hv := of_pb hRB
  have HV := Lib.hid hv
  have HE := Lib.hid (HYES.out hv)
  have hn8 : n1 ≤ 8 := by have := hv.1; have := HL1.out; omega
  have hgl : (rgL fs).length ≤ 14 := by have := rgp_len fs; have := hv.2.1; omega
  have HGB := Lib.hid (fun g (hg : g ∈ rgL fs) => rgp_bd6 hv hg)
  rw [gmV_yes hv] at HN0 HO0
  have HGL : Hid (gmL fs = (rgL fs).map fun g => (mkN g : Int)) := Lib.hid rfl
  obtain ⟨gs, hgs⟩ : ∃ gs, rgL fs = gs := ⟨_, rfl⟩
  obtain ⟨gm, hgm⟩ : ∃ gm, gmL fs = gm := ⟨_, rfl⟩
  rw [hgs] at HGB HE hgl HGL
  rw [hgm] at HN0 HO0 HGL
  have HNL : Hid (N0 = gs.length) := Lib.hid (by rw [HN0.out, HGL.out, List.length_map])
  have hn0 : N0 ≤ 14 := by have := HNL.out; omega
  clear hRB hv hgs hgm
  go_wp2
  go_step3
  go_wp2_with fail
  go_loopw [6, 19] (fun v i wr => ∃ (k : Nat) (A1 : Option Addr) (N1 d1 : Nat), k ≤ N0 ∧ i = .int .i64 k ∧ v = .slice A1 N1 d1 ∧ N1 ≤ k ∧ Hid (N1 = (selK (crQ n1 fs gs) k).length) ∧ Hid (wr.ownsRow w1.heap.size 3 1 (.slice A1 N1 d1) N1 ((selK (crQ n1 fs gs) k).map (Value.int .i64))) ∧ Below w1.heap.size w1 wr) (fun _ i _ => N0 - (intOf i).toNat)
  case atStart => exact ⟨0, none, 0, 0, Nat.zero_le _, rfl, rfl, Nat.le_refl _, Lib.hid rfl, Lib.hid (World.ownsRow_nil _ _ _ _), Below.refl _ _⟩
  case round =>
    obtain ⟨k, A1, N1, d1, hk, rfl, rfl, hNk, HN1, HOW, hb⟩ := hrel
    have HBR := Lib.hid hb
    have HBW := Lib.hid (HB1.out.trans (hb.mono HB1.out.size))
    have hsz := hb.size
    have l0 := (hb.cell (p := ⟨w.heap.size, 0, none⟩) HZ1.out).trans HK0b.out
    have hg0 : w.heap.size < wr.heap.size := by have := HZ1.out; omega
    clear hb
    by_cases hlt : k < N0
    case neg =>
      have HF : Hid (RL = selK (crQ n1 fs gs) k) := Lib.hid (by rw [HE.out.1, show gs.length = k by have := HNL.out; omega])
      clear l0 hg0
      go_wp2
      go_ret2
      rw [HF.out]
      exact ⟨A1, N1, d1, rfl, HN1, own_base HOW.out HB1.out.size, HBW.out⟩
    case pos =>
    have hkl : k < gs.length := by have := HNL.out; omega
    have hkm : k < gm.length := by rw [HGL.out, List.length_map]; exact hkl
    obtain ⟨ad, hA, hbl, hcell⟩ := ints_at (HO0.out.moved HBR.out) hkm
    subst hA
    have hgk : gm[k] = (mkN gs[k] : Int) := by
      have h9 : gm[k]? = some ((mkN gs[k] : Nat) : Int) := by rw [HGL.out, List.getElem?_map, List.getElem?_eq_getElem hkl]; rfl
      rw [List.getElem?_eq_getElem hkm] at h9
      injection h9
    rw [hgk] at hcell
    have hg20 : mkN gs[k] < 2 ^ 20 := maskU_lt (HGB.out _ (List.getElem_mem hkl))
    obtain ⟨g, hg⟩ : ∃ g, mkN gs[k] = g := ⟨_, rfl⟩
    have HGK : Hid (mkN (gs.getD k []) = g) := Lib.hid (by rw [List.getD_eq_getElem?_getD, List.getElem?_eq_getElem hkl]; exact hg)
    rw [hg] at hcell hg20
    have HG20 := Lib.hid hg20
    clear hgk hkm hkl hg
    go_wp2
    clear l0 hg0 hcell
    obtain ⟨wo, rfl⟩ : ∃ wo, wo = wr := ⟨wr, rfl⟩
    go_loopw [6, 27] (fun v i wr => ∃ x : Nat, v = .slice A1 N1 d1 ∧ x ≤ n1 ∧ i = .int .i64 x ∧ Hid (∀ y, y < x → rchN n1 fs g (y : Int) = rchN n1 fs 0 (y : Int)) ∧ Hid (wr.ownsRow w1.heap.size 3 1 (.slice A1 N1 d1) N1 ((selK (crQ n1 fs gs) k).map (Value.int .i64))) ∧ Below w1.heap.size w1 wr) (fun _ i _ => n1 - (intOf i).toNat)
    case atStart => exact ⟨0, rfl, Nat.zero_le _, rfl, Lib.hid (fun y hy => by omega), HOW, HBR.out⟩
    case round =>
      obtain ⟨x, rfl, hx, rfl, HX, HOW2, hb⟩ := hrel
      have HBV := Lib.hid hb
      have HBVW := Lib.hid (HB1.out.trans (hb.mono HB1.out.size))
      have HSV := Lib.hid hb.size
      clear hb
      by_cases hlt2 : x < n1
      case neg =>
        have HQF : Hid (crQ n1 fs gs k = false) := Lib.hid (crQ_no HGK.out (fun y hy => HX.out y (by omega)))
        have HTO := Lib.hid (sel_out HQF.out)
        have HN2 : Hid (N1 = (selK (crQ n1 fs gs) (k + 1)).length) := Lib.hid (by rw [HTO.out]; exact HN1.out)
        have HO2 : Hid (wr.ownsRow w1.heap.size 3 1 (.slice A1 N1 d1) N1 ((selK (crQ n1 fs gs) (k + 1)).map (Value.int .i64))) := Lib.hid (by rw [HTO.out]; exact HOW2.out)
        go_wp2
        go_roundw
        case rel => exact ⟨k + 1, A1, N1, d1, by omega, by go_num, rfl, by omega, HN2, HO2, HBV.out⟩
        case measure => simp [intOf]; omega
      case pos =>
      obtain ⟨T, f, x0, hx0, hTT, HST⟩ := above wr
      haveI : Nonempty T := ⟨x0⟩
      have hbW : ∀ x, Below w.heap.size w (f x) := fun x => HBVW.out.trans ((hTT x).mono HBVW.out.size)
      have hb1x : ∀ x, Below w1.heap.size w1 (f x) := fun x => HBV.out.trans ((hTT x).mono HSV.out)
      have s0 : ∀ x, (f x).cell? ⟨w.heap.size, 0, none⟩ = some (.slice (some ⟨g1, 0, none⟩) n1 c1) := fun x => ((hb1x x).cell (p := ⟨w.heap.size, 0, none⟩) HZ1.out).trans HK0b.out
      have s1 : ∀ x, (f x).cell? ⟨w.heap.size, 1, none⟩ = some (.slice (some ⟨g2, 0, none⟩) n2 c2) := fun x => ((hb1x x).cell (p := ⟨w.heap.size, 1, none⟩) HZ1.out).trans HK1b.out
      have CA : Hid (∀ t, Calls Try.prog 144 #[.agg #[.slice (some ⟨g1, 0, none⟩) n1 c1, .slice (some ⟨g2, 0, none⟩) n2 c2], .int .i64 (x : Int), .int .i64 (g : Int)] (f t) (RetP (.int .i64 (rchN n1 fs g (x : Int) : Nat)) (f t))) := Lib.hid fun t => reach_ (HNT.out.moved (hbW t)) HV.out x g hlt2 HG20.out
      have CB : Hid (∀ t, Calls Try.prog 144 #[.agg #[.slice (some ⟨g1, 0, none⟩) n1 c1, .slice (some ⟨g2, 0, none⟩) n2 c2], .int .i64 (x : Int), .int .i64 0] (f t) (RetP (.int .i64 (rchN n1 fs 0 (x : Int) : Nat)) (f t))) := Lib.hid fun t => reach_ (HNT.out.moved (hbW t)) HV.out x 0 hlt2 (by omega)
      have HT1 : Hid (∀ x, Below wr.heap.size wr (f x)) := Lib.hid hTT
      have HXX := Lib.hid hx0
      clear hbW hb1x hTT hx0
      have HQY : Hid (rchN n1 fs g (x : Int) ≠ rchN n1 fs 0 (x : Int) → crQ n1 fs gs k = true) := Lib.hid (crQ_yes HGK.out hlt2)
      have HXE : Hid (rchN n1 fs g (x : Int) = rchN n1 fs 0 (x : Int) → ∀ y, y < x + 1 → rchN n1 fs g (y : Int) = rchN n1 fs 0 (y : Int)) := Lib.hid (fun e y hy => by
        by_cases h : y = x
        · subst h; exact e
        · exact HX.out y (by omega))
      obtain ⟨p, hp⟩ : ∃ p, rchN n1 fs g (x : Int) = p := ⟨_, rfl⟩
      obtain ⟨q, hq⟩ : ∃ q, rchN n1 fs 0 (x : Int) = q := ⟨_, rfl⟩
      rw [hp] at CA HQY HXE
      rw [hq] at CB HQY HXE
      clear hp hq
      by_cases hpq : p = q
      case pos =>
        have HX2 := Lib.hid (HXE.out hpq)
        subst hpq
        go_wp2_with fail
        refine wp_region_class f (by kernel_rfl) (by kernel_rfl) x0 HXX.out ?_
        repeat (go_big_quiet_step ((go_at_call 144; (first | with_reducible exact Calls.inClass HST (CA.out _) | with_reducible exact Calls.inClass HST (CB.out _)))))
        refine wpQuiet_nil ?_
        rintro _ ⟨t, rfl⟩
        have HB3 := Lib.hid (HBV.out.trans ((HT1.out t).mono HSV.out))
        have HO3 := Lib.hid (ownB HOW2.out (HT1.out t))
        clear s0 s1
        go_wp2
        go_roundw
        case rel => exact ⟨x + 1, rfl, by omega, by go_num, HX2, HO3, HB3.out⟩
        case measure => simp [intOf]; omega
      case neg =>
        have HQT := Lib.hid (HQY.out hpq)
        have HTO := Lib.hid (sel_in HQT.out)
        have hpi : ((p : Int) != (q : Int)) = true := by simp; omega
        clear hpq
        go_wp2_with fail
        refine wp_region_class f (by kernel_rfl) (by kernel_rfl) x0 HXX.out ?_
        repeat (go_big_quiet_step ((go_at_call 144; (first | with_reducible exact Calls.inClass HST (CA.out _) | with_reducible exact Calls.inClass HST (CB.out _)))))
        refine wpQuiet_nil ?_
        rintro _ ⟨t, rfl⟩
        have HB3 := Lib.hid (HBV.out.trans ((HT1.out t).mono HSV.out))
        have HO3 := Lib.hid (ownB HOW2.out (HT1.out t))
        clear s0 s1
        generalize f t = wq at HB3 HO3 ⊢
        have hszq := HB3.out.size
        go_wp2_with (at_builtin; refine wp_app rfl (.tmp 38) (.tmp 40) 39 3 rfl w1.heap.size Try.underlying39 Try.inf_int rfl (by decide) (by decide) _ N1 _ rfl (HO3.out.alloc _) _ _ [.int .i64 (k : Int)] rfl rfl (news1 (new_at_ _ _ _ _ rfl)) (news_int _) (by omega) (by simp; omega) ?_)
        intro A3 d3 N3 w4 hN3 hown3 hgrow3 hloc3
        have HB4 := Lib.hid ((HB3.out.alloc hszq _).grown hgrow3 (by simp; omega) (fun g hg => (HO3.out.lt g hg).1))
        have HO4 : Hid (w4.ownsRow w1.heap.size 3 1 (.slice A3 N3 d3) N3 ((selK (crQ n1 fs gs) (k + 1)).map (Value.int .i64))) := Lib.hid (by rw [HTO.out, List.map_append]; exact hown3)
        have HN4 := Lib.hid (sel_pushed HQT.out HN1.out hN3)
        have hN5 : N3 ≤ k + 1 := by omega
        clear hown3 hgrow3 hloc3 hN3
        go_wp2
        go_roundw
        case rel => exact ⟨k + 1, A3, N3, d3, by omega, by go_num, rfl, hN5, HN4, HO4, HB4.out⟩
        case measure => simp [intOf]; omega
end Go.Proofs.Ytcbjdfgmkiodkaa
