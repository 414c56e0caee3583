/- The outlook of a plan: contract of impl.outlookOf. No condition but those typed. -/
import Derived.Test.YtbnfogedmjjiaaaDoorHt
import Derived.Test.YtbnfogedmjjiaaaDoorGrp
import Derived.Test.YtbnfogedmjjiaaaDoorGB
namespace Go.Proofs.YtbnfogedmjjiaaaDoor
open Go.ChangeShapes Go.WideShapes Go.ChangeAt Go.RowKit Go.Maps

/-- the answer: the lights and, in memory of its own, what each group hits; or nothing. -/
def OlP (V : Value) (L : List Int) (b : Bool) (w : World) (e : Ending) (w' : World) : Prop :=
  (b = false ∧ e = .returned (.tuple #[.agg #[.slice none 0 0, .slice none 0 0], .bool false]) ∧ Below w.heap.size w w') ∨
    ∃ (A : Option Addr) (N c : Nat), b = true ∧ e = .returned (.tuple #[.agg #[V, .slice A N c], .bool true]) ∧ Hid (N = L.length) ∧ w'.ownsRow w.heap.size 3 1 (.slice A N c) N (L.map (Value.int .i64)) ∧ Below w.heap.size w w'
theorem one_rowO (w : World) (a b : Value) {base : Nat} (hb : base ≤ w.heap.size) : (w.alloc (.cells #[a, b] 161)).ownsRow base 161 2 (.slice (some ⟨w.heap.size, 0, none⟩) 1 1) 1 [a, b] := by
  have := World.ownsRow_lit (base := base) (e := 161) (size := 2) w #[a, b] 1 hb (by unfold maxLen; omega) rfl
  simpa using this
theorem setCell_at {w : World} {g o : Nat} {v u : Value} (h : w.cell? ⟨g, o, none⟩ = some u) : (w.setCell ⟨g, o, none⟩ v).cell? ⟨g, o, none⟩ = some v := World.cell?_setCell_same w _ _ h
theorem setCell_off {w : World} {a b : Addr} {v : Value} (h : b.block ≠ a.block ∨ b.off ≠ a.off) : (w.setCell a v).cell? b = w.cell? b := World.cell?_setCell_other w a b v (fun e => by subst e; rcases h with h | h <;> exact h rfl)

set_option maxRecDepth 100000 in
set_option maxHeartbeats 8000000 in
theorem outlookOf_ {g1 g2 g3 n1 n2 n3 c1 c2 B : Nat} {ss : List ByteArray} {fs : List Q4} {ys : List Lt} {ds : List LtD} {w : World} (h : NetAt g1 g2 n1 n2 c1 c2 ss fs w) (hT : Lts B g3 n3 ys w) (hd : ys.map Lt.d = ds) (hs : n3 ≤ 1048576) :
    Calls Tryd.prog 127 #[.agg #[.slice (some ⟨g1, 0, none⟩) n1 c1, .slice (some ⟨g2, 0, none⟩) n2 c2, .slice (some ⟨g3, 0, none⟩) n3 n3]] w (OlP (.slice (some ⟨g3, 0, none⟩) n3 n3) (htL ds (rgL fs)) (pb (planP ss fs ds)) w) := by
  have HNT := Lib.hid h; have HT := Lib.hid hT; have HD := Lib.hid hd
  have HLD : Hid (ds.length = n3) := Lib.hid (by rw [← hd, List.length_map]; exact hT.len)
  have CV := Lib.hid (fun (W : World) (hb : Below w.heap.size w W) => implVP (h.moved hb) (hT.moved hb) hd hs)
  have CM := Lib.hid (fun (W : World) (hb : Below w.heap.size w W) => groupMasks_ (h.moved hb))
  have HMG : Hid (planP ss fs ds → gmV ss fs = gmL fs ∧ pb (netP ss fs) = true) := Lib.hid (fun hp => ⟨gmV_yes hp.1, pb_true hp.1⟩)
  have HGB : Hid (planP ss fs ds → ∀ g ∈ rgL fs, ∀ k, k < g.length → 0 ≤ nth g k ∧ nth g k < 20) := Lib.hid (fun hp g hg => rgp_bd hp.1 hg)
  have HGL : Hid (planP ss fs ds → (rgL fs).length ≤ 14) := Lib.hid (fun hp => by have := rgp_len fs; have := hp.1.2.1; omega)
  obtain ⟨gs, hgs⟩ : ∃ gs, rgL fs = gs := ⟨_, rfl⟩
  have HGM : Hid (gmL fs = gs.map fun g => (mkN g : Int)) := Lib.hid (by unfold gmL; rw [hgs])
  obtain ⟨r, hrr⟩ : ∃ r, pb (planP ss fs ds) = r := ⟨_, rfl⟩
  rw [hrr] at CV ⊢
  rw [hgs] at HGB HGL ⊢
  have HRR := Lib.hid hrr
  clear h hT hd hrr hgs
  go_enter Tryd.func127, Tryd.ntmps127
  go_wp2_with fail
  obtain ⟨W0, hW0⟩ : ∃ W0, (w.alloc (Obj.cells #[.slice (some ⟨g1, 0, none⟩) n1 c1, .slice (some ⟨g2, 0, none⟩) n2 c2, .slice (some ⟨g3, 0, none⟩) n3 n3] 82)).alloc (Obj.cells #[.slice none 0 0, .slice none 0 0] 161) = W0 := ⟨_, rfl⟩
  have hb0 : Below w.heap.size w W0 := by rw [← hW0]; exact ((Below.refl _ _).alloc (Nat.le_refl _) _).alloc (by simp) _
  have k0 : W0.cell? ⟨w.heap.size, 0, none⟩ = some (.slice (some ⟨g1, 0, none⟩) n1 c1) := by rw [← hW0]; simp [go_sem]
  have k1 : W0.cell? ⟨w.heap.size, 1, none⟩ = some (.slice (some ⟨g2, 0, none⟩) n2 c2) := by rw [← hW0]; simp [go_sem]
  have k2 : W0.cell? ⟨w.heap.size, 2, none⟩ = some (.slice (some ⟨g3, 0, none⟩) n3 n3) := by rw [← hW0]; simp [go_sem]
  have k3 : W0.cell? ⟨w.heap.size + 1, 0, none⟩ = some (.slice none 0 0) := by rw [← hW0]; simp [go_sem]
  have k4 : W0.cell? ⟨w.heap.size + 1, 1, none⟩ = some (.slice none 0 0) := by rw [← hW0]; simp [go_sem]
  have hz0 : w.heap.size + 1 < W0.heap.size := by rw [← hW0]; simp
  have HB0 := Lib.hid hb0; have HK0 := Lib.hid k0; have HK1 := Lib.hid k1; have HK2 := Lib.hid k2; have HK3 := Lib.hid k3; have HK4 := Lib.hid k4; have HZ0 := Lib.hid hz0
  have HRES : Hid (W0.ownsRow w.heap.size 161 2 (.slice (some ⟨w.heap.size + 1, 0, none⟩) 1 1) 1 [.slice none 0 0, .slice none 0 0]) := Lib.hid (by
    rw [← hW0]
    have h9 := one_rowO (w.alloc (Obj.cells #[.slice (some ⟨g1, 0, none⟩) n1 c1, .slice (some ⟨g2, 0, none⟩) n2 c2, .slice (some ⟨g3, 0, none⟩) n3 n3] 82)) (.slice none 0 0) (.slice none 0 0) (base := w.heap.size) (by simp)
    rw [show (w.alloc (Obj.cells #[.slice (some ⟨g1, 0, none⟩) n1 c1, .slice (some ⟨g2, 0, none⟩) n2 c2, .slice (some ⟨g3, 0, none⟩) n3 n3] 82)).heap.size = w.heap.size + 1 by simp] at h9
    exact h9)
  rw [hW0]
  clear hW0 hb0 k0 k1 k2 k3 k4 hz0
  have HKB : Hid (∀ W, Below W0.heap.size W0 W → W.cell? ⟨w.heap.size, 0, none⟩ = some (.slice (some ⟨g1, 0, none⟩) n1 c1) ∧ W.cell? ⟨w.heap.size, 1, none⟩ = some (.slice (some ⟨g2, 0, none⟩) n2 c2) ∧ W.cell? ⟨w.heap.size, 2, none⟩ = some (.slice (some ⟨g3, 0, none⟩) n3 n3) ∧ W.cell? ⟨w.heap.size + 1, 0, none⟩ = some (.slice none 0 0) ∧ W.cell? ⟨w.heap.size + 1, 1, none⟩ = some (.slice none 0 0) ∧ w.heap.size + 1 < W.heap.size) := Lib.hid (fun W hW => ⟨(hW.cell (p := ⟨w.heap.size, 0, none⟩) (by show w.heap.size < _; have := HZ0.out; omega)).trans HK0.out, (hW.cell (p := ⟨w.heap.size, 1, none⟩) (by show w.heap.size < _; have := HZ0.out; omega)).trans HK1.out, (hW.cell (p := ⟨w.heap.size, 2, none⟩) (by show w.heap.size < _; have := HZ0.out; omega)).trans HK2.out, (hW.cell (p := ⟨w.heap.size + 1, 0, none⟩) HZ0.out).trans HK3.out, (hW.cell (p := ⟨w.heap.size + 1, 1, none⟩) HZ0.out).trans HK4.out, Nat.lt_of_lt_of_le HZ0.out hW.size⟩)
  refine (CV.out _ HB0.out).mono ?_
  rintro e w1 ⟨rfl, hb1⟩
  have HB1 := Lib.hid (HB0.out.trans (hb1.mono HB0.out.size))
  have HB1W := Lib.hid hb1
  obtain ⟨k0, k1, k2, k3, k4, hz1⟩ := HKB.out _ hb1
  have hz9 : w.heap.size < w1.heap.size := by omega
  have HRES1 := Lib.hid (ownB HRES.out hb1)
  clear hb1
  cases r
  case false =>
    clear k0 k1 k2
    have e0_ := HRES1.out.frozenAt 0
    have e1_ := HRES1.out.frozenAt 1
    go_wp2
    (try simp only [Exit.inBlock, Exit.then])
    refine bodyPost_ret (v := .tuple #[.agg #[.slice none 0 0, .slice none 0 0], .bool false]) ?_ rfl ?_
    · simp [results, Tryd.results127, go_sem, k3, k4, hz1]
    · exact Or.inl ⟨rfl, rfl, (HB1.out.setCell (p := ⟨w.heap.size + 1, 0, none⟩) (Nat.le_succ _) _).setCell (p := ⟨w.heap.size + 1, 1, none⟩) (Nat.le_succ _) _⟩
  case true =>
  have HP : Hid (planP ss fs ds) := Lib.hid (of_pb HRR.out)
  have hl12 : n3 ≤ 12 := by have := HP.out.2.1; have := HLD.out; omega
  have hgl := HGL.out HP.out
  go_wp2_with fail
  obtain ⟨W2, hW2⟩ : ∃ W2, w1.alloc (Obj.cells #[.slice (some ⟨g3, 0, none⟩) n3 n3, .slice none 0 0] 161) = W2 := ⟨_, rfl⟩
  have hb2 : Below w1.heap.size w1 W2 := by rw [← hW2]; exact (Below.refl _ _).alloc (Nat.le_refl _) _
  have o0 : W2.cell? ⟨w1.heap.size, 0, none⟩ = some (.slice (some ⟨g3, 0, none⟩) n3 n3) := by rw [← hW2]; simp [go_sem]
  have o1 : W2.cell? ⟨w1.heap.size, 1, none⟩ = some (.slice none 0 0) := by rw [← hW2]; simp [go_sem]
  have oz : w1.heap.size < W2.heap.size := by rw [← hW2]; simp
  have HOB2 : Hid (W2.ownsRow w1.heap.size 161 2 (.slice (some ⟨w1.heap.size, 0, none⟩) 1 1) 1 [.slice (some ⟨g3, 0, none⟩) n3 n3, .slice none 0 0]) := Lib.hid (by rw [← hW2]; exact one_rowO w1 _ _ (Nat.le_refl _))
  have HB2 := Lib.hid (HB1.out.trans (hb2.mono HB1.out.size)); have HB2W := Lib.hid hb2
  have HO0 := Lib.hid o0; have HO1 := Lib.hid o1; have HOZ := Lib.hid oz
  rw [hW2]
  clear hW2 hb2 o0 o1 oz k0 k1 k2 k3 k4 hz1 hz9
  have CG := Lib.hid (CM.out _ HB2.out)
  rw [(HMG.out HP.out).1, (HMG.out HP.out).2] at CG
  refine CG.out.mono ?_
  rintro e w3 ⟨A0, N0, d0, rfl, HN0, ho0, hb3⟩
  have HB3 := Lib.hid (HB2.out.trans (hb3.mono HB2.out.size))
  have HB3W := Lib.hid (HB2W.out.trans (hb3.mono HB2W.out.size))
  have HN0g : Hid (N0 = gs.length) := Lib.hid (by rw [HN0.out, HGM.out, List.length_map])
  have hn0 : N0 ≤ 14 := by have := HN0g.out; omega
  have HMR := Lib.hid ho0
  have HC0 := Lib.hid ((hb3.cell (p := ⟨w1.heap.size, 0, none⟩) HOZ.out).trans HO0.out)
  have HC1 := Lib.hid ((hb3.cell (p := ⟨w1.heap.size, 1, none⟩) HOZ.out).trans HO1.out)
  have HOB3 := Lib.hid (ownB HOB2.out hb3)
  have HZ3 : Hid (w1.heap.size < w3.heap.size) := Lib.hid (Nat.lt_of_lt_of_le HOZ.out hb3.size)
  have HZ23 : Hid (W2.heap.size ≤ w3.heap.size) := Lib.hid hb3.size
  clear hb3 ho0
  go_wp2
  go_loopw [27] (fun i wr => ∃ (k : Nat) (A1 : Option Addr) (d1 : Nat), k ≤ N0 ∧ i = .int .i64 k ∧ Hid (wr.ownsRow w1.heap.size 161 2 (.slice (some ⟨w1.heap.size, 0, none⟩) 1 1) 1 [.slice (some ⟨g3, 0, none⟩) n3 n3, .slice A1 k d1]) ∧ Hid (wr.ownsRow w3.heap.size 3 1 (.slice A1 k d1) k ((htK ds gs k).map (Value.int .i64))) ∧ Hid (∀ p : Addr, p.block < w3.heap.size → p.block ≠ w1.heap.size → wr.cell? p = w3.cell? p) ∧ w3.heap.size ≤ wr.heap.size ∧ Below w1.heap.size w1 wr) (fun i _ => N0 - (intOf i).toNat)
  case atStart => exact ⟨0, none, 0, Nat.zero_le _, rfl, HOB3, Lib.hid (World.ownsRow_nil _ _ _ _), Lib.hid (fun p _ _ => rfl), Nat.le_refl _, HB3W.out⟩
  case round =>
    obtain ⟨k, A1, d1, hk, rfl, HOB, HOW, HSM, hszr, hb⟩ := hrel
    have HR0 : Hid (wr.cell? ⟨w1.heap.size, 0, none⟩ = some (.slice (some ⟨g3, 0, none⟩) n3 n3)) := Lib.hid (by have h9 := HOB.out.cellAt 0 (by omega); exact h9)
    have HR1 : Hid (wr.cell? ⟨w1.heap.size, 1, none⟩ = some (.slice A1 k d1)) := Lib.hid (by have h9 := HOB.out.cellAt 1 (by omega); exact h9)
    have HBR := Lib.hid hb
    have HBY := Lib.hid (HB1.out.trans (hb.mono HB1.out.size))
    have HBV := Lib.hid (HB1W.out.trans (hb.mono HB1W.out.size))
    clear hb
    obtain ⟨wo, rfl⟩ : ∃ wo, wo = wr := ⟨wr, rfl⟩
    obtain ⟨k0, k1, k2, k3, k4, hz1⟩ := HKB.out _ HBV.out
    have hr0 := HR0.out
    have hr1 := HR1.out
    have hro : w1.heap.size < wo.heap.size := by have := HZ3.out; omega
    by_cases hlt : k < N0
    case neg =>
      obtain rfl : k = N0 := by omega
      have HF : Hid (htL ds gs = htK ds gs k) := Lib.hid (by rw [← ht_all, HN0g.out])
      have HLN : Hid (k = (htL ds gs).length) := Lib.hid (by rw [HF.out, ht_len (by have := HN0g.out; omega)])
      have HZ1x : Hid (w.heap.size + 1 < w1.heap.size) := Lib.hid (Nat.lt_of_lt_of_le HZ0.out HB1W.out.size)
      clear hlt k0 k1 k2
      have HRESR := Lib.hid (own_lt HRES1.out HBR.out HZ1x.out)
      have e0_ := HRESR.out.frozenAt 0
      have e1_ := HRESR.out.frozenAt 1
      go_wp2
      (try simp only [Exit.inBlock, Exit.then])
      refine bodyPost_ret (v := .tuple #[.agg #[.slice (some ⟨g3, 0, none⟩) n3 n3, .slice A1 k d1], .bool true]) ?_ rfl ?_
      · simp [results, Tryd.results127, go_sem, k3, k4, hz1]
      · have hne : ∀ o : Nat, (Value.slice A1 k d1).ownBlock ≠ some (⟨w.heap.size + 1, o, none⟩ : Addr).block := fun o e => by have := (HOW.out.lt _ e).1; have := HZ1x.out; have := HZ3.out; have : (⟨w.heap.size + 1, o, none⟩ : Addr).block = w.heap.size + 1 := rfl; omega
        refine Or.inr ⟨A1, k, d1, rfl, rfl, HLN, ?_, (HBY.out.setCell (p := ⟨w.heap.size + 1, 0, none⟩) (Nat.le_succ _) _).setCell (p := ⟨w.heap.size + 1, 1, none⟩) (Nat.le_succ _) _⟩
        rw [HF.out]
        exact own_base (ownsRow_setCell_other (ownsRow_setCell_other HOW.out (hne 0) _) (hne 1) _) (by have := HB3.out.size; omega)
    case pos =>
    have hkl : k < gs.length := by have := HN0g.out; omega
    obtain ⟨g, hge⟩ : ∃ g, gs[k]'hkl = g := ⟨_, rfl⟩
    have HGE := Lib.hid hge
    have HGK : Hid (∀ j, j < g.length → 0 ≤ nth g j ∧ nth g j < 20) := Lib.hid (HGB.out HP.out g (by rw [← hge]; exact List.getElem_mem hkl))
    have hgk20 : mkN g < 2 ^ 20 := maskT_lt HGK.out
    obtain ⟨gm, rfl⟩ := own_some HMR.out (by omega)
    have hm0 : w3.cell? ⟨gm, k, none⟩ = some (.int .i64 (mkN g : Int)) := by
      have h9 := HMR.out.cellAt k (by omega)
      rw [HGM.out, List.getElem?_map, List.getElem?_map, List.getElem?_eq_getElem hkl, hge] at h9
      exact h9
    have hgmb := HMR.out.lt gm rfl
    have hm1 : wo.cell? ⟨gm, k, none⟩ = some (.int .i64 (mkN g : Int)) := (HSM.out ⟨gm, k, none⟩ hgmb.2 (by show gm ≠ _; have := HOZ.out; omega)).trans hm0
    obtain ⟨q, hq⟩ : ∃ q, mkN g = q := ⟨_, rfl⟩
    rw [hq] at hm1 hgk20
    have HQQ := Lib.hid hq
    clear hm0 hgmb hq hge
    go_wp2
    clear hm1 k0 k1 k2 k3 k4 hz1 hr0 hr1 hro
    go_loopw [9, 34] (fun v i wx => ∃ (j m : Nat), j ≤ n3 ∧ i = .int .i64 j ∧ v = .int .i64 m ∧ Hid (hitK ds g j = m) ∧ m < 2 ^ 12 ∧ Below wo.heap.size wo wx) (fun _ i _ => n3 - (intOf i).toNat)
    case atStart => exact ⟨0, 0, Nat.zero_le _, rfl, rfl, Lib.hid rfl, by decide, Below.refl _ _⟩
    case round =>
      obtain ⟨j, m, hj, rfl, rfl, HM, hm, hbx⟩ := hrel
      have HBZ := Lib.hid hbx
      have HBX0 := Lib.hid (HBY.out.trans (hbx.mono HBY.out.size))
      clear hbx
      by_cases hlj : j < n3
      case neg =>
        have HOD := Lib.hid (ownB HOW.out HBZ.out)
        have HTO : Hid (htK ds gs (k + 1) = htK ds gs k ++ [(m : Int)]) := Lib.hid (by rw [ht_snoc hkl HGE.out]; congr 3; rw [← HM.out]; unfold hitN; congr 1; have := HLD.out; omega)
        have q0 := (HBZ.out.cell (p := ⟨w1.heap.size, 0, none⟩) (by show w1.heap.size < _; have := HZ3.out; omega)).trans HR0.out
        have q1 := (HBZ.out.cell (p := ⟨w1.heap.size, 1, none⟩) (by show w1.heap.size < _; have := HZ3.out; omega)).trans HR1.out
        have HQ0 := Lib.hid q0; have HQ1 := Lib.hid q1
        have hqo : w1.heap.size < wr.heap.size := by have := HZ3.out; have := HBZ.out.size; omega
        have HSX : Hid (w3.heap.size ≤ wr.heap.size) := Lib.hid (by have := HBZ.out.size; omega)
        have hlj2 : ¬ (j : Int) < n3 := by omega
        clear hlj
        go_wp2_with (at_builtin; refine wp_app rfl (.tmp 52) (.tmp 54) 29 3 rfl w3.heap.size Tryd.underlying29 Tryd.inf_int rfl (by decide) (by decide) _ k _ rfl (HOD.out.alloc _) _ _ [.int .i64 (m : Int)] rfl rfl (news1 (new_at_ _ _ _ _ rfl)) (news_int _) (by omega) (by have := HSX.out; simp; omega) ?_)
        intro A3 d3 N3 w4 hN3 hown3 hgrow3 hloc3
        have HBD : Hid (Below w3.heap.size wr w4) := Lib.hid (((Below.refl _ _).alloc HSX.out _).grown hgrow3 (by have := HSX.out; simp; omega) (fun g hg => (HOD.out.lt g hg).1))
        subst hN3
        have HO3_ : Hid (w4.ownsRow w3.heap.size 3 1 (.slice A3 (k + 1) d3) (k + 1) ((htK ds gs (k + 1)).map (Value.int .i64))) := Lib.hid (by rw [HTO.out, List.map_append]; exact hown3)
        have q04 := (HBD.out.cell (p := ⟨w1.heap.size, 0, none⟩) HZ3.out).trans HQ0.out
        have q14 := (HBD.out.cell (p := ⟨w1.heap.size, 1, none⟩) HZ3.out).trans HQ1.out
        have HQ04 := Lib.hid q04; have HQ14 := Lib.hid q14
        have HOB4 := Lib.hid (own_lt (ownB HOB.out HBZ.out) HBD.out HZ3.out)
        have e1_ := HOB4.out.frozenAt 1
        have HOB5 := Lib.hid ((HOB4.out.stored 1 (.slice A3 (k + 1) d3)).1)
        have hqo4 : w1.heap.size < w4.heap.size := Nat.lt_of_lt_of_le hqo HBD.out.size
        clear hown3 hgrow3 hloc3 q0 q1 hqo
        go_wp2
        go_roundw
        case rel =>
          refine ⟨k + 1, A3, d3, by omega, by go_num, HOB5, Lib.hid (ownsRow_setCell_other HO3_.out (fun e => by have h9 := (HO3_.out.lt _ e).1; have h8 : (⟨w1.heap.size, 1, none⟩ : Addr).block = w1.heap.size := rfl; have := HZ3.out; omega) _), Lib.hid (fun p hp hpo => ?_), ?_, ?_⟩
          · rw [setCell_off (.inl hpo), HBD.out.cell hp, HBZ.out.cell (by omega)]; exact HSM.out p hp hpo
          · have := HBD.out.size; have := HSX.out; simp; omega
          · exact ((HBR.out.trans (HBZ.out.mono HBR.out.size)).trans (HBD.out.mono (by have := HZ3.out; omega))).setCell (p := ⟨w1.heap.size, 1, none⟩) (Nat.le_refl _) _
        case measure => simp [intOf]; omega
      case pos =>
      have hjl : j < ys.length := by have := HT.out.len; omega
      obtain ⟨z, hze⟩ : ∃ y, ys[j]'hjl = y := ⟨_, rfl⟩
      have HDK := Lib.hid (dn_at HD.out hjl hze)
      obtain ⟨hzn, hzs, hzr⟩ := HT.out.at_ ys[j] (List.getElem_mem hjl)
      obtain ⟨_, f0, f1, f2, f3, f4⟩ := (HT.out.moved HBX0.out).rd.ltc hjl
      rw [hze] at hzn hzs hzr
      rw [Nat.zero_add, hze] at f0 f1 f2 f3 f4
      obtain ⟨p0, p1, zA, zn, zc, zzs, q0, q1⟩ := z
      simp only at f0 f1 f2 f3 f4 hzn hzs hzr
      have hzb : ∀ i, i < zn → 0 ≤ nth zzs i ∧ nth zzs i < 20 := fun i hi => by
        have h9 := (HP.out.2.2.1 j (by have := HLD.out; omega)).1.2.1
        rw [HDK.out] at h9
        have h8 := (route_nodup h9).2 (zzs[i]'(by omega)) (List.getElem_mem _)
        rw [nth_eq (by omega)] at h8
        have := HP.out.1.2.1
        omega
      have HUS : Hid ((dn ds j).zs = zzs) := Lib.hid (by rw [HDK.out]; rfl)
      have HBN := Lib.hid ((Below.refl wr.heap.size wr).alloc (Nat.le_refl _) (Obj.cells #[.int .i64 p0, .int .i64 p1, .slice zA zn zc, .int .i64 q0, .int .i64 q1] 159))
      have CK := Lib.hid (fun (W : World) (hW : Below w.heap.size w W) => maskOf_ zA zn zc zzs W hzn hzs (hzr.moved hW) hzb)
      have hml := maskT_lt hzb
      have HME : Hid ((zzs.any fun f => decide (f ∈ g)) = decide ((q &&& maskN zzs zn) ≠ 0)) := Lib.hid (by rw [← HQQ.out]; exact mask_meet2 hzn hzb HGK.out)
      obtain ⟨x, hx⟩ : ∃ x, maskN zzs zn = x := ⟨_, rfl⟩
      rw [hx] at CK hml HME
      have hand := and_i64q x q (by omega) (by omega)
      rw [Nat.and_comm] at hand
      obtain ⟨u, hu⟩ : ∃ u, q &&& x = u := ⟨_, rfl⟩
      rw [hu] at hand HME
      clear hze hzn hzs hzr hzb hx hu
      go_wp2_with fail
      refine (CK.out _ (HBX0.out.trans (HBN.out.mono HBX0.out.size))).mono ?_
      rintro _ _ ⟨rfl, rfl⟩
      have HBN2 := Lib.hid (HBZ.out.trans (HBN.out.mono HBZ.out.size))
      clear f0 f1 f2 f3 f4
      by_cases hu0 : u = 0
      case pos =>
        subst hu0
        have HM2 : Hid (hitK ds g (j + 1) = m) := Lib.hid (by rw [hit_no (by rw [HUS.out, HME.out]; rfl)]; exact HM.out)
        go_wp2
        go_roundw
        case rel => exact ⟨j + 1, m, by omega, by go_num, rfl, HM2, hm, HBN2.out⟩
        case measure => simp [intOf]; omega
      case neg =>
        have HM2 : Hid (hitK ds g (j + 1) = m ||| 2 ^ j) := Lib.hid (by rw [hit_yes (by rw [HUS.out, HME.out]; exact decide_eq_true hu0), HM.out])
        have hp : 2 ^ j < 2 ^ 12 := Nat.pow_lt_pow_right (by decide) (by omega)
        have hpi : (2 : Int) ^ j = ((2 ^ j : Nat) : Int) := by simp
        have hp0 : 0 ≤ (2 : Int) ^ j := Int.pow_nonneg (by omega)
        have hp1 : (2 : Int) ^ j ≤ 4096 := by rw [hpi]; omega
        have hor : bits .or .i64 (m : Int) ((2 : Int) ^ j) = ((m ||| 2 ^ j : Nat) : Int) := by rw [hpi]; exact or_i64_ m (2 ^ j) (by omega) (by omega)
        have hlm : m ||| 2 ^ j < 2 ^ 12 := Nat.or_lt_two_pow hm hp
        obtain ⟨m2, hm2⟩ : ∃ x, m ||| 2 ^ j = x := ⟨_, rfl⟩
        rw [hm2] at HM2 hor hlm
        have hu1 : (u : Int) ≠ 0 := by omega
        have hu2 : ((u : Int) != 0) = true := bne_iff_ne.2 hu1
        have hu3 : (u != 0) = true := bne_iff_ne.2 hu0
        clear hm2 hpi hp
        go_wp2
        go_roundw
        case rel => exact ⟨j + 1, m2, by omega, by go_num, by go_num, HM2, hlm, HBN2.out⟩
        case measure => simp [intOf]; omega
end Go.Proofs.YtbnfogedmjjiaaaDoor
