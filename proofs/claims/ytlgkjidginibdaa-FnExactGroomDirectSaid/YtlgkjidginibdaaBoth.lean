/- Risk groups that two routes have in common: contracts of impl.groupsOnBoth, RiskDisjoint, CommonRisks. No condition but those typed. -/
import Derived.Test.YtlgkjidginibdaaGrpS
import Derived.Test.YtlgkjidginibdaaCmp3
import Derived.Test.YtlgkjidginibdaaGC
import Derived.Test.YtlgkjidginibdaaCn
import Derived.Deep.DeepCutAuto
namespace Go.Proofs.Ytlgkjidginibdaa
open Go.ChangeShapes Go.WideShapes Go.ChangeAt Go.RowKit

theorem maskT_lt {zs : List Int} : ∀ {k : Nat}, (∀ j, j < k → 0 ≤ nth zs j ∧ nth zs j < 20) → maskN zs k < 2 ^ 20
  | 0, _ => Nat.two_pow_pos 20
  | k + 1, h => by
    unfold maskN
    have h0 := h k (by omega)
    exact Nat.or_lt_two_pow (maskT_lt (fun j hj => h j (by omega))) (Nat.pow_lt_pow_right (by decide) (by omega))
theorem and_i64t (a b : Nat) (ha : a < 2 ^ 62) (hb : b < 2 ^ 62) : bits .and .i64 (a : Int) (b : Int) = ((a &&& b : Nat) : Int) := by
  have wr : ∀ n : Int, 0 ≤ n → n < 2 ^ 62 → IntKind.i64.wrap n = n := by intro n h0 h1; rw [IntKind.wrap_i64]; omega
  exact (bits_nat .i64 62 (by decide) wr a b ha hb).1
/-- two masks meet where the sets do. -/
theorem mask_meet {zs ks : List Int} {n m : Nat} (hn : zs.length = n) (hm : ks.length = m) (h1 : ∀ k, k < n → 0 ≤ nth zs k ∧ nth zs k < 20) (h2 : ∀ k, k < m → 0 ≤ nth ks k ∧ nth ks k < 20) :
    (zs.any fun f => decide (f ∈ ks)) = decide ((maskN zs n &&& maskN ks m) ≠ 0) := by
  subst hn hm
  have t1 := fun i => mask_test (zs := zs) (i := i) (k := zs.length) (fun j hj => (h1 j hj).1)
  have t2 := fun i => mask_test (zs := ks) (i := i) (k := ks.length) (fun j hj => (h2 j hj).1)
  by_cases hex : ∃ f, f ∈ zs ∧ f ∈ ks
  · obtain ⟨f, hf1, hf2⟩ := hex
    rw [List.any_eq_true.2 ⟨f, hf1, decide_eq_true hf2⟩]
    refine (decide_eq_true ?_).symm
    obtain ⟨j, hj, e1⟩ := mem_nth.1 hf1
    obtain ⟨j2, hj2, e2⟩ := mem_nth.1 hf2
    have hf0 := (h1 j hj).1
    rw [e1] at hf0
    obtain ⟨i, rfl⟩ : ∃ i : Nat, f = i := ⟨f.toNat, by omega⟩
    intro h0
    have h3 : (maskN zs zs.length &&& maskN ks ks.length).testBit i = true := by
      rw [Nat.testBit_and, t1, t2, decide_eq_true ⟨j, hj, e1⟩, decide_eq_true ⟨j2, hj2, e2⟩]; rfl
    rw [h0, Nat.zero_testBit] at h3
    exact absurd h3 (by decide)
  · have hany : (zs.any fun f => decide (f ∈ ks)) = false := by
      rw [List.any_eq_false]
      intro f hf hc
      exact hex ⟨f, hf, of_decide_eq_true hc⟩
    rw [hany]
    refine (decide_eq_false ?_).symm
    intro hc
    refine hc (Nat.eq_of_testBit_eq fun i => ?_)
    rw [Nat.zero_testBit, Nat.testBit_and, t1, t2]
    by_cases ha : ∃ j, j < zs.length ∧ nth zs j = (i : Int)
    · by_cases hb : ∃ j, j < ks.length ∧ nth ks j = (i : Int)
      · exact absurd ⟨(i : Int), mem_nth.2 ha, mem_nth.2 hb⟩ hex
      · rw [decide_eq_false hb, Bool.and_false]
    · rw [decide_eq_false ha, Bool.false_and]
theorem mask_meet2 {g zs : List Int} {n : Nat} (hn : zs.length = n) (h1 : ∀ k, k < n → 0 ≤ nth zs k ∧ nth zs k < 20) (h2 : ∀ k, k < g.length → 0 ≤ nth g k ∧ nth g k < 20) : (zs.any fun f => decide (f ∈ g)) = decide ((mkN g &&& maskN zs n) ≠ 0) := by
  rw [mask_meet hn rfl h1 h2, Nat.and_comm]; rfl
theorem rgp_bd {ss : List ByteArray} {fs : List Q4} (hv : netP ss fs) {g : List Int} (hg : g ∈ rgL fs) : ∀ k, k < g.length → 0 ≤ nth g k ∧ nth g k < 20 := by
  intro k hk
  have h1 := (rgp_eq hg (x := g[k]) (List.getElem_mem hk)).1
  rw [nth_eq hk] at h1
  have := hv.2.1
  omega
theorem mem_bd {ss : List ByteArray} {fs : List Q4} (hv : netP ss fs) {xs : List Int} {n : Nat} (hn : xs.length = n) (h : ∀ x ∈ xs, 0 ≤ x ∧ x < fs.length) : ∀ k, k < n → 0 ≤ nth xs k ∧ nth xs k < 20 := by
  intro k hk
  have h1 := h xs[k] (List.getElem_mem (by omega))
  rw [nth_eq (by omega)] at h1
  have := hv.2.1
  omega
set_option maxRecDepth 100000 in
set_option maxHeartbeats 8000000 in
theorem onBoth_ {g1 g2 n1 n2 c1 c2 : Nat} {ss : List ByteArray} {fs : List Q4} {w : World} (h : NetAt g1 g2 n1 n2 c1 c2 ss fs w) (hv : netP ss fs) (st : Int) {A : Option Addr} {n c : Nat} {xs : List Int} (hn : xs.length = n) (hr : Rd w w.heap.size A (xs.map (Value.int .i64))) (hx : n ≤ 1048576) (st2 : Int) {A2 : Option Addr} {m c3 : Nat} {ys : List Int} (hm : ys.length = m) (hr2 : Rd w w.heap.size A2 (ys.map (Value.int .i64))) (hx2 : m ≤ 1048576) (hmx : ∀ x ∈ xs, 0 ≤ x ∧ x < fs.length) (hmy : ∀ x ∈ ys, 0 ≤ x ∧ x < fs.length) :
    Calls Try.prog 164 #[.agg #[.slice (some ⟨g1, 0, none⟩) n1 c1, .slice (some ⟨g2, 0, none⟩) n2 c2], .agg #[.int .i64 st, .slice A n c], .agg #[.int .i64 st2, .slice A2 m c3]] w (IntP (bothK (rgL fs) xs ys (rgL fs).length) w) := by
  have HNT := Lib.hid h; have HN := Lib.hid hn; have HR := Lib.hid hr; have HM := Lib.hid hm; have HR2 := Lib.hid hr2
  have HL2 := Lib.hid h.ln2
  have HXB := Lib.hid (mem_bd hv hn hmx)
  have HYB := Lib.hid (mem_bd hv hm hmy)
  have HGB := Lib.hid (fun g (hg : g ∈ rgL fs) => rgp_bd hv hg)
  have CG : Hid (∀ W, Below w.heap.size w W → Calls Try.prog 212 #[.agg #[.slice (some ⟨g1, 0, none⟩) n1 c1, .slice (some ⟨g2, 0, none⟩) n2 c2]] W (IntsP (gmL fs) true W)) := Lib.hid (fun W hb => by
    have h1 := groupMasks_ (h.moved hb)
    rw [gmV_yes hv, pb_true hv] at h1
    exact h1)
  have hgl : (rgL fs).length ≤ 14 := by have := rgp_len fs; have := hv.2.1; omega
  have HQ : Hid (∀ k (hk : k < (rgL fs).length), bothQ (rgL fs) xs ys k = (decide ((mkN (rgL fs)[k] &&& maskN xs n) ≠ 0) && decide ((mkN (rgL fs)[k] &&& maskN ys m) ≠ 0))) := Lib.hid (fun k hk => by
    unfold bothQ
    rw [show (rgL fs).getD k [] = (rgL fs)[k] by rw [List.getD_eq_getElem?_getD, List.getElem?_eq_getElem hk]; rfl]
    rw [mask_meet2 hn HXB.out (HGB.out _ (List.getElem_mem hk)), mask_meet2 hm HYB.out (HGB.out _ (List.getElem_mem hk))])
  have HGL : Hid (gmL fs = (rgL fs).map fun g => (mkN g : Int)) := Lib.hid rfl
  clear h hn hr hm hr2 hv hmx hmy
  obtain ⟨gs, hgs⟩ : ∃ gs, rgL fs = gs := ⟨_, rfl⟩
  obtain ⟨gm, hgm⟩ : ∃ gm, gmL fs = gm := ⟨_, rfl⟩
  rw [hgs] at HGB HQ hgl HGL ⊢
  rw [hgm] at CG HGL
  clear hgs hgm
  go_enter Try.func164, Try.ntmps164
  go_wp2_with fail
  obtain ⟨W0, hW0⟩ : ∃ W0, ((w.alloc (Obj.cells #[.slice (some ⟨g1, 0, none⟩) n1 c1, .slice (some ⟨g2, 0, none⟩) n2 c2] 39)).alloc (Obj.cells #[.int .i64 st, .slice A n c] 41)).alloc (Obj.cells #[.int .i64 st2, .slice A2 m c3] 41) = W0 := ⟨_, rfl⟩
  have hb0 : Below w.heap.size w W0 := by rw [← hW0]; exact (((Below.refl _ _).alloc (Nat.le_refl _) _).alloc (by simp) _).alloc (by simp; omega) _
  have k0 : W0.cell? ⟨w.heap.size, 0, none⟩ = some (.slice (some ⟨g1, 0, none⟩) n1 c1) := by rw [← hW0]; simp [go_sem]
  have k1 : W0.cell? ⟨w.heap.size, 1, none⟩ = some (.slice (some ⟨g2, 0, none⟩) n2 c2) := by rw [← hW0]; simp [go_sem]
  have k2 : W0.cell? ⟨w.heap.size + 1, 0, none⟩ = some (.int .i64 st) := by rw [← hW0]; simp [go_sem]
  have k3 : W0.cell? ⟨w.heap.size + 1, 1, none⟩ = some (.slice A n c) := by rw [← hW0]; simp [go_sem]
  have hz0 : w.heap.size + 2 < W0.heap.size := by rw [← hW0]; simp
  have HB0 := Lib.hid hb0; have HK0 := Lib.hid k0; have HK1 := Lib.hid k1; have HK2 := Lib.hid k2; have HK3 := Lib.hid k3; have HK5 : Hid (W0.cell? ⟨w.heap.size + 1 + 1, 1, none⟩ = some (.slice A2 m c3)) := Lib.hid (by rw [← hW0]; simp [go_sem]); have HZ0 := Lib.hid hz0
  rw [hW0]
  clear hW0 hb0 k0 k1 k2 k3 hz0
  refine (CG.out _ HB0.out).mono ?_
  rintro e w1 ⟨A0, N0, d0, rfl, HN0, ho0, hb1⟩
  have HB1 := Lib.hid (HB0.out.trans (hb1.mono HB0.out.size))
  have HK3b := Lib.hid ((hb1.cell (p := ⟨w.heap.size + 1, 1, none⟩) (by show w.heap.size + 1 < _; have := HZ0.out; omega)).trans HK3.out)
  have HK5b := Lib.hid ((hb1.cell (p := ⟨w.heap.size + 1 + 1, 1, none⟩) (by show w.heap.size + 1 + 1 < _; have := HZ0.out; omega)).trans HK5.out)
  have HZ1 : Hid (w.heap.size + 2 < w1.heap.size) := Lib.hid (by have := HZ0.out; have := hb1.size; omega)
  have HO := Lib.hid (Rd.ofOwn ho0)
  have HNL : Hid (N0 = gs.length) := Lib.hid (by rw [HN0.out, HGL.out, List.length_map])
  have hn0 : N0 ≤ 14 := by have := HNL.out; omega
  clear hb1 ho0
  go_wp2
  go_loopw [7, 19] (fun v i wr => ∃ (k : Nat) (A1 : Option Addr) (N1 d1 : Nat), k ≤ N0 ∧ i = .int .i64 k ∧ v = .slice A1 N1 d1 ∧ N1 ≤ k ∧ Hid (N1 = (bothK gs xs ys k).length) ∧ Hid (wr.ownsRow w1.heap.size 3 1 (.slice A1 N1 d1) N1 ((bothK gs xs ys k).map (Value.int .i64))) ∧ Below w1.heap.size w1 wr) (fun _ i _ => N0 - (intOf i).toNat)
  case atStart => exact ⟨0, none, 0, 0, Nat.zero_le _, rfl, rfl, Nat.le_refl _, Lib.hid rfl, Lib.hid (World.ownsRow_nil _ _ _ _), Below.refl _ _⟩
  case round =>
    obtain ⟨k, A1, N1, d1, hk, rfl, rfl, hNk, HN1, HOW, hb⟩ := hrel
    have HBR := Lib.hid hb
    have HBW := Lib.hid (HB1.out.trans (hb.mono HB1.out.size))
    have hsz := hb.size
    have l3 := (hb.cell (p := ⟨w.heap.size + 1, 1, none⟩) (by show w.heap.size + 1 < _; have := HZ1.out; omega)).trans HK3b.out
    have l5 := (hb.cell (p := ⟨w.heap.size + 1 + 1, 1, none⟩) (by show w.heap.size + 1 + 1 < _; have := HZ1.out; omega)).trans HK5b.out
    have hg1 : w.heap.size + 1 < wr.heap.size := by have := HZ1.out; omega
    have hg2 : w.heap.size + 1 + 1 < wr.heap.size := by have := HZ1.out; omega
    clear hb
    by_cases hlt : k < N0
    case neg =>
      have hkL : k = gs.length := by have := HNL.out; omega
      clear l3 l5 hg1 hg2
      go_wp2
      go_ret
      rw [← hkL]
      exact ⟨A1, N1, d1, rfl, HN1, own_base HOW.out HB1.out.size, HBW.out⟩
    case pos =>
    have hkl : k < gs.length := by have := HNL.out; omega
    have hkm : k < gm.length := by rw [HGL.out, List.length_map]; exact hkl
    obtain ⟨ad, hA, hbl, hcell⟩ := ints_at (HO.out.moved HBR.out) hkm
    subst hA
    have hgk : gm[k] = (mkN gs[k] : Int) := by
      have h9 : gm[k]? = some ((mkN gs[k] : Nat) : Int) := by rw [HGL.out, List.getElem?_map, List.getElem?_eq_getElem hkl]; rfl
      rw [List.getElem?_eq_getElem hkm] at h9
      injection h9
    rw [hgk] at hcell
    have CA := Lib.hid (maskOf_ A n c xs wr HN.out hx (HR.out.moved HBW.out) HXB.out)
    have CB := Lib.hid (maskOf_ A2 m c3 ys wr HM.out hx2 (HR2.out.moved HBW.out) HYB.out)
    have HQE := Lib.hid (HQ.out k hkl)
    have l1 := maskT_lt HXB.out
    have l2 := maskT_lt HYB.out
    have l4 : mkN gs[k] < 2 ^ 20 := maskT_lt (HGB.out _ (List.getElem_mem hkl))
    obtain ⟨g, hgg⟩ : ∃ g, mkN gs[k] = g := ⟨_, rfl⟩
    rw [hgg] at hcell HQE l4
    obtain ⟨a, ha⟩ : ∃ a, maskN xs n = a := ⟨_, rfl⟩
    obtain ⟨b, hbb⟩ : ∃ b, maskN ys m = b := ⟨_, rfl⟩
    rw [ha] at CA HQE l1
    rw [hbb] at CB HQE l2
    have eab := and_i64t g a (by omega) (by omega)
    have eac := and_i64t g b (by omega) (by omega)
    obtain ⟨d, hd⟩ : ∃ d, g &&& a = d := ⟨_, rfl⟩
    obtain ⟨u, hu⟩ : ∃ u, g &&& b = u := ⟨_, rfl⟩
    rw [hd] at eab HQE
    rw [hu] at eac HQE
    clear ha hbb hd hu hgg hgk hkm hkl l1 l2 l4
    go_wp2_with fail
    refine CA.out.mono ?_
    rintro e w' ⟨rfl, rfl⟩
    by_cases hd0 : d = 0
    case pos =>
      have HTO : Hid (bothK gs xs ys (k + 1) = bothK gs xs ys k) := Lib.hid (sel_out (by rw [HQE.out, hd0]; rfl))
      have HN2 : Hid (N1 = (bothK gs xs ys (k + 1)).length) := Lib.hid (by rw [HTO.out]; exact HN1.out)
      have HO2 : Hid (wr.ownsRow w1.heap.size 3 1 (.slice A1 N1 d1) N1 ((bothK gs xs ys (k + 1)).map (Value.int .i64))) := Lib.hid (by rw [HTO.out]; exact HOW.out)
      subst hd0
      go_wp2
      go_roundw
      case rel => exact ⟨k + 1, A1, N1, d1, by omega, by go_num, rfl, by omega, HN2, HO2, HBR.out⟩
      case measure => simp [intOf]; omega
    case neg =>
    have hd1 : ((d : Int) != 0) = true := by simp; omega
    have hdd : decide (d ≠ 0) = true := decide_eq_true hd0
    go_wp2_with fail
    refine CB.out.mono ?_
    rintro e w' ⟨rfl, rfl⟩
    by_cases hu0 : u = 0
    case pos =>
      have HTO : Hid (bothK gs xs ys (k + 1) = bothK gs xs ys k) := Lib.hid (sel_out (by rw [HQE.out, hu0]; simp))
      have HN2 : Hid (N1 = (bothK gs xs ys (k + 1)).length) := Lib.hid (by rw [HTO.out]; exact HN1.out)
      have HO2 : Hid (wr.ownsRow w1.heap.size 3 1 (.slice A1 N1 d1) N1 ((bothK gs xs ys (k + 1)).map (Value.int .i64))) := Lib.hid (by rw [HTO.out]; exact HOW.out)
      subst hu0
      go_wp2
      go_roundw
      case rel => exact ⟨k + 1, A1, N1, d1, by omega, by go_num, rfl, by omega, HN2, HO2, HBR.out⟩
      case measure => simp [intOf]; omega
    case neg =>
    have hu1 : ((u : Int) != 0) = true := by simp; omega
    have HTO : Hid (bothK gs xs ys (k + 1) = bothK gs xs ys k ++ [(k : Int)]) := Lib.hid (sel_in (by rw [HQE.out, hdd, decide_eq_true hu0]; rfl))
    clear l3 l5 hg1 hg2 hcell
    go_wp2_with (at_builtin; refine wp_app rfl (.tmp 38) (.tmp 40) 26 3 rfl w1.heap.size Try.underlying26 Try.inf_int rfl (by decide) (by decide) _ N1 _ rfl (HOW.out.alloc _) _ _ [.int .i64 (k : Int)] rfl rfl (news1 (new_at_ _ _ _ _ rfl)) (news_int _) (by omega) (by simp; omega) ?_)
    intro A3 d3 N3 w3 hN3 hown3 hgrow3 hloc3
    have HB3 := Lib.hid ((HBR.out.alloc hsz _).grown hgrow3 (by simp; omega) (fun g hg => (HOW.out.lt g hg).1))
    have HO3 : Hid (w3.ownsRow w1.heap.size 3 1 (.slice A3 N3 d3) N3 ((bothK gs xs ys (k + 1)).map (Value.int .i64))) := Lib.hid (by rw [HTO.out, List.map_append]; exact hown3)
    have HN4 : Hid (N3 = (bothK gs xs ys (k + 1)).length) := Lib.hid (by rw [HTO.out, List.length_append, ← HN1.out, hN3]; rfl)
    have hN5 : N3 ≤ k + 1 := by omega
    clear hown3 hgrow3 hloc3 hN3
    go_wp2
    go_roundw
    case rel => exact ⟨k + 1, A3, N3, d3, by omega, by go_num, rfl, hN5, HN4, HO3, HB3.out⟩
    case measure => simp [intOf]; omega
end Go.Proofs.Ytlgkjidginibdaa
