/- The law's helper that marks rows of Services: what it touches. No condition but those typed. -/
import Derived.Test.YtlgkjidginibdaaDoorSvR
import Derived.Test.YtlgkjidginibdaaDoorGC
namespace Go.Proofs.YtlgkjidginibdaaDoor
open Go.ChangeShapes Go.WideShapes Go.ChangeAt Go.RowKit

/-- the cells that hold the slices. -/
def SvKeep (ys : List Sv) (cs : List Value) : Prop := ∀ i (h : i < ys.length), cs[i * 10 + 3]? = some (.slice ys[i].A ys[i].n ys[i].c) ∧ cs[i * 10 + 7]? = some (.slice ys[i].A2 ys[i].m ys[i].c2)
theorem Sv_keep0 (ys : List Sv) : SvKeep ys (ys.flatMap Sv.cells) := fun i h => by
  have h9 := flat_get Sv.cells 10 ys (fun _ _ => rfl) i 3 (by decide)
  have h8 := flat_get Sv.cells 10 ys (fun _ _ => rfl) i 7 (by decide)
  rw [h9, h8, List.getElem?_eq_getElem h]; exact ⟨rfl, rfl⟩
theorem Sv_keep1 {ys : List Sv} {cs : List Value} (h : SvKeep ys cs) {o : Nat} (v : Value) (hne : ∀ i, o ≠ i * 10 + 3 ∧ o ≠ i * 10 + 7) : SvKeep ys (cs.set o v) := fun i hi => by rw [List.getElem?_set_ne (hne i).1, List.getElem?_set_ne (hne i).2]; exact h i hi
theorem SvOwn.off {S : Nat → Prop} {B g0 : Nat} {w w' : World} {y : Sv} (h : SvOwn B g0 w y) (hoff : Off S w w') (hS : ∀ q, (y.A = some ⟨q, 0, none⟩ ∨ y.A2 = some ⟨q, 0, none⟩) → ¬ S q) : SvOwn B g0 w' y := by
  obtain ⟨q, r, ⟨e1, e2, e3, e4⟩, h1, h2, ho, hp⟩ := h
  exact ⟨q, r, ⟨e1, e2, e3, e4⟩, h1, h2, hoff.own ho (hS q (.inl e1)), hoff.own hp (hS r (.inr e2))⟩
theorem Svs.off {S : Nat → Prop} {B g n : Nat} {ys : List Sv} {w w' : World} (h : Svs B g n ys w) (hoff : Off S w w') (hg : ¬ S g) (hq : ∀ y ∈ ys, ∀ q, (y.A = some ⟨q, 0, none⟩ ∨ y.A2 = some ⟨q, 0, none⟩) → ¬ S q) : Svs B g n ys w' :=
  ⟨h.len, hoff.own h.row hg, fun y hy => (h.own y hy).off hoff (hq y hy), h.apart⟩
/-- where the blocks lie. -/
theorem Svs.lies {B g n : Nat} {ys : List Sv} {w : World} (h : Svs B g n ys w) : (B ≤ g ∧ g < w.heap.size) ∧ ∀ y ∈ ys, ∀ q, (y.A = some ⟨q, 0, none⟩ ∨ y.A2 = some ⟨q, 0, none⟩) → B ≤ q ∧ q < w.heap.size := by
  refine ⟨h.row.lt g rfl, fun y hy q e => ?_⟩
  obtain ⟨q', r', ⟨e1, e2, _, _⟩, _, _, ho, hp⟩ := h.own y hy
  rcases e with e | e
  · rw [e1] at e
    injection e with e; injection e with e
    subst e
    exact ho.lt q' rfl
  · rw [e2] at e
    injection e with e; injection e with e
    subst e
    exact hp.lt r' rfl
set_option maxRecDepth 100000 in
set_option maxHeartbeats 2000000 in
theorem markSvs {B g n E : Nat} {ys : List Sv} (k : Int) (w : World) (h : Svs B g n ys w) (hgE : g < E) (hqE : ∀ y ∈ ys, ∀ q, (y.A = some ⟨q, 0, none⟩ ∨ y.A2 = some ⟨q, 0, none⟩) → q < E) (hs : n ≤ 1048576) (h0 : 0 ≤ k) (h1 : k ≤ 90000000) :
    Calls Tryd.prog 16 #[.slice (some ⟨g, 0, none⟩) n n, .int .i64 k] w (MarkR B E 3000000000000 w) := by
  have HX := Lib.hid h; have HQE := Lib.hid hqE
  have hbg := (h.row.lt g rfl).1
  have HGE := Lib.hid (show B ≤ g ∧ g < E from ⟨hbg, hgE⟩)
  clear h hqE hbg hgE
  go_enter Tryd.func16, Tryd.ntmps16
  go_wp2
  go_loopw [1, 5] (fun z i wr => ∃ (j : Nat) (v : Int) (cs : List Value), j ≤ n ∧ i = .int .i64 j ∧ z = .int .i64 v ∧ 0 ≤ v ∧ v ≤ k + 2097170 * (j : Int) ∧ Hid (SvKeep ys cs) ∧ Hid (wr.ownsRow B 67 10 (.slice (some ⟨g, 0, none⟩) n n) n cs) ∧ Hid (∀ i (h : i < ys.length), j ≤ i → SvOwn B g wr ys[i]) ∧ Hid (Off (fun b => B ≤ b ∧ b < E) w wr)) (fun _ i _ => n - (intOf i).toNat)
  case atStart => exact ⟨0, k, _, Nat.zero_le _, rfl, rfl, h0, by omega, Lib.hid (Sv_keep0 ys), Lib.hid HX.out.row, Lib.hid (fun i h _ => HX.out.own _ (List.getElem_mem h)), Lib.hid (Off.refl _ _)⟩
  case round =>
    obtain ⟨j, v, cs, hj, rfl, rfl, hv0, hv1, HK, HR, HO, HF⟩ := hrel
    by_cases hlt : j < n
    case neg =>
      go_wp2
      go_ret
      exact ⟨v, rfl, hv0, by omega, HF.out⟩
    case pos =>
    have hjl : j < ys.length := by have := HX.out.len; omega
    have hcl : cs.length = n * 10 := HR.out.1
    obtain ⟨v0, c0⟩ : ∃ u, wr.cell? ⟨g, j * 10, none⟩ = some u := by
      have h9 := HR.out.cellAt (j * 10) (by omega)
      rw [List.getElem?_eq_getElem (by omega)] at h9
      exact ⟨_, h9⟩
    have z0 := HR.out.frozenAt (j * 10)
    obtain ⟨v1, c1⟩ : ∃ u, wr.cell? ⟨g, j * 10 + 1, none⟩ = some u := by
      have h9 := HR.out.cellAt (j * 10 + 1) (by omega)
      rw [List.getElem?_eq_getElem (by omega)] at h9
      exact ⟨_, h9⟩
    have z1 := HR.out.frozenAt (j * 10 + 1)
    obtain ⟨v2, c2⟩ : ∃ u, wr.cell? ⟨g, j * 10 + 2, none⟩ = some u := by
      have h9 := HR.out.cellAt (j * 10 + 2) (by omega)
      rw [List.getElem?_eq_getElem (by omega)] at h9
      exact ⟨_, h9⟩
    have z2 := HR.out.frozenAt (j * 10 + 2)
    have qs_ := (HR.out.cellAt (j * 10 + 3) (by omega)).trans (HK.out j hjl).1
    obtain ⟨y, hy⟩ : ∃ y, ys[j]'hjl = y := ⟨_, rfl⟩
    have hoy := HO.out j hjl (Nat.le_refl _)
    have hqq := HQE.out _ (List.getElem_mem hjl)
    have HAP := Lib.hid (fun i (h : i < ys.length) (hji : j < i) => List.pairwise_iff_getElem.1 HX.out.apart j i hjl h hji)
    have HK7 := Lib.hid (fun (cs : List Value) (h : SvKeep ys cs) => (h j hjl).2)
    rw [hy] at hoy qs_ hqq HAP HK7
    have HOC : Hid (∀ i (h : i < ys.length), j < i → SvOwn B g (((wr.setCell ⟨g, j * 10, none⟩ (.int .i64 (v))).setCell ⟨g, j * 10 + 1, none⟩ (.int .i64 (v + 1))).setCell ⟨g, j * 10 + 2, none⟩ (.int .i64 (v + 1 + 1))) ys[i]) := Lib.hid (fun i h hji => ((((HO.out i h (Nat.le_of_lt hji)).set_ _ _).set_ _ _).set_ _ _))
    have hoc : SvOwn B g (((wr.setCell ⟨g, j * 10, none⟩ (.int .i64 (v))).setCell ⟨g, j * 10 + 1, none⟩ (.int .i64 (v + 1))).setCell ⟨g, j * 10 + 2, none⟩ (.int .i64 (v + 1 + 1))) y := (((hoy.set_ _ _).set_ _ _).set_ _ _)
    have HRC : Hid ((((wr.setCell ⟨g, j * 10, none⟩ (.int .i64 (v))).setCell ⟨g, j * 10 + 1, none⟩ (.int .i64 (v + 1))).setCell ⟨g, j * 10 + 2, none⟩ (.int .i64 (v + 1 + 1))).ownsRow B 67 10 (.slice (some ⟨g, 0, none⟩) n n) n (((cs.set (j * 10) (.int .i64 (v))).set (j * 10 + 1) (.int .i64 (v + 1))).set (j * 10 + 2) (.int .i64 (v + 1 + 1)))) := Lib.hid ((((HR.out.stored (j * 10) (.int .i64 (v))).1.stored (j * 10 + 1) (.int .i64 (v + 1))).1.stored (j * 10 + 2) (.int .i64 (v + 1 + 1))).1)
    have HKC : Hid (SvKeep ys (((cs.set (j * 10) (.int .i64 (v))).set (j * 10 + 1) (.int .i64 (v + 1))).set (j * 10 + 2) (.int .i64 (v + 1 + 1)))) := Lib.hid (Sv_keep1 (Sv_keep1 (Sv_keep1 HK.out _ (fun i => ⟨by omega, by omega⟩)) _ (fun i => ⟨by omega, by omega⟩)) _ (fun i => ⟨by omega, by omega⟩))
    have HFC : Hid (Off (fun b => B ≤ b ∧ b < E) w (((wr.setCell ⟨g, j * 10, none⟩ (.int .i64 (v))).setCell ⟨g, j * 10 + 1, none⟩ (.int .i64 (v + 1))).setCell ⟨g, j * 10 + 2, none⟩ (.int .i64 (v + 1 + 1)))) := Lib.hid (((HF.out.set_ (p := ⟨g, _, none⟩) HGE.out _).set_ (p := ⟨g, _, none⟩) HGE.out _).set_ (p := ⟨g, _, none⟩) HGE.out _)
    clear hoy hy hjl hcl HO HK HF
    obtain ⟨i_, k_, s1, A, m1, c, zs, x1, y1, s2, A2, m2, c2, us, x2, y2⟩ := y
    obtain ⟨q, p, ⟨e1, e2, e3, e4⟩, ⟨l1, l2, l3, l4⟩, ⟨d1, d2, d3⟩, ho, hp⟩ := hoc
    simp only at e1 e2 e3 e4 l1 l2 l3 l4 ho hp qs_ hqq HAP HK7
    subst e1 e2
    have e3s := e3.symm; have e4s := e4.symm
    subst e3s e4s
    have hqe := hqq q (.inl rfl)
    have hpe := hqq p (.inr rfl)
    have hbq := (ho.lt q rfl).1
    have hbp := (hp.lt p rfl).1
    have HNE := Lib.hid (show q ≠ g ∧ p ≠ g ∧ q ≠ p from ⟨d1, d2, d3⟩)
    have CM := Lib.hid (markIntsW q m1 m1 (v + 1 + 1 + 1) zs _ ho l2 (by omega) (by omega))
    have HPO := Lib.hid hp
    have HAQ : Hid (∀ i (h : i < ys.length), j < i → ∀ q', (ys[i].A = some ⟨q', 0, none⟩ ∨ ys[i].A2 = some ⟨q', 0, none⟩) → ¬ q' = q ∧ ¬ q' = p) := Lib.hid (fun i h hji q' e => by
      have h9 := HAP.out i h hji
      unfold SvAp at h9
      simp only at h9
      rcases e with e | e
      · rw [e] at h9; exact ⟨fun e2 => h9.1.1 (by rw [e2]), fun e2 => h9.2.1 (by rw [e2])⟩
      · rw [e] at h9; exact ⟨fun e2 => h9.1.2 (by rw [e2]), fun e2 => h9.2.2 (by rw [e2])⟩)
    clear ho hp hqq HAP l1 l3 d1 d2 d3
    go_wp2_with fail
    refine CM.out.mono ?_
    rintro e w2 ⟨rfl, hoff⟩
    have HR2 := Lib.hid (hoff.own HRC.out (fun h => HNE.out.1 h.symm))
    have HP2 := Lib.hid (hoff.own HPO.out (fun h => HNE.out.2.2 h.symm))
    have HO2 : Hid (∀ i (h : i < ys.length), j < i → SvOwn B g w2 ys[i]) := Lib.hid (fun i h hji => (HOC.out i h hji).off hoff (fun q' e1 e2 => (HAQ.out i h hji q' e1).1 e2))
    have HF2 : Hid (Off (fun b => B ≤ b ∧ b < E) w w2) := Lib.hid (HFC.out.trans (hoff.wider (fun b e => by have e' : b = q := e; rw [e']; exact ⟨hbq, hqe⟩)))
    clear hoff z0 z1 z2 qs_ HRC HFC HOC HPO
    have hcl2 : (((cs.set (j * 10) (.int .i64 (v))).set (j * 10 + 1) (.int .i64 (v + 1))).set (j * 10 + 2) (.int .i64 (v + 1 + 1))).length = n * 10 := HR2.out.1
    obtain ⟨u4, d4⟩ : ∃ u, w2.cell? ⟨g, j * 10 + 4, none⟩ = some u := by
      have h9 := HR2.out.cellAt (j * 10 + 4) (by omega)
      rw [List.getElem?_eq_getElem (by omega)] at h9
      exact ⟨_, h9⟩
    have y4_ := HR2.out.frozenAt (j * 10 + 4)
    obtain ⟨u5, d5⟩ : ∃ u, w2.cell? ⟨g, j * 10 + 5, none⟩ = some u := by
      have h9 := HR2.out.cellAt (j * 10 + 5) (by omega)
      rw [List.getElem?_eq_getElem (by omega)] at h9
      exact ⟨_, h9⟩
    have y5_ := HR2.out.frozenAt (j * 10 + 5)
    obtain ⟨u6, d6⟩ : ∃ u, w2.cell? ⟨g, j * 10 + 6, none⟩ = some u := by
      have h9 := HR2.out.cellAt (j * 10 + 6) (by omega)
      rw [List.getElem?_eq_getElem (by omega)] at h9
      exact ⟨_, h9⟩
    have y6_ := HR2.out.frozenAt (j * 10 + 6)
    have q7_ := (HR2.out.cellAt (j * 10 + 7) (by omega)).trans (HK7.out _ HKC.out)
    obtain ⟨b0, hb0⟩ : ∃ b0 : Int, v + 1 + 1 + 1 + (m1 : Int) = b0 := ⟨_, rfl⟩
    have hb1 : 0 ≤ b0 := by omega
    have hb2 : b0 ≤ k + 2097170 * (j : Int) + 1048579 := by omega
    rw [hb0]
    clear hb0 hcl2
    have HR3 : Hid ((((w2.setCell ⟨g, j * 10 + 4, none⟩ (.int .i64 (b0))).setCell ⟨g, j * 10 + 5, none⟩ (.int .i64 (b0 + 1))).setCell ⟨g, j * 10 + 6, none⟩ (.int .i64 (b0 + 1 + 1))).ownsRow B 67 10 (.slice (some ⟨g, 0, none⟩) n n) n ((((((cs.set (j * 10) (.int .i64 (v))).set (j * 10 + 1) (.int .i64 (v + 1))).set (j * 10 + 2) (.int .i64 (v + 1 + 1))).set (j * 10 + 4) (.int .i64 (b0))).set (j * 10 + 5) (.int .i64 (b0 + 1))).set (j * 10 + 6) (.int .i64 (b0 + 1 + 1)))) := Lib.hid ((((HR2.out.stored (j * 10 + 4) (.int .i64 (b0))).1.stored (j * 10 + 5) (.int .i64 (b0 + 1))).1.stored (j * 10 + 6) (.int .i64 (b0 + 1 + 1))).1)
    have HK3 : Hid (SvKeep ys ((((((cs.set (j * 10) (.int .i64 (v))).set (j * 10 + 1) (.int .i64 (v + 1))).set (j * 10 + 2) (.int .i64 (v + 1 + 1))).set (j * 10 + 4) (.int .i64 (b0))).set (j * 10 + 5) (.int .i64 (b0 + 1))).set (j * 10 + 6) (.int .i64 (b0 + 1 + 1)))) := Lib.hid (Sv_keep1 (Sv_keep1 (Sv_keep1 HKC.out _ (fun i => ⟨by omega, by omega⟩)) _ (fun i => ⟨by omega, by omega⟩)) _ (fun i => ⟨by omega, by omega⟩))
    have HO3 : Hid (∀ i (h : i < ys.length), j < i → SvOwn B g (((w2.setCell ⟨g, j * 10 + 4, none⟩ (.int .i64 (b0))).setCell ⟨g, j * 10 + 5, none⟩ (.int .i64 (b0 + 1))).setCell ⟨g, j * 10 + 6, none⟩ (.int .i64 (b0 + 1 + 1))) ys[i]) := Lib.hid (fun i h hji => ((((HO2.out i h hji).set_ _ _).set_ _ _).set_ _ _))
    have HF3 : Hid (Off (fun b => B ≤ b ∧ b < E) w (((w2.setCell ⟨g, j * 10 + 4, none⟩ (.int .i64 (b0))).setCell ⟨g, j * 10 + 5, none⟩ (.int .i64 (b0 + 1))).setCell ⟨g, j * 10 + 6, none⟩ (.int .i64 (b0 + 1 + 1)))) := Lib.hid (((HF2.out.set_ (p := ⟨g, _, none⟩) HGE.out _).set_ (p := ⟨g, _, none⟩) HGE.out _).set_ (p := ⟨g, _, none⟩) HGE.out _)
    have HP3 := Lib.hid ((own_set (own_set (own_set HP2.out (p := ⟨g, j * 10 + 4, none⟩) (fun h => HNE.out.2.1 h.symm) (.int .i64 (b0))) (p := ⟨g, j * 10 + 5, none⟩) (fun h => HNE.out.2.1 h.symm) (.int .i64 (b0 + 1))) (p := ⟨g, j * 10 + 6, none⟩) (fun h => HNE.out.2.1 h.symm) (.int .i64 (b0 + 1 + 1))))
    have CN := Lib.hid (markIntsW p m2 m2 (b0 + 1 + 1 + 1) us _ HP3.out l4 (by omega) (by omega))
    clear HR2 HKC HO2 HF2 HP2 HP3
    go_wp2_with fail
    refine CN.out.mono ?_
    rintro e w3 ⟨rfl, hoff⟩
    have HR4 := Lib.hid (hoff.own HR3.out (fun h => HNE.out.2.1 h.symm))
    have HO4 : Hid (∀ i (h : i < ys.length), j < i → SvOwn B g w3 ys[i]) := Lib.hid (fun i h hji => (HO3.out i h hji).off hoff (fun q' e1 e2 => (HAQ.out i h hji q' e1).2 e2))
    have HF4 : Hid (Off (fun b => B ≤ b ∧ b < E) w w3) := Lib.hid (HF3.out.trans (hoff.wider (fun b e => by have e' : b = p := e; rw [e']; exact ⟨hbp, hpe⟩)))
    clear hoff q7_ HR3 HF3 HO3 d4 d5 d6 y4_ y5_ y6_
    have hcl3 : ((((((cs.set (j * 10) (.int .i64 (v))).set (j * 10 + 1) (.int .i64 (v + 1))).set (j * 10 + 2) (.int .i64 (v + 1 + 1))).set (j * 10 + 4) (.int .i64 (b0))).set (j * 10 + 5) (.int .i64 (b0 + 1))).set (j * 10 + 6) (.int .i64 (b0 + 1 + 1))).length = n * 10 := HR4.out.1
    obtain ⟨u8, d8⟩ : ∃ u, w3.cell? ⟨g, j * 10 + 8, none⟩ = some u := by
      have h9 := HR4.out.cellAt (j * 10 + 8) (by omega)
      rw [List.getElem?_eq_getElem (by omega)] at h9
      exact ⟨_, h9⟩
    have y8_ := HR4.out.frozenAt (j * 10 + 8)
    obtain ⟨u9, d9⟩ : ∃ u, w3.cell? ⟨g, j * 10 + 9, none⟩ = some u := by
      have h9 := HR4.out.cellAt (j * 10 + 9) (by omega)
      rw [List.getElem?_eq_getElem (by omega)] at h9
      exact ⟨_, h9⟩
    have y9_ := HR4.out.frozenAt (j * 10 + 9)
    obtain ⟨b4, hb4⟩ : ∃ b4 : Int, b0 + 1 + 1 + 1 + (m2 : Int) = b4 := ⟨_, rfl⟩
    have hb5 : 0 ≤ b4 := by omega
    have hb6 : b4 ≤ k + 2097170 * (j : Int) + 2097160 := by omega
    rw [hb4]
    clear hb4 hcl3
    have HR5 := Lib.hid (((HR4.out.stored (j * 10 + 8) (.int .i64 (b4))).1.stored (j * 10 + 9) (.int .i64 (b4 + 1))).1)
    go_wp2
    go_roundw
    case rel => exact ⟨j + 1, _, _, by omega, by go_num, rfl, by omega, by omega, Lib.hid (Sv_keep1 (Sv_keep1 HK3.out _ (fun i => ⟨by omega, by omega⟩)) _ (fun i => ⟨by omega, by omega⟩)), HR5, Lib.hid (fun i h hji => (((HO4.out i h (by omega)).set_ _ _).set_ _ _)), Lib.hid ((HF4.out.set_ (p := ⟨g, _, none⟩) HGE.out _).set_ (p := ⟨g, _, none⟩) HGE.out _)⟩
    case measure => simp [intOf]; omega
end Go.Proofs.YtlgkjidginibdaaDoor
