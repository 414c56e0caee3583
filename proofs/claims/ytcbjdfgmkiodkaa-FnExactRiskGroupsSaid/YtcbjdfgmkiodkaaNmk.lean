/- The law's helpers that mark rows of structs with a slice of ints each (and a plan): what they touch. No condition but those typed. -/
import Derived.Test.YtcbjdfgmkiodkaaNeLt
import Derived.Test.YtcbjdfgmkiodkaaNeFr
import Derived.Test.YtcbjdfgmkiodkaaNeRo
import Derived.Test.YtcbjdfgmkiodkaaPlS
import Derived.Test.YtcbjdfgmkiodkaaRtS
import Derived.Test.YtcbjdfgmkiodkaaIntW
namespace Go.Proofs.Ytcbjdfgmkiodkaa
open Go.ChangeShapes Go.WideShapes Go.ChangeAt Go.RowKit

/-- a mark's answer: a number; nothing outside of a stretch of blocks has changed. -/
def MarkR (B E : Nat) (top : Int) (w : World) (e : Ending) (w' : World) : Prop := ∃ v : Int, e = .returned (.int .i64 v) ∧ 0 ≤ v ∧ v ≤ top ∧ Off (fun b => B ≤ b ∧ b < E) w w'
set_option maxHeartbeats 1000000 in
theorem markIntsW (g n c : Nat) (k : Int) (zs : List Int) (w : World) {B : Nat} (ho : w.ownsRow B 3 1 (.slice (some ⟨g, 0, none⟩) n c) n (zs.map (Value.int .i64))) (hn : n ≤ 1048576) (h0 : 0 ≤ k) (h1 : k ≤ 10000000000000) :
    Calls Try.prog 43 #[.slice (some ⟨g, 0, none⟩) n c, .int .i64 k] w (MarkK k n g w) := by
  have HO := Lib.hid ho; clear ho
  go_enter Try.func43, Try.ntmps43
  go_wp2
  go_loopw [1, 5] (fun q i wr => ∃ (j : Nat) (ys : List Value), j ≤ n ∧ i = .int .i64 j ∧ q = .int .i64 (k + j) ∧ Off (· = g) w wr ∧ wr.ownsRow B 3 1 (.slice (some ⟨g, 0, none⟩) n c) n ys) (fun _ i _ => n - (intOf i).toNat)
  case atStart => exact ⟨0, _, Nat.zero_le _, rfl, by simp, Off.refl _ _, HO.out⟩
  case round =>
    obtain ⟨j, ys, hj, rfl, rfl, hoff, hown⟩ := hrel
    have HF := Lib.hid hoff; clear hoff
    by_cases hlt : j < n
    · have hyl := hown.1
      have hold := hown.cellAt j (by omega)
      rw [List.getElem?_eq_getElem (by omega)] at hold
      have hfz := hown.frozenAt j
      have HST := Lib.hid (hown.stored j (.int .i64 (k + j))).1
      obtain ⟨old, ho⟩ : ∃ v, ys[j]'(by omega) = v := ⟨_, rfl⟩
      rw [ho] at hold
      clear hown hyl ho
      go_wp2
      go_roundw
      case rel => exact ⟨j + 1, _, by omega, by go_num, by go_num, HF.out.set_ (p := ⟨g, _, none⟩) rfl _, HST.out⟩
      case measure => simp [intOf]; omega
    · have hjn : j = n := by omega
      subst hjn
      clear hlt hown
      go_wp2
      go_ret
      exact ⟨rfl, HF.out⟩
/-- the cells that hold the slices. -/
def LtKeep (ys : List Lt) (cs : List Value) : Prop := ∀ i (h : i < ys.length), cs[i * 5 + 2]? = some (.slice ys[i].A ys[i].n ys[i].c)
theorem Lt_keep0 (ys : List Lt) : LtKeep ys (ys.flatMap Lt.cells) := fun i h => by
  have h9 := flat_get Lt.cells 5 ys (fun _ _ => rfl) i 2 (by decide)
  rw [h9, List.getElem?_eq_getElem h]; rfl
theorem Lt_keep1 {ys : List Lt} {cs : List Value} (h : LtKeep ys cs) {o : Nat} (v : Value) (hne : ∀ i, o ≠ i * 5 + 2) : LtKeep ys (cs.set o v) := fun i hi => by rw [List.getElem?_set_ne (hne i)]; exact h i hi
theorem LtOwn.off {S : Nat → Prop} {B g0 : Nat} {w w' : World} {y : Lt} (h : LtOwn B g0 w y) (hoff : Off S w w') (hS : ∀ q, y.A = some ⟨q, 0, none⟩ → ¬ S q) : LtOwn B g0 w' y := by
  obtain ⟨q, e, e2, h1, h2, h3, ho⟩ := h
  exact ⟨q, e, e2, h1, h2, h3, hoff.own ho (hS q e)⟩
theorem Lts.off {S : Nat → Prop} {B g n : Nat} {ys : List Lt} {w w' : World} (h : Lts B g n ys w) (hoff : Off S w w') (hg : ¬ S g) (hq : ∀ y ∈ ys, ∀ q, y.A = some ⟨q, 0, none⟩ → ¬ S q) : Lts B g n ys w' :=
  ⟨h.len, hoff.own h.row hg, fun y hy => (h.own y hy).off hoff (hq y hy), h.apart⟩
/-- where the blocks lie. -/
theorem Lts.lies {B g n : Nat} {ys : List Lt} {w : World} (h : Lts B g n ys w) : (B ≤ g ∧ g < w.heap.size) ∧ ∀ y ∈ ys, ∀ q, y.A = some ⟨q, 0, none⟩ → B ≤ q ∧ q < w.heap.size := by
  refine ⟨h.row.lt g rfl, fun y hy q e => ?_⟩
  obtain ⟨q', e', _, _, _, _, ho⟩ := h.own y hy
  rw [e'] at e
  injection e with e; injection e with e
  subst e
  exact ho.lt q' rfl
set_option maxRecDepth 100000 in
set_option maxHeartbeats 4000000 in
theorem markLts {B g n E : Nat} {ys : List Lt} (k : Int) (w : World) (h : Lts B g n ys w) (hgE : g < E) (hqE : ∀ y ∈ ys, ∀ q, y.A = some ⟨q, 0, none⟩ → q < E) (hs : n ≤ 1048576) (h0 : 0 ≤ k) (h1 : k ≤ 90000000) :
    Calls Try.prog 157 #[.slice (some ⟨g, 0, none⟩) n n, .int .i64 k] w (MarkR B E 2000000000000 w) := by
  have HX := Lib.hid h; have HQE := Lib.hid hqE
  have hbg := (h.row.lt g rfl).1
  have HGE := Lib.hid (show B ≤ g ∧ g < E from ⟨hbg, hgE⟩)
  clear h hqE hbg hgE
  go_enter Try.func157, Try.ntmps157
  go_wp2
  go_loopw [1, 5] (fun z i wr => ∃ (j : Nat) (v : Int) (cs : List Value), j ≤ n ∧ i = .int .i64 j ∧ z = .int .i64 v ∧ 0 ≤ v ∧ v ≤ k + 1048590 * (j : Int) ∧ Hid (LtKeep ys cs) ∧ Hid (wr.ownsRow B 106 5 (.slice (some ⟨g, 0, none⟩) n n) n cs) ∧ Hid (∀ i (h : i < ys.length), j ≤ i → LtOwn B g wr ys[i]) ∧ Hid (Off (fun b => B ≤ b ∧ b < E) w wr)) (fun _ i _ => n - (intOf i).toNat)
  case atStart => exact ⟨0, k, _, Nat.zero_le _, rfl, rfl, h0, by omega, Lib.hid (Lt_keep0 ys), Lib.hid HX.out.row, Lib.hid (fun i h _ => HX.out.own _ (List.getElem_mem h)), Lib.hid (Off.refl _ _)⟩
  case round =>
    obtain ⟨j, v, cs, hj, rfl, rfl, hv0, hv1, HK, HR, HO, HF⟩ := hrel
    by_cases hlt : j < n
    case neg =>
      go_wp2
      go_ret
      exact ⟨v, rfl, hv0, by omega, HF.out⟩
    case pos =>
    have hjl : j < ys.length := by have := HX.out.len; omega
    have hcl : cs.length = n * 5 := HR.out.1
    obtain ⟨v0, c0⟩ : ∃ u, wr.cell? ⟨g, j * 5, none⟩ = some u := by
      have h9 := HR.out.cellAt (j * 5) (by omega)
      rw [List.getElem?_eq_getElem (by omega)] at h9
      exact ⟨_, h9⟩
    have z0 := HR.out.frozenAt (j * 5)
    obtain ⟨v1, c1⟩ : ∃ u, wr.cell? ⟨g, j * 5 + 1, none⟩ = some u := by
      have h9 := HR.out.cellAt (j * 5 + 1) (by omega)
      rw [List.getElem?_eq_getElem (by omega)] at h9
      exact ⟨_, h9⟩
    have z1 := HR.out.frozenAt (j * 5 + 1)
    have qs_ := (HR.out.cellAt (j * 5 + 2) (by omega)).trans (HK.out j hjl)
    obtain ⟨y, hy⟩ : ∃ y, ys[j]'hjl = y := ⟨_, rfl⟩
    have hoy := HO.out j hjl (Nat.le_refl _)
    have hqq := HQE.out _ (List.getElem_mem hjl)
    have HAP := Lib.hid (fun i (h : i < ys.length) (hji : j < i) => List.pairwise_iff_getElem.1 HX.out.apart j i hjl h hji)
    rw [hy] at hoy qs_ hqq HAP
    have HOC : Hid (∀ i (h : i < ys.length), j < i → LtOwn B g ((wr.setCell ⟨g, j * 5, none⟩ (.int .i64 (v))).setCell ⟨g, j * 5 + 1, none⟩ (.int .i64 (v + 1))) ys[i]) := Lib.hid (fun i h hji => (((HO.out i h (Nat.le_of_lt hji)).set_ _ _).set_ _ _))
    have hoc : LtOwn B g ((wr.setCell ⟨g, j * 5, none⟩ (.int .i64 (v))).setCell ⟨g, j * 5 + 1, none⟩ (.int .i64 (v + 1))) y := ((hoy.set_ _ _).set_ _ _)
    have HRC : Hid (((wr.setCell ⟨g, j * 5, none⟩ (.int .i64 (v))).setCell ⟨g, j * 5 + 1, none⟩ (.int .i64 (v + 1))).ownsRow B 106 5 (.slice (some ⟨g, 0, none⟩) n n) n ((cs.set (j * 5) (.int .i64 (v))).set (j * 5 + 1) (.int .i64 (v + 1)))) := Lib.hid (((HR.out.stored (j * 5) (.int .i64 (v))).1.stored (j * 5 + 1) (.int .i64 (v + 1))).1)
    have HKC : Hid (LtKeep ys ((cs.set (j * 5) (.int .i64 (v))).set (j * 5 + 1) (.int .i64 (v + 1)))) := Lib.hid ((Lt_keep1 (Lt_keep1 HK.out _ (fun i => by omega)) _ (fun i => by omega)))
    have HFC : Hid (Off (fun b => B ≤ b ∧ b < E) w ((wr.setCell ⟨g, j * 5, none⟩ (.int .i64 (v))).setCell ⟨g, j * 5 + 1, none⟩ (.int .i64 (v + 1)))) := Lib.hid (((HF.out.set_ (p := ⟨g, _, none⟩) HGE.out _).set_ (p := ⟨g, _, none⟩) HGE.out _))
    clear hoy hy hjl hcl HO HK HF
    obtain ⟨p0, p1, A, m, c, zs, q0, q1⟩ := y
    obtain ⟨q, e1, e2, e3, e4, e5, ho⟩ := hoc
    simp only at e1 e2 e3 e4 ho qs_ hqq HAP
    subst e1
    have e2s := e2.symm
    subst e2s
    have hqe := hqq q rfl
    have hbq := (ho.lt q rfl).1
    have HNE := Lib.hid e5
    have CM := Lib.hid (markIntsW q m m (v + 1 + 1) zs _ ho e4 (by omega) (by omega))
    have HAQ : Hid (∀ i (h : i < ys.length), j < i → ∀ q', ys[i].A = some ⟨q', 0, none⟩ → ¬ q' = q) := Lib.hid (fun i h hji q' e1 e2 => HAP.out i h hji (by rw [e1, e2]))
    clear ho hqq HAP e3 e5
    go_wp2_with fail
    refine CM.out.mono ?_
    rintro e w2 ⟨rfl, hoff⟩
    have HR2 := Lib.hid (hoff.own HRC.out (fun h => HNE.out h.symm))
    have HO2 : Hid (∀ i (h : i < ys.length), j < i → LtOwn B g w2 ys[i]) := Lib.hid (fun i h hji => (HOC.out i h hji).off hoff (fun q' e1 e2 => HAQ.out i h hji q' e1 e2))
    have HF2 : Hid (Off (fun b => B ≤ b ∧ b < E) w w2) := Lib.hid (HFC.out.trans (hoff.wider (fun b e => by have e' : b = q := e; rw [e']; exact ⟨hbq, hqe⟩)))
    clear hoff c0 z0 c1 z1 qs_
    have hcl2 : ((cs.set (j * 5) (.int .i64 (v))).set (j * 5 + 1) (.int .i64 (v + 1))).length = n * 5 := HR2.out.1
    obtain ⟨u0, d0⟩ : ∃ u, w2.cell? ⟨g, j * 5 + 3, none⟩ = some u := by
      have h9 := HR2.out.cellAt (j * 5 + 3) (by omega)
      rw [List.getElem?_eq_getElem (by omega)] at h9
      exact ⟨_, h9⟩
    have y0 := HR2.out.frozenAt (j * 5 + 3)
    obtain ⟨u1, d1⟩ : ∃ u, w2.cell? ⟨g, j * 5 + 4, none⟩ = some u := by
      have h9 := HR2.out.cellAt (j * 5 + 4) (by omega)
      rw [List.getElem?_eq_getElem (by omega)] at h9
      exact ⟨_, h9⟩
    have y1 := HR2.out.frozenAt (j * 5 + 4)
    have HB2 : ∃ b0 : Int, v + 1 + 1 + (m : Int) = b0 := ⟨_, rfl⟩
    obtain ⟨b0, hb0⟩ := HB2
    have hb1 : 0 ≤ b0 := by omega
    have hb2 : b0 ≤ k + 1048590 * (j : Int) + 1048580 := by omega
    rw [hb0]
    clear hb0 hcl2
    have HR3 := Lib.hid (((HR2.out.stored (j * 5 + 3) (.int .i64 (b0))).1.stored (j * 5 + 4) (.int .i64 (b0 + 1))).1)
    go_wp2
    go_roundw
    case rel => exact ⟨j + 1, _, _, by omega, by go_num, rfl, by omega, by omega, Lib.hid (Lt_keep1 (Lt_keep1 HKC.out _ (fun i => by omega)) _ (fun i => by omega)), HR3, Lib.hid (fun i h hji => (((HO2.out i h (by omega)).set_ _ _).set_ _ _)), Lib.hid ((HF2.out.set_ (p := ⟨g, _, none⟩) HGE.out _).set_ (p := ⟨g, _, none⟩) HGE.out _)⟩
    case measure => simp [intOf]; omega
/-- the cells that hold the slices. -/
def FrKeep (ys : List Fr) (cs : List Value) : Prop := ∀ i (h : i < ys.length), cs[i * 3 + 2]? = some (.slice ys[i].A ys[i].n ys[i].c)
theorem Fr_keep0 (ys : List Fr) : FrKeep ys (ys.flatMap Fr.cells) := fun i h => by
  have h9 := flat_get Fr.cells 3 ys (fun _ _ => rfl) i 2 (by decide)
  rw [h9, List.getElem?_eq_getElem h]; rfl
theorem Fr_keep1 {ys : List Fr} {cs : List Value} (h : FrKeep ys cs) {o : Nat} (v : Value) (hne : ∀ i, o ≠ i * 3 + 2) : FrKeep ys (cs.set o v) := fun i hi => by rw [List.getElem?_set_ne (hne i)]; exact h i hi
theorem FrOwn.off {S : Nat → Prop} {B g0 : Nat} {w w' : World} {y : Fr} (h : FrOwn B g0 w y) (hoff : Off S w w') (hS : ∀ q, y.A = some ⟨q, 0, none⟩ → ¬ S q) : FrOwn B g0 w' y := by
  obtain ⟨q, e, e2, h1, h2, h3, ho⟩ := h
  exact ⟨q, e, e2, h1, h2, h3, hoff.own ho (hS q e)⟩
/-- the cells that hold the slices. -/
def RoKeep (ys : List Ro) (cs : List Value) : Prop := ∀ i (h : i < ys.length), cs[i * 2 + 1]? = some (.slice ys[i].A ys[i].n ys[i].c)
theorem Ro_keep0 (ys : List Ro) : RoKeep ys (ys.flatMap Ro.cells) := fun i h => by
  have h9 := flat_get Ro.cells 2 ys (fun _ _ => rfl) i 1 (by decide)
  rw [h9, List.getElem?_eq_getElem h]; rfl
theorem Ro_keep1 {ys : List Ro} {cs : List Value} (h : RoKeep ys cs) {o : Nat} (v : Value) (hne : ∀ i, o ≠ i * 2 + 1) : RoKeep ys (cs.set o v) := fun i hi => by rw [List.getElem?_set_ne (hne i)]; exact h i hi
theorem RoOwn.off {S : Nat → Prop} {B g0 : Nat} {w w' : World} {y : Ro} (h : RoOwn B g0 w y) (hoff : Off S w w') (hS : ∀ q, y.A = some ⟨q, 0, none⟩ → ¬ S q) : RoOwn B g0 w' y := by
  obtain ⟨q, e, e2, h1, h2, h3, ho⟩ := h
  exact ⟨q, e, e2, h1, h2, h3, hoff.own ho (hS q e)⟩
theorem Ros.off {S : Nat → Prop} {B g n : Nat} {ys : List Ro} {w w' : World} (h : Ros B g n ys w) (hoff : Off S w w') (hg : ¬ S g) (hq : ∀ y ∈ ys, ∀ q, y.A = some ⟨q, 0, none⟩ → ¬ S q) : Ros B g n ys w' :=
  ⟨h.len, hoff.own h.row hg, fun y hy => (h.own y hy).off hoff (hq y hy), h.apart⟩
/-- where the blocks lie. -/
theorem Ros.lies {B g n : Nat} {ys : List Ro} {w : World} (h : Ros B g n ys w) : (B ≤ g ∧ g < w.heap.size) ∧ ∀ y ∈ ys, ∀ q, y.A = some ⟨q, 0, none⟩ → B ≤ q ∧ q < w.heap.size := by
  refine ⟨h.row.lt g rfl, fun y hy q e => ?_⟩
  obtain ⟨q', e', _, _, _, _, ho⟩ := h.own y hy
  rw [e'] at e
  injection e with e; injection e with e
  subst e
  exact ho.lt q' rfl
set_option maxRecDepth 100000 in
set_option maxHeartbeats 2000000 in
theorem markPl {B g1 g2 g3 n1 n2 n3 c1 c2 E : Nat} {xs zs : List Value} {ys : List Lt} (w : World) (ho1 : w.ownsRow B 9 1 (.slice (some ⟨g1, 0, none⟩) n1 c1) n1 xs) (hs1 : n1 ≤ 1048576)
    (ho2 : w.ownsRow B 172 4 (.slice (some ⟨g2, 0, none⟩) n2 c2) n2 zs) (hs2 : n2 ≤ 1048576) (h : Lts B g3 n3 ys w) (hs3 : n3 ≤ 1048576) (h1E : g1 < E) (h2E : g2 < E) (h3E : g3 < E) (hqE : ∀ y ∈ ys, ∀ q, y.A = some ⟨q, 0, none⟩ → q < E) :
    Calls Try.prog 66 #[.agg #[.slice (some ⟨g1, 0, none⟩) n1 c1, .slice (some ⟨g2, 0, none⟩) n2 c2, .slice (some ⟨g3, 0, none⟩) n3 n3], .int .i64 1] w (MarkR B E 2000000000000 w) := by
  have hb0 := (Below.refl w.heap.size w).alloc (Nat.le_refl _) (Obj.cells #[.slice (some ⟨g1, 0, none⟩) n1 c1, .slice (some ⟨g2, 0, none⟩) n2 c2, .slice (some ⟨g3, 0, none⟩) n3 n3] 76)
  have HB0 := Lib.hid hb0
  have HO1 := Lib.hid (ownB ho1 hb0); have HO2 := Lib.hid (ownB ho2 hb0); have HX := Lib.hid (h.moved hb0)
  have hl1 := ho1.lt g1 rfl
  have hl2 := ho2.lt g2 rfl
  have HL := Lib.hid (show (B ≤ g1 ∧ g1 < E) ∧ (B ≤ g2 ∧ g2 < E) from ⟨⟨hl1.1, h1E⟩, ⟨hl2.1, h2E⟩⟩)
  have HNE := Lib.hid (rows_apart ho1 ho2 (by decide))
  have HN1 := Lib.hid (rows_apart ho1 h.row (by decide))
  have HN2 := Lib.hid (rows_apart ho2 h.row (by decide))
  have HNQ : Hid (∀ y ∈ ys, ∀ q, y.A = some ⟨q, 0, none⟩ → ¬ (q = g1 ∨ q = g2)) := Lib.hid (fun y hy q e hc => by
    obtain ⟨q', e', _, _, _, _, ho⟩ := h.own y hy
    rw [e'] at e
    injection e with e; injection e with e
    subst e
    rcases hc with hc | hc
    · exact rows_apart ho1 ho (by decide) hc.symm
    · exact rows_apart ho2 ho (by decide) hc.symm)
  have HQE := Lib.hid hqE
  clear hb0 ho1 ho2 h hqE h1E h2E
  go_enter Try.func66, Try.ntmps66
  go_wp2_with fail
  obtain ⟨W, hW⟩ : ∃ W, (w.alloc (Obj.cells #[.slice (some ⟨g1, 0, none⟩) n1 c1, .slice (some ⟨g2, 0, none⟩) n2 c2, .slice (some ⟨g3, 0, none⟩) n3 n3] 76)) = W := ⟨_, rfl⟩
  have hk1 : W.cell? ⟨w.heap.size, 2, none⟩ = some (.slice (some ⟨g3, 0, none⟩) n3 n3) := by rw [← hW]; simp [go_sem]
  have hz : w.heap.size < W.heap.size := by rw [← hW]; simp
  rw [hW] at HB0 HO1 HO2 HX ⊢
  clear hW
  refine (markNetB g1 g2 n1 n2 c1 c2 _ _ W (own_base HO1.out (Nat.zero_le _)) hs1 (own_base HO2.out (Nat.zero_le _)) hs2 HNE.out).mono ?_
  rintro e w2 ⟨v, rfl, hv0, hv1, hof⟩
  have k1 := (hof.cell (p := ⟨w.heap.size, 2, none⟩) hz (by show ¬ (w.heap.size = g1 ∨ w.heap.size = g2); omega)).trans hk1
  have HX2 := Lib.hid (HX.out.off hof (fun h => by rcases h with h | h; exact HN1.out h.symm; exact HN2.out h.symm) HNQ.out)
  have HF1 : Hid (Off (fun b => B ≤ b ∧ b < E) w w2) := Lib.hid ((Off.ofBelow HB0.out).trans (hof.wider (fun b h => by rcases h with h | h <;> rw [h]; exact HL.out.1; exact HL.out.2)))
  have CM := Lib.hid (markLts v w2 HX2.out h3E HQE.out hs3 hv0 (by omega))
  clear hof hk1 hz hl1 hl2
  go_wp2_with fail
  refine CM.out.mono ?_
  rintro e w3 ⟨u, rfl, hu0, hu1, hof2⟩
  have HF2 := Lib.hid hof2; clear hof2
  go_wp2
  go_ret
  exact ⟨u, rfl, hu0, hu1, HF1.out.trans HF2.out⟩
end Go.Proofs.Ytcbjdfgmkiodkaa
