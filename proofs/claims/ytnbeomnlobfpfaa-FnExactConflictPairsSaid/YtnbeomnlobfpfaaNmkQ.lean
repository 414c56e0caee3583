/- The law's helpers that mark rows of structs with a slice of ints each (and a plan): what they touch. No condition but those typed. -/
import Derived.Test.YtnbeomnlobfpfaaGC
import Derived.Test.YtnbeomnlobfpfaaGB
namespace Go.Proofs.Ytnbeomnlobfpfaa
open Go.ChangeShapes Go.WideShapes Go.ChangeAt Go.RowKit

/-- the cells that hold the slices. -/
def RqKeep (ys : List Rq) (cs : List Value) : Prop := ∀ i (h : i < ys.length), cs[i * 3 + 1]? = some (.slice ys[i].A ys[i].n ys[i].c)
theorem Rq_keep0 (ys : List Rq) : RqKeep ys (ys.flatMap Rq.cells) := fun i h => by
  have h9 := flat_get Rq.cells 3 ys (fun _ _ => rfl) i 1 (by decide)
  rw [h9, List.getElem?_eq_getElem h]; rfl
theorem Rq_keep1 {ys : List Rq} {cs : List Value} (h : RqKeep ys cs) {o : Nat} (v : Value) (hne : ∀ i, o ≠ i * 3 + 1) : RqKeep ys (cs.set o v) := fun i hi => by rw [List.getElem?_set_ne (hne i)]; exact h i hi
theorem RqOwn.off {S : Nat → Prop} {B g0 : Nat} {w w' : World} {y : Rq} (h : RqOwn B g0 w y) (hoff : Off S w w') (hS : ∀ q, y.A = some ⟨q, 0, none⟩ → ¬ S q) : RqOwn B g0 w' y := by
  obtain ⟨q, e, e2, h1, h2, h3, ho⟩ := h
  exact ⟨q, e, e2, h1, h2, h3, hoff.own ho (hS q e)⟩
theorem Rqs.off {S : Nat → Prop} {B g n : Nat} {ys : List Rq} {w w' : World} (h : Rqs B g n ys w) (hoff : Off S w w') (hg : ¬ S g) (hq : ∀ y ∈ ys, ∀ q, y.A = some ⟨q, 0, none⟩ → ¬ S q) : Rqs B g n ys w' :=
  ⟨h.len, hoff.own h.row hg, fun y hy => (h.own y hy).off hoff (hq y hy), h.apart⟩
/-- where the blocks lie. -/
theorem Rqs.lies {B g n : Nat} {ys : List Rq} {w : World} (h : Rqs B g n ys w) : (B ≤ g ∧ g < w.heap.size) ∧ ∀ y ∈ ys, ∀ q, y.A = some ⟨q, 0, none⟩ → B ≤ q ∧ q < w.heap.size := by
  refine ⟨h.row.lt g rfl, fun y hy q e => ?_⟩
  obtain ⟨q', e', _, _, _, _, ho⟩ := h.own y hy
  rw [e'] at e
  injection e with e; injection e with e
  subst e
  exact ho.lt q' rfl
set_option maxRecDepth 100000 in
set_option maxHeartbeats 4000000 in
theorem markRqs {B g n E : Nat} {ys : List Rq} (k : Int) (w : World) (h : Rqs B g n ys w) (hgE : g < E) (hqE : ∀ y ∈ ys, ∀ q, y.A = some ⟨q, 0, none⟩ → q < E) (hs : n ≤ 1048576) (h0 : 0 ≤ k) (h1 : k ≤ 90000000) :
    Calls Try.prog 28 #[.slice (some ⟨g, 0, none⟩) n n, .int .i64 k] w (MarkR B E 2000000000000 w) := by
  have HX := Lib.hid h; have HQE := Lib.hid hqE
  have hbg := (h.row.lt g rfl).1
  have HGE := Lib.hid (show B ≤ g ∧ g < E from ⟨hbg, hgE⟩)
  clear h hqE hbg hgE
  go_enter Try.func28, Try.ntmps28
  go_wp2
  go_loopw [1, 5] (fun z i wr => ∃ (j : Nat) (v : Int) (cs : List Value), j ≤ n ∧ i = .int .i64 j ∧ z = .int .i64 v ∧ 0 ≤ v ∧ v ≤ k + 1048590 * (j : Int) ∧ Hid (RqKeep ys cs) ∧ Hid (wr.ownsRow B 132 3 (.slice (some ⟨g, 0, none⟩) n n) n cs) ∧ Hid (∀ i (h : i < ys.length), j ≤ i → RqOwn B g wr ys[i]) ∧ Hid (Off (fun b => B ≤ b ∧ b < E) w wr)) (fun _ i _ => n - (intOf i).toNat)
  case atStart => exact ⟨0, k, _, Nat.zero_le _, rfl, rfl, h0, by omega, Lib.hid (Rq_keep0 ys), Lib.hid HX.out.row, Lib.hid (fun i h _ => HX.out.own _ (List.getElem_mem h)), Lib.hid (Off.refl _ _)⟩
  case round =>
    obtain ⟨j, v, cs, hj, rfl, rfl, hv0, hv1, HK, HR, HO, HF⟩ := hrel
    by_cases hlt : j < n
    case neg =>
      go_wp2
      go_ret
      exact ⟨v, rfl, hv0, by omega, HF.out⟩
    case pos =>
    have hjl : j < ys.length := by have := HX.out.len; omega
    have hcl : cs.length = n * 3 := HR.out.1
    obtain ⟨v0, c0⟩ : ∃ u, wr.cell? ⟨g, j * 3, none⟩ = some u := by
      have h9 := HR.out.cellAt (j * 3) (by omega)
      rw [List.getElem?_eq_getElem (by omega)] at h9
      exact ⟨_, h9⟩
    have z0 := HR.out.frozenAt (j * 3)
    have qs_ := (HR.out.cellAt (j * 3 + 1) (by omega)).trans (HK.out j hjl)
    obtain ⟨y, hy⟩ : ∃ y, ys[j]'hjl = y := ⟨_, rfl⟩
    have hoy := HO.out j hjl (Nat.le_refl _)
    have hqq := HQE.out _ (List.getElem_mem hjl)
    have HAP := Lib.hid (fun i (h : i < ys.length) (hji : j < i) => List.pairwise_iff_getElem.1 HX.out.apart j i hjl h hji)
    rw [hy] at hoy qs_ hqq HAP
    have HOC : Hid (∀ i (h : i < ys.length), j < i → RqOwn B g (wr.setCell ⟨g, j * 3, none⟩ (.int .i64 (v))) ys[i]) := Lib.hid (fun i h hji => ((HO.out i h (Nat.le_of_lt hji)).set_ _ _))
    have hoc : RqOwn B g (wr.setCell ⟨g, j * 3, none⟩ (.int .i64 (v))) y := (hoy.set_ _ _)
    have HRC : Hid ((wr.setCell ⟨g, j * 3, none⟩ (.int .i64 (v))).ownsRow B 132 3 (.slice (some ⟨g, 0, none⟩) n n) n (cs.set (j * 3) (.int .i64 (v)))) := Lib.hid ((HR.out.stored (j * 3) (.int .i64 (v))).1)
    have HKC : Hid (RqKeep ys (cs.set (j * 3) (.int .i64 (v)))) := Lib.hid ((Rq_keep1 HK.out _ (fun i => by omega)))
    have HFC : Hid (Off (fun b => B ≤ b ∧ b < E) w (wr.setCell ⟨g, j * 3, none⟩ (.int .i64 (v)))) := Lib.hid ((HF.out.set_ (p := ⟨g, _, none⟩) HGE.out _))
    clear hoy hy hjl hcl HO HK HF
    obtain ⟨p0, A, m, c, zs, q0⟩ := y
    obtain ⟨q, e1, e2, e3, e4, e5, ho⟩ := hoc
    simp only at e1 e2 e3 e4 ho qs_ hqq HAP
    subst e1
    have e2s := e2.symm
    subst e2s
    have hqe := hqq q rfl
    have hbq := (ho.lt q rfl).1
    have HNE := Lib.hid e5
    have CM := Lib.hid (markIntsW q m m (v + 1) zs _ ho e4 (by omega) (by omega))
    have HAQ : Hid (∀ i (h : i < ys.length), j < i → ∀ q', ys[i].A = some ⟨q', 0, none⟩ → ¬ q' = q) := Lib.hid (fun i h hji q' e1 e2 => HAP.out i h hji (by rw [e1, e2]))
    clear ho hqq HAP e3 e5
    go_wp2_with fail
    refine CM.out.mono ?_
    rintro e w2 ⟨rfl, hoff⟩
    have HR2 := Lib.hid (hoff.own HRC.out (fun h => HNE.out h.symm))
    have HO2 : Hid (∀ i (h : i < ys.length), j < i → RqOwn B g w2 ys[i]) := Lib.hid (fun i h hji => (HOC.out i h hji).off hoff (fun q' e1 e2 => HAQ.out i h hji q' e1 e2))
    have HF2 : Hid (Off (fun b => B ≤ b ∧ b < E) w w2) := Lib.hid (HFC.out.trans (hoff.wider (fun b e => by have e' : b = q := e; rw [e']; exact ⟨hbq, hqe⟩)))
    clear hoff c0 z0 qs_
    have hcl2 : (cs.set (j * 3) (.int .i64 (v))).length = n * 3 := HR2.out.1
    obtain ⟨u0, d0⟩ : ∃ u, w2.cell? ⟨g, j * 3 + 2, none⟩ = some u := by
      have h9 := HR2.out.cellAt (j * 3 + 2) (by omega)
      rw [List.getElem?_eq_getElem (by omega)] at h9
      exact ⟨_, h9⟩
    have y0 := HR2.out.frozenAt (j * 3 + 2)
    have HB2 : ∃ b0 : Int, v + 1 + (m : Int) = b0 := ⟨_, rfl⟩
    obtain ⟨b0, hb0⟩ := HB2
    have hb1 : 0 ≤ b0 := by omega
    have hb2 : b0 ≤ k + 1048590 * (j : Int) + 1048580 := by omega
    rw [hb0]
    clear hb0 hcl2
    have HR3 := Lib.hid ((HR2.out.stored (j * 3 + 2) (.int .i64 (b0))).1)
    go_wp2
    go_roundw
    case rel => exact ⟨j + 1, _, _, by omega, by go_num, rfl, by omega, by omega, Lib.hid (Rq_keep1 HKC.out _ (fun i => by omega)), HR3, Lib.hid (fun i h hji => ((HO2.out i h (by omega)).set_ _ _)), Lib.hid (HF2.out.set_ (p := ⟨g, _, none⟩) HGE.out _)⟩
    case measure => simp [intOf]; omega
end Go.Proofs.Ytnbeomnlobfpfaa
