/- Two routes walked: contracts of impl.walksAlong at two routes, of RiskDisjoint and CommonRisks. No condition but those typed. -/
import Derived.Test.YtcbjdfgmkiodkaaBoth
import Derived.Test.YtcbjdfgmkiodkaaRsk
import Derived.Test.YtcbjdfgmkiodkaaGB
namespace Go.Proofs.Ytcbjdfgmkiodkaa
open Go.ChangeShapes Go.WideShapes Go.ChangeAt Go.RowKit

theorem rd_newC {W : World} {n : Nat} (hn : W.heap.size = n) (xs : List Value) (T : TypeId) : Rd (W.alloc (.cells xs.toArray T)) (W.alloc (.cells xs.toArray T)).heap.size (some ⟨n, 0, none⟩) xs := by
  subst hn
  intro k u hu
  refine ⟨_, rfl, by simp, ?_⟩
  have e : (⟨W.heap.size, 0, none⟩ : Addr).add k = ⟨W.heap.size, k, none⟩ := by unfold Addr.add; by_cases h : k = 0 <;> simp [h]
  rw [e]
  have := cell_of_row (W.alloc (.cells xs.toArray T)) W.heap.size k xs.toArray T (0, 0) (heap_alloc_new W _)
  rw [this]; simpa using hu
theorem rd_four {W : World} {n : Nat} (hn : W.heap.size = n) (a b c d : Value) (T : TypeId) : Rd (W.alloc (.cells #[a, b, c, d] T)) (W.alloc (.cells #[a, b, c, d] T)).heap.size (some ⟨n, 0, none⟩) [a, b, c, d] := rd_newC hn [a, b, c, d] T
def TwoP (n1 : Nat) (ss : List ByteArray) (fs : List Q4) (st : Int) (xs : List Int) (st2 : Int) (ys : List Int) (w : World) (e : Ending) (w' : World) : Prop :=
  Below w.heap.size w w' ∧ ((crB ss fs st xs st2 ys = false ∧ e = .returned (.tuple #[.slice none 0 0, .bool false])) ∨
    ∃ (gw ga gb : Nat) (va vb : List Int), crB ss fs st xs st2 ys = true ∧ routeN n1 fs st xs = some va ∧ routeN n1 fs st2 ys = some vb ∧ e = .returned (.tuple #[.slice (some ⟨gw, 0, none⟩) 2 2, .bool true]) ∧ w.heap.size ≤ gw ∧ gw < w'.heap.size ∧
      w'.cell? ⟨gw, 0, none⟩ = some (.pointer (some ⟨ga, 0, none⟩)) ∧ w'.cell? ⟨gw, 1, none⟩ = some (.pointer (some ⟨gb, 0, none⟩)) ∧ Lk fs w' ga xs.reverse va ∧ Lk fs w' gb ys.reverse vb)
/-- the literal of two routes. -/
theorem walks_two {g1 g2 n1 n2 c1 c2 : Nat} {ss : List ByteArray} {fs : List Q4} {w : World} (h : NetAt g1 g2 n1 n2 c1 c2 ss fs w) {gr cr : Nat} (st : Int) {A : Option Addr} {n c : Nat} {xs : List Int} (hn : xs.length = n) (hr : Rd w w.heap.size A (xs.map (Value.int .i64))) (hx : n ≤ 1048576) (st2 : Int) {A2 : Option Addr} {m c3 : Nat} {ys : List Int} (hm : ys.length = m) (hr2 : Rd w w.heap.size A2 (ys.map (Value.int .i64))) (hx2 : m ≤ 1048576) (hl : Rd w w.heap.size (some ⟨gr, 0, none⟩) [.int .i64 st, .slice A n c, .int .i64 st2, .slice A2 m c3]) :
    Calls Try.prog 129 #[.agg #[.slice (some ⟨g1, 0, none⟩) n1 c1, .slice (some ⟨g2, 0, none⟩) n2 c2], .slice (some ⟨gr, 0, none⟩) 2 cr] w (TwoP n1 ss fs st xs st2 ys w) := by
  by_cases hv : netP ss fs
  case neg =>
    refine (walks_no h hv _).mono ?_
    rintro e w' ⟨rfl, hb⟩
    exact ⟨hb, .inl ⟨by unfold crB; rw [routeB_net hv]; rfl, rfl⟩⟩
  case pos =>
  refine (walks_ (rs := [(⟨st, A, n, c, xs⟩ : Rt), ⟨st2, A2, m, c3, ys⟩]) (nr := 2) h hv rfl (by omega) hl (fun r hr9 => by
    rcases List.mem_cons.1 hr9 with h9 | h9
    · rw [h9]; exact ⟨hn, hx, hr⟩
    · rw [List.mem_singleton.1 h9]; exact ⟨hm, hx2, hr2⟩)).mono ?_
  rintro e w1 ⟨hb, h2⟩
  have hl1 := h.ln1
  refine ⟨hb, ?_⟩
  rcases h2 with ⟨⟨i, hi, hno⟩, rfl⟩ | ⟨gw, gs, rfl, hgl, hown, hall⟩
  · refine .inl ⟨?_, rfl⟩
    unfold crB
    have hi2 : i < 2 := hi
    have h01 : i = 0 ∨ i = 1 := by omega
    rcases h01 with h9 | h9
    · subst h9
      rw [routeB_no hv (by rw [hl1]; exact hno)]; rfl
    · subst h9
      rw [routeB_no (st := st2) hv (by rw [hl1]; exact hno), Bool.and_false]
  · have hgl2 : gs.length = 2 := hgl
    obtain ⟨va, hva, hla⟩ := hall 0 (by simp) (by omega)
    obtain ⟨vb, hvb, hlb⟩ := hall 1 (by simp) (by omega)
    have hgw := hown.lt gw rfl
    have c0 := hown.cellAt 0 (by simp)
    have c1' := hown.cellAt 1 (by simp)
    rw [List.getElem?_map, List.getElem?_eq_getElem (by omega)] at c0 c1'
    simp only [Option.map_some, ptrV] at c0 c1'
    have hva' : routeN n1 fs st xs = some va := hva
    have hvb' : routeN n1 fs st2 ys = some vb := hvb
    refine .inr ⟨gw, gs[0], gs[1], va, vb, ?_, hva', hvb', rfl, hgw.1, hgw.2, c0, c1', hla, hlb⟩
    unfold crB
    rw [routeB_some hv (vs := va) (by rw [hl1]; exact hva'), routeB_some hv (vs := vb) (by rw [hl1]; exact hvb')]; rfl
theorem cr_mem {ss : List ByteArray} {fs : List Q4} {st st2 : Int} {xs ys : List Int} (h : crB ss fs st xs st2 ys = true) : netP ss fs ∧ (∀ x ∈ xs, 0 ≤ x ∧ x < fs.length) ∧ ∀ y ∈ ys, 0 ≤ y ∧ y < fs.length := by
  unfold crB at h
  rw [Bool.and_eq_true] at h
  obtain ⟨hv, va, ha⟩ := routeB_yes h.1
  obtain ⟨_, vb, hb⟩ := routeB_yes h.2
  exact ⟨hv, routeN_mem ha, routeN_mem hb⟩
noncomputable def cmL (ss : List ByteArray) (fs : List Q4) (st : Int) (xs : List Int) (st2 : Int) (ys : List Int) : List Int := if crB ss fs st xs st2 ys then bothK (rgL fs) xs ys (rgL fs).length else []
theorem cm_no {ss : List ByteArray} {fs : List Q4} {st st2 : Int} {xs ys : List Int} (h : crB ss fs st xs st2 ys = false) : cmL ss fs st xs st2 ys = [] ∧ crB ss fs st xs st2 ys = false := by
  refine ⟨?_, h⟩; unfold cmL; rw [h]; rfl
theorem cm_yes {ss : List ByteArray} {fs : List Q4} {st st2 : Int} {xs ys : List Int} (h : crB ss fs st xs st2 ys = true) : cmL ss fs st xs st2 ys = bothK (rgL fs) xs ys (rgL fs).length := by
  unfold cmL; rw [h]; rfl
theorem cmL_len (ss : List ByteArray) (fs : List Q4) (st : Int) (xs : List Int) (st2 : Int) (ys : List Int) : (cmL ss fs st xs st2 ys).length ≤ fs.length := by
  unfold cmL
  split
  · exact Nat.le_trans (sel_len _ _) (rgp_len fs)
  · simp
set_option maxRecDepth 100000 in
set_option maxHeartbeats 8000000 in
theorem implCM {g1 g2 n1 n2 c1 c2 : Nat} {ss : List ByteArray} {fs : List Q4} {w : World} (h : NetAt g1 g2 n1 n2 c1 c2 ss fs w) (st : Int) {A : Option Addr} {n c : Nat} {xs : List Int} (hn : xs.length = n) (hr : Rd w w.heap.size A (xs.map (Value.int .i64))) (hx : n ≤ 1048576) (st2 : Int) {A2 : Option Addr} {m c3 : Nat} {ys : List Int} (hm : ys.length = m) (hr2 : Rd w w.heap.size A2 (ys.map (Value.int .i64))) (hx2 : m ≤ 1048576) :
    Calls Try.prog 40 #[.agg #[.slice (some ⟨g1, 0, none⟩) n1 c1, .slice (some ⟨g2, 0, none⟩) n2 c2], .agg #[.int .i64 st, .slice A n c], .agg #[.int .i64 st2, .slice A2 m c3]] w (IntsP (cmL ss fs st xs st2 ys) (crB ss fs st xs st2 ys) w) := by
  obtain ⟨RL, hRL⟩ : ∃ r, cmL ss fs st xs st2 ys = r := ⟨_, rfl⟩
  obtain ⟨RB, hRB⟩ : ∃ r, crB ss fs st xs st2 ys = r := ⟨_, rfl⟩
  have HNO : Hid (crB ss fs st xs st2 ys = false → RL = [] ∧ RB = false) := Lib.hid (fun e => by rw [← hRL, ← hRB]; exact cm_no e)
  have HYES : Hid (crB ss fs st xs st2 ys = true → RL = bothK (rgL fs) xs ys (rgL fs).length ∧ RB = true) := Lib.hid (fun e => by rw [← hRL, ← hRB]; exact ⟨cm_yes e, e⟩)
  rw [hRL, hRB]
  clear hRL hRB
  obtain ⟨W0, hW0⟩ : ∃ W0, ((w.alloc (Obj.cells #[.slice (some ⟨g1, 0, none⟩) n1 c1, .slice (some ⟨g2, 0, none⟩) n2 c2] 32)).alloc (Obj.cells #[.int .i64 st, .slice A n c] 45)).alloc (Obj.cells #[.int .i64 st2, .slice A2 m c3] 45) = W0 := ⟨_, rfl⟩
  have hb0 : Below w.heap.size w W0 := by rw [← hW0]; exact (((Below.refl _ _).alloc (Nat.le_refl _) _).alloc (by simp) _).alloc (by simp; omega) _
  have k0 : W0.cell? ⟨w.heap.size, 0, none⟩ = some (.slice (some ⟨g1, 0, none⟩) n1 c1) := by rw [← hW0]; simp [go_sem]
  have k1 : W0.cell? ⟨w.heap.size, 1, none⟩ = some (.slice (some ⟨g2, 0, none⟩) n2 c2) := by rw [← hW0]; simp [go_sem]
  have k2 : W0.cell? ⟨w.heap.size + 1, 0, none⟩ = some (.int .i64 st) := by rw [← hW0]; simp [go_sem]
  have k3 : W0.cell? ⟨w.heap.size + 1, 1, none⟩ = some (.slice A n c) := by rw [← hW0]; simp [go_sem]
  have k4 : W0.cell? ⟨w.heap.size + 1 + 1, 0, none⟩ = some (.int .i64 st2) := by rw [← hW0]; simp [go_sem]
  have k5 : W0.cell? ⟨w.heap.size + 1 + 1, 1, none⟩ = some (.slice A2 m c3) := by rw [← hW0]; simp [go_sem]
  have hsz : W0.heap.size = w.heap.size + 1 + 1 + 1 := by rw [← hW0]; simp
  have hbl := (Below.refl W0.heap.size W0).alloc (Nat.le_refl _) (Obj.cells #[.int .i64 st, .slice A n c, .int .i64 st2, .slice A2 m c3] 45)
  have hb1 := hb0.alloc hb0.size (Obj.cells #[.int .i64 st, .slice A n c, .int .i64 st2, .slice A2 m c3] 45)
  have CW := Lib.hid (walks_two (cr := 2) (h.moved hb1) st hn (hr.moved hb1) hx st2 hm (hr2.moved hb1) hx2 (rd_four hsz _ _ _ _ _))
  have HNT := Lib.hid (h.moved hb1); have HN := Lib.hid hn; have HR := Lib.hid (hr.moved hb1); have HM := Lib.hid hm; have HR2 := Lib.hid (hr2.moved hb1)
  obtain ⟨W1, hW1⟩ : ∃ W1, W0.alloc (Obj.cells #[.int .i64 st, .slice A n c, .int .i64 st2, .slice A2 m c3] 45) = W1 := ⟨_, rfl⟩
  rw [hW1] at CW HNT HR HR2 hb1 hbl
  have HB1 := Lib.hid hb1
  have HK0 := Lib.hid ((hbl.cell (p := ⟨w.heap.size, 0, none⟩) (by show w.heap.size < _; omega)).trans k0)
  have HK1 := Lib.hid ((hbl.cell (p := ⟨w.heap.size, 1, none⟩) (by show w.heap.size < _; omega)).trans k1)
  have HK2 := Lib.hid ((hbl.cell (p := ⟨w.heap.size + 1, 0, none⟩) (by show w.heap.size + 1 < _; omega)).trans k2)
  have HK3 := Lib.hid ((hbl.cell (p := ⟨w.heap.size + 1, 1, none⟩) (by show w.heap.size + 1 < _; omega)).trans k3)
  have HK4 := Lib.hid ((hbl.cell (p := ⟨w.heap.size + 1 + 1, 0, none⟩) (by show w.heap.size + 1 + 1 < _; omega)).trans k4)
  have HK5 := Lib.hid ((hbl.cell (p := ⟨w.heap.size + 1 + 1, 1, none⟩) (by show w.heap.size + 1 + 1 < _; omega)).trans k5)
  have HSL : Hid (w.heap.size + 3 < W1.heap.size) := Lib.hid (by rw [← hW1]; simp; omega)
  have HW0 := Lib.hid hW0; have HW1 := Lib.hid hW1
  clear h hn hr hm hr2 hb0 hb1 hbl hW0 hW1 hsz k0 k1 k2 k3 k4 k5
  go_enter Try.func40, Try.ntmps40
  go_wp2_with fail
  rw [HW0.out, HW1.out]
  refine CW.out.mono ?_
  rintro e w1 ⟨hb2, h2⟩
  have HB2 := Lib.hid (HB1.out.trans (hb2.mono HB1.out.size))
  have l0 := (hb2.cell (p := ⟨w.heap.size, 0, none⟩) (by show w.heap.size < _; have := HSL.out; omega)).trans HK0.out
  have l1 := (hb2.cell (p := ⟨w.heap.size, 1, none⟩) (by show w.heap.size < _; have := HSL.out; omega)).trans HK1.out
  have l2 := (hb2.cell (p := ⟨w.heap.size + 1, 0, none⟩) (by show w.heap.size + 1 < _; have := HSL.out; omega)).trans HK2.out
  have l3 := (hb2.cell (p := ⟨w.heap.size + 1, 1, none⟩) (by show w.heap.size + 1 < _; have := HSL.out; omega)).trans HK3.out
  have l4 := (hb2.cell (p := ⟨w.heap.size + 1 + 1, 0, none⟩) (by show w.heap.size + 1 + 1 < _; have := HSL.out; omega)).trans HK4.out
  have l5 := (hb2.cell (p := ⟨w.heap.size + 1 + 1, 1, none⟩) (by show w.heap.size + 1 + 1 < _; have := HSL.out; omega)).trans HK5.out
  have hg0 : w.heap.size < w1.heap.size := by have := HSL.out; have := hb2.size; omega
  have hg1 : w.heap.size + 1 < w1.heap.size := by have := HSL.out; have := hb2.size; omega
  have hg2 : w.heap.size + 1 + 1 < w1.heap.size := by have := HSL.out; have := hb2.size; omega
  have HNT2 := Lib.hid (HNT.out.moved hb2)
  have HRb := Lib.hid (HR.out.moved hb2); have HR2b := Lib.hid (HR2.out.moved hb2)
  clear hb2
  rcases h2 with ⟨hcr, rfl⟩ | ⟨gw, ga, gb, va, vb, hcr, _, _, rfl, _, _, _, _, _, _⟩
  · have HE := Lib.hid (HNO.out hcr)
    clear hcr l0 l1 l2 l3 l4 l5 hg0 hg1 hg2
    go_wp2
    go_ret2
    exact ints_no HE.out HB2.out
  obtain ⟨hv, hmx, hmy⟩ := cr_mem hcr
  have HE := Lib.hid (HYES.out hcr)
  have CB := Lib.hid (onBoth_ (c := c) (c3 := c3) HNT2.out hv st HN.out HRb.out hx st2 HM.out HR2b.out hx2 hmx hmy)
  clear hv hmx hmy hcr
  go_wp2_with fail
  clear l0 l1 l2 l3 l4 l5 hg0 hg1 hg2
  refine CB.out.mono ?_
  rintro e w3 ⟨A9, N9, d9, rfl, HN9, ho9, hb3⟩
  have HB3 := Lib.hid (HB2.out.trans (hb3.mono HB2.out.size))
  have HO9 := Lib.hid (own_base ho9 HB2.out.size)
  clear hb3 ho9
  go_wp2
  go_ret2
  obtain ⟨rfl, rfl⟩ := HE.out
  exact ⟨A9, N9, d9, rfl, HN9, HO9.out, HB3.out⟩

set_option maxRecDepth 100000 in
set_option maxHeartbeats 8000000 in
theorem implRD {g1 g2 n1 n2 c1 c2 : Nat} {ss : List ByteArray} {fs : List Q4} {w : World} (h : NetAt g1 g2 n1 n2 c1 c2 ss fs w) (st : Int) {A : Option Addr} {n c : Nat} {xs : List Int} (hn : xs.length = n) (hr : Rd w w.heap.size A (xs.map (Value.int .i64))) (hx : n ≤ 1048576) (st2 : Int) {A2 : Option Addr} {m c3 : Nat} {ys : List Int} (hm : ys.length = m) (hr2 : Rd w w.heap.size A2 (ys.map (Value.int .i64))) (hx2 : m ≤ 1048576) :
    Calls Try.prog 37 #[.agg #[.slice (some ⟨g1, 0, none⟩) n1 c1, .slice (some ⟨g2, 0, none⟩) n2 c2], .agg #[.int .i64 st, .slice A n c], .agg #[.int .i64 st2, .slice A2 m c3]] w (RetP (rdR ss fs st xs st2 ys) w) := by
  obtain ⟨R, hR⟩ : ∃ r, rdR ss fs st xs st2 ys = r := ⟨_, rfl⟩
  have HNO : Hid (crB ss fs st xs st2 ys = false → (.tuple #[.bool false, .bool false] : Value) = R) := Lib.hid (fun e => by rw [← hR]; exact rd_no e)
  have HYES : Hid (crB ss fs st xs st2 ys = true → (.tuple #[.bool (pb (apP fs xs ys)), .bool true] : Value) = R) := Lib.hid (fun e => by rw [← hR]; exact rd_yes e)
  rw [hR]
  clear hR
  obtain ⟨W0, hW0⟩ : ∃ W0, ((w.alloc (Obj.cells #[.slice (some ⟨g1, 0, none⟩) n1 c1, .slice (some ⟨g2, 0, none⟩) n2 c2] 32)).alloc (Obj.cells #[.int .i64 st, .slice A n c] 45)).alloc (Obj.cells #[.int .i64 st2, .slice A2 m c3] 45) = W0 := ⟨_, rfl⟩
  have hb0 : Below w.heap.size w W0 := by rw [← hW0]; exact (((Below.refl _ _).alloc (Nat.le_refl _) _).alloc (by simp) _).alloc (by simp; omega) _
  have k0 : W0.cell? ⟨w.heap.size, 0, none⟩ = some (.slice (some ⟨g1, 0, none⟩) n1 c1) := by rw [← hW0]; simp [go_sem]
  have k1 : W0.cell? ⟨w.heap.size, 1, none⟩ = some (.slice (some ⟨g2, 0, none⟩) n2 c2) := by rw [← hW0]; simp [go_sem]
  have k2 : W0.cell? ⟨w.heap.size + 1, 0, none⟩ = some (.int .i64 st) := by rw [← hW0]; simp [go_sem]
  have k3 : W0.cell? ⟨w.heap.size + 1, 1, none⟩ = some (.slice A n c) := by rw [← hW0]; simp [go_sem]
  have k4 : W0.cell? ⟨w.heap.size + 1 + 1, 0, none⟩ = some (.int .i64 st2) := by rw [← hW0]; simp [go_sem]
  have k5 : W0.cell? ⟨w.heap.size + 1 + 1, 1, none⟩ = some (.slice A2 m c3) := by rw [← hW0]; simp [go_sem]
  have hsz : W0.heap.size = w.heap.size + 1 + 1 + 1 := by rw [← hW0]; simp
  have hbl := (Below.refl W0.heap.size W0).alloc (Nat.le_refl _) (Obj.cells #[.int .i64 st, .slice A n c, .int .i64 st2, .slice A2 m c3] 45)
  have hb1 := hb0.alloc hb0.size (Obj.cells #[.int .i64 st, .slice A n c, .int .i64 st2, .slice A2 m c3] 45)
  have CW := Lib.hid (walks_two (cr := 2) (h.moved hb1) st hn (hr.moved hb1) hx st2 hm (hr2.moved hb1) hx2 (rd_four hsz _ _ _ _ _))
  have HNT := Lib.hid (h.moved hb1); have HN := Lib.hid hn; have HR := Lib.hid (hr.moved hb1); have HM := Lib.hid hm; have HR2 := Lib.hid (hr2.moved hb1)
  obtain ⟨W1, hW1⟩ : ∃ W1, W0.alloc (Obj.cells #[.int .i64 st, .slice A n c, .int .i64 st2, .slice A2 m c3] 45) = W1 := ⟨_, rfl⟩
  rw [hW1] at CW HNT HR HR2 hb1 hbl
  have HB1 := Lib.hid hb1
  have HK0 := Lib.hid ((hbl.cell (p := ⟨w.heap.size, 0, none⟩) (by show w.heap.size < _; omega)).trans k0)
  have HK1 := Lib.hid ((hbl.cell (p := ⟨w.heap.size, 1, none⟩) (by show w.heap.size < _; omega)).trans k1)
  have HK2 := Lib.hid ((hbl.cell (p := ⟨w.heap.size + 1, 0, none⟩) (by show w.heap.size + 1 < _; omega)).trans k2)
  have HK3 := Lib.hid ((hbl.cell (p := ⟨w.heap.size + 1, 1, none⟩) (by show w.heap.size + 1 < _; omega)).trans k3)
  have HK4 := Lib.hid ((hbl.cell (p := ⟨w.heap.size + 1 + 1, 0, none⟩) (by show w.heap.size + 1 + 1 < _; omega)).trans k4)
  have HK5 := Lib.hid ((hbl.cell (p := ⟨w.heap.size + 1 + 1, 1, none⟩) (by show w.heap.size + 1 + 1 < _; omega)).trans k5)
  have HSL : Hid (w.heap.size + 3 < W1.heap.size) := Lib.hid (by rw [← hW1]; simp; omega)
  have HW0 := Lib.hid hW0; have HW1 := Lib.hid hW1
  clear h hn hr hm hr2 hb0 hb1 hbl hW0 hW1 hsz k0 k1 k2 k3 k4 k5
  go_enter Try.func37, Try.ntmps37
  go_wp2_with fail
  rw [HW0.out, HW1.out]
  refine CW.out.mono ?_
  rintro e w1 ⟨hb2, h2⟩
  have HB2 := Lib.hid (HB1.out.trans (hb2.mono HB1.out.size))
  have l0 := (hb2.cell (p := ⟨w.heap.size, 0, none⟩) (by show w.heap.size < _; have := HSL.out; omega)).trans HK0.out
  have l1 := (hb2.cell (p := ⟨w.heap.size, 1, none⟩) (by show w.heap.size < _; have := HSL.out; omega)).trans HK1.out
  have l2 := (hb2.cell (p := ⟨w.heap.size + 1, 0, none⟩) (by show w.heap.size + 1 < _; have := HSL.out; omega)).trans HK2.out
  have l3 := (hb2.cell (p := ⟨w.heap.size + 1, 1, none⟩) (by show w.heap.size + 1 < _; have := HSL.out; omega)).trans HK3.out
  have l4 := (hb2.cell (p := ⟨w.heap.size + 1 + 1, 0, none⟩) (by show w.heap.size + 1 + 1 < _; have := HSL.out; omega)).trans HK4.out
  have l5 := (hb2.cell (p := ⟨w.heap.size + 1 + 1, 1, none⟩) (by show w.heap.size + 1 + 1 < _; have := HSL.out; omega)).trans HK5.out
  have hg0 : w.heap.size < w1.heap.size := by have := HSL.out; have := hb2.size; omega
  have hg1 : w.heap.size + 1 < w1.heap.size := by have := HSL.out; have := hb2.size; omega
  have hg2 : w.heap.size + 1 + 1 < w1.heap.size := by have := HSL.out; have := hb2.size; omega
  have HNT2 := Lib.hid (HNT.out.moved hb2)
  have HRb := Lib.hid (HR.out.moved hb2); have HR2b := Lib.hid (HR2.out.moved hb2)
  clear hb2
  rcases h2 with ⟨hcr, rfl⟩ | ⟨gw, ga, gb, va, vb, hcr, _, _, rfl, _, _, _, _, _, _⟩
  · have HE := Lib.hid (HNO.out hcr)
    clear hcr l0 l1 l2 l3 l4 l5 hg0 hg1 hg2
    go_wp2
    go_ret2
    exact ⟨ret_tupC HE.out, HB2.out⟩
  obtain ⟨hv, hmx, hmy⟩ := cr_mem hcr
  have HAP := Lib.hid (ap_iff hv (xs := xs) (ys := ys) hmx)
  have HE := Lib.hid (HYES.out hcr)
  have CB := Lib.hid (onBoth_ (c := c) (c3 := c3) HNT2.out hv st HN.out HRb.out hx st2 HM.out HR2b.out hx2 hmx hmy)
  obtain ⟨L, hL⟩ : ∃ L, bothK (rgL fs) xs ys (rgL fs).length = L := ⟨_, rfl⟩
  rw [hL] at CB HAP
  clear hv hmx hmy hcr hL
  go_wp2_with fail
  clear l0 l1 l2 l3 l4 l5 hg0 hg1 hg2
  refine CB.out.mono ?_
  rintro e w3 ⟨A9, N9, d9, rfl, HN9, ho9, hb3⟩
  have HB3 := Lib.hid (HB2.out.trans (hb3.mono HB2.out.size))
  clear hb3 ho9
  rcases Nat.eq_zero_or_pos N9 with hz | hz
  · have HF : Hid ((.tuple #[.bool true, .bool true] : Value) = R) := Lib.hid (by
      have h9 := HE.out
      rw [pb_true (HAP.out.2 (List.eq_nil_of_length_eq_zero (by have := HN9.out; omega)))] at h9
      exact h9)
    subst hz
    go_wp2
    go_ret2
    exact ⟨ret_tupC HF.out, HB3.out⟩
  · have HF : Hid ((.tuple #[.bool false, .bool true] : Value) = R) := Lib.hid (by
      have h9 := HE.out
      rw [pb_false (fun hp => by have h8 := HAP.out.1 hp; have := HN9.out; rw [h8] at this; simp at this; omega)] at h9
      exact h9)
    have hn9 : (N9 == 0) = false := by simp; omega
    have hn8 : ((N9 : Int) == 0) = false := by simp; omega
    go_wp2
    go_ret2
    exact ⟨ret_tupC HF.out, HB3.out⟩
end Go.Proofs.Ytcbjdfgmkiodkaa
