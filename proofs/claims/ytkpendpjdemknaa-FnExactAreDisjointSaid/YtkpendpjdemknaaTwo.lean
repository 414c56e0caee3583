/- Two routes walked: contracts of impl.walksAlong at two routes, of RiskDisjoint and CommonRisks. No condition but those typed. -/
import Derived.Test.YtkpendpjdemknaaBoth
import Derived.Test.YtkpendpjdemknaaRsk
import Derived.Test.YtkpendpjdemknaaGB
namespace Go.Proofs.Ytkpendpjdemknaa
open Go.ChangeShapes Go.WideShapes Go.ChangeAt Go.RowKit

theorem rd_newC {W : World} {n : Nat} (hn : W.heap.size = n) (xs : List Value) (T : TypeId) : Rd (W.alloc (.cells xs.toArray T)) (W.alloc (.cells xs.toArray T)).heap.size (some ⟨n, 0, none⟩) xs := by
  subst hn
  intro k u hu
  refine ⟨_, rfl, by simp, ?_⟩
  have e : (⟨W.heap.size, 0, none⟩ : Addr).add k = ⟨W.heap.size, k, none⟩ := by unfold Addr.add; by_cases h : k = 0 <;> simp [h]
  rw [e]
  have := cell_of_row (W.alloc (.cells xs.toArray T)) W.heap.size k xs.toArray T (0, 0) (heap_alloc_new W _)
  rw [this]; simpa using hu
theorem rd_four {W : World} {n : Nat} (hn : W.heap.size = n) (a b c d : Value) (T : TypeId) : Rd (W.alloc (.cells #[a, b, c, d] T)) (W.alloc (.cells #[a, b, c, d] T)).heap.size (some ⟨n, 0, none⟩) [a, b, c, d] := rd_newC hn [a, b, c, d] T
def TwoP (n1 : Nat) (ss : List ByteArray) (fs : List Q4) (st : Int) (xs : List Int) (st2 : Int) (ys : List Int) (w : World) (e : Ending) (w' : World) : Prop :=
  Below w.heap.size w w' ∧ ((crB ss fs st xs st2 ys = false ∧ e = .returned (.tuple #[.slice none 0 0, .bool false])) ∨
    ∃ (gw ga gb : Nat) (va vb : List Int), crB ss fs st xs st2 ys = true ∧ routeN n1 fs st xs = some va ∧ routeN n1 fs st2 ys = some vb ∧ e = .returned (.tuple #[.slice (some ⟨gw, 0, none⟩) 2 2, .bool true]) ∧ w.heap.size ≤ gw ∧ gw < w'.heap.size ∧
      w'.cell? ⟨gw, 0, none⟩ = some (.pointer (some ⟨ga, 0, none⟩)) ∧ w'.cell? ⟨gw, 1, none⟩ = some (.pointer (some ⟨gb, 0, none⟩)) ∧ Lk fs w' ga xs.reverse va ∧ Lk fs w' gb ys.reverse vb)
/-- the literal of two routes. -/
theorem walks_two {g1 g2 n1 n2 c1 c2 : Nat} {ss : List ByteArray} {fs : List Q4} {w : World} (h : NetAt g1 g2 n1 n2 c1 c2 ss fs w) {gr cr : Nat} (st : Int) {A : Option Addr} {n c : Nat} {xs : List Int} (hn : xs.length = n) (hr : Rd w w.heap.size A (xs.map (Value.int .i64))) (hx : n ≤ 1048576) (st2 : Int) {A2 : Option Addr} {m c3 : Nat} {ys : List Int} (hm : ys.length = m) (hr2 : Rd w w.heap.size A2 (ys.map (Value.int .i64))) (hx2 : m ≤ 1048576) (hl : Rd w w.heap.size (some ⟨gr, 0, none⟩) [.int .i64 st, .slice A n c, .int .i64 st2, .slice A2 m c3]) :
    Calls Try.prog 102 #[.agg #[.slice (some ⟨g1, 0, none⟩) n1 c1, .slice (some ⟨g2, 0, none⟩) n2 c2], .slice (some ⟨gr, 0, none⟩) 2 cr] w (TwoP n1 ss fs st xs st2 ys w) := by
  by_cases hv : netP ss fs
  case neg =>
    refine (walks_no h hv _).mono ?_
    rintro e w' ⟨rfl, hb⟩
    exact ⟨hb, .inl ⟨by unfold crB; rw [routeB_net hv]; rfl, rfl⟩⟩
  case pos =>
  refine (walks_ (rs := [(⟨st, A, n, c, xs⟩ : Rt), ⟨st2, A2, m, c3, ys⟩]) (nr := 2) h hv rfl (by omega) hl (fun r hr9 => by
    rcases List.mem_cons.1 hr9 with h9 | h9
    · rw [h9]; exact ⟨hn, hx, hr⟩
    · rw [List.mem_singleton.1 h9]; exact ⟨hm, hx2, hr2⟩)).mono ?_
  rintro e w1 ⟨hb, h2⟩
  have hl1 := h.ln1
  refine ⟨hb, ?_⟩
  rcases h2 with ⟨⟨i, hi, hno⟩, rfl⟩ | ⟨gw, gs, rfl, hgl, hown, hall⟩
  · refine .inl ⟨?_, rfl⟩
    unfold crB
    have hi2 : i < 2 := hi
    have h01 : i = 0 ∨ i = 1 := by omega
    rcases h01 with h9 | h9
    · subst h9
      rw [routeB_no hv (by rw [hl1]; exact hno)]; rfl
    · subst h9
      rw [routeB_no (st := st2) hv (by rw [hl1]; exact hno), Bool.and_false]
  · have hgl2 : gs.length = 2 := hgl
    obtain ⟨va, hva, hla⟩ := hall 0 (by simp) (by omega)
    obtain ⟨vb, hvb, hlb⟩ := hall 1 (by simp) (by omega)
    have hgw := hown.lt gw rfl
    have c0 := hown.cellAt 0 (by simp)
    have c1' := hown.cellAt 1 (by simp)
    rw [List.getElem?_map, List.getElem?_eq_getElem (by omega)] at c0 c1'
    simp only [Option.map_some, ptrV] at c0 c1'
    have hva' : routeN n1 fs st xs = some va := hva
    have hvb' : routeN n1 fs st2 ys = some vb := hvb
    refine .inr ⟨gw, gs[0], gs[1], va, vb, ?_, hva', hvb', rfl, hgw.1, hgw.2, c0, c1', hla, hlb⟩
    unfold crB
    rw [routeB_some hv (vs := va) (by rw [hl1]; exact hva'), routeB_some hv (vs := vb) (by rw [hl1]; exact hvb')]; rfl
theorem cr_mem {ss : List ByteArray} {fs : List Q4} {st st2 : Int} {xs ys : List Int} (h : crB ss fs st xs st2 ys = true) : netP ss fs ∧ (∀ x ∈ xs, 0 ≤ x ∧ x < fs.length) ∧ ∀ y ∈ ys, 0 ≤ y ∧ y < fs.length := by
  unfold crB at h
  rw [Bool.and_eq_true] at h
  obtain ⟨hv, va, ha⟩ := routeB_yes h.1
  obtain ⟨_, vb, hb⟩ := routeB_yes h.2
  exact ⟨hv, routeN_mem ha, routeN_mem hb⟩
noncomputable def cmL (ss : List ByteArray) (fs : List Q4) (st : Int) (xs : List Int) (st2 : Int) (ys : List Int) : List Int := if crB ss fs st xs st2 ys then bothK (rgL fs) xs ys (rgL fs).length else []
theorem cm_no {ss : List ByteArray} {fs : List Q4} {st st2 : Int} {xs ys : List Int} (h : crB ss fs st xs st2 ys = false) : cmL ss fs st xs st2 ys = [] ∧ crB ss fs st xs st2 ys = false := by
  refine ⟨?_, h⟩; unfold cmL; rw [h]; rfl
theorem cm_yes {ss : List ByteArray} {fs : List Q4} {st st2 : Int} {xs ys : List Int} (h : crB ss fs st xs st2 ys = true) : cmL ss fs st xs st2 ys = bothK (rgL fs) xs ys (rgL fs).length := by
  unfold cmL; rw [h]; rfl
theorem cmL_len (ss : List ByteArray) (fs : List Q4) (st : Int) (xs : List Int) (st2 : Int) (ys : List Int) : (cmL ss fs st xs st2 ys).length ≤ fs.length := by
  unfold cmL
  split
  · exact Nat.le_trans (sel_len _ _) (rgp_len fs)
  · simp
end Go.Proofs.Ytkpendpjdemknaa
