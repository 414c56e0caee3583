/- Routes compared: contract of impl.CompareRoutes. No condition but those typed. -/
import Derived.Test.YtdaopbdjbpopiaaCmp3
namespace Go.Proofs.Ytdaopbdjbpopiaa
open Go.ChangeShapes Go.WideShapes Go.ChangeAt Go.RowKit

theorem rd_newC {W : World} {n : Nat} (hn : W.heap.size = n) (xs : List Value) (T : TypeId) : Rd (W.alloc (.cells xs.toArray T)) (W.alloc (.cells xs.toArray T)).heap.size (some ⟨n, 0, none⟩) xs := by
  subst hn
  intro k u hu
  refine ⟨_, rfl, by simp, ?_⟩
  have e : (⟨W.heap.size, 0, none⟩ : Addr).add k = ⟨W.heap.size, k, none⟩ := by unfold Addr.add; by_cases h : k = 0 <;> simp [h]
  rw [e]
  have := cell_of_row (W.alloc (.cells xs.toArray T)) W.heap.size k xs.toArray T (0, 0) (heap_alloc_new W _)
  rw [this]; simpa using hu
theorem rd_four {W : World} {n : Nat} (hn : W.heap.size = n) (a b c d : Value) (T : TypeId) : Rd (W.alloc (.cells #[a, b, c, d] T)) (W.alloc (.cells #[a, b, c, d] T)).heap.size (some ⟨n, 0, none⟩) [a, b, c, d] := rd_newC hn [a, b, c, d] T
theorem cr_eq (fs : List Q4) (st st2 : Int) (xs ys : List Int) :
    orI (orI (orI (cmpI (lenX fs xs.reverse) (lenX fs ys.reverse)) (cmpI (xs.reverse.length : Int) (ys.reverse.length : Int))) (cmpR xs.reverse ys.reverse)) (cmpI st st2) = crI fs st xs st2 ys := by
  unfold crI
  rw [lenX_rev, lenX_rev, List.length_reverse, List.length_reverse, or_assoc, or_assoc]
  by_cases h : xs.length = ys.length
  · rw [cmpR_rev (by simpa using h), List.reverse_reverse, List.reverse_reverse]
  · have hc : cmpI (xs.length : Int) (ys.length : Int) ≠ 0 := cmp_ne (by omega)
    rw [or_ne hc, or_ne hc]

set_option maxRecDepth 100000 in
set_option maxHeartbeats 8000000 in
theorem implCR {g1 g2 n1 n2 c1 c2 : Nat} {ss : List ByteArray} {fs : List Q4} {w : World} (h : NetAt g1 g2 n1 n2 c1 c2 ss fs w) (st : Int) {A : Option Addr} {n c : Nat} {xs : List Int} (hn : xs.length = n) (hr : Rd w w.heap.size A (xs.map (Value.int .i64))) (hx : n ≤ 1048576) (st2 : Int) {A2 : Option Addr} {m c3 : Nat} {ys : List Int} (hm : ys.length = m) (hr2 : Rd w w.heap.size A2 (ys.map (Value.int .i64))) (hx2 : m ≤ 1048576) :
    Calls Try.prog 35 #[.agg #[.slice (some ⟨g1, 0, none⟩) n1 c1, .slice (some ⟨g2, 0, none⟩) n2 c2], .agg #[.int .i64 st, .slice A n c], .agg #[.int .i64 st2, .slice A2 m c3]] w (RetP (crR ss fs st xs st2 ys) w) := by
  have HL1 := Lib.hid h.ln1
  obtain ⟨R, hRR⟩ : ∃ R, crR ss fs st xs st2 ys = R := ⟨_, rfl⟩
  rw [hRR]
  have HNO : Hid (crB ss fs st xs st2 ys = false → (.tuple #[.int .i64 0, .bool false] : Value) = R) := Lib.hid (fun e => by rw [← hRR]; exact cr_no e)
  have HYES : Hid (crB ss fs st xs st2 ys = true → (.tuple #[.int .i64 (crI fs st xs st2 ys), .bool true] : Value) = R) := Lib.hid (fun e => by rw [← hRR]; exact cr_yes e)
  clear hRR
  obtain ⟨W0, hW0⟩ : ∃ W0, ((w.alloc (Obj.cells #[.slice (some ⟨g1, 0, none⟩) n1 c1, .slice (some ⟨g2, 0, none⟩) n2 c2] 32)).alloc (Obj.cells #[.int .i64 st, .slice A n c] 45)).alloc (Obj.cells #[.int .i64 st2, .slice A2 m c3] 45) = W0 := ⟨_, rfl⟩
  have hb0 : Below w.heap.size w W0 := by rw [← hW0]; exact (((Below.refl _ _).alloc (Nat.le_refl _) _).alloc (by simp) _).alloc (by simp; omega) _
  have k2 : W0.cell? ⟨w.heap.size + 1, 0, none⟩ = some (.int .i64 st) := by rw [← hW0]; simp [go_sem]
  have k4 : W0.cell? ⟨w.heap.size + 1 + 1, 0, none⟩ = some (.int .i64 st2) := by rw [← hW0]; simp [go_sem]
  have hsz : W0.heap.size = w.heap.size + 1 + 1 + 1 := by rw [← hW0]; simp
  have HW := Lib.hid hW0
  have hb1 := hb0.alloc hb0.size (Obj.cells #[.int .i64 st, .slice A n c, .int .i64 st2, .slice A2 m c3] 45)
  have HB1 := Lib.hid hb1
  have hor : Rd (W0.alloc (Obj.cells #[.int .i64 st, .slice A n c, .int .i64 st2, .slice A2 m c3] 45)) (W0.alloc (Obj.cells #[.int .i64 st, .slice A n c, .int .i64 st2, .slice A2 m c3] 45)).heap.size (some ⟨w.heap.size + 1 + 1 + 1, 0, none⟩) ([(⟨st, A, n, c, xs⟩ : Rt), ⟨st2, A2, m, c3, ys⟩].flatMap Rt.cells) := rd_four hsz _ _ _ _ _
  have HK2 := Lib.hid ((Below.cell ((Below.refl W0.heap.size W0).alloc (Nat.le_refl _) (Obj.cells #[.int .i64 st, .slice A n c, .int .i64 st2, .slice A2 m c3] 45)) (p := ⟨w.heap.size + 1, 0, none⟩) (by show w.heap.size + 1 < _; omega)).trans k2)
  have HK4 := Lib.hid ((Below.cell ((Below.refl W0.heap.size W0).alloc (Nat.le_refl _) (Obj.cells #[.int .i64 st, .slice A n c, .int .i64 st2, .slice A2 m c3] 45)) (p := ⟨w.heap.size + 1 + 1, 0, none⟩) (by show w.heap.size + 1 + 1 < _; omega)).trans k4)
  have HSL : Hid (w.heap.size + 1 + 1 + 1 < (W0.alloc (Obj.cells #[.int .i64 st, .slice A n c, .int .i64 st2, .slice A2 m c3] 45)).heap.size) := Lib.hid (by simp; omega)
  by_cases hv : netP ss fs
  case neg =>
    have HE := Lib.hid (HNO.out (by unfold crB; rw [routeB_net hv]; rfl))
    have CW := Lib.hid (walks_no (h.moved hb1) hv)
    clear h hn hr hm hr2 hb0 hb1 hv hW0 hsz hor k2 k4
    go_enter Try.func35, Try.ntmps35
    go_wp2_with fail
    rw [HW.out]
    refine (CW.out _).mono ?_
    rintro e w1 ⟨rfl, hb2⟩
    have HB2 := Lib.hid (HB1.out.trans (hb2.mono HB1.out.size))
    clear hb2
    go_wp2
    go_ret2
    exact ⟨ret_tupC HE.out, HB2.out⟩
  case pos =>
  have CW := Lib.hid (walks_ (rs := [(⟨st, A, n, c, xs⟩ : Rt), ⟨st2, A2, m, c3, ys⟩]) (nr := 2) (cr := 2) (h.moved hb1) hv rfl (by omega) hor (fun r hr9 => by
    rcases List.mem_cons.1 hr9 with h9 | h9
    · rw [h9]; exact ⟨hn, hx, hr.moved hb1⟩
    · rw [List.mem_singleton.1 h9]; exact ⟨hm, hx2, hr2.moved hb1⟩))
  have HV := Lib.hid hv
  clear h hn hr hm hr2 hb0 hb1 hv hW0 hsz hor k2 k4
  go_enter Try.func35, Try.ntmps35
  go_wp2_with fail
  rw [HW.out]
  refine CW.out.mono ?_
  rintro e w1 ⟨hb2, h2⟩
  have HB2 := Lib.hid (HB1.out.trans (hb2.mono HB1.out.size))
  have m2 := (hb2.cell (p := ⟨w.heap.size + 1, 0, none⟩) (by show w.heap.size + 1 < _; have := HSL.out; omega)).trans HK2.out
  have m4 := (hb2.cell (p := ⟨w.heap.size + 1 + 1, 0, none⟩) (by show w.heap.size + 1 + 1 < _; have := HSL.out; omega)).trans HK4.out
  have hz1 : w.heap.size + 1 < w1.heap.size := by have := HSL.out; have := hb2.size; omega
  have hz2 : w.heap.size + 1 + 1 < w1.heap.size := by have := HSL.out; have := hb2.size; omega
  clear hb2
  rcases h2 with ⟨⟨i, hi, hno⟩, rfl⟩ | ⟨gw, gs, rfl, hgl, hown, hall⟩
  · have HE := Lib.hid (HNO.out (by
      unfold crB
      have hi2 : i < 2 := hi
      have h01 : i = 0 ∨ i = 1 := by omega
      rcases h01 with h9 | h9
      · subst h9
        rw [routeB_no HV.out (by rw [HL1.out]; exact hno)]; rfl
      · subst h9
        rw [routeB_no (st := st2) HV.out (by rw [HL1.out]; exact hno), Bool.and_false]))
    clear hno hi
    go_wp2
    go_ret2
    exact ⟨ret_tupC HE.out, HB2.out⟩
  have hgl2 : gs.length = 2 := hgl
  obtain ⟨va, hva, hla⟩ := hall 0 (by simp) (by omega)
  obtain ⟨vb, hvb, hlb⟩ := hall 1 (by simp) (by omega)
  have hgw := (hown.lt gw rfl).2
  have c0 := hown.cellAt 0 (by simp)
  have c1' := hown.cellAt 1 (by simp)
  rw [List.getElem?_map, List.getElem?_eq_getElem (by omega)] at c0 c1'
  simp only [Option.map_some, ptrV] at c0 c1'
  have hva' : routeN n1 fs st xs = some va := hva
  have hvb' : routeN n1 fs st2 ys = some vb := hvb
  have HE := Lib.hid (HYES.out (by unfold crB; rw [routeB_some HV.out (vs := va) (by rw [HL1.out]; exact hva'), routeB_some HV.out (vs := vb) (by rw [HL1.out]; exact hvb')]; rfl))
  have CK0 : Hid (∀ W, Bel w1 W → Calls Try.prog 112 #[.pointer (some ⟨gs[0], 0, none⟩), .pointer (some ⟨gs[1], 0, none⟩)] W (RetP (.int .i64 (orI (orI (cmpI (lenX fs xs.reverse) (lenX fs ys.reverse)) (cmpI (xs.reverse.length : Int) (ys.reverse.length : Int))) (cmpR xs.reverse ys.reverse))) W)) := Lib.hid (fun W hb => compareWalks_ (hla.over (Bel.out hb)) (hlb.over (Bel.out hb)))
  have hcr := cr_eq fs st st2 xs ys
  obtain ⟨ga, hga⟩ : ∃ g, gs[0] = g := ⟨_, rfl⟩
  obtain ⟨gb, hgb⟩ : ∃ g, gs[1] = g := ⟨_, rfl⟩
  rw [hga] at c0 CK0
  rw [hgb] at c1' CK0
  obtain ⟨r1, hr1⟩ : ∃ r, orI (orI (cmpI (lenX fs xs.reverse) (lenX fs ys.reverse)) (cmpI (xs.reverse.length : Int) (ys.reverse.length : Int))) (cmpR xs.reverse ys.reverse) = r := ⟨_, rfl⟩
  rw [hr1] at CK0 hcr
  have CP : Hid (∀ W, Calls Try.prog 113 #[.int .i64 st, .int .i64 st2] W fun e w' => e = .returned (.int .i64 (cmpI st st2)) ∧ W = w') := Lib.hid (fun W => compare_ st st2 W)
  obtain ⟨r2, hr2'⟩ : ∃ r, cmpI st st2 = r := ⟨_, rfl⟩
  rw [hr2'] at CP hcr
  have CO : Hid (∀ (gg c : Nat) (W : World), W.cell? ⟨gg, 0, none⟩ = some (.int .i64 r1) → W.cell? ⟨gg, 1, none⟩ = some (.int .i64 r2) → Calls Try.prog 111 #[.slice (some ⟨gg, 0, none⟩) 2 c] W fun e w' => e = .returned (.int .i64 (orI r1 r2)) ∧ W = w') := Lib.hid (fun gg c W a b => or2_ gg c r1 r2 W a b)
  obtain ⟨r, hr9⟩ : ∃ r, orI r1 r2 = r := ⟨_, rfl⟩
  rw [hr9] at CO hcr
  rw [← hcr] at HE
  obtain ⟨nw, hnw⟩ : ∃ k, ([(⟨st, A, n, c, xs⟩ : Rt), ⟨st2, A2, m, c3, ys⟩] : List Rt).length = k := ⟨_, rfl⟩
  have hnw2 : nw = 2 := hnw.symm
  clear hla hlb hva hvb hva' hvb' hall hown hgl hga hgb hr1 hr2' hr9 hcr hgl2
  rw [hnw]
  clear hnw
  subst hnw2
  go_wp2
  have hbd : Bel w1 w1.drew := Bel.of (Below.refl _ _).drew
  go_region_held3 (fun U => U.cell? ⟨gw, 0, none⟩ = some (.pointer (some ⟨ga, 0, none⟩)) ∧ U.cell? ⟨gw, 1, none⟩ = some (.pointer (some ⟨gb, 0, none⟩)) ∧ U.cell? ⟨w.heap.size + 1, 0, none⟩ = some (.int .i64 st) ∧ U.cell? ⟨w.heap.size + 1 + 1, 0, none⟩ = some (.int .i64 st2) ∧ Bel w1 U)
    (first | (go_keep; done) | (go_split_ands; (refine ⟨?_, ?_, ?_, ?_, ?_⟩ <;> first | assumption | exact Bel.step (by assumption) hb9 | exact (Bel.at_ (by assumption) hb9 (by assumption)).trans (by assumption) | exact keepAlloc _ (by assumption) | exact belA (by assumption) _)))
    (first
      | (go_at_call 112; go_split_ands; refine (CK0.out _ (by assumption)).mono ?_; rintro e u1 ⟨rfl, hb9⟩)
      | (go_at_call 113; go_split_ands; refine (CP.out _).mono ?_; rintro e u2 ⟨rfl, rfl⟩)
      | (go_at_call 111; go_split_ands; refine (CO.out _ _ _ ?_ ?_).mono ?_; exact two0 _ _ _ _ _ rfl; exact two1 _ _ _ _ _ rfl; rintro e u3 ⟨rfl, rfl⟩))
  all_goals
    go_split_ands
    go_wp2
    go_ret2
    exact ⟨ret_tupC HE.out, HB2.out.trans ((Bel.out (by assumption)).mono HB2.out.size)⟩
end Go.Proofs.Ytdaopbdjbpopiaa
