/- Routes: the reverse of a route: a contract of the implementation. No condition but those typed. -/
import Derived.Test.YtlankoameeacpaaWk8
namespace Go.Proofs.Ytlankoameeacpaa
open Go.ChangeShapes Go.WideShapes Go.ChangeAt Go.RowKit

theorem below_setCellsW (B b : Nat) (hB : B ≤ b) {a : World} : ∀ (vs : List Value) (o : Nat) (w : World), Below B a w → Below B a (w.setCells b o vs)
  | [], _, _, h => h
  | v :: r, o, w, h => below_setCellsW B b hB r (o + 1) (w.setCell ⟨b, o, none⟩ v) (h.setCell (p := ⟨b, o, none⟩) hB v)
def setL (xs : List Value) (o : Nat) : List Value → List Value
  | [] => xs
  | v :: r => setL (xs.set o v) (o + 1) r
  termination_by vs => vs.length
theorem setL_len (o : Nat) (vs xs : List Value) : (setL xs o vs).length = xs.length := by
  induction vs generalizing xs o with
  | nil => simp [setL]
  | cons v r ih => rw [setL, ih, List.length_set]
theorem setL_all (vs : List Value) : ∀ (xs : List Value) (o : Nat), o + vs.length = xs.length → setL xs o vs = xs.take o ++ vs := by
  induction vs with
  | nil => intro xs o h; simp at h; rw [setL, List.append_nil, List.take_of_length_le (by omega)]
  | cons v r ih =>
    intro xs o h
    rw [List.length_cons] at h
    have ho : o < (xs.set o v).length := by rw [List.length_set]; omega
    rw [setL, ih (xs.set o v) (o + 1) (by rw [List.length_set]; omega), List.take_succ_eq_append_getElem ho, List.getElem_set_self, List.take_set_of_le (Nat.le_refl _), List.append_assoc]
    rfl
theorem own_setCells {B g n c : Nat} {E : TypeId} : ∀ (vs xs : List Value) (o : Nat) (w : World), w.ownsRow B E 1 (.slice (some ⟨g, 0, none⟩) n c) n xs → (w.setCells g o vs).ownsRow B E 1 (.slice (some ⟨g, 0, none⟩) n c) n (setL xs o vs)
  | [], xs, o, w, h => by rw [setL]; exact h
  | v :: r, xs, o, w, h => by
    rw [setL]
    exact own_setCells r (xs.set o v) (o + 1) (w.setCell ⟨g, o, none⟩ v) (h.stored o v).1

/-- a route whose fibers lie in memory of the call's own, and a word. -/
def RtP (s : Int) (zs : List Int) (b : Bool) (w : World) (e : Ending) (w' : World) : Prop :=
  ∃ (A : Option Addr) (N c : Nat), e = .returned (.tuple #[.agg #[.int .i64 s, .slice A N c], .bool b]) ∧ Hid (N = zs.length) ∧ w'.ownsRow w.heap.size 3 1 (.slice A N c) N (zs.map (Value.int .i64)) ∧ Below w.heap.size w w'
noncomputable def rrevS (ss : List ByteArray) (fs : List Q4) (st : Int) (fl : List Int) : Int := if routeB ss fs st fl then ((routeN ss.length fs st fl).getD []).headD 0 else 0
noncomputable def rrevL (ss : List ByteArray) (fs : List Q4) (st : Int) (fl : List Int) : List Int := if routeB ss fs st fl then fl.reverse else []
theorem rrev_no {ss : List ByteArray} {fs : List Q4} {st : Int} {fl : List Int} (h : routeB ss fs st fl = false) : rrevS ss fs st fl = 0 ∧ rrevL ss fs st fl = [] := by unfold rrevS rrevL; rw [h]; exact ⟨rfl, rfl⟩
theorem rrev_yes {ss : List ByteArray} {fs : List Q4} {st : Int} {fl vs : List Int} (h : routeB ss fs st fl = true) (hv : routeN ss.length fs st fl = some vs) : rrevS ss fs st fl = vs.headD 0 ∧ rrevL ss fs st fl = fl.reverse := by
  unfold rrevS rrevL; rw [h, hv]; exact ⟨rfl, rfl⟩
theorem one_rowR (w : World) (a b : Value) (ha : a.oneCell' = true) (hb' : b.oneCell' = true) {base : Nat} (hb : base ≤ w.heap.size) : (w.alloc (.cells #[a, b] 73)).ownsRow base 73 2 (.slice (some ⟨w.heap.size, 0, none⟩) 1 1) 1 [a, b] := by
  have := World.ownsRow_lit (base := base) (e := 73) (size := 2) w #[a, b] 1 hb (by unfold maxLen; omega) rfl
  simpa using this

set_option maxRecDepth 100000 in
set_option maxHeartbeats 4000000 in
theorem implRR {g1 g2 n1 n2 c1 c2 : Nat} {ss : List ByteArray} {fs : List Q4} {w : World} (h : NetAt g1 g2 n1 n2 c1 c2 ss fs w) (st : Int)
    {A : Option Addr} {n c : Nat} {fl : List Int} (hn : fl.length = n) (hr : Rd w w.heap.size A (fl.map (Value.int .i64))) (hx : n ≤ 1048576) :
    Calls Try.prog 47 #[.agg #[.slice (some ⟨g1, 0, none⟩) n1 c1, .slice (some ⟨g2, 0, none⟩) n2 c2], .agg #[.int .i64 st, .slice A n c]] w (RtP (rrevS ss fs st fl) (rrevL ss fs st fl) (routeB ss fs st fl) w) := by
  have HL1 := Lib.hid h.ln1
  obtain ⟨S, hS⟩ : ∃ S, rrevS ss fs st fl = S := ⟨_, rfl⟩
  obtain ⟨L, hL⟩ : ∃ L, rrevL ss fs st fl = L := ⟨_, rfl⟩
  obtain ⟨b, hbq⟩ : ∃ b, routeB ss fs st fl = b := ⟨_, rfl⟩
  rw [hS, hL, hbq]
  have HS := Lib.hid hS; have HL := Lib.hid hL; have HBQ := Lib.hid hbq
  clear hS hL hbq
  obtain ⟨W0, hW0⟩ : ∃ W0, ((w.alloc (Obj.cells #[.slice (some ⟨g1, 0, none⟩) n1 c1, .slice (some ⟨g2, 0, none⟩) n2 c2] 42)).alloc (Obj.cells #[.int .i64 st, .slice A n c] 73)).alloc (Obj.cells #[.int .i64 0, .slice none 0 0] 73) = W0 := ⟨_, rfl⟩
  have hb0 : Below w.heap.size w W0 := by rw [← hW0]; exact (((Below.refl _ _).alloc (Nat.le_refl _) _).alloc (by simp) _).alloc (by simp; omega) _
  have ho0 : W0.ownsRow w.heap.size 73 2 (.slice (some ⟨w.heap.size + 1 + 1, 0, none⟩) 1 1) 1 [.int .i64 0, .slice none 0 0] := by
    rw [← hW0]
    have := one_rowR ((w.alloc (Obj.cells #[.slice (some ⟨g1, 0, none⟩) n1 c1, .slice (some ⟨g2, 0, none⟩) n2 c2] 42)).alloc (Obj.cells #[.int .i64 st, .slice A n c] 73)) (.int .i64 0) (.slice none 0 0) rfl rfl (base := w.heap.size) (by simp; omega)
    simpa using this
  have hb1 := hb0.alloc hb0.size (Obj.cells #[.int .i64 st, .slice A n c] 73)
  have HB1 := Lib.hid hb1
  have HO1 := Lib.hid (ho0.alloc (Obj.cells #[.int .i64 st, .slice A n c] 73))
  have HW := Lib.hid hW0
  have hsz : W0.heap.size = w.heap.size + 1 + 1 + 1 := by rw [← hW0]; simp
  have HSZ := Lib.hid hsz
  have hor := one_rt W0 st A n c fl 73
  have hor2 : Rd (W0.alloc (.cells #[.int .i64 st, .slice A n c] 73)) (W0.alloc (.cells #[.int .i64 st, .slice A n c] 73)).heap.size (some ⟨w.heap.size + 1 + 1 + 1, 0, none⟩) ([(⟨st, A, n, c, fl⟩ : Rt)].flatMap Rt.cells) := by rw [← hsz]; exact hor
  have HN := Lib.hid hn
  by_cases hv : netP ss fs
  case neg =>
    have hbf := routeB_net (st := st) (fl := fl) hv
    have HRN := Lib.hid (rrev_no hbf)
    have HBF : Hid (b = false) := Lib.hid (HBQ.out.symm.trans hbf)
    have CW := Lib.hid (walks_no (h.moved hb1) hv)
    clear h hn hr hb0 hb1 hv hW0 hsz hor hor2 hbf ho0
    go_enter Try.func47, Try.ntmps47
    go_wp2_with fail
    rw [HW.out]
    refine (CW.out _).mono ?_
    rintro e w1 ⟨rfl, hb2⟩
    have HB2 := Lib.hid (HB1.out.trans (hb2.mono HB1.out.size))
    have HO2 := Lib.hid (ownB HO1.out hb2)
    clear hb2
    have d0 := HO2.out.cellAt 0 (by omega)
    have d1 := HO2.out.cellAt 1 (by omega)
    simp only [List.getElem?_cons_zero, List.getElem?_cons_succ] at d0 d1
    have e0_ := HO2.out.frozenAt 0
    have e1_ := HO2.out.frozenAt 1
    have hszz := (HO2.out.lt (w.heap.size + 1 + 1) rfl).2
    have HSE : Hid (S = 0 ∧ L = []) := Lib.hid ⟨HS.out.symm.trans HRN.out.1, HL.out.symm.trans HRN.out.2⟩
    go_wp2
    exact bodyPost_ret (v := .tuple #[.agg #[.int .i64 0, .slice none 0 0], .bool false]) (by simp [results, Try.results47, go_sem, d0, d1, hszz]) rfl ⟨none, 0, 0, by rw [HSE.out.1, HBF.out], Lib.hid (by rw [HSE.out.2]; rfl), by rw [HSE.out.2]; exact World.ownsRow_nil _ _ _ _, (HB2.out.setCell (p := ⟨w.heap.size + 1 + 1, 0, none⟩) (by show w.heap.size ≤ w.heap.size + 1 + 1; omega) _).setCell (p := ⟨w.heap.size + 1 + 1, 1, none⟩) (by show w.heap.size ≤ w.heap.size + 1 + 1; omega) _⟩
  case pos =>
  have CW := Lib.hid (walks_one (cr := 1) (h.moved hb1) hv hor2 ⟨hn, hx, hr.moved hb1⟩)
  have HV := Lib.hid hv
  clear h hn hr hb0 hb1 hv hW0 hsz hor hor2 ho0
  go_enter Try.func47, Try.ntmps47
  go_wp2_with fail
  rw [HW.out]
  refine CW.out.mono ?_
  rintro e w1 ⟨hb2, h2⟩
  have HB2 := Lib.hid (HB1.out.trans (hb2.mono HB1.out.size))
  have HO2 := Lib.hid (ownB HO1.out hb2)
  clear hb2
  rcases h2 with ⟨hs, rfl⟩ | ⟨gw, g, vs, hs, rfl, _, hgw, hcw, hlk⟩
  · have hbf := routeB_no HV.out (by rw [HL1.out]; exact hs)
    have HRN := Lib.hid (rrev_no hbf)
    have HBF : Hid (b = false) := Lib.hid (HBQ.out.symm.trans hbf)
    clear hs hbf
    have d0 := HO2.out.cellAt 0 (by omega)
    have d1 := HO2.out.cellAt 1 (by omega)
    simp only [List.getElem?_cons_zero, List.getElem?_cons_succ] at d0 d1
    have e0_ := HO2.out.frozenAt 0
    have e1_ := HO2.out.frozenAt 1
    have hszz := (HO2.out.lt (w.heap.size + 1 + 1) rfl).2
    have HSE : Hid (S = 0 ∧ L = []) := Lib.hid ⟨HS.out.symm.trans HRN.out.1, HL.out.symm.trans HRN.out.2⟩
    go_wp2
    exact bodyPost_ret (v := .tuple #[.agg #[.int .i64 0, .slice none 0 0], .bool false]) (by simp [results, Try.results47, go_sem, d0, d1, hszz]) rfl ⟨none, 0, 0, by rw [HSE.out.1, HBF.out], Lib.hid (by rw [HSE.out.2]; rfl), by rw [HSE.out.2]; exact World.ownsRow_nil _ _ _ _, (HB2.out.setCell (p := ⟨w.heap.size + 1 + 1, 0, none⟩) (by show w.heap.size ≤ w.heap.size + 1 + 1; omega) _).setCell (p := ⟨w.heap.size + 1 + 1, 1, none⟩) (by show w.heap.size ≤ w.heap.size + 1 + 1; omega) _⟩
  · have hs' : routeN ss.length fs st fl = some vs := by rw [HL1.out]; exact hs
    have hbt := routeB_some HV.out hs'
    have HRY := Lib.hid (rrev_yes hbt hs')
    have HBF : Hid (b = true) := Lib.hid (HBQ.out.symm.trans hbt)
    have hrl : fl.reverse.length ≤ 1048576 := by rw [List.length_reverse, HN.out]; exact hx
    have CN := Lib.hid (fibers_ _ hlk hrl)
    obtain ⟨nd, tl, la, p, hvs, hh, _⟩ := hlk.see
    have HH := Lib.hid hh
    have HGL := Lib.hid hlk.lt
    have HVS : Hid (vs.headD 0 = nd) := Lib.hid (by rw [hvs]; rfl)
    have hfn : fl.reverse.length = n := by rw [List.length_reverse, HN.out]
    rw [hfn, List.reverse_reverse] at CN
    clear hs hs' hbt hlk hrl hvs hh hfn
    have HCW := Lib.hid hcw
    go_wp2_with fail
    refine CN.out.mono ?_
    rintro e w2 ⟨gN, rfl, ho3, hb3⟩
    have HB3 := Lib.hid hb3
    have hgN := ho3.lt gN rfl
    have HGN := Lib.hid hgN
    have HO3 := Lib.hid ho3
    clear hcw ho3 hb3
    go_wp2_with fail
    refine (rev_own w2 HO3.out HN.out hx).mono ?_
    rintro e w3 ⟨rfl, q, hw3⟩
    have hb4 : Below w1.heap.size w1 w3 := by rw [hw3]; exact below_setCellsW _ _ hgN.1 _ _ _ (drewN_below HB3.out _)
    have ho4 : w3.ownsRow w1.heap.size 3 1 (.slice (some ⟨gN, 0, none⟩) n n) n (fl.reverse.map (Value.int .i64)) := by
      rw [hw3]
      have h1 := own_setCells (fl.reverse.map (Value.int .i64)) (fl.map (Value.int .i64)) 0 (w2.drewN q) (own_heapW rfl HO3.out)
      rw [setL_all _ _ _ (by simp)] at h1
      simpa using h1
    have HB4 := Lib.hid hb4; have HO4 := Lib.hid ho4
    clear hw3 hb4 ho4 hgN
    have kc := (HB4.out.cell (p := ⟨gw, 0, none⟩) hgw).trans HCW.out
    obtain ⟨f0, f1, f2, f3, f4⟩ := five_cells ((HB4.out.block g HGL.out).trans HH.out)
    have HO5 := Lib.hid (ownB HO2.out HB4.out)
    have HBZ := Lib.hid (HB2.out.trans (HB4.out.mono HB2.out.size))
    have d0 := HO5.out.cellAt 0 (by omega)
    have d1 := HO5.out.cellAt 1 (by omega)
    simp only [List.getElem?_cons_zero, List.getElem?_cons_succ] at d0 d1
    have e0_ := HO5.out.frozenAt 0
    have e1_ := HO5.out.frozenAt 1
    have hszz := (HO5.out.lt (w.heap.size + 1 + 1) rfl).2
    have hne : gN ≠ w.heap.size + 1 + 1 := by have h1 := HGN.out.1; have h2 := (HO2.out.lt (w.heap.size + 1 + 1) rfl).2; omega
    have HF : Hid (((w3.setCell ⟨w.heap.size + 1 + 1, 0, none⟩ (.int .i64 nd)).setCell ⟨w.heap.size + 1 + 1, 1, none⟩ (.slice (some ⟨gN, 0, none⟩) n n)).ownsRow w.heap.size 3 1 (.slice (some ⟨gN, 0, none⟩) n n) n (L.map (Value.int .i64))) := Lib.hid (by
      have h1 : L = fl.reverse := HL.out.symm.trans HRY.out.2
      rw [h1]
      exact ownsRow_setCell_other (ownsRow_setCell_other (own_base HO4.out HB2.out.size) (a := ⟨w.heap.size + 1 + 1, 0, none⟩) (by simp [Value.ownBlock]; omega) _) (a := ⟨w.heap.size + 1 + 1, 1, none⟩) (by simp [Value.ownBlock]; omega) _)
    have HSE : Hid (nd = S) := Lib.hid (by rw [← HS.out, HRY.out.1, HVS.out])
    have HNL : Hid (n = L.length) := Lib.hid (by rw [← HL.out, HRY.out.2, List.length_reverse, HN.out])
    go_wp2
    exact bodyPost_ret (v := .tuple #[.agg #[.int .i64 nd, .slice (some ⟨gN, 0, none⟩) n n], .bool true]) (by simp [results, Try.results47, go_sem, d0, d1, hszz]) rfl ⟨_, _, _, by rw [HSE.out, HBF.out], HNL, HF.out, (HBZ.out.setCell (p := ⟨w.heap.size + 1 + 1, 0, none⟩) (by show w.heap.size ≤ w.heap.size + 1 + 1; omega) _).setCell (p := ⟨w.heap.size + 1 + 1, 1, none⟩) (by show w.heap.size ≤ w.heap.size + 1 + 1; omega) _⟩
end Go.Proofs.Ytlankoameeacpaa
