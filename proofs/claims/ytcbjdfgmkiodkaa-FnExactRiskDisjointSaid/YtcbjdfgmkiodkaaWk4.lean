/- Routes: contract of the implementation's walksAlong. No condition but those typed. -/
import Derived.Test.YtcbjdfgmkiodkaaWk3
import Derived.Test.YtcbjdfgmkiodkaaMark
namespace Go.Proofs.Ytcbjdfgmkiodkaa
open Go.ChangeShapes Go.WideShapes Go.ChangeAt Go.RowKit

/-- a route as it lies in memory: its start, its slice, and what that reads as. -/
structure Rt where
  st : Int
  A : Option Addr
  n : Nat
  c : Nat
  zs : List Int
def Rt.cells (r : Rt) : List Value := [.int .i64 r.st, .slice r.A r.n r.c]
def RtAt (w : World) (r : Rt) : Prop := r.zs.length = r.n ∧ r.n ≤ 1048576 ∧ Rd w w.heap.size r.A (r.zs.map (Value.int .i64))
theorem RtAt.moved {w w' : World} {r : Rt} (h : RtAt w r) (hb : Below w.heap.size w w') : RtAt w' r := ⟨h.1, h.2.1, h.2.2.moved hb⟩
theorem Rd.rtc {w : World} {B b o : Nat} {rs : List Rt} (h : Rd w B (some ⟨b, o, none⟩) (rs.flatMap Rt.cells)) {k : Nat} (hk : k < rs.length) :
    b < B ∧ w.cell? ⟨b, o + k * 2, none⟩ = some (.int .i64 rs[k].st) ∧ w.cell? ⟨b, o + k * 2 + 1, none⟩ = some (.slice rs[k].A rs[k].n rs[k].c) := by
  have g := fun j hj => flat_get Rt.cells 2 rs (fun _ _ => rfl) k j hj
  rw [List.getElem?_eq_getElem hk] at g
  obtain ⟨ad, e, hb, h0⟩ := h (k * 2 + 0) _ (g 0 (by omega))
  obtain ⟨ad1, e1, _, h1⟩ := h (k * 2 + 1) _ (g 1 (by omega))
  injection e with e; subst e
  injection e1 with e1; subst e1
  have ea : ∀ m, (⟨b, o, none⟩ : Addr).add m = ⟨b, o + m, none⟩ := fun m => by unfold Addr.add; by_cases h : m = 0 <;> simp [h]
  rw [ea] at h0 h1
  exact ⟨hb, by simpa using h0, by simpa [Nat.add_assoc] using h1⟩
def ptrV (g : Nat) : Value := .pointer (some ⟨g, 0, none⟩)
theorem Try.inf_pw : (Try.prog.info? 211).map (fun i => (i.zero, i.size, i.bytes)) = some (some (.pointer none), 1, 8) := by kernel_rfl
theorem Lk.off {fs : List Q4} {w : World} {b o : Nat} {cur : Array Value} {fr : Nat × Nat} {T : TypeId} (hb : w.heap[b]? = some (.cells cur T fr)) (hT : T ≠ 213) (u : Value) : ∀ {xs : List Int} {g : Nat} {ns : List Int}, Lk fs w g xs ns → Lk fs (w.setCell ⟨b, o, none⟩ u) g xs ns
  | [], g, _, ⟨st, e, h⟩ => ⟨st, e, (Below.heap_setCell _ _ _ _ (fun e => by
      have e2 : g = b := e
      subst e2
      rw [h] at hb
      injection hb with hb
      injection hb with _ ht
      exact hT ht.symm)).trans h⟩
  | _ :: _, g, _, ⟨nx, ns', g', e, h, r⟩ => ⟨nx, ns', g', e, (Below.heap_setCell _ _ _ _ (fun e => by
      have e2 : g = b := e
      subst e2
      rw [h] at hb
      injection hb with hb
      injection hb with _ ht
      exact hT ht.symm)).trans h, Lk.off hb hT u r⟩
theorem own_heap_at {w : World} {B E s n g c : Nat} {xs : List Value} (h : w.ownsRow B E s (.slice (some ⟨g, 0, none⟩) n c) n xs) : ∃ cur, w.heap[g]? = some (.cells cur E (0, 0)) := by
  rcases h.2 with ⟨e, _⟩ | ⟨g', cap', cur, e, _, hh, _⟩
  · simp at e
  · injection e with e1; injection e1 with e1; injection e1 with e1
    subst e1
    exact ⟨cur, hh⟩
def WalksP (n1 : Nat) (fs : List Q4) (rs : List Rt) (w : World) (e : Ending) (w' : World) : Prop :=
  Below w.heap.size w w' ∧ (((∃ i, ∃ h : i < rs.length, routeN n1 fs rs[i].st rs[i].zs = none) ∧ e = .returned (.tuple #[.slice none 0 0, .bool false])) ∨
    ∃ (gw : Nat) (gs : List Nat), e = .returned (.tuple #[.slice (some ⟨gw, 0, none⟩) rs.length rs.length, .bool true]) ∧ gs.length = rs.length ∧
      w'.ownsRow w.heap.size 211 1 (.slice (some ⟨gw, 0, none⟩) rs.length rs.length) rs.length (gs.map ptrV) ∧
      ∀ i (h : i < rs.length) (h' : i < gs.length), ∃ vs, routeN n1 fs rs[i].st rs[i].zs = some vs ∧ Lk fs w' gs[i] rs[i].zs.reverse vs)

set_option maxRecDepth 100000 in
set_option maxHeartbeats 4000000 in
theorem walks_no {g1 g2 n1 n2 c1 c2 : Nat} {ss : List ByteArray} {fs : List Q4} {w : World} (h : NetAt g1 g2 n1 n2 c1 c2 ss fs w) (hv : ¬ netP ss fs) (V : Value) :
    Calls Try.prog 129 #[.agg #[.slice (some ⟨g1, 0, none⟩) n1 c1, .slice (some ⟨g2, 0, none⟩) n2 c2], V] w (RetP (.tuple #[.slice none 0 0, .bool false]) w) := by
  have hb0 := (Below.refl w.heap.size w).alloc (Nat.le_refl _) (Obj.cells #[.slice (some ⟨g1, 0, none⟩) n1 c1, .slice (some ⟨g2, 0, none⟩) n2 c2] 32)
  have CN := Lib.hid (implNet_ (h.moved hb0))
  have HB := Lib.hid hb0
  rw [pb_false hv] at CN
  clear h hv hb0
  go_enter Try.func129, Try.ntmps129
  go_wp2_with fail
  refine CN.out.mono ?_
  rintro e w1 ⟨rfl, hb1⟩
  have HB1 := Lib.hid (HB.out.trans (hb1.mono HB.out.size))
  clear hb1
  go_wp2
  go_ret2
  exact ⟨rfl, HB1.out⟩

set_option maxRecDepth 100000 in
set_option maxHeartbeats 8000000 in
theorem walks_ {g1 g2 n1 n2 c1 c2 : Nat} {ss : List ByteArray} {fs : List Q4} {w : World} (h : NetAt g1 g2 n1 n2 c1 c2 ss fs w) (hv : netP ss fs)
    {gr nr cr : Nat} {rs : List Rt} (hn : rs.length = nr) (hs : nr ≤ 1048576) (hr : Rd w w.heap.size (some ⟨gr, 0, none⟩) (rs.flatMap Rt.cells)) (hrs : ∀ r ∈ rs, RtAt w r) :
    Calls Try.prog 129 #[.agg #[.slice (some ⟨g1, 0, none⟩) n1 c1, .slice (some ⟨g2, 0, none⟩) n2 c2], .slice (some ⟨gr, 0, none⟩) nr cr] w (WalksP n1 fs rs w) := by
  obtain ⟨i0, hi, hz0_, hz1_, hz2_⟩ := info_parts Try.inf_pw
  have HI := Lib.hid hi; have HZ0 := Lib.hid hz0_; have HZ1 := Lib.hid hz1_; have HZ2 := Lib.hid hz2_
  have HN := Lib.hid hn; have HNT := Lib.hid h; have HR := Lib.hid hr; have HRS := Lib.hid hrs; have HV := Lib.hid hv
  have hb0 := (Below.refl w.heap.size w).alloc (Nat.le_refl _) (Obj.cells #[.slice (some ⟨g1, 0, none⟩) n1 c1, .slice (some ⟨g2, 0, none⟩) n2 c2] 32)
  have CN := Lib.hid (implNet_ (h.moved hb0))
  rw [pb_true hv] at CN
  clear hn h hr hrs hv hi hz0_ hz1_ hz2_ hb0
  go_enter Try.func129, Try.ntmps129
  go_wp2_with fail
  obtain ⟨W0, hW0⟩ : ∃ W0, w.alloc (Obj.cells #[.slice (some ⟨g1, 0, none⟩) n1 c1, .slice (some ⟨g2, 0, none⟩) n2 c2] 32) = W0 := ⟨_, rfl⟩
  have hb0 : Below w.heap.size w W0 := by rw [← hW0]; exact (Below.refl _ _).alloc (Nat.le_refl _) _
  have hk0 : W0.cell? ⟨w.heap.size, 0, none⟩ = some (.slice (some ⟨g1, 0, none⟩) n1 c1) := by rw [← hW0]; simp [go_sem]
  have hk1 : W0.cell? ⟨w.heap.size, 1, none⟩ = some (.slice (some ⟨g2, 0, none⟩) n2 c2) := by rw [← hW0]; simp [go_sem]
  have hz0 : w.heap.size < W0.heap.size := by rw [← hW0]; simp
  have HB0 := Lib.hid hb0; have HK0 := Lib.hid hk0; have HK1 := Lib.hid hk1; have HZB := Lib.hid hz0
  rw [hW0] at CN ⊢
  clear hW0 hb0 hk0 hk1 hz0
  refine CN.out.mono ?_
  rintro e w1 ⟨rfl, hb1⟩
  have HB1 := Lib.hid hb1
  clear hb1
  go_wp2_with (at_make; refine wpList_make_full _ rfl _ _ 154 rfl w1.heap.size 211 i0 _ 1 Try.underlying154 HI.out HZ0.out HZ1.out .i64 .i64 nr nr nr rfl rfl rfl rfl (by rw [HZ2.out]; omega) (by unfold maxLen; omega) (Nat.le_refl _) ?_)
  intro w2 hown hgrow
  have HB2 : Hid (Below w1.heap.size w1 w2) := Lib.hid ((Below.refl _ _).grown hgrow (Nat.le_refl _) (fun k h => by cases h))
  rw [toList_madeCells_one] at hown
  have HO2 := Lib.hid hown
  clear hgrow hown
  go_wp2
  go_loopw [19] (fun i wr => ∃ (k : Nat) (gs : List Nat), k ≤ nr ∧ i = .int .i64 k ∧ Hid (gs.length = k) ∧ Hid (wr.ownsRow w1.heap.size 211 1 (.slice (some ⟨w1.heap.size, 0, none⟩) nr nr) nr (gs.map ptrV ++ List.replicate (nr - k) (.pointer none)))
    ∧ Hid (∀ i (h : i < rs.length) (h' : i < gs.length), ∃ vs, routeN n1 fs rs[i].st rs[i].zs = some vs ∧ Lk fs wr gs[i] rs[i].zs.reverse vs) ∧ Below w1.heap.size w1 wr) (fun i _ => nr - (intOf i).toNat)
  case atStart => exact ⟨0, [], Nat.zero_le _, rfl, Lib.hid rfl, Lib.hid (by simpa using HO2.out), Lib.hid (fun i _ h' => absurd h' (by simp)), HB2.out⟩
  case round =>
    obtain ⟨k, gs, hk, rfl, HG, HO, HA, hb⟩ := hrel
    have HBA := Lib.hid (HB1.out.trans (hb.mono HB1.out.size))
    have HBW := Lib.hid (HB0.out.trans (HBA.out.mono HB0.out.size))
    by_cases hlt : k < nr
    case neg =>
      obtain rfl : k = nr := by omega
      have HF : Hid (wr.ownsRow w.heap.size 211 1 (.slice (some ⟨w1.heap.size, 0, none⟩) k k) k (gs.map ptrV)) := Lib.hid (by
        have := HO.out
        rw [Nat.sub_self, List.replicate_zero, List.append_nil] at this
        exact own_base this (by have := HB0.out.size; have := HB1.out.size; omega))
      clear hlt
      go_wp2
      go_ret2
      refine ⟨HBW.out, .inr ⟨w1.heap.size, gs, ?_, ?_, ?_, ?_⟩⟩
      · rw [HN.out]; rfl
      · rw [HN.out]; exact HG.out
      · rw [HN.out]; exact HF.out
      · intro i h h'
        obtain ⟨vs, h1, h2⟩ := HA.out i h h'
        exact ⟨vs, h1, h2⟩
    case pos =>
    have hkr : k < rs.length := by have := HN.out; omega
    obtain ⟨hgr, f0, f1⟩ := HR.out.rtc hkr
    rw [Nat.zero_add, ← HBW.out.cell (p := ⟨gr, k * 2, none⟩) hgr] at f0
    rw [Nat.zero_add, ← HBW.out.cell (p := ⟨gr, k * 2 + 1, none⟩) hgr] at f1
    have hrt := HRS.out rs[k] (List.getElem_mem hkr)
    obtain ⟨⟨st, A, n, c, zs⟩, hq⟩ : ∃ q, rs[k]'hkr = q := ⟨_, rfl⟩
    rw [hq] at f0 f1 hrt
    simp only at f0 f1
    have HQ := Lib.hid hq
    obtain ⟨ht1, ht2, ht3⟩ := hrt
    have HT1 := Lib.hid ht1; have HT3 := Lib.hid ht3
    simp only at ht2
    have hk0 := (HBA.out.cell (p := ⟨w.heap.size, 0, none⟩) HZB.out).trans HK0.out
    have hk1 := (HBA.out.cell (p := ⟨w.heap.size, 1, none⟩) HZB.out).trans HK1.out
    have hzw : w.heap.size < wr.heap.size := Nat.lt_of_lt_of_le HZB.out HBA.out.size
    have hgrw : gr < wr.heap.size := Nat.lt_of_lt_of_le hgr HBW.out.size
    have HBX := Lib.hid (HBW.out.alloc HBW.out.size (Obj.cells #[.int .i64 st, .slice A n c] 45))
    have HBY := Lib.hid (hb.alloc hb.size (Obj.cells #[.int .i64 st, .slice A n c] 45))
    have HBZ := Lib.hid ((Below.refl wr.heap.size wr).alloc (Nat.le_refl _) (Obj.cells #[.int .i64 st, .slice A n c] 45))
    have CW := Lib.hid (walkAlong_ (c := c) (HNT.out.moved HBX.out) HV.out st HT1.out (HT3.out.moved HBX.out) ht2)
    have hne := Nat.ne_of_lt hzw
    clear hq ht1 ht3
    go_wp2_with fail
    refine CW.out.mono ?_
    rintro e w3 ⟨hb3, h3⟩
    have HB3 := Lib.hid (HBX.out.trans (hb3.mono HBX.out.size))
    have HB3R := Lib.hid (HBZ.out.trans (hb3.mono HBZ.out.size))
    have HB3A := Lib.hid (HBY.out.trans (hb3.mono HBY.out.size))
    clear hb3
    rcases h3 with ⟨hs3, rfl⟩ | ⟨vs, g3, hs3, rfl, hl3⟩
    · have HE : Hid (∃ i, ∃ h : i < rs.length, routeN n1 fs rs[i].st rs[i].zs = none) := Lib.hid ⟨k, hkr, by rw [HQ.out]; exact hs3⟩
      clear hs3
      go_wp2
      go_ret2
      exact ⟨HB3.out, .inl ⟨HE.out, rfl⟩⟩
    · have ho3 := ownB HO.out HB3R.out
      have hgk := HG.out
      have hold := ho3.cellAt k (by omega)
      rw [List.getElem?_append_right (by simp; omega)] at hold
      have hold2 : w3.cell? ⟨w1.heap.size, k, none⟩ = some (.pointer none) := by
        rw [hold, List.length_map, hgk, Nat.sub_self, List.getElem?_replicate, if_pos (by omega)]
      have hfz := ho3.frozenAt k
      have hst := (ho3.stored k (ptrV g3)).1
      have hse : (gs.map ptrV ++ List.replicate (nr - k) (Value.pointer none)).set k (ptrV g3) = (gs ++ [g3]).map ptrV ++ List.replicate (nr - (k + 1)) (Value.pointer none) := by
        have e : nr - k = (nr - (k + 1)) + 1 := by omega
        rw [List.set_append_right _ _ (by simp; omega), List.length_map, hgk, Nat.sub_self, e, List.replicate_succ, List.set_cons_zero, List.map_append]
        simp
      rw [hse] at hst
      have HST := Lib.hid hst
      obtain ⟨cur, hcur⟩ := own_heap_at ho3
      have hHA : ∀ i (h : i < rs.length) (h' : i < (gs ++ [g3]).length), ∃ vs, routeN n1 fs rs[i].st rs[i].zs = some vs ∧ Lk fs (w3.setCell ⟨w1.heap.size, k, none⟩ (ptrV g3)) (gs ++ [g3])[i] rs[i].zs.reverse vs := by
        intro i h h'
        by_cases hik : i < gs.length
        · rw [List.getElem_append_left hik]
          obtain ⟨v, e1, e2⟩ := HA.out i h hik
          exact ⟨v, e1, (e2.over HB3R.out).off hcur (by decide) _⟩
        · have hik2 : i = k := by rw [List.length_append, List.length_singleton] at h'; omega
          subst hik2
          refine ⟨vs, by rw [HQ.out]; exact hs3, ?_⟩
          have eg : (gs ++ [g3])[i] = g3 := by rw [List.getElem_append_right (by omega)]; simp
          rw [eg, HQ.out]
          exact hl3.off hcur (by decide) _
      have HAA := Lib.hid hHA
      have HGG : Hid ((gs ++ [g3]).length = k + 1) := Lib.hid (by rw [List.length_append, hgk]; rfl)
      have HBS := Lib.hid (HB3A.out.setCell (p := ⟨w1.heap.size, k, none⟩) (Nat.le_refl _) (ptrV g3))
      have hl0 := hold2
      have hf0 := hfz
      have HUN : Hid (ptrV g3 = .pointer (some ⟨g3, 0, none⟩)) := Lib.hid rfl
      unfold ptrV at HST HAA HBS
      clear hs3 hl3 ho3 hgk hold hold2 hfz hst hse hcur hHA
      go_wp2
      go_roundw
      case rel => exact ⟨k + 1, gs ++ [g3], by omega, by go_num, HGG, HST, HAA, HBS.out⟩
      case measure => simp [intOf]; omega
end Go.Proofs.Ytcbjdfgmkiodkaa
