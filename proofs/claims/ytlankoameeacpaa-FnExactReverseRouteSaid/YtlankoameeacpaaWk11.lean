/- Routes: the reverse of a route: a contract of the specification. No condition but those typed. -/
import Derived.Test.YtlankoameeacpaaWk10
import Derived.Test.YtlankoameeacpaaIntW
import Derived.Deep.AppendLies
import Derived.Deep.RegionLaw
import Derived.OneCell
namespace Go.Proofs.Ytlankoameeacpaa
open Go.ChangeShapes Go.WideShapes Go.ChangeAt Go.RowKit

theorem rrev_len (ss : List ByteArray) (fs : List Q4) (st : Int) (fl : List Int) : (rrevL ss fs st fl).length ≤ fl.length := by
  unfold rrevL; split
  · rw [List.length_reverse]; exact Nat.le_refl _
  · simp
theorem kept_mk {w W w3 : World} {o : Obj} {B E s n : Nat} {v : Value} {xs : List Value} {row : Option Nat} (h : w.ownsRow B E s v n xs) (e : W.heap = (w.alloc o).heap) (hg : W.grownBy w3 row) (hne : v.ownBlock ≠ row) : w3.ownsRow B E s v n xs :=
  (own_heapW e (h.alloc o)).kept hg (.inr hne)
set_option maxRecDepth 100000 in
set_option maxHeartbeats 4000000 in
theorem specRR {g1 g2 n1 n2 c1 c2 : Nat} {ss : List ByteArray} {fs : List Q4} {w : World} (h : NetAt g1 g2 n1 n2 c1 c2 ss fs w) (st : Int)
    {A : Option Addr} {n c : Nat} {fl : List Int} (hn : fl.length = n) (hr : Rd w w.heap.size A (fl.map (Value.int .i64))) (hx : n ≤ 1048576) :
    Calls Try.prog 46 #[.agg #[.slice (some ⟨g1, 0, none⟩) n1 c1, .slice (some ⟨g2, 0, none⟩) n2 c2], .agg #[.int .i64 st, .slice A n c]] w (RtP (rrevS ss fs st fl) (rrevL ss fs st fl) (routeB ss fs st fl) w) := by
  obtain ⟨i0, hi, hz0_, hz1_, hz2_⟩ := info_parts Try.inf_int
  have HI := Lib.hid hi; have HIZ0 := Lib.hid hz0_; have HIZ1 := Lib.hid hz1_; have HIZ2 := Lib.hid hz2_
  clear hi hz0_ hz1_ hz2_
  have HN := Lib.hid hn; have HNT := Lib.hid h; have HR := Lib.hid hr
  have HL1 := Lib.hid h.ln1
  clear hn h hr
  obtain ⟨S, hS⟩ : ∃ S, rrevS ss fs st fl = S := ⟨_, rfl⟩
  obtain ⟨L, hL⟩ : ∃ L, rrevL ss fs st fl = L := ⟨_, rfl⟩
  obtain ⟨b, hbq⟩ : ∃ b, routeB ss fs st fl = b := ⟨_, rfl⟩
  rw [hS, hL, hbq]
  have HS := Lib.hid hS; have HL := Lib.hid hL; have HBQ := Lib.hid hbq
  clear hS hL hbq
  go_enter Try.func46, Try.ntmps46
  go_wp2_with fail
  obtain ⟨W0, hW0⟩ : ∃ W0, ((w.alloc (Obj.cells #[.slice (some ⟨g1, 0, none⟩) n1 c1, .slice (some ⟨g2, 0, none⟩) n2 c2] 42)).alloc (Obj.cells #[.int .i64 st, .slice A n c] 73)).alloc (Obj.cells #[.int .i64 0, .slice none 0 0] 73) = W0 := ⟨_, rfl⟩
  have hb0 : Below w.heap.size w W0 := by rw [← hW0]; exact (((Below.refl _ _).alloc (Nat.le_refl _) _).alloc (by simp) _).alloc (by simp; omega) _
  have ho0 : W0.ownsRow w.heap.size 73 2 (.slice (some ⟨w.heap.size + 1 + 1, 0, none⟩) 1 1) 1 [.int .i64 0, .slice none 0 0] := by
    rw [← hW0]
    have := one_rowR ((w.alloc (Obj.cells #[.slice (some ⟨g1, 0, none⟩) n1 c1, .slice (some ⟨g2, 0, none⟩) n2 c2] 42)).alloc (Obj.cells #[.int .i64 st, .slice A n c] 73)) (.int .i64 0) (.slice none 0 0) rfl rfl (base := w.heap.size) (by simp; omega)
    simpa using this
  have k0 : W0.cell? ⟨w.heap.size, 0, none⟩ = some (.slice (some ⟨g1, 0, none⟩) n1 c1) := by rw [← hW0]; simp [go_sem]
  have k1 : W0.cell? ⟨w.heap.size, 1, none⟩ = some (.slice (some ⟨g2, 0, none⟩) n2 c2) := by rw [← hW0]; simp [go_sem]
  have k2 : W0.cell? ⟨w.heap.size + 1, 0, none⟩ = some (.int .i64 st) := by rw [← hW0]; simp [go_sem]
  have k3 : W0.cell? ⟨w.heap.size + 1, 1, none⟩ = some (.slice A n c) := by rw [← hW0]; simp [go_sem]
  have hz0 : w.heap.size + 1 < W0.heap.size := by rw [← hW0]; simp
  have HB0 := Lib.hid hb0; have HK0 := Lib.hid k0; have HK1 := Lib.hid k1; have HK2 := Lib.hid k2; have HK3 := Lib.hid k3; have HZ0 := Lib.hid hz0
  rw [hW0]
  clear hW0 hb0 k0 k1 k2 k3 hz0
  have HO1 := Lib.hid ho0
  clear ho0
  refine (l4Good_ (c := c) (HNT.out.moved HB0.out) st HN.out (HR.out.moved HB0.out) hx).mono ?_
  rintro e w1 ⟨rfl, hb⟩
  rw [HBQ.out]
  have HB2 := Lib.hid (HB0.out.trans (hb.mono HB0.out.size))
  have HO2 := Lib.hid (ownB HO1.out hb)
  cases b
  case false =>
    have HRN := Lib.hid (rrev_no HBQ.out)
    have HBF : Hid (false = false) := Lib.hid rfl
    clear hb
    have d0 := HO2.out.cellAt 0 (by omega)
    have d1 := HO2.out.cellAt 1 (by omega)
    simp only [List.getElem?_cons_zero, List.getElem?_cons_succ] at d0 d1
    have e0_ := HO2.out.frozenAt 0
    have e1_ := HO2.out.frozenAt 1
    have hszz := (HO2.out.lt (w.heap.size + 1 + 1) rfl).2
    have HSE : Hid (S = 0 ∧ L = []) := Lib.hid ⟨HS.out.symm.trans HRN.out.1, HL.out.symm.trans HRN.out.2⟩
    go_wp2
    exact bodyPost_ret (v := .tuple #[.agg #[.int .i64 0, .slice none 0 0], .bool false]) (by simp [results, Try.results46, go_sem, d0, d1, hszz]) rfl ⟨none, 0, 0, by rw [HSE.out.1], Lib.hid (by rw [HSE.out.2]; rfl), by rw [HSE.out.2]; exact World.ownsRow_nil _ _ _ _, (HB2.out.setCell (p := ⟨w.heap.size + 1 + 1, 0, none⟩) (by show w.heap.size ≤ w.heap.size + 1 + 1; omega) _).setCell (p := ⟨w.heap.size + 1 + 1, 1, none⟩) (by show w.heap.size ≤ w.heap.size + 1 + 1; omega) _⟩
  case true =>
  obtain ⟨hnet, vs, hvs⟩ := routeB_yes HBQ.out
  have HRY := Lib.hid (rrev_yes HBQ.out hvs)
  rw [HL1.out] at hvs
  have CE := Lib.hid (l4End_ (c := c) (HNT.out.moved HB2.out) hnet st HN.out (HR.out.moved HB2.out) hx hvs)
  obtain ⟨nd, hnd⟩ : ∃ nd, vs.headD 0 = nd := ⟨_, rfl⟩
  rw [hnd] at CE HRY
  have k0 := (hb.cell (p := ⟨w.heap.size, 0, none⟩) (by show w.heap.size < _; have := HZ0.out; omega)).trans HK0.out
  have k1 := (hb.cell (p := ⟨w.heap.size, 1, none⟩) (by show w.heap.size < _; have := HZ0.out; omega)).trans HK1.out
  have k2 := (hb.cell (p := ⟨w.heap.size + 1, 0, none⟩) (by show w.heap.size + 1 < _; have := HZ0.out; omega)).trans HK2.out
  have k3 := (hb.cell (p := ⟨w.heap.size + 1, 1, none⟩) (by show w.heap.size + 1 < _; have := HZ0.out; omega)).trans HK3.out
  have HZ1 : Hid (w.heap.size + 1 + 1 < w1.heap.size) := Lib.hid (HO2.out.lt (w.heap.size + 1 + 1) rfl).2
  clear hnet hvs hnd
  go_wp2_with fail
  refine CE.out.mono ?_
  rintro e w2 ⟨rfl, hb3⟩
  have HB3 := Lib.hid (HB2.out.trans (hb3.mono HB2.out.size))
  have HO3 := Lib.hid (ownB HO2.out hb3)
  have hz2 : w.heap.size + 1 + 1 < w2.heap.size := Nat.lt_of_lt_of_le HZ1.out hb3.size
  have HB23 := Lib.hid hb3
  clear k0 k1 hb3
  have k2w := (Lib.hid k2).out
  clear k2 k2w
  have HK3W : Hid (∀ V, Below w2.heap.size w2 V → V.cell? ⟨w.heap.size + 1, 1, none⟩ = some (.slice A n c)) := Lib.hid fun V hV => (hV.cell (p := ⟨_, _, none⟩) (by show w.heap.size + 1 < _; omega)).trans ((HB23.out.cell (p := ⟨w.heap.size + 1, 1, none⟩) (by show w.heap.size + 1 < _; have := HZ1.out; omega)).trans k3)
  have hk3 := HK3W.out _ (Below.refl _ _)
  have hlt1 : w.heap.size + 1 < w2.heap.size := by omega
  have hn1 : IntKind.i64.wrap ((n : Int) - 1) = (n : Int) - 1 := IntWalk.i64_in _ (by omega)
  go_wp2_with fail
  obtain ⟨V, hV⟩ : ∃ V, (w2.alloc (Obj.cells #[.int .i64 nd, .slice none 0 0] 73)) = V := ⟨_, rfl⟩
  have hov : V.ownsRow w2.heap.size 73 2 (.slice (some ⟨w2.heap.size, 0, none⟩) 1 1) 1 [.int .i64 nd, .slice none 0 0] := by rw [← hV]; exact one_rowR w2 _ _ rfl rfl (Nat.le_refl _)
  have hbv : Below w2.heap.size w2 V := by rw [← hV]; exact (Below.refl _ _).alloc (Nat.le_refl _) _
  have hzv : V.heap.size = w2.heap.size + 1 := by rw [← hV]; simp
  rw [hV]
  have HOV := Lib.hid hov; have HBV := Lib.hid hbv; have HZV := Lib.hid hzv
  clear hV hov hbv hzv hk3 k3
  have hk3 := HK3W.out _ HBV.out
  go_wp2
  clear hk3
  clear hlt1 hn1
  have HLT2 : Hid (w.heap.size + 2 < w2.heap.size) := Lib.hid (by omega)
  have HLTW : Hid (w.heap.size + 1 < w2.heap.size) := Lib.hid (by omega)
  have HRL : Hid (∀ W, Below w2.heap.size w2 W → Rd W W.heap.size A (fl.map (Value.int .i64))) := Lib.hid fun W hW => HR.out.moved (HB3.out.trans (hW.mono HB3.out.size))
  go_loopw [7] (fun i wr => ∃ (k : Nat) (B : Option Addr) (N cc : Nat), k ≤ n ∧ i = .int .i64 ((n : Int) - 1 - k) ∧ Hid (N = k) ∧ Hid (wr.ownsRow w2.heap.size 73 2 (.slice (some ⟨w2.heap.size, 0, none⟩) 1 1) 1 [.int .i64 nd, .slice B N cc]) ∧ Hid (wr.ownsRow (w2.heap.size + 1) 3 1 (.slice B N cc) N ((fl.reverse.take k).map (Value.int .i64))) ∧ Below w2.heap.size w2 wr ∧ w2.heap.size < wr.heap.size) (fun i _ => ((intOf i) + 1).toNat)
  case atStart => exact ⟨0, none, 0, 0, Nat.zero_le _, by go_num, Lib.hid rfl, HOV, Lib.hid (by simpa using World.ownsRow_nil _ _ _ _), HBV.out, by have := HZV.out; omega⟩
  case round =>
    obtain ⟨k, B, N, cc, hk, rfl, HNK, HQ, HQL, hb, hzr⟩ := hrel
    have hk3 := HK3W.out _ hb
    have hltr : w.heap.size + 1 < wr.heap.size := by have := HLTW.out; omega
    have c0 := HQ.out.cellAt 0 (by omega)
    have c1 := HQ.out.cellAt 1 (by omega)
    simp only [List.getElem?_cons_zero, List.getElem?_cons_succ] at c0 c1
    have z0_ := HQ.out.frozenAt 0
    have z1_ := HQ.out.frozenAt 1
    by_cases hlt : k < n
    case neg =>
      have hkn : k = n := by omega
      have HO5 := Lib.hid (ownB HO3.out hb)
      have HBZ := Lib.hid (HB3.out.trans (hb.mono HB3.out.size))
      have d0 := HO5.out.cellAt 0 (by omega)
      have d1 := HO5.out.cellAt 1 (by omega)
      simp only [List.getElem?_cons_zero, List.getElem?_cons_succ] at d0 d1
      have e0_ := HO5.out.frozenAt 0
      have e1_ := HO5.out.frozenAt 1
      have hszz := (HO5.out.lt (w.heap.size + 1 + 1) rfl).2
      have hne : (Value.slice B N cc).ownBlock ≠ some (w.heap.size + 1 + 1) := fun e => by have := (HQL.out.lt _ e).1; have := HLT2.out; omega
      have HF : Hid (((wr.setCell ⟨w.heap.size + 1 + 1, 0, none⟩ (.int .i64 nd)).setCell ⟨w.heap.size + 1 + 1, 1, none⟩ (.slice B N cc)).ownsRow w.heap.size 3 1 (.slice B N cc) N (L.map (Value.int .i64))) := Lib.hid (by
        have h1 : L = fl.reverse.take k := by rw [List.take_of_length_le (by rw [List.length_reverse]; have := HN.out; omega)]; exact HL.out.symm.trans HRY.out.2
        rw [h1]
        exact ownsRow_setCell_other (ownsRow_setCell_other (own_base HQL.out (by have := HLT2.out; omega)) (a := ⟨w.heap.size + 1 + 1, 0, none⟩) hne _) (a := ⟨w.heap.size + 1 + 1, 1, none⟩) hne _)
      have HSE : Hid (nd = S) := Lib.hid (by rw [← HS.out, HRY.out.1])
      have HNL : Hid (N = L.length) := Lib.hid (by rw [← HL.out, HRY.out.2, List.length_reverse, HN.out, HNK.out, hkn])
      have hneg : (n : Int) - 1 - k < 0 := by omega
      have hge : decide (0 ≤ (n : Int) - 1 - (k : Int)) = false := decide_eq_false (by omega)
      have hiv : (n : Int) - 1 - (k : Int) = -1 := by omega
      rw [hiv]
      clear hge hneg hiv hkn hlt hk hne hk3 hltr
      go_wp2
      exact bodyPost_ret (v := .tuple #[.agg #[.int .i64 nd, .slice B N cc], .bool true]) (by simp [results, Try.results46, go_sem, d0, d1, hszz]) rfl ⟨_, _, _, by rw [HSE.out], HNL, HF.out, (HBZ.out.setCell (p := ⟨w.heap.size + 1 + 1, 0, none⟩) (by show w.heap.size ≤ w.heap.size + 1 + 1; omega) _).setCell (p := ⟨w.heap.size + 1 + 1, 1, none⟩) (by show w.heap.size ≤ w.heap.size + 1 + 1; omega) _⟩
    case pos =>
      obtain ⟨m, hm⟩ : ∃ m, n = k + 1 + m := ⟨n - k - 1, by omega⟩
      have him : (n : Int) - 1 - k = (m : Int) := by omega
      have hmn : m < n := by omega
      have hms : m < fl.length := by have := HN.out; omega
      obtain ⟨ad, rfl, hadl, hcell⟩ := (HRL.out _ hb).got (k := m) (by simpa using hms)
      simp only [List.getElem_map] at hcell
      obtain ⟨x, hx'⟩ : ∃ x, fl[m]'hms = x := ⟨_, rfl⟩
      rw [hx'] at hcell
      have HTK : Hid (fl.reverse.take (k + 1) = fl.reverse.take k ++ [x]) := Lib.hid (by
        have hkr : k < fl.reverse.length := by rw [List.length_reverse]; have := HN.out; omega
        rw [List.take_succ_eq_append_getElem hkr, List.getElem_reverse]
        congr 2
        rw [← hx']
        congr 1
        have := HN.out; omega)
      rw [him]
      have HM : Hid (n = k + 1 + m) := Lib.hid hm
      have hmi : (m : Int) < n := by omega
      have hnn : ¬ (m : Int) < 0 := by omega
      clear hm hx' him hlt
      have hdr : ∀ t d o u p, ({ heap := wr.heap, tape := t, drawn := d, os := o, output := u } : World).cell? p = wr.cell? p := fun _ _ _ _ _ => rfl
      have HNE : Hid ((Value.slice B N cc).ownBlock ≠ some w2.heap.size) := Lib.hid fun e => by have := (HQL.out.lt _ e).1; omega
      have hN : N ≤ 1048576 := by have := HNK.out; omega
      have HBR := Lib.hid hb
      clear hdr hb
      go_wp2
      go_region_law (refine step_append_lies _ rfl (.tmp 26) (.tmp 32) 55 rfl (w2.heap.size + 1) 3 i0 (.int .i64 0) 1 8 Try.underlying55 HI.out HIZ0.out HIZ1.out HIZ2.out rfl (by decide) (.slice B N cc) N _ (by simp [Act.eval, Act.put]) (own_heapW (w := wr.alloc (Obj.cells #[.int .i64 x] 3)) rfl (HQL.out.alloc _)) ⟨wr.heap.size, 0, none⟩ 1 1 [.int .i64 x] (by simp [Act.eval, Act.put]) rfl (new_one1 _ _ _ _ rfl) (new_int _) (by omega) (by unfold maxLen; omega) (by omega) (by simp; omega) _ rfl ?_; intro g cap w3 hown hgrow hat hlt; have hq3 := kept_mk (o := Obj.cells #[.int .i64 x] 3) HQ.out (by rfl) hgrow (fun e => HNE.out e.symm); have z3_ := hq3.frozenAt 1; have c3_ : w3.cell? ⟨w2.heap.size, 1, none⟩ = some (.slice B N cc) := hq3.cellAt 1 (by omega))
      all_goals
        have hS := (hq3.stored 1 (.slice (some ⟨g, 0, none⟩) (N + 1) cap)).1
        have hR := ownsRow_setCell_below hown (a := ⟨w2.heap.size, 1, none⟩) (by show w2.heap.size < w2.heap.size + 1; omega) (.slice (some ⟨g, 0, none⟩) (N + 1) cap)
        have hb3 : Below w2.heap.size w2 w3 := (HBR.out.alloc (by omega) (Obj.cells #[.int .i64 x] 3)).drew.grown hgrow (by have := HBR.out.size; simp; omega) (fun g hg => by have := (HQL.out.lt g hg).1; omega)
        have hb4 : Below w2.heap.size w2 (w3.setCell ⟨w2.heap.size, 1, none⟩ (.slice (some ⟨g, 0, none⟩) (N + 1) cap)) := hb3.setCell (p := ⟨w2.heap.size, 1, none⟩) (Nat.le_refl _) _
        have hz4 : w2.heap.size < (w3.setCell ⟨w2.heap.size, 1, none⟩ (.slice (some ⟨g, 0, none⟩) (N + 1) cap)).heap.size := (hS.lt w2.heap.size rfl).2
        have HS4 : Hid ((w3.setCell ⟨w2.heap.size, 1, none⟩ (.slice (some ⟨g, 0, none⟩) (N + 1) cap)).ownsRow w2.heap.size 73 2 (.slice (some ⟨w2.heap.size, 0, none⟩) 1 1) 1 [.int .i64 nd, .slice (some ⟨g, 0, none⟩) (N + 1) cap]) := Lib.hid hS
        have HR4 : Hid ((w3.setCell ⟨w2.heap.size, 1, none⟩ (.slice (some ⟨g, 0, none⟩) (N + 1) cap)).ownsRow (w2.heap.size + 1) 3 1 (.slice (some ⟨g, 0, none⟩) (N + 1) cap) (N + 1) ((fl.reverse.take (k + 1)).map (Value.int .i64))) := Lib.hid (by rw [HTK.out, List.map_append]; exact hR)
        have HB4 := Lib.hid hb4; have HZ4 := Lib.hid hz4
        clear hS hR hb3 hb4 hz4 hown hgrow hat hlt hq3 z3_ c3_
        generalize (w3.setCell ⟨w2.heap.size, 1, none⟩ (.slice (some ⟨g, 0, none⟩) (N + 1) cap)) = w5 at *
        go_wp2
        go_roundw
        case rel => exact ⟨k + 1, some ⟨g, 0, none⟩, N + 1, cap, by have := HM.out; omega, by have := HM.out; congr 1; omega, Lib.hid (by rw [HNK.out]), HS4, HR4, HB4.out, HZ4.out⟩
        case measure => simp [intOf]
end Go.Proofs.Ytlankoameeacpaa
