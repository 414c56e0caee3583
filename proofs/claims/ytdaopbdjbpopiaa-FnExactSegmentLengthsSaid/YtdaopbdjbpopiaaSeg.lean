/- Routes: the lengths of the pieces of a route: contracts of SegmentLengths, both sides. No condition but those typed. -/
import Derived.Test.YtdaopbdjbpopiaaReg
import Derived.StillTailTactics
namespace Go.Proofs.Ytdaopbdjbpopiaa
open Go.ChangeShapes Go.WideShapes Go.ChangeAt Go.RowKit

noncomputable def sgS (fs : List Q4) (fl vs ks : List Int) : Nat → Nat × Int × List Int
  | 0 => (0, 0, [])
  | k + 1 => if (sgS fs fl vs ks k).1 < ks.length ∧ 0 < k ∧ ks.getD (sgS fs fl vs ks k).1 0 = vs.getD k 0 then ((sgS fs fl vs ks k).1 + 1, lnK fs fl k, (sgS fs fl vs ks k).2.2 ++ [(sgS fs fl vs ks k).2.1])
    else ((sgS fs fl vs ks k).1, (sgS fs fl vs ks k).2.1 + lnK fs fl k, (sgS fs fl vs ks k).2.2)
theorem sg_cut {fs : List Q4} {fl vs ks : List Int} {k a : Nat} {s l v : Int} {L : List Int} (e : sgS fs fl vs ks k = (a, s, L)) (el : lnK fs fl k = l) (ev : vs.getD k 0 = v) (h : a < ks.length ∧ 0 < k ∧ ks.getD a 0 = v) : sgS fs fl vs ks (k + 1) = (a + 1, l, L ++ [s]) := by
  rw [sgS, e, el, ev]; exact if_pos h
theorem sg_stay {fs : List Q4} {fl vs ks : List Int} {k a : Nat} {s l v : Int} {L : List Int} (e : sgS fs fl vs ks k = (a, s, L)) (el : lnK fs fl k = l) (ev : vs.getD k 0 = v) (h : ¬ (a < ks.length ∧ 0 < k ∧ ks.getD a 0 = v)) : sgS fs fl vs ks (k + 1) = (a, s + l, L) := by
  rw [sgS, e, el, ev]; exact if_neg h
theorem sg_len (fs : List Q4) (fl vs ks : List Int) : ∀ k, (sgS fs fl vs ks k).2.2.length = (sgS fs fl vs ks k).1 ∧ (sgS fs fl vs ks k).1 ≤ k - 1
  | 0 => ⟨rfl, Nat.le_refl _⟩
  | k + 1 => by
    have h1 := sg_len fs fl vs ks k
    rw [sgS]
    split
    · next h =>
      refine ⟨by simp [h1.1], ?_⟩
      have := h.2.1
      show (sgS fs fl vs ks k).1 + 1 ≤ k + 1 - 1
      omega
    · refine ⟨h1.1, ?_⟩
      show (sgS fs fl vs ks k).1 ≤ k + 1 - 1
      omega
noncomputable def segP (ss : List ByteArray) (fs : List Q4) (st : Int) (fl ks : List Int) : Prop := routeB ss fs st fl = true ∧ ¬ (sgS fs fl (rnodL ss fs st fl) ks fl.length).1 < ks.length
noncomputable def segB (ss : List ByteArray) (fs : List Q4) (st : Int) (fl ks : List Int) : Bool := pb (segP ss fs st fl ks)
noncomputable def segL (ss : List ByteArray) (fs : List Q4) (st : Int) (fl ks : List Int) : List Int := if segB ss fs st fl ks then (sgS fs fl (rnodL ss fs st fl) ks fl.length).2.2 ++ [(sgS fs fl (rnodL ss fs st fl) ks fl.length).2.1] else []
theorem seg_no {ss : List ByteArray} {fs : List Q4} {st : Int} {fl ks : List Int} (e : ¬ segP ss fs st fl ks) : segL ss fs st fl ks = [] ∧ segB ss fs st fl ks = false := by
  have hb : segB ss fs st fl ks = false := pb_false e
  exact ⟨by unfold segL; rw [hb]; rfl, hb⟩
theorem seg_yes {ss : List ByteArray} {fs : List Q4} {st : Int} {fl ks : List Int} (e : segP ss fs st fl ks) : segL ss fs st fl ks = (sgS fs fl (rnodL ss fs st fl) ks fl.length).2.2 ++ [(sgS fs fl (rnodL ss fs st fl) ks fl.length).2.1] ∧ segB ss fs st fl ks = true := by
  have hb : segB ss fs st fl ks = true := pb_true e
  exact ⟨by unfold segL; rw [hb]; rfl, hb⟩
theorem segL_len (ss : List ByteArray) (fs : List Q4) (st : Int) (fl ks : List Int) : (segL ss fs st fl ks).length ≤ fl.length - 1 + 1 := by
  unfold segL
  split
  · have := sg_len fs fl (rnodL ss fs st fl) ks fl.length
    rw [List.length_append, this.1]
    exact Nat.add_le_add_right this.2 1
  · simp
theorem set_last (L : List Int) (s z : Int) (a : Nat) (h : L.length = a) : ((L ++ [s]).map (Value.int .i64)).set a (.int .i64 z) = (L ++ [z]).map (Value.int .i64) := by
  subst h
  rw [List.map_append, List.set_append_right _ _ (by simp), List.map_append]
  simp
theorem get_last (L : List Int) (s : Int) (a : Nat) (h : L.length = a) : (L ++ [s]).getD a 0 = s := by
  subst h; simp [List.getD_eq_getElem?_getD]

set_option maxRecDepth 100000 in
set_option maxHeartbeats 16000000 in
theorem implSG {g1 g2 n1 n2 c1 c2 : Nat} {ss : List ByteArray} {fs : List Q4} {w : World} (hnet0 : NetAt g1 g2 n1 n2 c1 c2 ss fs w) (st : Int)
    {A : Option Addr} {n c : Nat} {fl : List Int} (hn : fl.length = n) (hr : Rd w w.heap.size A (fl.map (Value.int .i64))) (hx : n ≤ 1048576) {B : Option Addr} {m c2' : Nat} {ks : List Int} (hm : ks.length = m) (hrk : Rd w w.heap.size B (ks.map (Value.int .i64))) (hxk : m ≤ 1048576) :
    Calls Try.prog 53 #[.agg #[.slice (some ⟨g1, 0, none⟩) n1 c1, .slice (some ⟨g2, 0, none⟩) n2 c2], .agg #[.int .i64 st, .slice A n c], .slice B m c2'] w (IntsP (segL ss fs st fl ks) (segB ss fs st fl ks) w) := by
  have HNT := Lib.hid hnet0; have HN := Lib.hid hn; have HR := Lib.hid hr
  have HM := Lib.hid hm; have HRK := Lib.hid hrk
  have HL1 := Lib.hid hnet0.ln1
  have HL2 := Lib.hid hnet0.ln2
  have hs1 := hnet0.sm1
  have hs2 := hnet0.sm2
  clear hnet0 hn hr hm hrk
  obtain ⟨RL, hRL⟩ : ∃ r, segL ss fs st fl ks = r := ⟨_, rfl⟩
  obtain ⟨RB, hRB⟩ : ∃ r, segB ss fs st fl ks = r := ⟨_, rfl⟩
  rw [hRL, hRB]
  have HRL := Lib.hid hRL; have HRB := Lib.hid hRB
  clear hRL hRB
  have HNO : Hid (¬ segP ss fs st fl ks → RL = [] ∧ RB = false) := Lib.hid (fun e => by rw [← HRL.out, ← HRB.out]; exact seg_no e)
  have HYES : Hid (segP ss fs st fl ks → RL = (sgS fs fl (rnodL ss fs st fl) ks fl.length).2.2 ++ [(sgS fs fl (rnodL ss fs st fl) ks fl.length).2.1] ∧ RB = true) := Lib.hid (fun e => by rw [← HRL.out, ← HRB.out]; exact seg_yes e)
  clear HRL HRB
  go_enter Try.func53, Try.ntmps53
  go_wp2_with fail
  obtain ⟨W0, hW0⟩ : ∃ W0, (w.alloc (Obj.cells #[.slice (some ⟨g1, 0, none⟩) n1 c1, .slice (some ⟨g2, 0, none⟩) n2 c2] 32)).alloc (Obj.cells #[.int .i64 st, .slice A n c] 45) = W0 := ⟨_, rfl⟩
  have hb0 : Below w.heap.size w W0 := by rw [← hW0]; exact ((Below.refl _ _).alloc (Nat.le_refl _) _).alloc (by simp) _
  have k0 : W0.cell? ⟨w.heap.size, 0, none⟩ = some (.slice (some ⟨g1, 0, none⟩) n1 c1) := by rw [← hW0]; simp [go_sem]
  have k1 : W0.cell? ⟨w.heap.size, 1, none⟩ = some (.slice (some ⟨g2, 0, none⟩) n2 c2) := by rw [← hW0]; simp [go_sem]
  have k2 : W0.cell? ⟨w.heap.size + 1, 0, none⟩ = some (.int .i64 st) := by rw [← hW0]; simp [go_sem]
  have k3 : W0.cell? ⟨w.heap.size + 1, 1, none⟩ = some (.slice A n c) := by rw [← hW0]; simp [go_sem]
  have hz0 : w.heap.size + 1 < W0.heap.size := by rw [← hW0]; simp
  have HB0 := Lib.hid hb0; have HK0 := Lib.hid k0; have HK1 := Lib.hid k1; have HK2 := Lib.hid k2; have HK3 := Lib.hid k3; have HZ0 := Lib.hid hz0
  rw [hW0]
  clear hW0 hb0 k0 k1 k2 k3 hz0
  have CR := Lib.hid (implRN (c := c) (HNT.out.moved HB0.out) st HN.out (HR.out.moved HB0.out) hx)
  obtain ⟨vs, hvs⟩ : ∃ v, rnodL ss fs st fl = v := ⟨_, rfl⟩
  obtain ⟨b, hb⟩ : ∃ b, routeB ss fs st fl = b := ⟨_, rfl⟩
  rw [hvs, hb] at CR
  have HVS := Lib.hid hvs; have HRT := Lib.hid hb
  clear hvs hb
  refine CR.out.mono ?_
  rintro e w1 ⟨A0, N, cc, rfl, HNN, ho, hb1⟩
  have HO := Lib.hid ho
  have HB1 := Lib.hid (HB0.out.trans (hb1.mono HB0.out.size))
  have l0 := (hb1.cell (p := ⟨w.heap.size, 0, none⟩) (by show w.heap.size < _; have := HZ0.out; omega)).trans HK0.out
  have l1 := (hb1.cell (p := ⟨w.heap.size, 1, none⟩) (by show w.heap.size < _; have := HZ0.out; omega)).trans HK1.out
  have l2 := (hb1.cell (p := ⟨w.heap.size + 1, 0, none⟩) (by show w.heap.size + 1 < _; have := HZ0.out; omega)).trans HK2.out
  have l3 := (hb1.cell (p := ⟨w.heap.size + 1, 1, none⟩) (by show w.heap.size + 1 < _; have := HZ0.out; omega)).trans HK3.out
  clear ho hb1
  cases b
  case false =>
    have HNN2 := Lib.hid (HNO.out (fun hp => by have := hp.1; rw [HRT.out] at this; cases this))
    go_wp2
    go_ret2
    exact ints_no HNN2.out HB1.out
  case true =>
  obtain ⟨hnet, us, hus⟩ := routeB_yes HRT.out
  have HNETP := Lib.hid hnet
  have HMEM := Lib.hid (routeN_mem hus)
  have HNL : Hid (N = n + 1) := Lib.hid (by rw [HNN.out, ← HVS.out, rnod_yes HRT.out hus, List.length_reverse, routeN_len hus, HN.out])
  clear hnet hus
  obtain ⟨gN, rfl⟩ := own_some HO.out (by have := HNL.out; omega)
  have HL1_ : Hid (w1.cell? ⟨w.heap.size, 1, none⟩ = some (.slice (some ⟨g2, 0, none⟩) n2 c2)) := Lib.hid l1
  have HZB : Hid (w.heap.size + 1 < w1.heap.size) := Lib.hid (by have := HZ0.out; have := HO.out.lt gN rfl; omega)
  have HOL : Hid ((w1.alloc (Obj.cells #[.int .i64 0] 3)).ownsRow w1.heap.size 3 1 (.slice (some ⟨w1.heap.size, 0, none⟩) 1 1) 1 (([] ++ [(0 : Int)]).map (Value.int .i64))) := Lib.hid (World.ownsRow_lit (base := w1.heap.size) (e := 3) (size := 1) w1 #[.int .i64 0] 1 (Nat.le_refl _) (by unfold maxLen; omega) rfl)
  have HBL := Lib.hid ((Below.refl w1.heap.size w1).alloc (Nat.le_refl _) (Obj.cells #[.int .i64 0] 3))
  have hzb := HZB.out
  go_wp2
  clear l0 l1 l2 l3 hzb
  go_loopw [10, 11, 26] (fun v d i wr => ∃ (k a : Nat) (A1 : Option Addr) (m1 c1' : Nat) (s : Int) (L : List Int), k ≤ n ∧ i = .int .i64 k ∧ d = .int .i64 a ∧ v = .slice A1 m1 c1' ∧ a < m1 ∧ m1 ≤ 1048577 ∧ Hid (m1 = a + 1) ∧ a ≤ k ∧ 0 ≤ s ∧ s ≤ 5000 * (k : Int) ∧ Hid (sgS fs fl vs ks k = (a, s, L)) ∧ Hid (L.length = a) ∧ Hid (wr.ownsRow w1.heap.size 3 1 (.slice A1 m1 c1') m1 ((L ++ [s]).map (Value.int .i64))) ∧ Below w1.heap.size w1 wr) (fun _ _ i _ => n - (intOf i).toNat)
  case atStart => exact ⟨0, 0, _, 1, _, 0, [], Nat.zero_le _, rfl, rfl, rfl, by omega, by omega, Lib.hid rfl, Nat.le_refl _, by omega, by omega, Lib.hid rfl, Lib.hid rfl, HOL, HBL.out⟩
  case round =>
    obtain ⟨k, a, A1, m1, c1', s, L, hk, rfl, rfl, rfl, hm1, hm2, HM1, hak, hs0, hs9, HS, HLA, HOW, hb⟩ := hrel
    have hsz0 := hb.size
    have l1 := (hb.cell (p := ⟨w.heap.size, 1, none⟩) (by show w.heap.size < _; have := HZB.out; omega)).trans HL1_.out
    by_cases hlt : k < n
    case neg =>
      have hkn : fl.length = k := by have := HN.out; omega
      by_cases hleft : a < m
      case pos =>
        have HNN2 := Lib.hid (HNO.out (fun hp => by have h1 := hp.2; rw [HVS.out, hkn, HS.out] at h1; exact h1 (by rw [HM.out]; exact hleft)))
        clear hkn
        go_wp2
        go_ret2
        exact ints_no HNN2.out (HB1.out.trans (hb.mono HB1.out.size))
      case neg =>
      have HYS := HYES.out ⟨HRT.out, by rw [HVS.out, hkn, HS.out, HM.out]; exact hleft⟩
      have HRL : Hid (RL = L ++ [s]) := Lib.hid (by rw [HYS.1, HVS.out, hkn, HS.out])
      have HRB : Hid (RB = true) := Lib.hid HYS.2
      clear HYS hkn
      have HNL2 : Hid (m1 = (L ++ [s]).length) := Lib.hid (by rw [List.length_append, HLA.out]; exact HM1.out)
      go_wp2
      go_ret2
      rw [HRL.out, HRB.out]
      exact ⟨A1, m1, c1', rfl, HNL2, own_base HOW.out HB1.out.size, HB1.out.trans (hb.mono HB1.out.size)⟩
    case pos =>
    have hkl : k < fl.length := by have := HN.out; omega
    have HBW := Lib.hid (HB1.out.trans (hb.mono HB1.out.size))
    obtain ⟨ad, hA, hbl, hcell⟩ := ints_at HR.out hkl
    subst hA
    rw [← HBW.out.cell (by rw [addBlock]; exact hbl)] at hcell
    have hmx := HMEM.out fl[k] (List.getElem_mem hkl)
    obtain ⟨x, hxe⟩ : ∃ x, fl[k]'hkl = x := ⟨_, rfl⟩
    have hgd : fl.getD k 0 = x := by rw [List.getD_eq_getElem?_getD, List.getElem?_eq_getElem hkl, hxe]; rfl
    rw [hxe] at hcell hmx
    obtain ⟨mm, rfl⟩ : ∃ mm : Nat, x = mm := ⟨x.toNat, by omega⟩
    have hml : mm < fs.length := by omega
    have hmn : (mm : Int) < n2 := by have := HL2.out; omega
    obtain ⟨⟨qa, qb, qc, qd⟩, hq⟩ : ∃ q, fs[mm]'hml = q := ⟨_, rfl⟩
    have HQ : Hid (lnK fs fl k = qc) := Lib.hid (by
      unfold lnK fibI
      rw [hgd, List.getD_eq_getElem?_getD, show ((mm : Int)).toNat = mm by omega, List.getElem?_eq_getElem hml, hq]; rfl)
    have hc5 : 0 ≤ qc ∧ qc ≤ 5000 := by rw [← HQ.out]; exact fib_c HNETP.out _
    have hrd := (HNT.out.moved HBW.out).rd2.q4c hml
    rw [Nat.zero_add, hq] at hrd
    obtain ⟨hg2, r0, r1, r2, r3⟩ := hrd
    simp only at r0 r1 r2 r3
    obtain ⟨v, hv⟩ : ∃ v, vs.getD k 0 = v := ⟨_, rfl⟩
    have HV := Lib.hid hv
    have hcv := own_int (k := k) (ownB HO.out hb) HNN.out (by have := HNL.out; omega) hv
    have hNk : k < N := by have := HNL.out; omega
    have e1 : IntKind.i64.wrap (s + qc) = s + qc := IntWalk.i64_in _ (by omega)
    have e2 : IntKind.i64.wrap qc = qc := IntWalk.i64_in _ (by omega)
    have e3 : IntKind.i64.wrap (0 + qc) = qc := by rw [Int.zero_add]; exact e2
    have HG2 : Hid (g2 < w1.heap.size) := Lib.hid (by have := (HNT.out.moved HB1.out).rd2.q4c hml; exact this.1)
    have HR2b : Hid (w1.cell? ⟨g2, mm * 4 + 2, none⟩ = some (.int .i64 qc)) := Lib.hid (by
      have h5 := (HNT.out.moved HB1.out).rd2.q4c hml
      rw [Nat.zero_add, hq] at h5
      exact h5.2.2.2.1)
    clear r2 l1
    clear hq hxe hmx hml r0 r1 r3 hgd hv hkl
    by_cases hcut : a < ks.length ∧ 0 < k ∧ ks.getD a 0 = v
    case pos =>
      have HS1 := Lib.hid (sg_cut HS.out HQ.out HV.out hcut)
      obtain ⟨h1, hk0, hu⟩ := hcut
      have ham : a < m := by have := HM.out; omega
      obtain ⟨ad2, hA2, hbl2, hcell2⟩ := ints_at HRK.out h1
      subst hA2
      have huv : ks[a]'h1 = v := by rw [List.getD_eq_getElem?_getD, List.getElem?_eq_getElem h1] at hu; exact hu
      rw [huv, ← HBW.out.cell (by rw [addBlock]; exact hbl2)] at hcell2
      have eA : IntKind.i64.wrap ((a : Int) + 1) = (m1 : Int) := by rw [IntWalk.i64_in _ (by omega)]; have := HM1.out; omega
      rw [← HM1.out] at HS1
      have HLA1 : Hid ((L ++ [s]).length = m1) := Lib.hid (by rw [List.length_append, HLA.out]; exact HM1.out.symm)
      clear huv hu h1
      go_wp2
      go_quiet (fail)
      obtain ⟨wd, hwd⟩ : ∃ wd, wr.drewN nq = wd := ⟨_, rfl⟩
      have HBD : Hid (Below w1.heap.size w1 wd) := Lib.hid (by rw [← hwd]; exact drewN_below hb _)
      have HOD : Hid (wd.ownsRow w1.heap.size 3 1 (.slice A1 m1 c1') m1 ((L ++ [s]).map (Value.int .i64))) := Lib.hid (by rw [← hwd]; exact own_heapW rfl HOW.out)
      rw [hwd]
      clear hwd
      go_wp2_with (at_builtin; refine wp_app rfl (.tmp 50) (.tmp 51) 39 3 rfl w1.heap.size Try.underlying39 Try.inf_int rfl (by decide) (by decide) _ m1 _ rfl (HOD.out.alloc _) _ _ [.int .i64 0] rfl rfl (news1 (new_at_ _ _ _ _ rfl)) (news_int _) (by omega) (by simp; have := HBD.out.size; omega) ?_)
      intro A2 d2 N2 w3 hN2 hown2 hgrow2 hloc2
      subst hN2
      have hB3 : Below w1.heap.size w1 w3 := (HBD.out.alloc HBD.out.size _).grown hgrow2 (by simp; have := HBD.out.size; omega) (fun g hg => (HOD.out.lt g hg).1)
      have HOW2 : Hid (w3.ownsRow w1.heap.size 3 1 (.slice A2 (m1 + 1) d2) (m1 + 1) (((L ++ [s]) ++ [(0 : Int)]).map (Value.int .i64))) := Lib.hid (by simpa [List.map_append] using hown2)
      have HB3 := Lib.hid hB3
      clear hown2 hgrow2 hloc2 hB3 hcell2 hcv e1 HOD HBD
      obtain ⟨m2, hme⟩ : ∃ m2, m1 + 1 = m2 := ⟨_, rfl⟩
      rw [hme] at HOW2 ⊢
      have HME : Hid (m2 = m1 + 1) := Lib.hid hme.symm
      have hlt2 : m1 < m2 := by omega
      have hle2 : m2 ≤ 1048577 := by have := HM1.out; omega
      clear hme
      have l1 := (HB3.out.cell (p := ⟨w.heap.size, 1, none⟩) (by show w.heap.size < _; have := HZB.out; omega)).trans HL1_.out
      have r2 := ((HB3.out.mono (B' := w1.heap.size) (Nat.le_refl _)).cell (p := ⟨g2, mm * 4 + 2, none⟩) (by have := HG2.out; omega)).trans HR2b.out
      have ho := HOW2.out
      obtain ⟨gR, rfl⟩ := own_some ho (by omega)
      have hold := own_int (k := m1) ho (by rw [List.length_append, HLA1.out]; exact HME.out) (by omega) (get_last _ 0 m1 HLA1.out)
      have hfz := ho.frozenAt m1
      have hst := (ho.stored m1 (.int .i64 qc)).1
      rw [set_last _ _ _ _ HLA1.out] at hst
      have hgR := (ho.lt gR rfl).1
      have HBS := Lib.hid (HB3.out.setCell (p := ⟨gR, m1, none⟩) hgR (.int .i64 qc))
      have HROW : Hid (∀ W : World, W.heap = (w3.setCell ⟨gR, m1, none⟩ (.int .i64 qc)).heap → W.ownsRow w1.heap.size 3 1 (.slice (some ⟨gR, 0, none⟩) m2 d2) m2 (((L ++ [s]) ++ [qc]).map (Value.int .i64))) := Lib.hid (fun W hW => own_heapW hW hst)
      clear ho hst
      go_wp2
      have hdr : ∀ t d o u p, ({ heap := w3.heap, tape := t, drawn := d, os := o, output := u } : World).cell? p = w3.cell? p := fun _ _ _ _ _ => rfl
      go_still_tail 12, (by kernel_rfl)
      change wpList _ _ _ _ _ w3.drew
      clear hdr
      go_wp2
      go_roundw
      case rel => exact ⟨k + 1, m1, _, m2, d2, qc, L ++ [s], by omega, by go_num, rfl, rfl, hlt2, hle2, HME, by have := HM1.out; omega, by omega, by omega, HS1, HLA1, Lib.hid (HROW.out _ rfl), HBS.out.drew⟩
      case measure => simp [intOf]; omega
    case neg =>
    have HS1 := Lib.hid (sg_stay HS.out HQ.out HV.out hcut)
    by_cases hk1 : 0 < k
    case neg =>
      have hd : decide (0 < (k : Int)) = false := decide_eq_false (by omega)
      clear hcut hcv
      go_wp2
      go_quiet (fail)
      obtain ⟨wd, hwd⟩ : ∃ wd, wr.drewN nq = wd := ⟨_, rfl⟩
      have HBD : Hid (Below w1.heap.size w1 wd) := Lib.hid (by rw [← hwd]; exact drewN_below hb _)
      have HOD : Hid (wd.ownsRow w1.heap.size 3 1 (.slice A1 m1 c1') m1 ((L ++ [s]).map (Value.int .i64))) := Lib.hid (by rw [← hwd]; exact own_heapW rfl HOW.out)
      rw [hwd]
      clear hwd
      have l1 := (HBD.out.cell (p := ⟨w.heap.size, 1, none⟩) (by show w.heap.size < _; have := HZB.out; omega)).trans HL1_.out
      have r2 := ((HBD.out.mono (B' := w1.heap.size) (Nat.le_refl _)).cell (p := ⟨g2, mm * 4 + 2, none⟩) (by have := HG2.out; omega)).trans HR2b.out
      have ho := HOD.out
      obtain ⟨gR, rfl⟩ := own_some ho (by omega)
      have hold := own_int (k := a) ho (by rw [List.length_append, HLA.out]; exact HM1.out) (by omega) (get_last _ s a HLA.out)
      have hfz := ho.frozenAt a
      have hst := (ho.stored a (.int .i64 (s + qc))).1
      rw [set_last _ _ _ _ HLA.out] at hst
      have hgR := (ho.lt gR rfl).1
      have HBS := Lib.hid (HBD.out.setCell (p := ⟨gR, a, none⟩) hgR (.int .i64 (s + qc)))
      have HROW : Hid (∀ W : World, W.heap = (wd.setCell ⟨gR, a, none⟩ (.int .i64 (s + qc))).heap → W.ownsRow w1.heap.size 3 1 (.slice (some ⟨gR, 0, none⟩) m1 c1') m1 ((L ++ [(s + qc)]).map (Value.int .i64))) := Lib.hid (fun W hW => own_heapW hW hst)
      clear ho hst
      go_wp2
      have hdr : ∀ t d o u p, ({ heap := wd.heap, tape := t, drawn := d, os := o, output := u } : World).cell? p = wd.cell? p := fun _ _ _ _ _ => rfl
      go_still_tail 12, (by kernel_rfl)
      change wpList _ _ _ _ _ wd.drew
      clear hdr
      go_wp2
      go_roundw
      case rel => exact ⟨_ + 1, a, _, m1, c1', s + qc, L, by omega, by go_num, rfl, rfl, hm1, hm2, HM1, by omega, by omega, by omega, HS1, HLA, Lib.hid (HROW.out _ rfl), HBS.out.drew⟩
      case measure => simp [intOf]; omega
    case pos =>
    by_cases ham : a < m
    case neg =>
      have hd : decide ((a : Int) < (m : Int)) = false := decide_eq_false (by omega)
      have hd2 : decide (a < m) = false := decide_eq_false ham
      clear hcut hcv
      go_wp2
      go_quiet (fail)
      obtain ⟨wd, hwd⟩ : ∃ wd, wr.drewN nq = wd := ⟨_, rfl⟩
      have HBD : Hid (Below w1.heap.size w1 wd) := Lib.hid (by rw [← hwd]; exact drewN_below hb _)
      have HOD : Hid (wd.ownsRow w1.heap.size 3 1 (.slice A1 m1 c1') m1 ((L ++ [s]).map (Value.int .i64))) := Lib.hid (by rw [← hwd]; exact own_heapW rfl HOW.out)
      rw [hwd]
      clear hwd
      have l1 := (HBD.out.cell (p := ⟨w.heap.size, 1, none⟩) (by show w.heap.size < _; have := HZB.out; omega)).trans HL1_.out
      have r2 := ((HBD.out.mono (B' := w1.heap.size) (Nat.le_refl _)).cell (p := ⟨g2, mm * 4 + 2, none⟩) (by have := HG2.out; omega)).trans HR2b.out
      have ho := HOD.out
      obtain ⟨gR, rfl⟩ := own_some ho (by omega)
      have hold := own_int (k := a) ho (by rw [List.length_append, HLA.out]; exact HM1.out) (by omega) (get_last _ s a HLA.out)
      have hfz := ho.frozenAt a
      have hst := (ho.stored a (.int .i64 (s + qc))).1
      rw [set_last _ _ _ _ HLA.out] at hst
      have hgR := (ho.lt gR rfl).1
      have HBS := Lib.hid (HBD.out.setCell (p := ⟨gR, a, none⟩) hgR (.int .i64 (s + qc)))
      have HROW : Hid (∀ W : World, W.heap = (wd.setCell ⟨gR, a, none⟩ (.int .i64 (s + qc))).heap → W.ownsRow w1.heap.size 3 1 (.slice (some ⟨gR, 0, none⟩) m1 c1') m1 ((L ++ [(s + qc)]).map (Value.int .i64))) := Lib.hid (fun W hW => own_heapW hW hst)
      clear ho hst
      go_wp2
      have hdr : ∀ t d o u p, ({ heap := wd.heap, tape := t, drawn := d, os := o, output := u } : World).cell? p = wd.cell? p := fun _ _ _ _ _ => rfl
      go_still_tail 12, (by kernel_rfl)
      change wpList _ _ _ _ _ wd.drew
      clear hdr
      go_wp2
      go_roundw
      case rel => exact ⟨_ + 1, a, _, m1, c1', s + qc, L, by omega, by go_num, rfl, rfl, hm1, hm2, HM1, by omega, by omega, by omega, HS1, HLA, Lib.hid (HROW.out _ rfl), HBS.out.drew⟩
      case measure => simp [intOf]; omega
    case pos =>
      have h1 : a < ks.length := by have := HM.out; omega
      obtain ⟨ad2, hA2, hbl2, hcell2⟩ := ints_at HRK.out h1
      subst hA2
      obtain ⟨u, hu⟩ : ∃ u, ks[a]'h1 = u := ⟨_, rfl⟩
      rw [hu, ← HBW.out.cell (by rw [addBlock]; exact hbl2)] at hcell2
      have hne : ¬ u = v := fun e => hcut ⟨h1, hk1, by rw [List.getD_eq_getElem?_getD, List.getElem?_eq_getElem h1]; exact hu.trans e⟩
      have p1 : (u == v) = false := by simpa using hne
      have p2 : (v == u) = false := by simpa using (fun e => hne e.symm)
      have p3 : decide (u = v) = false := decide_eq_false hne
      have p4 : decide (v = u) = false := decide_eq_false (fun e => hne e.symm)
      clear hcut hu h1
      go_wp2
      go_quiet (fail)
      obtain ⟨wd, hwd⟩ : ∃ wd, wr.drewN nq = wd := ⟨_, rfl⟩
      have HBD : Hid (Below w1.heap.size w1 wd) := Lib.hid (by rw [← hwd]; exact drewN_below hb _)
      have HOD : Hid (wd.ownsRow w1.heap.size 3 1 (.slice A1 m1 c1') m1 ((L ++ [s]).map (Value.int .i64))) := Lib.hid (by rw [← hwd]; exact own_heapW rfl HOW.out)
      rw [hwd]
      clear hwd
      have l1 := (HBD.out.cell (p := ⟨w.heap.size, 1, none⟩) (by show w.heap.size < _; have := HZB.out; omega)).trans HL1_.out
      have r2 := ((HBD.out.mono (B' := w1.heap.size) (Nat.le_refl _)).cell (p := ⟨g2, mm * 4 + 2, none⟩) (by have := HG2.out; omega)).trans HR2b.out
      have ho := HOD.out
      obtain ⟨gR, rfl⟩ := own_some ho (by omega)
      have hold := own_int (k := a) ho (by rw [List.length_append, HLA.out]; exact HM1.out) (by omega) (get_last _ s a HLA.out)
      have hfz := ho.frozenAt a
      have hst := (ho.stored a (.int .i64 (s + qc))).1
      rw [set_last _ _ _ _ HLA.out] at hst
      have hgR := (ho.lt gR rfl).1
      have HBS := Lib.hid (HBD.out.setCell (p := ⟨gR, a, none⟩) hgR (.int .i64 (s + qc)))
      have HROW : Hid (∀ W : World, W.heap = (wd.setCell ⟨gR, a, none⟩ (.int .i64 (s + qc))).heap → W.ownsRow w1.heap.size 3 1 (.slice (some ⟨gR, 0, none⟩) m1 c1') m1 ((L ++ [(s + qc)]).map (Value.int .i64))) := Lib.hid (fun W hW => own_heapW hW hst)
      clear ho hst
      go_wp2
      have hdr : ∀ t d o u p, ({ heap := wd.heap, tape := t, drawn := d, os := o, output := u } : World).cell? p = wd.cell? p := fun _ _ _ _ _ => rfl
      go_still_tail 12, (by kernel_rfl)
      change wpList _ _ _ _ _ wd.drew
      clear hdr
      go_wp2
      go_roundw
      case rel => exact ⟨_ + 1, a, _, m1, c1', s + qc, L, by omega, by go_num, rfl, rfl, hm1, hm2, HM1, by omega, by omega, by omega, HS1, HLA, Lib.hid (HROW.out _ rfl), HBS.out.drew⟩
      case measure => simp [intOf]; omega

set_option maxRecDepth 100000 in
set_option maxHeartbeats 16000000 in
theorem specSG {g1 g2 n1 n2 c1 c2 : Nat} {ss : List ByteArray} {fs : List Q4} {w : World} (hnet0 : NetAt g1 g2 n1 n2 c1 c2 ss fs w) (st : Int)
    {A : Option Addr} {n c : Nat} {fl : List Int} (hn : fl.length = n) (hr : Rd w w.heap.size A (fl.map (Value.int .i64))) (hx : n ≤ 1048576) {B : Option Addr} {m c2' : Nat} {ks : List Int} (hm : ks.length = m) (hrk : Rd w w.heap.size B (ks.map (Value.int .i64))) (hxk : m ≤ 1048576) :
    Calls Try.prog 52 #[.agg #[.slice (some ⟨g1, 0, none⟩) n1 c1, .slice (some ⟨g2, 0, none⟩) n2 c2], .agg #[.int .i64 st, .slice A n c], .slice B m c2'] w (IntsP (segL ss fs st fl ks) (segB ss fs st fl ks) w) := by
  have HNT := Lib.hid hnet0; have HN := Lib.hid hn; have HR := Lib.hid hr
  have HM := Lib.hid hm; have HRK := Lib.hid hrk
  have HL1 := Lib.hid hnet0.ln1
  have HL2 := Lib.hid hnet0.ln2
  have hs1 := hnet0.sm1
  have hs2 := hnet0.sm2
  clear hnet0 hn hr hm hrk
  obtain ⟨RL, hRL⟩ : ∃ r, segL ss fs st fl ks = r := ⟨_, rfl⟩
  obtain ⟨RB, hRB⟩ : ∃ r, segB ss fs st fl ks = r := ⟨_, rfl⟩
  rw [hRL, hRB]
  have HRL := Lib.hid hRL; have HRB := Lib.hid hRB
  clear hRL hRB
  have HNO : Hid (¬ segP ss fs st fl ks → RL = [] ∧ RB = false) := Lib.hid (fun e => by rw [← HRL.out, ← HRB.out]; exact seg_no e)
  have HYES : Hid (segP ss fs st fl ks → RL = (sgS fs fl (rnodL ss fs st fl) ks fl.length).2.2 ++ [(sgS fs fl (rnodL ss fs st fl) ks fl.length).2.1] ∧ RB = true) := Lib.hid (fun e => by rw [← HRL.out, ← HRB.out]; exact seg_yes e)
  clear HRL HRB
  go_enter Try.func52, Try.ntmps52
  go_wp2_with fail
  obtain ⟨W0, hW0⟩ : ∃ W0, (w.alloc (Obj.cells #[.slice (some ⟨g1, 0, none⟩) n1 c1, .slice (some ⟨g2, 0, none⟩) n2 c2] 32)).alloc (Obj.cells #[.int .i64 st, .slice A n c] 45) = W0 := ⟨_, rfl⟩
  have hb0 : Below w.heap.size w W0 := by rw [← hW0]; exact ((Below.refl _ _).alloc (Nat.le_refl _) _).alloc (by simp) _
  have k0 : W0.cell? ⟨w.heap.size, 0, none⟩ = some (.slice (some ⟨g1, 0, none⟩) n1 c1) := by rw [← hW0]; simp [go_sem]
  have k1 : W0.cell? ⟨w.heap.size, 1, none⟩ = some (.slice (some ⟨g2, 0, none⟩) n2 c2) := by rw [← hW0]; simp [go_sem]
  have k2 : W0.cell? ⟨w.heap.size + 1, 0, none⟩ = some (.int .i64 st) := by rw [← hW0]; simp [go_sem]
  have k3 : W0.cell? ⟨w.heap.size + 1, 1, none⟩ = some (.slice A n c) := by rw [← hW0]; simp [go_sem]
  have hz0 : w.heap.size + 1 < W0.heap.size := by rw [← hW0]; simp
  have HB0 := Lib.hid hb0; have HK0 := Lib.hid k0; have HK1 := Lib.hid k1; have HK2 := Lib.hid k2; have HK3 := Lib.hid k3; have HZ0 := Lib.hid hz0
  rw [hW0]
  clear hW0 hb0 k0 k1 k2 k3 hz0
  have CG := Lib.hid (l4Good_ (c := c) (HNT.out.moved HB0.out) st HN.out (HR.out.moved HB0.out) hx)
  obtain ⟨b, hb⟩ : ∃ b, routeB ss fs st fl = b := ⟨_, rfl⟩
  rw [hb] at CG
  have HRT := Lib.hid hb
  clear hb
  refine CG.out.mono ?_
  rintro e w1 ⟨rfl, hb1⟩
  have HB1 := Lib.hid (HB0.out.trans (hb1.mono HB0.out.size))
  have HBA := Lib.hid hb1
  have l0 := (hb1.cell (p := ⟨w.heap.size, 0, none⟩) (by show w.heap.size < _; have := HZ0.out; omega)).trans HK0.out
  have l1 := (hb1.cell (p := ⟨w.heap.size, 1, none⟩) (by show w.heap.size < _; have := HZ0.out; omega)).trans HK1.out
  have l2 := (hb1.cell (p := ⟨w.heap.size + 1, 0, none⟩) (by show w.heap.size + 1 < _; have := HZ0.out; omega)).trans HK2.out
  have l3 := (hb1.cell (p := ⟨w.heap.size + 1, 1, none⟩) (by show w.heap.size + 1 < _; have := HZ0.out; omega)).trans HK3.out
  clear hb1
  cases b
  case false =>
    have HNN2 := Lib.hid (HNO.out (fun hp => by have := hp.1; rw [HRT.out] at this; cases this))
    go_wp2
    go_ret2
    exact ints_lit HNN2.out HB1.out rfl
  case true =>
  obtain ⟨hnet, us, hus⟩ := routeB_yes HRT.out
  have HNETP := Lib.hid hnet
  have HMEM := Lib.hid (routeN_mem hus)
  obtain ⟨vs, hvs⟩ : ∃ v, rnodL ss fs st fl = v := ⟨_, rfl⟩
  have HVS := Lib.hid hvs
  have HUS : Hid (us.reverse = vs) := Lib.hid (by rw [← hvs, rnod_yes HRT.out hus])
  have HNV : Hid (vs.length = n + 1) := Lib.hid (by rw [← HUS.out, List.length_reverse, routeN_len hus, HN.out])
  rw [HL1.out] at hus
  have CN := Lib.hid (l4Nodes_ (c := c) (HNT.out.moved HB1.out) hnet st HN.out (HR.out.moved HB1.out) hx hus)
  rw [HUS.out] at CN
  clear hnet hus hvs
  go_wp2_with fail
  refine CN.out.mono ?_
  rintro e w2 ⟨A0, N, cc, rfl, HNN, ho, hb2⟩
  have hsz1 := HB1.out.size
  have HB2 := Lib.hid (HB1.out.trans (hb2.mono HB1.out.size))
  have HBB := Lib.hid (HBA.out.trans (hb2.mono HBA.out.size))
  have HOA := Lib.hid ho
  have HNL : Hid (N = n + 1) := Lib.hid (by rw [HNN.out, HNV.out])
  obtain ⟨gN, rfl⟩ := own_some HOA.out (by have := HNL.out; omega)
  have hzz : w.heap.size + 2 ≤ w1.heap.size := by have := HZ0.out; have := HBA.out.size; omega
  have HZ2 : Hid (w.heap.size + 2 ≤ w2.heap.size) := Lib.hid (by have := hb2.size; omega)
  have HK1b : Hid (w2.cell? ⟨w.heap.size, 1, none⟩ = some (.slice (some ⟨g2, 0, none⟩) n2 c2)) := Lib.hid ((hb2.cell (p := ⟨w.heap.size, 1, none⟩) (by show w.heap.size < _; omega)).trans l1)
  have HK3b : Hid (w2.cell? ⟨w.heap.size + 1, 1, none⟩ = some (.slice A n c)) := Lib.hid ((hb2.cell (p := ⟨w.heap.size + 1, 1, none⟩) (by show w.heap.size + 1 < _; omega)).trans l3)
  have HOL : Hid ((w2.alloc (Obj.cells #[] 3)).ownsRow w2.heap.size 3 1 (.slice (some ⟨w2.heap.size, 0, none⟩) 0 0) 0 (([] : List Int).map (Value.int .i64))) := Lib.hid (World.ownsRow_lit (base := w2.heap.size) (e := 3) (size := 1) w2 #[] 0 (Nat.le_refl _) (by unfold maxLen; omega) rfl)
  have HBL := Lib.hid ((Below.refl w2.heap.size w2).alloc (Nat.le_refl _) (Obj.cells #[] 3))
  clear ho hb2 hzz l0 l1 l2 l3 hsz1
  go_wp2
  go_loopw [9, 10, 11, 12] (fun v d sv i wr => ∃ (k a : Nat) (A1 : Option Addr) (c1' : Nat) (s : Int) (L : List Int), k ≤ n ∧ i = .int .i64 k ∧ d = .int .i64 a ∧ v = .slice A1 a c1' ∧ sv = .int .i64 s ∧ a ≤ k ∧ 0 ≤ s ∧ s ≤ 5000 * (k : Int) ∧ Hid (sgS fs fl vs ks k = (a, s, L)) ∧ Hid (L.length = a) ∧ Hid (wr.ownsRow w2.heap.size 3 1 (.slice A1 a c1') a (L.map (Value.int .i64))) ∧ Below w2.heap.size w2 wr) (fun _ _ _ i _ => n - (intOf i).toNat)
  case atStart => exact ⟨0, 0, _, _, 0, [], Nat.zero_le _, rfl, rfl, rfl, rfl, Nat.le_refl _, by omega, by omega, Lib.hid rfl, Lib.hid rfl, HOL, HBL.out⟩
  case round =>
    obtain ⟨k, a, A1, c1', s, L, hk, rfl, rfl, rfl, rfl, hak, hs0, hs9, HS, HLA, HOW, hb⟩ := hrel
    have hsz0 := hb.size
    have l1 := (hb.cell (p := ⟨w.heap.size, 1, none⟩) (by show w.heap.size < _; have := HZ2.out; omega)).trans HK1b.out
    have l3 := (hb.cell (p := ⟨w.heap.size + 1, 1, none⟩) (by show w.heap.size + 1 < _; have := HZ2.out; omega)).trans HK3b.out
    by_cases hlt : k < n
    case neg =>
      have hkn : fl.length = k := by have := HN.out; omega
      by_cases hleft : a < m
      case pos =>
        have HNN2 := Lib.hid (HNO.out (fun hp => by have h1 := hp.2; rw [HVS.out, hkn, HS.out] at h1; exact h1 (by rw [HM.out]; exact hleft)))
        clear hkn
        go_wp2
        go_ret2
        exact ints_lit HNN2.out (HB2.out.trans (hb.mono HB2.out.size)) rfl
      case neg =>
      have HYS := HYES.out ⟨HRT.out, by rw [HVS.out, hkn, HS.out, HM.out]; exact hleft⟩
      have HRL : Hid (RL = L ++ [s]) := Lib.hid (by rw [HYS.1, HVS.out, hkn, HS.out])
      have HRB : Hid (RB = true) := Lib.hid HYS.2
      clear HYS hkn
      go_wp2_with (at_builtin; refine wp_app rfl (.tmp 71) (.tmp 73) 39 3 rfl w2.heap.size Try.underlying39 Try.inf_int rfl (by decide) (by decide) _ a _ rfl (HOW.out.alloc _) _ _ [.int .i64 s] rfl rfl (news1 (new_at_ _ _ _ _ rfl)) (news_int _) (by omega) (by simp; omega) ?_)
      intro A2 d2 N2 w3 hN2 hown2 hgrow2 hloc2
      subst hN2
      have hB3 : Below w2.heap.size w2 w3 := (hb.alloc hsz0 _).grown hgrow2 (by simp; omega) (fun g hg => (HOW.out.lt g hg).1)
      have HOW2 : Hid (w3.ownsRow w2.heap.size 3 1 (.slice A2 (a + 1) d2) (a + 1) ((L ++ [s]).map (Value.int .i64))) := Lib.hid (by rw [List.map_append]; exact hown2)
      have HNL2 : Hid (a + 1 = (L ++ [s]).length) := Lib.hid (by rw [List.length_append, HLA.out]; rfl)
      clear hown2 hgrow2 hloc2
      go_wp2
      go_ret2
      rw [HRL.out, HRB.out]
      exact ⟨A2, a + 1, d2, rfl, HNL2, own_base HOW2.out HB2.out.size, HB2.out.trans (hB3.mono HB2.out.size)⟩
    case pos =>
    have hkl : k < fl.length := by have := HN.out; omega
    have HBW := Lib.hid (HB2.out.trans (hb.mono HB2.out.size))
    obtain ⟨ad, hA, hbl, hcell⟩ := ints_at HR.out hkl
    subst hA
    rw [← HBW.out.cell (by rw [addBlock]; exact hbl)] at hcell
    have hmx := HMEM.out fl[k] (List.getElem_mem hkl)
    obtain ⟨x, hxe⟩ : ∃ x, fl[k]'hkl = x := ⟨_, rfl⟩
    have hgd : fl.getD k 0 = x := by rw [List.getD_eq_getElem?_getD, List.getElem?_eq_getElem hkl, hxe]; rfl
    rw [hxe] at hcell hmx
    obtain ⟨mm, rfl⟩ : ∃ mm : Nat, x = mm := ⟨x.toNat, by omega⟩
    have hml : mm < fs.length := by omega
    have hmn : (mm : Int) < n2 := by have := HL2.out; omega
    obtain ⟨⟨qa, qb, qc, qd⟩, hq⟩ : ∃ q, fs[mm]'hml = q := ⟨_, rfl⟩
    have HQ : Hid (lnK fs fl k = qc) := Lib.hid (by
      unfold lnK fibI
      rw [hgd, List.getD_eq_getElem?_getD, show ((mm : Int)).toNat = mm by omega, List.getElem?_eq_getElem hml, hq]; rfl)
    have hc5 : 0 ≤ qc ∧ qc ≤ 5000 := by rw [← HQ.out]; exact fib_c HNETP.out _
    have hrd := (HNT.out.moved HBW.out).rd2.q4c hml
    rw [Nat.zero_add, hq] at hrd
    obtain ⟨hg2, r0, r1, r2, r3⟩ := hrd
    simp only at r0 r1 r2 r3
    obtain ⟨v, hv⟩ : ∃ v, vs.getD k 0 = v := ⟨_, rfl⟩
    have HV := Lib.hid hv
    have hcv := own_int (k := k) (ownB HOA.out hb) HNN.out (by have := HNL.out; omega) hv
    have hNk : k < N := by have := HNL.out; omega
    have e1 : IntKind.i64.wrap (s + qc) = s + qc := IntWalk.i64_in _ (by omega)
    have e2 : IntKind.i64.wrap qc = qc := IntWalk.i64_in _ (by omega)
    have e3 : IntKind.i64.wrap (0 + qc) = qc := by rw [Int.zero_add]; exact e2
    have HMML := Lib.hid hml
    have HQQ : Hid (fs[mm]'HMML.out = ⟨qa, qb, qc, qd⟩) := Lib.hid hq
    have HCELL : Hid (w.cell? (ad.add k) = some (.int .i64 (mm : Int))) := Lib.hid ((HBW.out.cell (by rw [addBlock]; exact hbl)).symm.trans hcell)
    clear hq hxe hmx hml r0 r1 r3 hgd hv hkl
    by_cases hcut : a < ks.length ∧ 0 < k ∧ ks.getD a 0 = v
    case pos =>
      have HS1 := Lib.hid (sg_cut HS.out HQ.out HV.out hcut)
      obtain ⟨h1, hk0, hu⟩ := hcut
      have ham : a < m := by have := HM.out; omega
      obtain ⟨ad2, hA2, hbl2, hcell2⟩ := ints_at HRK.out h1
      subst hA2
      have huv : ks[a]'h1 = v := by rw [List.getD_eq_getElem?_getD, List.getElem?_eq_getElem h1] at hu; exact hu
      rw [huv, ← HBW.out.cell (by rw [addBlock]; exact hbl2)] at hcell2
      obtain ⟨a1, ha1⟩ : ∃ a1, a + 1 = a1 := ⟨_, rfl⟩
      have eA : IntKind.i64.wrap ((a : Int) + 1) = (a1 : Int) := by rw [IntWalk.i64_in _ (by omega)]; omega
      rw [ha1] at HS1
      have HLA1 : Hid ((L ++ [s]).length = a1) := Lib.hid (by rw [List.length_append, HLA.out]; exact ha1)
      have HA1 := Lib.hid ha1
      clear huv hu h1 ha1
      go_wp2
      go_quiet (fail)
      obtain ⟨wd, hwd⟩ : ∃ wd, wr.drewN nq = wd := ⟨_, rfl⟩
      have HBD : Hid (Below w2.heap.size w2 wd) := Lib.hid (by rw [← hwd]; exact drewN_below hb _)
      have HOD : Hid (wd.ownsRow w2.heap.size 3 1 (.slice A1 a c1') a (L.map (Value.int .i64))) := Lib.hid (by rw [← hwd]; exact own_heapW rfl HOW.out)
      rw [hwd]
      clear hwd
      go_wp2_with (at_builtin; refine wp_app rfl (.tmp 48) (.tmp 50) 39 3 rfl w2.heap.size Try.underlying39 Try.inf_int rfl (by decide) (by decide) _ a _ rfl (HOD.out.alloc _) _ _ [.int .i64 s] rfl rfl (news1 (new_at_ _ _ _ _ rfl)) (news_int _) (by omega) (by simp; have := HBD.out.size; omega) ?_)
      intro A2 d2 N2 w3 hN2 hown2 hgrow2 hloc2
      subst hN2
      have hB3 : Below w2.heap.size w2 w3 := (HBD.out.alloc HBD.out.size _).grown hgrow2 (by simp; have := HBD.out.size; omega) (fun g hg => (HOD.out.lt g hg).1)
      have HOW2 : Hid (w3.ownsRow w2.heap.size 3 1 (.slice A2 (a + 1) d2) (a + 1) ((L ++ [s]).map (Value.int .i64))) := Lib.hid (by rw [List.map_append]; exact hown2)
      clear hown2 hgrow2 hloc2 hcell2 hcv e1 HOD HBD l1 l3 r2 hcell
      rw [HA1.out] at HOW2 ⊢
      have l1 := (hB3.cell (p := ⟨w.heap.size, 1, none⟩) (by show w.heap.size < _; have := HZ2.out; omega)).trans HK1b.out
      have l3 := (hB3.cell (p := ⟨w.heap.size + 1, 1, none⟩) (by show w.heap.size + 1 < _; have := HZ2.out; omega)).trans HK3b.out
      have HBW3 := HB2.out.trans (hB3.mono HB2.out.size)
      have r2 := (HNT.out.moved HBW3).rd2.q4c HMML.out
      rw [Nat.zero_add, HQQ.out] at r2
      have r2 := r2.2.2.2.1
      have hcell := (HBW3.cell (p := ad.add k) (by rw [addBlock]; exact hbl)).trans HCELL.out
      clear HBW3
      go_wp2
      go_quiet (fail)
      go_wp2
      go_roundw
      case rel => exact ⟨k + 1, a1, A2, d2, qc, L ++ [s], by omega, by go_num, rfl, rfl, rfl, by have := HA1.out; omega, by omega, by omega, HS1, HLA1, Lib.hid (own_heapW rfl HOW2.out), drewN_below hB3 _⟩
      case measure => simp [intOf]; omega
    case neg =>
    have HS1 := Lib.hid (sg_stay HS.out HQ.out HV.out hcut)
    by_cases hk1 : 0 < k
    case neg =>
      have hd : decide (0 < (k : Int)) = false := decide_eq_false (by omega)
      clear hcut hcv
      by_cases ham : a < m
      case neg =>
        have hd2 : decide ((a : Int) < (m : Int)) = false := decide_eq_false (by omega)
        go_wp2
        go_quiet (fail)
        go_wp2
        go_quiet (fail)
        go_wp2
        go_roundw
        case rel => exact ⟨_ + 1, a, A1, c1', s + qc, L, by omega, by go_num, rfl, rfl, rfl, by omega, by omega, by omega, HS1, HLA, Lib.hid (own_heapW rfl HOW.out), drewN_below hb _⟩
        case measure => simp [intOf]; omega
      case pos =>
        go_wp2
        go_quiet (fail)
        go_wp2
        go_quiet (fail)
        go_wp2
        go_roundw
        case rel => exact ⟨_ + 1, a, A1, c1', s + qc, L, by omega, by go_num, rfl, rfl, rfl, by omega, by omega, by omega, HS1, HLA, Lib.hid (own_heapW rfl HOW.out), drewN_below hb _⟩
        case measure => simp [intOf]; omega
    case pos =>
    by_cases ham : a < m
    case neg =>
      have hd : decide ((a : Int) < (m : Int)) = false := decide_eq_false (by omega)
      have hd2 : decide (a < m) = false := decide_eq_false ham
      clear hcut hcv
      go_wp2
      go_quiet (fail)
      go_wp2
      go_quiet (fail)
      go_wp2
      go_roundw
      case rel => exact ⟨_ + 1, a, A1, c1', s + qc, L, by omega, by go_num, rfl, rfl, rfl, by omega, by omega, by omega, HS1, HLA, Lib.hid (own_heapW rfl HOW.out), drewN_below hb _⟩
      case measure => simp [intOf]; omega
    case pos =>
      have h1 : a < ks.length := by have := HM.out; omega
      obtain ⟨ad2, hA2, hbl2, hcell2⟩ := ints_at HRK.out h1
      subst hA2
      obtain ⟨u, hu⟩ : ∃ u, ks[a]'h1 = u := ⟨_, rfl⟩
      rw [hu, ← HBW.out.cell (by rw [addBlock]; exact hbl2)] at hcell2
      have hne : ¬ u = v := fun e => hcut ⟨h1, hk1, by rw [List.getD_eq_getElem?_getD, List.getElem?_eq_getElem h1]; exact hu.trans e⟩
      have p1 : (u == v) = false := by simpa using hne
      have p2 : (v == u) = false := by simpa using (fun e => hne e.symm)
      have p3 : decide (u = v) = false := decide_eq_false hne
      have p4 : decide (v = u) = false := decide_eq_false (fun e => hne e.symm)
      clear hcut hu h1
      go_wp2
      go_quiet (fail)
      go_wp2
      go_quiet (fail)
      go_wp2
      go_roundw
      case rel => exact ⟨_ + 1, a, A1, c1', s + qc, L, by omega, by go_num, rfl, rfl, rfl, by omega, by omega, by omega, HS1, HLA, Lib.hid (own_heapW rfl HOW.out), drewN_below hb _⟩
      case measure => simp [intOf]; omega
end Go.Proofs.Ytdaopbdjbpopiaa
