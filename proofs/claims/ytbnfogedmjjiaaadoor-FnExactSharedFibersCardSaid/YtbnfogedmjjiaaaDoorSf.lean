/- The fibers that two routes share: contracts of SharedFibers, both sides. Condition: the table of math/bits holds what Go's text lays (on impl's side). -/
import Derived.Test.YtbnfogedmjjiaaaDoorPut
import Derived.Test.YtbnfogedmjjiaaaDoorTwo
import Derived.Test.YtbnfogedmjjiaaaDoorLst
import Derived.Test.YtbnfogedmjjiaaaDoorGB
import Derived.Test.YtbnfogedmjjiaaaDoorCmp3
import Derived.Test.YtbnfogedmjjiaaaDoorGrpP
import Derived.Test.YtbnfogedmjjiaaaDoorBoth
import Derived.Test.YtbnfogedmjjiaaaDoorGA
import Derived.Deep.CutBlock
import Derived.Deep.DeepCutAuto
namespace Go.Proofs.YtbnfogedmjjiaaaDoor
open Go.ChangeShapes Go.WideShapes Go.ChangeAt Go.RowKit

theorem put_end {x : Int} : ∀ {L : List Int}, (∀ z ∈ L, z < x) → putL L x = L ++ [x]
  | [], _ => rfl
  | h :: t, hl => by
    unfold putL
    rw [if_pos (hl h List.mem_cons_self), put_end fun z hz => hl z (List.mem_cons_of_mem _ hz)]; rfl
theorem put_app {x y : Int} (hxy : x < y) : ∀ L : List Int, putL (L ++ [y]) x = putL L x ++ [y]
  | [] => by
    show putL [y] x = [x] ++ [y]
    unfold putL
    rw [if_neg (by omega), if_neg (by omega)]; rfl
  | h :: t => by
    show putL (h :: (t ++ [y])) x = putL (h :: t) x ++ [y]
    unfold putL
    rw [put_app hxy t]
    split
    · rfl
    · split <;> rfl
theorem put_has {x : Int} : ∀ {L : List Int}, (∀ z ∈ L, z < x) → putL (L ++ [x]) x = L ++ [x]
  | [], _ => by
    show putL [x] x = [x]
    unfold putL
    rw [if_neg (by omega), if_pos rfl]
  | h :: t, hl => by
    show putL (h :: (t ++ [x])) x = _
    unfold putL
    rw [if_pos (hl h List.mem_cons_self), put_has fun z hz => hl z (List.mem_cons_of_mem _ hz)]; rfl
theorem put_sel {p : Nat → Bool} {x : Nat} : ∀ {n : Nat}, x < n → putL (selK p n) (x : Int) = selK (fun i => p i || decide (i = x)) n
  | 0, h => by omega
  | n + 1, h => by
    have hlt : ∀ z ∈ selK p n, z < (n : Int) := fun z hz => by obtain ⟨k, e, hk, _⟩ := sel_mem.1 hz; omega
    by_cases hx : x = n
    · subst hx
      have e1 : selK (fun i => p i || decide (i = x)) x = selK p x := sel_ext fun i hi => by rw [decide_eq_false (by omega), Bool.or_false]
      have e2 : selK (fun i => p i || decide (i = x)) (x + 1) = selK p x ++ [(x : Int)] := by rw [sel_in (by simp), e1]
      rw [e2]
      cases hp : p x
      · rw [sel_out hp]; exact put_end hlt
      · rw [sel_in hp]; exact put_has hlt
    · have ih := put_sel (p := p) (show x < n by omega)
      cases hp : p n
      · rw [sel_out hp, ih, sel_out (p := fun i => p i || decide (i = x)) (by simp [hp]; omega)]
      · rw [sel_in hp, put_app (by omega), ih, sel_in (p := fun i => p i || decide (i = x)) (by simp [hp])]
def shK (xs ys : List Int) : Nat → List Int
  | 0 => []
  | k + 1 => if xs.getD k 0 ∈ ys then putL (shK xs ys k) (xs.getD k 0) else shK xs ys k
theorem shK_len (xs ys : List Int) : ∀ k, (shK xs ys k).length ≤ k
  | 0 => Nat.le_refl _
  | k + 1 => by
    have ih := shK_len xs ys k
    have h := put_len (shK xs ys k) (xs.getD k 0)
    unfold shK
    split <;> omega
theorem shK_sel {xs ys : List Int} (hx : ∀ z ∈ xs, 0 ≤ z ∧ z < 20) : ∀ k, k ≤ xs.length → shK xs ys k = selK (fun i => decide (∃ j, j < k ∧ xs.getD j 0 = (i : Int)) && decide ((i : Int) ∈ ys)) 20
  | 0, _ => (sel_nil.2 fun i _ => by rw [decide_eq_false (by rintro ⟨j, h, _⟩; omega)]; rfl).symm
  | k + 1, hk => by
    have ih := shK_sel (ys := ys) hx k (by omega)
    have hm := hx xs[k] (List.getElem_mem (by omega))
    have e : xs.getD k 0 = xs[k]'(by omega) := by rw [List.getD_eq_getElem?_getD, List.getElem?_eq_getElem (by omega)]; rfl
    obtain ⟨a, ha⟩ : ∃ a : Nat, xs.getD k 0 = a := ⟨(xs.getD k 0).toNat, by rw [e]; omega⟩
    have ha20 : a < 20 := by rw [e] at ha; omega
    unfold shK
    rw [ha]
    by_cases hy : (a : Int) ∈ ys
    · rw [if_pos hy, ih, put_sel ha20]
      refine sel_ext fun i hi => ?_
      by_cases hia : i = a
      · rw [decide_eq_true hia, Bool.or_true, hia, decide_eq_true hy, decide_eq_true ⟨k, by omega, ha⟩]; rfl
      · rw [decide_eq_false hia, Bool.or_false]
        congr 1
        refine decide_eq_decide.2 ⟨fun ⟨j, h1, h2⟩ => ⟨j, by omega, h2⟩, fun ⟨j, h1, h2⟩ => ⟨j, ?_, h2⟩⟩
        rcases Nat.lt_or_ge j k with h9 | h9
        · exact h9
        · obtain rfl : j = k := by omega
          rw [ha] at h2; omega
    · rw [if_neg hy, ih]
      refine sel_ext fun i hi => ?_
      by_cases hia : i = a
      · rw [hia, decide_eq_false hy, Bool.and_false, Bool.and_false]
      · congr 1
        refine decide_eq_decide.2 ⟨fun ⟨j, h1, h2⟩ => ⟨j, by omega, h2⟩, fun ⟨j, h1, h2⟩ => ⟨j, ?_, h2⟩⟩
        rcases Nat.lt_or_ge j k with h9 | h9
        · exact h9
        · obtain rfl : j = k := by omega
          rw [ha] at h2; omega
theorem nth_getD (zs : List Int) (j : Nat) : nth zs j = zs.getD j 0 := rfl
theorem mem_gD {zs : List Int} {x : Int} : x ∈ zs ↔ ∃ j, j < zs.length ∧ zs.getD j 0 = x := by
  constructor
  · intro h
    obtain ⟨j, hj, e⟩ := List.getElem_of_mem h
    exact ⟨j, hj, by rw [List.getD_eq_getElem?_getD, List.getElem?_eq_getElem hj]; exact e⟩
  · rintro ⟨j, hj, e⟩
    rw [List.getD_eq_getElem?_getD, List.getElem?_eq_getElem hj] at e
    exact e ▸ List.getElem_mem hj
theorem sh_bl {xs ys : List Int} (hx : ∀ z ∈ xs, 0 ≤ z ∧ z < 20) (hy : ∀ z ∈ ys, 0 ≤ z ∧ z < 20) : bl (maskN xs xs.length &&& maskN ys ys.length) = shK xs ys xs.length := by
  have hx2 : ∀ j, j < xs.length → 0 ≤ nth xs j ∧ nth xs j < 20 := fun j hj => hx _ (mem_gD.2 ⟨j, hj, rfl⟩)
  have hy2 : ∀ j, j < ys.length → 0 ≤ nth ys j ∧ nth ys j < 20 := fun j hj => hy _ (mem_gD.2 ⟨j, hj, rfl⟩)
  have l1 := maskT_lt hx2
  rw [bl_sel (n := 20) (by omega) (Nat.lt_of_le_of_lt Nat.and_le_left l1), shK_sel hx _ (Nat.le_refl _)]
  refine sel_ext fun i hi => ?_
  rw [Nat.testBit_and, mask_test fun j hj => (hx2 j hj).1, mask_test fun j hj => (hy2 j hj).1]
  congr 1
  exact decide_eq_decide.2 mem_gD.symm
noncomputable def sfL (ss : List ByteArray) (fs : List Q4) (st : Int) (xs : List Int) (st2 : Int) (ys : List Int) : List Int := if crB ss fs st xs st2 ys then shK xs ys xs.length else []
theorem sf_no {ss : List ByteArray} {fs : List Q4} {st : Int} {xs : List Int} {st2 : Int} {ys : List Int} (h : crB ss fs st xs st2 ys = false) : sfL ss fs st xs st2 ys = [] ∧ crB ss fs st xs st2 ys = false := ⟨by unfold sfL; rw [h]; rfl, h⟩
theorem sf_yes {ss : List ByteArray} {fs : List Q4} {st : Int} {xs : List Int} {st2 : Int} {ys : List Int} (h : crB ss fs st xs st2 ys = true) : sfL ss fs st xs st2 ys = shK xs ys xs.length ∧ crB ss fs st xs st2 ys = true := ⟨by unfold sfL; rw [h]; rfl, h⟩
theorem sf_len (ss : List ByteArray) (fs : List Q4) (st : Int) (xs : List Int) (st2 : Int) (ys : List Int) : (sfL ss fs st xs st2 ys).length ≤ xs.length := by
  unfold sfL; split
  · exact shK_len _ _ _
  · simp
set_option maxRecDepth 100000 in
set_option maxHeartbeats 8000000 in
theorem specSF {g1 g2 n1 n2 c1 c2 : Nat} {ss : List ByteArray} {fs : List Q4} {w : World} (h : NetAt g1 g2 n1 n2 c1 c2 ss fs w) (st : Int) {A : Option Addr} {n c : Nat} {xs : List Int} (hn : xs.length = n) (hr : Rd w w.heap.size A (xs.map (Value.int .i64))) (hx : n ≤ 1048576) (st2 : Int) {A2 : Option Addr} {m c3 : Nat} {ys : List Int} (hm : ys.length = m) (hr2 : Rd w w.heap.size A2 (ys.map (Value.int .i64))) (hx2 : m ≤ 1048576) :
    Calls Tryd.prog 62 #[.agg #[.slice (some ⟨g1, 0, none⟩) n1 c1, .slice (some ⟨g2, 0, none⟩) n2 c2], .agg #[.int .i64 st, .slice A n c], .agg #[.int .i64 st2, .slice A2 m c3]] w (IntsP (sfL ss fs st xs st2 ys) (crB ss fs st xs st2 ys) w) := by
  have HNT := Lib.hid h; have HN := Lib.hid hn; have HR := Lib.hid hr; have HM := Lib.hid hm; have HR2 := Lib.hid hr2
  obtain ⟨RL, hRL⟩ : ∃ r, sfL ss fs st xs st2 ys = r := ⟨_, rfl⟩
  obtain ⟨RB, hRB⟩ : ∃ r, crB ss fs st xs st2 ys = r := ⟨_, rfl⟩
  have HNO : Hid (crB ss fs st xs st2 ys = false → RL = [] ∧ RB = false) := Lib.hid (fun e => by rw [← hRL, ← hRB]; exact sf_no e)
  have HYES : Hid (crB ss fs st xs st2 ys = true → RL = shK xs ys xs.length ∧ RB = true) := Lib.hid (fun e => by rw [← hRL, ← hRB]; exact sf_yes e)
  rw [hRL, hRB]
  clear hRL hRB
  clear h hn hr hm hr2
  go_enter Tryd.func62, Tryd.ntmps62
  go_wp2_with fail
  obtain ⟨W0, hW0⟩ : ∃ W0, ((((w.alloc (Obj.cells #[.slice (some ⟨g1, 0, none⟩) n1 c1, .slice (some ⟨g2, 0, none⟩) n2 c2] 34)).alloc (Obj.cells #[.int .i64 st, .slice A n c] 62)).alloc (Obj.cells #[.int .i64 st2, .slice A2 m c3] 62)).alloc (Obj.cells #[] 3)) = W0 := ⟨_, rfl⟩
  have hb0 : Below w.heap.size w W0 := by rw [← hW0]; exact ((((Below.refl _ _).alloc (Nat.le_refl _) _).alloc (by simp) _).alloc (by simp; omega) _).alloc (by simp; omega) _
  have k0_0 : W0.cell? ⟨w.heap.size, 0, none⟩ = some (.slice (some ⟨g1, 0, none⟩) n1 c1) := by rw [← hW0]; simp [go_sem]
  have k0_1 : W0.cell? ⟨w.heap.size, 1, none⟩ = some (.slice (some ⟨g2, 0, none⟩) n2 c2) := by rw [← hW0]; simp [go_sem]
  have k1_0 : W0.cell? ⟨w.heap.size + 1, 0, none⟩ = some (.int .i64 st) := by rw [← hW0]; simp [go_sem]
  have k1_1 : W0.cell? ⟨w.heap.size + 1, 1, none⟩ = some (.slice A n c) := by rw [← hW0]; simp [go_sem]
  have k2_0 : W0.cell? ⟨w.heap.size + 1 + 1, 0, none⟩ = some (.int .i64 st2) := by rw [← hW0]; simp [go_sem]
  have k2_1 : W0.cell? ⟨w.heap.size + 1 + 1, 1, none⟩ = some (.slice A2 m c3) := by rw [← hW0]; simp [go_sem]
  have hz0 : w.heap.size + 1 + 1 + 1 < W0.heap.size := by rw [← hW0]; simp
  have HKB : Hid (∀ W, Below W0.heap.size W0 W → W.cell? ⟨w.heap.size, 0, none⟩ = some (.slice (some ⟨g1, 0, none⟩) n1 c1) ∧ W.cell? ⟨w.heap.size, 1, none⟩ = some (.slice (some ⟨g2, 0, none⟩) n2 c2) ∧ W.cell? ⟨w.heap.size + 1, 0, none⟩ = some (.int .i64 st) ∧ W.cell? ⟨w.heap.size + 1, 1, none⟩ = some (.slice A n c) ∧ W.cell? ⟨w.heap.size + 1 + 1, 0, none⟩ = some (.int .i64 st2) ∧ W.cell? ⟨w.heap.size + 1 + 1, 1, none⟩ = some (.slice A2 m c3) ∧ w.heap.size + 1 + 1 + 1 < W.heap.size) := Lib.hid (fun W hW => ⟨(hW.cell (p := ⟨w.heap.size, 0, none⟩) (by show w.heap.size < _; omega)).trans k0_0, (hW.cell (p := ⟨w.heap.size, 1, none⟩) (by show w.heap.size < _; omega)).trans k0_1, (hW.cell (p := ⟨w.heap.size + 1, 0, none⟩) (by show w.heap.size + 1 < _; omega)).trans k1_0, (hW.cell (p := ⟨w.heap.size + 1, 1, none⟩) (by show w.heap.size + 1 < _; omega)).trans k1_1, (hW.cell (p := ⟨w.heap.size + 1 + 1, 0, none⟩) (by show w.heap.size + 1 + 1 < _; omega)).trans k2_0, (hW.cell (p := ⟨w.heap.size + 1 + 1, 1, none⟩) (by show w.heap.size + 1 + 1 < _; omega)).trans k2_1, Nat.lt_of_lt_of_le hz0 hW.size⟩)
  have HSZ0 : Hid (W0.heap.size = w.heap.size + 1 + 1 + 1 + 1) := Lib.hid (by rw [← hW0]; simp)
  have HB0 := Lib.hid hb0
  have HL0 : Hid (W0.ownsRow w.heap.size 3 1 (.slice (some ⟨w.heap.size + 1 + 1 + 1, 0, none⟩) 0 0) 0 []) := Lib.hid (by rw [← hW0]; exact lit_rowH (by simp) _ (by simp; omega))
  rw [hW0]
  clear hW0 hb0 hz0 k0_0 k0_1 k1_0 k1_1 k2_0 k2_1
  have CG := Lib.hid (l4Good_ (c := c) (HNT.out.moved HB0.out) st HN.out (HR.out.moved HB0.out) hx)
  obtain ⟨b, hb⟩ : ∃ b, routeB ss fs st xs = b := ⟨_, rfl⟩
  rw [hb] at CG
  have HRA := Lib.hid hb
  clear hb
  refine CG.out.mono ?_
  rintro e w1 ⟨rfl, hb9⟩
  have HWw1 := Lib.hid hb9
  have HBw1 := Lib.hid (HB0.out.trans (hb9.mono HB0.out.size))
  clear hb9
  obtain ⟨k00, k01, k10, k11, k20, k21, hgz⟩ := HKB.out _ HWw1.out
  cases b
  case false =>
    have HE := Lib.hid (HNO.out (by unfold crB; rw [HRA.out]; rfl))
    clear k00 k01 k10 k11 k20 k21 hgz
    go_wp2
    go_ret2
    obtain ⟨rfl, rfl⟩ := HE.out
    exact ⟨_, 0, _, rfl, Lib.hid rfl, ownB HL0.out HWw1.out, HBw1.out⟩
  case true =>
  have CG2 := Lib.hid (l4Good_ (c := c3) (HNT.out.moved HBw1.out) st2 HM.out (HR2.out.moved HBw1.out) hx2)
  obtain ⟨b, hb⟩ : ∃ b, routeB ss fs st2 ys = b := ⟨_, rfl⟩
  rw [hb] at CG2
  have HRB := Lib.hid hb
  clear hb
  go_wp2_with fail
  clear k00 k01 k10 k11 k20 k21 hgz
  refine CG2.out.mono ?_
  rintro e w2 ⟨rfl, hb9⟩
  have HWw2 := Lib.hid (HWw1.out.trans (hb9.mono HWw1.out.size))
  have HBw2 := Lib.hid (HB0.out.trans (HWw2.out.mono HB0.out.size))
  clear hb9
  cases b
  case false =>
    have HE := Lib.hid (HNO.out (by unfold crB; rw [HRB.out, Bool.and_false]))
    go_wp2
    go_ret2
    obtain ⟨rfl, rfl⟩ := HE.out
    exact ⟨_, 0, _, rfl, Lib.hid rfl, ownB HL0.out HWw2.out, HBw2.out⟩
  case true =>
  have HE := Lib.hid (HYES.out (by unfold crB; rw [HRA.out, HRB.out]; rfl))
  have HO2 := Lib.hid (ownB HL0.out HWw2.out)
  go_wp2
  go_loopw [8, 9] (fun v i wr => ∃ (k g9 N9 c9 : Nat), k ≤ n ∧ i = .int .i64 k ∧ v = .slice (some ⟨g9, 0, none⟩) N9 c9 ∧ N9 ≤ k ∧ Hid (N9 = (shK xs ys k).length) ∧ Hid (wr.ownsRow w.heap.size 3 1 (.slice (some ⟨g9, 0, none⟩) N9 c9) N9 ((shK xs ys k).map (Value.int .i64))) ∧ Below w2.heap.size w2 wr) (fun _ i _ => n - (intOf i).toNat)
  case atStart => exact ⟨0, _, 0, _, Nat.zero_le _, rfl, rfl, Nat.le_refl _, Lib.hid rfl, HO2, Below.refl _ _⟩
  case round =>
    obtain ⟨k, g9, N9, c9, hk, rfl, rfl, hN9, HN9, HO9, hb⟩ := hrel
    have HBR := Lib.hid hb
    have HWR := Lib.hid (HWw2.out.trans (hb.mono HWw2.out.size))
    have HBW := Lib.hid (HB0.out.trans (HWR.out.mono HB0.out.size))
    clear hb
    obtain ⟨k00, k01, k10, k11, k20, k21, hgz⟩ := HKB.out _ HWR.out
    by_cases hlt : k < n
    case neg =>
      obtain rfl : k = n := by omega
      have HF : Hid (shK xs ys k = RL ∧ true = RB) := Lib.hid (by obtain ⟨h1, h2⟩ := HE.out; rw [h1, h2, HN.out]; exact ⟨rfl, rfl⟩)
      clear hlt
      go_wp2
      go_ret2
      obtain ⟨rfl, rfl⟩ := HF.out
      exact ⟨_, N9, c9, rfl, HN9, HO9.out, HBW.out⟩
    case pos =>
    have hkx : k < xs.length := by have := HN.out; omega
    obtain ⟨ad, hA, hbl, hc1⟩ := ints_at HR.out hkx
    subst hA
    rw [← HBW.out.cell (by rw [addBlock]; exact hbl)] at hc1
    obtain ⟨a, ha⟩ : ∃ a, xs[k]'hkx = a := ⟨_, rfl⟩
    have HXA : Hid (xs.getD k 0 = a) := Lib.hid (by rw [List.getD_eq_getElem?_getD, List.getElem?_eq_getElem hkx, ha]; rfl)
    rw [ha] at hc1
    have HC1 := Lib.hid hc1
    clear ha hkx
    have CH := Lib.hid (fun (W : World) (hW : Below w.heap.size w W) => has_ A2 m c3 ys a W HM.out (HR2.out.moved hW) (by omega))
    obtain ⟨q, hq⟩ : ∃ q, decide (a ∈ ys) = q := ⟨_, rfl⟩
    rw [hq] at CH
    have HQ := Lib.hid hq
    clear hq
    go_wp2_with fail
    clear hbl
    go_quiet ((go_at_call 132; exact Calls.quiet_of_same ((CH.out _ (by first | exact HBW.out | exact drewN_below_ HBW.out _)).mono fun e w' h => ⟨h.1, h.2.symm⟩)))
    clear k00 k01 k10 k11 k20 k21 hgz hc1
    obtain ⟨wd, hwd⟩ : ∃ wd, wr.drewN nq = wd := ⟨_, rfl⟩
    have HBRD : Hid (Below w2.heap.size w2 wd) := Lib.hid (by rw [← hwd]; exact drewN_below_ HBR.out _)
    have HWRD : Hid (Below W0.heap.size W0 wd) := Lib.hid (by rw [← hwd]; exact drewN_below_ HWR.out _)
    have HOD : Hid (wd.ownsRow w.heap.size 3 1 (.slice (some ⟨g9, 0, none⟩) N9 c9) N9 ((shK xs ys k).map (Value.int .i64))) := Lib.hid (by rw [← hwd]; exact ownD HO9.out _)
    have HCD : Hid (wd.cell? (ad.add k) = some (.int .i64 a)) := Lib.hid (by rw [← hwd]; exact HC1.out)
    rw [hwd]
    clear hwd
    cases q
    case false =>
      have HS : Hid (shK xs ys (k + 1) = shK xs ys k) := Lib.hid (by show (if xs.getD k 0 ∈ ys then _ else _) = _; rw [HXA.out, if_neg (of_decide_eq_false HQ.out)])
      have HN2 : Hid (N9 = (shK xs ys (k + 1)).length) := Lib.hid (by rw [HS.out]; exact HN9.out)
      have HO3 : Hid (wd.ownsRow w.heap.size 3 1 (.slice (some ⟨g9, 0, none⟩) N9 c9) N9 ((shK xs ys (k + 1)).map (Value.int .i64))) := Lib.hid (by rw [HS.out]; exact HOD.out)
      go_wp2
      go_roundw
      case rel => exact ⟨k + 1, g9, N9, c9, by omega, by go_num, rfl, by omega, HN2, HO3, HBRD.out⟩
      case measure => simp [intOf]; omega
    case true =>
    have HS : Hid (shK xs ys (k + 1) = putL (shK xs ys k) a) := Lib.hid (by show (if xs.getD k 0 ∈ ys then _ else _) = _; rw [HXA.out, if_pos (of_decide_eq_true HQ.out)])
    have CP := Lib.hid (put_ (c := c9) HN9.out.symm (by omega) HOD.out (Nat.le_trans HBw2.out.size HBRD.out.size) a)
    rw [← HS.out] at CP
    obtain ⟨k00, k01, k10, k11, k20, k21, hgz⟩ := HKB.out _ HWRD.out
    have hc1 := HCD.out
    go_wp2_with fail
    clear k00 k01 k10 k11 k20 k21 hgz hc1
    refine CP.out.mono ?_
    rintro e w7 ⟨g7, N7, c7, rfl, HN7, ho7, hb7⟩
    have HB7 := Lib.hid (HBRD.out.trans (hb7.mono HBRD.out.size))
    have HO7 := Lib.hid ho7
    have hn7 : N7 ≤ k + 1 := by rw [HN7.out]; exact shK_len _ _ _
    clear hb7 ho7
    go_wp2
    go_roundw
    case rel => exact ⟨k + 1, g7, N7, c7, by omega, by go_num, rfl, hn7, HN7, HO7, HB7.out⟩
    case measure => simp [intOf]; omega
set_option maxRecDepth 100000 in
set_option maxHeartbeats 8000000 in
theorem implSF {g1 g2 n1 n2 c1 c2 : Nat} {ss : List ByteArray} {fs : List Q4} {w : World} (h : NetAt g1 g2 n1 n2 c1 c2 ss fs w) (st : Int) {A : Option Addr} {n c : Nat} {xs : List Int} (hn : xs.length = n) (hr : Rd w w.heap.size A (xs.map (Value.int .i64))) (hx : n ≤ 1048576) (st2 : Int) {A2 : Option Addr} {m c3 : Nat} {ys : List Int} (hm : ys.length = m) (hr2 : Rd w w.heap.size A2 (ys.map (Value.int .i64))) (hx2 : m ≤ 1048576) (hTab : Tab w) :
    Calls Tryd.prog 63 #[.agg #[.slice (some ⟨g1, 0, none⟩) n1 c1, .slice (some ⟨g2, 0, none⟩) n2 c2], .agg #[.int .i64 st, .slice A n c], .agg #[.int .i64 st2, .slice A2 m c3]] w (IntsP (sfL ss fs st xs st2 ys) (crB ss fs st xs st2 ys) w) := by
  have HTB := Lib.hid hTab
  clear hTab
  obtain ⟨RL, hRL⟩ : ∃ r, sfL ss fs st xs st2 ys = r := ⟨_, rfl⟩
  obtain ⟨RB, hRB⟩ : ∃ r, crB ss fs st xs st2 ys = r := ⟨_, rfl⟩
  have HNO : Hid (crB ss fs st xs st2 ys = false → RL = [] ∧ RB = false) := Lib.hid (fun e => by rw [← hRL, ← hRB]; exact sf_no e)
  have HYES : Hid (crB ss fs st xs st2 ys = true → RL = shK xs ys xs.length ∧ RB = true) := Lib.hid (fun e => by rw [← hRL, ← hRB]; exact sf_yes e)
  rw [hRL, hRB]
  clear hRL hRB
  obtain ⟨W0, hW0⟩ : ∃ W0, ((w.alloc (Obj.cells #[.slice (some ⟨g1, 0, none⟩) n1 c1, .slice (some ⟨g2, 0, none⟩) n2 c2] 34)).alloc (Obj.cells #[.int .i64 st, .slice A n c] 62)).alloc (Obj.cells #[.int .i64 st2, .slice A2 m c3] 62) = W0 := ⟨_, rfl⟩
  have hb0 : Below w.heap.size w W0 := by rw [← hW0]; exact (((Below.refl _ _).alloc (Nat.le_refl _) _).alloc (by simp) _).alloc (by simp; omega) _
  have k0 : W0.cell? ⟨w.heap.size, 0, none⟩ = some (.slice (some ⟨g1, 0, none⟩) n1 c1) := by rw [← hW0]; simp [go_sem]
  have k1 : W0.cell? ⟨w.heap.size, 1, none⟩ = some (.slice (some ⟨g2, 0, none⟩) n2 c2) := by rw [← hW0]; simp [go_sem]
  have k2 : W0.cell? ⟨w.heap.size + 1, 0, none⟩ = some (.int .i64 st) := by rw [← hW0]; simp [go_sem]
  have k3 : W0.cell? ⟨w.heap.size + 1, 1, none⟩ = some (.slice A n c) := by rw [← hW0]; simp [go_sem]
  have k4 : W0.cell? ⟨w.heap.size + 1 + 1, 0, none⟩ = some (.int .i64 st2) := by rw [← hW0]; simp [go_sem]
  have k5 : W0.cell? ⟨w.heap.size + 1 + 1, 1, none⟩ = some (.slice A2 m c3) := by rw [← hW0]; simp [go_sem]
  have hsz : W0.heap.size = w.heap.size + 1 + 1 + 1 := by rw [← hW0]; simp
  have hbl := (Below.refl W0.heap.size W0).alloc (Nat.le_refl _) (Obj.cells #[.int .i64 st, .slice A n c, .int .i64 st2, .slice A2 m c3] 62)
  have hb1 := hb0.alloc hb0.size (Obj.cells #[.int .i64 st, .slice A n c, .int .i64 st2, .slice A2 m c3] 62)
  have CW := Lib.hid (walks_two (cr := 2) (h.moved hb1) st hn (hr.moved hb1) hx st2 hm (hr2.moved hb1) hx2 (rd_four hsz _ _ _ _ _))
  have HNT := Lib.hid (h.moved hb1); have HN := Lib.hid hn; have HR := Lib.hid (hr.moved hb1); have HM := Lib.hid hm; have HR2 := Lib.hid (hr2.moved hb1)
  obtain ⟨W1, hW1⟩ : ∃ W1, W0.alloc (Obj.cells #[.int .i64 st, .slice A n c, .int .i64 st2, .slice A2 m c3] 62) = W1 := ⟨_, rfl⟩
  rw [hW1] at CW HNT HR HR2 hb1 hbl
  have HB1 := Lib.hid hb1
  have HK0 := Lib.hid ((hbl.cell (p := ⟨w.heap.size, 0, none⟩) (by show w.heap.size < _; omega)).trans k0)
  have HK1 := Lib.hid ((hbl.cell (p := ⟨w.heap.size, 1, none⟩) (by show w.heap.size < _; omega)).trans k1)
  have HK2 := Lib.hid ((hbl.cell (p := ⟨w.heap.size + 1, 0, none⟩) (by show w.heap.size + 1 < _; omega)).trans k2)
  have HK3 := Lib.hid ((hbl.cell (p := ⟨w.heap.size + 1, 1, none⟩) (by show w.heap.size + 1 < _; omega)).trans k3)
  have HK4 := Lib.hid ((hbl.cell (p := ⟨w.heap.size + 1 + 1, 0, none⟩) (by show w.heap.size + 1 + 1 < _; omega)).trans k4)
  have HK5 := Lib.hid ((hbl.cell (p := ⟨w.heap.size + 1 + 1, 1, none⟩) (by show w.heap.size + 1 + 1 < _; omega)).trans k5)
  have HSL : Hid (w.heap.size + 3 < W1.heap.size) := Lib.hid (by rw [← hW1]; simp; omega)
  have HW0 := Lib.hid hW0; have HW1 := Lib.hid hW1
  clear h hn hr hm hr2 hb0 hb1 hbl hW0 hW1 hsz k0 k1 k2 k3 k4 k5
  go_enter Tryd.func63, Tryd.ntmps63
  go_wp2_with fail
  rw [HW0.out, HW1.out]
  refine CW.out.mono ?_
  rintro e w1 ⟨hb2, h2⟩
  have HB2 := Lib.hid (HB1.out.trans (hb2.mono HB1.out.size))
  have l0 := (hb2.cell (p := ⟨w.heap.size, 0, none⟩) (by show w.heap.size < _; have := HSL.out; omega)).trans HK0.out
  have l1 := (hb2.cell (p := ⟨w.heap.size, 1, none⟩) (by show w.heap.size < _; have := HSL.out; omega)).trans HK1.out
  have l2 := (hb2.cell (p := ⟨w.heap.size + 1, 0, none⟩) (by show w.heap.size + 1 < _; have := HSL.out; omega)).trans HK2.out
  have l3 := (hb2.cell (p := ⟨w.heap.size + 1, 1, none⟩) (by show w.heap.size + 1 < _; have := HSL.out; omega)).trans HK3.out
  have l4 := (hb2.cell (p := ⟨w.heap.size + 1 + 1, 0, none⟩) (by show w.heap.size + 1 + 1 < _; have := HSL.out; omega)).trans HK4.out
  have l5 := (hb2.cell (p := ⟨w.heap.size + 1 + 1, 1, none⟩) (by show w.heap.size + 1 + 1 < _; have := HSL.out; omega)).trans HK5.out
  have hg0 : w.heap.size < w1.heap.size := by have := HSL.out; have := hb2.size; omega
  have hg1 : w.heap.size + 1 < w1.heap.size := by have := HSL.out; have := hb2.size; omega
  have hg2 : w.heap.size + 1 + 1 < w1.heap.size := by have := HSL.out; have := hb2.size; omega
  have HRb := Lib.hid (HR.out.moved hb2); have HR2b := Lib.hid (HR2.out.moved hb2)
  clear hb2
  rcases h2 with ⟨hcr, rfl⟩ | ⟨gw, ga, gb, va, vb, hcr, _, _, rfl, _, _, _, _, _, _⟩
  · have HE := Lib.hid (HNO.out hcr)
    clear hcr l0 l1 l2 l3 l4 l5 hg0 hg1 hg2
    go_wp2
    go_ret2
    exact ints_no HE.out HB2.out
  obtain ⟨hv, hmx, hmy⟩ := cr_mem hcr
  have HE := Lib.hid (HYES.out hcr)
  have h14 : fs.length ≤ 14 := hv.2.1
  have HXB : Hid (∀ z ∈ xs, 0 ≤ z ∧ z < 20) := Lib.hid (fun z hz => by have := hmx z hz; omega)
  have HYB : Hid (∀ z ∈ ys, 0 ≤ z ∧ z < 20) := Lib.hid (fun z hz => by have := hmy z hz; omega)
  have hx2_ : ∀ j, j < n → 0 ≤ nth xs j ∧ nth xs j < 20 := fun j hj => HXB.out _ (mem_gD.2 ⟨j, by have := HN.out; omega, rfl⟩)
  have hy2_ : ∀ j, j < m → 0 ≤ nth ys j ∧ nth ys j < 20 := fun j hj => HYB.out _ (mem_gD.2 ⟨j, by have := HM.out; omega, rfl⟩)
  have l9 := maskT_lt hx2_
  have l8 := maskT_lt hy2_
  have eab := and_i64t (maskN xs n) (maskN ys m) (by omega) (by omega)
  have HSB : Hid (bl (maskN xs n &&& maskN ys m) = RL) := Lib.hid (by have h9 := sh_bl HXB.out HYB.out; rw [HN.out, HM.out] at h9; rw [h9, HE.out.1, HN.out])
  have hlt9 : maskN xs n &&& maskN ys m < 16777216 := Nat.lt_of_le_of_lt Nat.and_le_left (by omega)
  have CA : Hid (∀ W, Bel w1 W → Calls Tryd.prog 103 #[.slice A n c] W (RetP (.int .i64 (maskN xs n : Nat)) W)) := Lib.hid (fun W hW => (maskOf_ A n c xs W HN.out hx (HRb.out.moved hW.out) hx2_).mono fun _ _ h => ⟨h.1, by rw [← h.2]; exact Below.refl _ _⟩)
  have CB : Hid (∀ W, Bel w1 W → Calls Tryd.prog 103 #[.slice A2 m c3] W (RetP (.int .i64 (maskN ys m : Nat)) W)) := Lib.hid (fun W hW => (maskOf_ A2 m c3 ys W HM.out hx2 (HR2b.out.moved hW.out) hy2_).mono fun _ _ h => ⟨h.1, by rw [← h.2]; exact Below.refl _ _⟩)
  have CL : Hid (∀ W, Bel w1 W → Calls Tryd.prog 80 #[.int .i64 (maskN xs n &&& maskN ys m : Nat)] W fun e w' => ∃ (A9 : Option Addr) (N9 c9 : Nat), e = .returned (.slice A9 N9 c9) ∧ Hid (N9 = RL.length) ∧ Hid (w'.ownsRow w1.heap.size 3 1 (.slice A9 N9 c9) N9 (RL.map (Value.int .i64))) ∧ Below W.heap.size W w') := Lib.hid (fun W hW => (listOf_ _ W hlt9 ((HTB.out.over HB2.out).over hW.out)).mono fun e w' h => by
    obtain ⟨A9, N9, c9, h1, h2, h3, h4⟩ := h
    rw [HSB.out] at h2 h3
    exact ⟨A9, N9, c9, h1, h2, Lib.hid (own_base h3 hW.out.size), h4⟩)
  obtain ⟨a, ha⟩ : ∃ a, maskN xs n = a := ⟨_, rfl⟩
  obtain ⟨b, hb⟩ : ∃ b, maskN ys m = b := ⟨_, rfl⟩
  rw [ha, hb] at eab
  rw [ha] at CA
  rw [hb] at CB
  rw [ha, hb] at CL
  obtain ⟨d, hd⟩ : ∃ d, a &&& b = d := ⟨_, rfl⟩
  rw [hd] at eab CL
  clear hv hmx hmy hcr h14 hx2_ hy2_ l9 l8 hlt9 ha hb hd
  have hbd : Bel w1 w1.drew := Bel.of (Below.refl _ _).drew
  go_wp2_with fail
  go_upto_region 4 with fail
  go_cut [6, 7] (fun s4 s5 wx => ∃ (A9 : Option Addr) (N9 c9 : Nat), s4 = .slice A9 N9 c9 ∧ s5 = .bool true ∧ Hid (N9 = RL.length) ∧ Hid (wx.ownsRow w1.heap.size 3 1 (.slice A9 N9 c9) N9 (RL.map (Value.int .i64))) ∧ Bel w1 wx)
  case first =>
    go_region_held3 (fun U => U.cell? ⟨w.heap.size + 1, 1, none⟩ = some (.slice A n c) ∧ U.cell? ⟨w.heap.size + 1 + 1, 1, none⟩ = some (.slice A2 m c3) ∧ Bel w1 U)
      (first | (go_keep; done) | (go_split_ands; (refine ⟨?_, ?_, ?_⟩ <;> first | assumption | exact Bel.step (by assumption) hb7 | exact (Bel.at_ (by assumption) hb7 (by assumption)).trans (by assumption) | exact Bel.step (by assumption) hb8 | exact (Bel.at_ (by assumption) hb8 (by assumption)).trans (by assumption) | exact Bel.step (by assumption) hb9 | exact (Bel.at_ (by assumption) hb9 (by assumption)).trans (by assumption))))
      (first
        | (go_at_call 103; go_split_ands; (with_reducible refine (CA.out _ (by assumption)).mono ?_); rintro e u1 ⟨rfl, hb7⟩)
        | (go_at_call 103; go_split_ands; (with_reducible refine (CB.out _ (by assumption)).mono ?_); rintro e u2 ⟨rfl, hb8⟩)
        | (go_at_call 80; go_split_ands; refine (CL.out _ (by assumption)).mono ?_; rintro e u3 ⟨A9, N9, c9, rfl, HN9, HO9, hb9⟩))
    all_goals
      go_split_ands
      have hbl9 : Bel w1 u3 := by assumption
      go_wp2_with fail
      go_meet
      exact ⟨A9, N9, c9, rfl, rfl, HN9, HO9, hbl9⟩
  case rest =>
  clear hbd l0 l1 l2 l3 l4 l5 hg0 hg1 hg2
  revert hcut; generalize wc = w5; intro hcut
  obtain ⟨A9, N9, c9, h0_, h1_, HN9, HO9, hb9⟩ := hcut
  subst h0_ h1_
  have HB5 := Lib.hid (HB2.out.trans ((Bel.out hb9).mono HB2.out.size))
  clear hb9
  go_wp2
  go_ret2
  rw [HE.out.2]
  exact ⟨A9, N9, c9, rfl, HN9, own_base HO9.out HB2.out.size, HB5.out⟩
end Go.Proofs.YtbnfogedmjjiaaaDoor
