/- The masks of services: contract of impl.ServiceMasks. Condition: the table of math/bits holds what Go's text lays. -/
import Derived.Test.YtlgkjidginibdaaDoorSmI
import Derived.Test.YtlgkjidginibdaaDoorScN
namespace Go.Proofs.YtlgkjidginibdaaDoor
open Go.ChangeShapes Go.WideShapes Go.ChangeAt Go.RowKit

theorem zs20 {k : Nat} (hl : k ≤ 14) {zs : List Int} {n : Nat} (hn : zs.length = n) (h : ∀ x ∈ zs, 0 ≤ x ∧ x < (k : Int)) : ∀ j, j < n → 0 ≤ nth zs j ∧ nth zs j < 20 := fun j hj => by
  have h9 := h _ (mem_nth.2 ⟨j, by omega, rfl⟩)
  omega
theorem maskN_nil : maskN [] 0 = 0 := by unfold maskN; rfl
theorem orK_fun {Z : SvD → List Int} {P : SvD → Q2} {ds : List SvD} {k n m : Nat} {zs : List Int} (hz : Z (svn ds k) = zs) (hn : zs.length = n) (h : ∀ j, j < n → 0 ≤ nth zs j ∧ nth zs j < 20) (hm : bN (P (svn ds k)) = m) : (fun f => if f ∈ bl (maskN zs n) then orK Z P ds f k ||| m else orK Z P ds f k) = fun f => orK Z P ds f (k + 1) := by
  funext f
  rw [orK, hz, hm]
  simp only [mask_bl hn h]
theorem smL_zero (Z : SvD → List Int) (P : SvD → Q2) (ds : List SvD) (n : Nat) : smL (fun f => orK Z P ds f 0) n = List.replicate n 0 := by
  apply List.ext_getElem
  · rw [smL_len, List.length_replicate]
  · intro i h1 h2
    rw [smL_get, List.getElem_replicate]
    rfl
set_option maxRecDepth 100000 in
set_option maxHeartbeats 8000000 in
theorem implSM {g1 g2 g3 n1 n2 n3 c1 c2 B : Nat} {ss : List ByteArray} {fs : List Q4} {ys : List Sv} {ds : List SvD} {w : World} (h : NetAt g1 g2 n1 n2 c1 c2 ss fs w) (hT : Svs B g3 n3 ys w) (hd : ys.map Sv.d = ds) (hs : n3 ≤ 1048576) (hTab : Tab w) :
    Calls Tryd.prog 11 #[.agg #[.slice (some ⟨g1, 0, none⟩) n1 c1, .slice (some ⟨g2, 0, none⟩) n2 c2], .slice (some ⟨g3, 0, none⟩) n3 n3] w (SmP (smW ss fs ds) (smU ss fs ds) (pb (svsP ss fs ds)) w) := by
  have HL2 := Lib.hid h.ln2
  have hn2m := h.sm2
  have HT := Lib.hid hT; have HD := Lib.hid hd; have HTB := Lib.hid hTab
  have HLD : Hid (ds.length = n3) := Lib.hid (by rw [← hd, List.length_map]; exact hT.len)
  obtain ⟨L1, hL1⟩ : ∃ r, smW ss fs ds = r := ⟨_, rfl⟩
  obtain ⟨L2, hL2⟩ : ∃ r, smU ss fs ds = r := ⟨_, rfl⟩
  obtain ⟨rb, hrb⟩ : ∃ r, pb (svsP ss fs ds) = r := ⟨_, rfl⟩
  have HNO : Hid (rb = false → L1 = [] ∧ L2 = []) := Lib.hid (fun e => by rw [← hL1, ← hL2]; exact sm_no (hrb.trans e))
  have HYES : Hid (rb = true → L1 = smL (wkN ds) n2 ∧ L2 = smL (spN ds) n2) := Lib.hid (fun e => by rw [← hL1, ← hL2, ← HL2.out]; exact sm_yes (hrb.trans e))
  have CG : Hid (∀ U, Below w.heap.size w U → Calls Tryd.prog 32 #[.agg #[.slice (some ⟨g1, 0, none⟩) n1 c1, .slice (some ⟨g2, 0, none⟩) n2 c2], .slice (some ⟨g3, 0, none⟩) n3 n3] U (RetP (.bool rb) U)) := Lib.hid (fun U hU => by rw [← hrb]; exact implIVS (h.moved hU) (hT.moved hU) hd hs)
  have HRB := Lib.hid hrb
  rw [hL1, hL2, hrb]
  clear h hT hd hL1 hL2 hrb hTab
  obtain ⟨i0, hi, hz0_, hz1_, hz2_⟩ := info_parts Tryd.inf_int
  have HI := Lib.hid hi; have HZI0 := Lib.hid hz0_; have HZI1 := Lib.hid hz1_; have HZI2 := Lib.hid hz2_
  clear hi hz0_ hz1_ hz2_
  go_enter Tryd.func11, Tryd.ntmps11
  go_wp2_with fail
  obtain ⟨W0, hW0⟩ : ∃ W0, w.alloc (Obj.cells #[.slice (some ⟨g1, 0, none⟩) n1 c1, .slice (some ⟨g2, 0, none⟩) n2 c2] 34) = W0 := ⟨_, rfl⟩
  have hb0 : Below w.heap.size w W0 := by rw [← hW0]; exact (Below.refl _ _).alloc (Nat.le_refl _) _
  have k0 : W0.cell? ⟨w.heap.size, 0, none⟩ = some (.slice (some ⟨g1, 0, none⟩) n1 c1) := by rw [← hW0]; simp [go_sem]
  have k1 : W0.cell? ⟨w.heap.size, 1, none⟩ = some (.slice (some ⟨g2, 0, none⟩) n2 c2) := by rw [← hW0]; simp [go_sem]
  have hz0 : W0.heap.size = w.heap.size + 1 := by rw [← hW0]; simp
  have HB0 := Lib.hid hb0; have HZ0 := Lib.hid hz0; have HK1 := Lib.hid k1
  rw [hW0]
  clear hW0 hb0 k0 k1 hz0
  refine (CG.out _ HB0.out).mono ?_
  rintro e w1 ⟨rfl, hb1⟩
  have HB1 := Lib.hid (HB0.out.trans (hb1.mono HB0.out.size))
  have hk1 : w1.cell? ⟨w.heap.size, 1, none⟩ = some (.slice (some ⟨g2, 0, none⟩) n2 c2) := (hb1.cell (p := ⟨w.heap.size, 1, none⟩) (by have := HZ0.out; show w.heap.size < _; omega)).trans HK1.out
  have hzw : w.heap.size < w1.heap.size := by have := HZ0.out; have := hb1.size; omega
  have HZW := Lib.hid hzw
  clear hb1 CG
  cases rb
  case false =>
    obtain ⟨e1, e2⟩ := HNO.out rfl
    have HE1 := Lib.hid e1; have HE2 := Lib.hid e2
    clear e1 e2
    go_wp2
    go_ret3
    exact ⟨none, none, 0, 0, 0, 0, rfl, Lib.hid (by rw [HE1.out]; rfl), Lib.hid (by rw [HE2.out]; rfl), by rw [HE1.out]; exact World.ownsRow_nil _ _ _ _, by rw [HE2.out]; exact World.ownsRow_nil _ _ _ _, Lib.hid (fun g h1 h2 => by simp [Value.ownBlock] at h1), HB1.out⟩
  case true =>
  have HV := Lib.hid (of_pb HRB.out)
  have HE := Lib.hid (HYES.out rfl)
  have hn14 : n2 ≤ 14 := by have := HV.out.1.2.1; have := HL2.out; omega
  have HN14 := Lib.hid hn14
  clear HNO HYES
  go_wp2_with (at_make; refine wpList_make_full _ rfl _ _ 29 rfl w1.heap.size 3 i0 (.int .i64 0) 1 Tryd.underlying29 HI.out HZI0.out HZI1.out .i64 .i64 n2 n2 n2 rfl rfl rfl rfl (by rw [HZI2.out]; omega) (by unfold maxLen; omega) (Nat.le_refl _) ?_)
  intro w2 hown2 hgrow2
  have HB2a : Hid (Below w1.heap.size w1 w2) := Lib.hid ((Below.refl _ _).grown hgrow2 (Nat.le_refl _) (fun k h => by cases h))
  have HB2 : Hid (Below w.heap.size w w2) := Lib.hid (HB1.out.trans (HB2a.out.mono HB1.out.size))
  rw [toList_madeCells_one] at hown2
  obtain ⟨gA, hgA⟩ : ∃ g, w1.heap.size = g := ⟨_, rfl⟩
  rw [hgA] at hown2 HB2a hzw
  rw [hgA]
  have HOA : Hid (w2.ownsRow gA 3 1 (.slice (some ⟨gA, 0, none⟩) n2 n2) n2 ((smL (fun f => orK SvD.zs wkP ds f 0) n2).map (Value.int .i64))) := Lib.hid (by rw [smL_zero, List.map_replicate]; exact hown2)
  have HZA : Hid (w.heap.size < gA ∧ gA < w2.heap.size) := Lib.hid ⟨hzw, (hown2.lt gA rfl).2⟩
  have hk2 : w2.cell? ⟨w.heap.size, 1, none⟩ = some (.slice (some ⟨g2, 0, none⟩) n2 c2) := (HB2a.out.cell (p := ⟨w.heap.size, 1, none⟩) hzw).trans hk1
  have hzw2 : w.heap.size < w2.heap.size := by have := HZA.out; omega
  clear hgA hown2 hgrow2 hk1
  go_wp2_with (at_make; refine wpList_make_full _ rfl _ _ 29 rfl w2.heap.size 3 i0 (.int .i64 0) 1 Tryd.underlying29 HI.out HZI0.out HZI1.out .i64 .i64 n2 n2 n2 rfl rfl rfl rfl (by rw [HZI2.out]; omega) (by unfold maxLen; omega) (Nat.le_refl _) ?_)
  intro w3 hown3 hgrow3
  have HB3a : Hid (Below w2.heap.size w2 w3) := Lib.hid ((Below.refl _ _).grown hgrow3 (Nat.le_refl _) (fun k h => by cases h))
  have HB3 : Hid (Below w.heap.size w w3) := Lib.hid (HB2.out.trans (HB3a.out.mono HB2.out.size))
  rw [toList_madeCells_one] at hown3
  obtain ⟨gB, hgB⟩ : ∃ g, w2.heap.size = g := ⟨_, rfl⟩
  have HOA3 : Hid (w3.ownsRow gA 3 1 (.slice (some ⟨gA, 0, none⟩) n2 n2) n2 ((smL (fun f => orK SvD.zs wkP ds f 0) n2).map (Value.int .i64))) := Lib.hid (ownB HOA.out HB3a.out)
  rw [hgB] at hown3 HB3a HZA
  rw [hgB]
  have HOB3 : Hid (w3.ownsRow gA 3 1 (.slice (some ⟨gB, 0, none⟩) n2 n2) n2 ((smL (fun f => orK SvD.us spP ds f 0) n2).map (Value.int .i64))) := Lib.hid (by rw [smL_zero, List.map_replicate]; exact own_base hown3 (by have := HZA.out; omega))
  have HZ3 : Hid (w.heap.size < gA ∧ gA < gB ∧ gB < w3.heap.size) := Lib.hid ⟨HZA.out.1, HZA.out.2, (hown3.lt gB rfl).2⟩
  clear hgB hown3 hgrow3 hk2 hzw2 hzw HB2 HB3a HOA HZA
  try clear HB2a
  go_wp2
  go_loopw [25] (fun i wr => ∃ k : Nat, k ≤ n3 ∧ i = .int .i64 k ∧ Below w.heap.size w wr ∧ Hid (gB < wr.heap.size) ∧ Hid (wr.ownsRow gA 3 1 (.slice (some ⟨gA, 0, none⟩) n2 n2) n2 ((smL (fun f => orK SvD.zs wkP ds f k) n2).map (Value.int .i64))) ∧ Hid (wr.ownsRow gA 3 1 (.slice (some ⟨gB, 0, none⟩) n2 n2) n2 ((smL (fun f => orK SvD.us spP ds f k) n2).map (Value.int .i64)))) (fun i _ => n3 - (intOf i).toNat)
  case atStart => exact ⟨0, Nat.zero_le _, rfl, HB3.out, Lib.hid HZ3.out.2.2, HOA3, HOB3⟩
  case round =>
    clear HOA3 HOB3 HB3
    obtain ⟨k, hk, rfl, hb, HGB, HOA, HOB⟩ := hrel
    have HBR := Lib.hid hb
    by_cases hlt : k < n3
    case neg =>
      obtain rfl : n3 = k := by omega
      have HF1 : Hid (wr.ownsRow gA 3 1 (.slice (some ⟨gA, 0, none⟩) n2 n2) n2 (L1.map (Value.int .i64))) := Lib.hid (by
        rw [HE.out.1, show wkN ds = fun f => orK SvD.zs wkP ds f n3 from funext fun f => by rw [← HLD.out]; rfl]; exact HOA.out)
      have HF2 : Hid (wr.ownsRow gA 3 1 (.slice (some ⟨gB, 0, none⟩) n2 n2) n2 (L2.map (Value.int .i64))) := Lib.hid (by
        rw [HE.out.2, show spN ds = fun f => orK SvD.us spP ds f n3 from funext fun f => by rw [← HLD.out]; rfl]; exact HOB.out)
      clear hb hlt
      go_wp2
      go_ret3
      exact ⟨some ⟨gA, 0, none⟩, some ⟨gB, 0, none⟩, n2, n2, n2, n2, rfl, Lib.hid (by rw [HE.out.1, smL_len]), Lib.hid (by rw [HE.out.2, smL_len]), own_base HF1.out (by have := HZ3.out; omega), own_base HF2.out (by have := HZ3.out; omega), Lib.hid (fun g h1 h2 => by simp [Value.ownBlock] at h1 h2; have := HZ3.out; omega), HBR.out⟩
    case pos =>
    have hkl : k < ys.length := by have := HT.out.len; omega
    have HKD : Hid (k < ds.length) := Lib.hid (by have := HLD.out; omega)
    obtain ⟨y, hke⟩ : ∃ y, ys[k]'hkl = y := ⟨_, rfl⟩
    have HDK := Lib.hid (svn_at HD.out hkl hke)
    have hyat : SvAt w y := by rw [← hke]; exact HT.out.at_ _ (List.getElem_mem hkl)
    have HYA := Lib.hid hyat
    have HPY : Hid (svP ss fs y.d) := Lib.hid (by have h9 := (HV.out.2.2.1 k HKD.out).1; rw [HDK.out] at h9; exact h9)
    have HZS : Hid (∀ j, j < y.n → 0 ≤ nth y.zs j ∧ nth y.zs j < 20) := Lib.hid (zs20 HN14.out HYA.out.1.1 (by have h9 := svP_zs HPY.out; rw [HL2.out] at h9; exact h9))
    have HUS : Hid (∀ j, j < y.m → 0 ≤ nth y.us j ∧ nth y.us j < 20) := Lib.hid (zs20 HN14.out HYA.out.2.1 (by have h9 := svP_us HPY.out; rw [HL2.out] at h9; exact h9))
    have HF1 := Lib.hid (orK_fun (Z := SvD.zs) (P := wkP) (ds := ds) (k := k) (m := bN ⟨y.x1, y.y1⟩) (zs := y.zs) (by rw [HDK.out]; rfl) HYA.out.1.1 HZS.out (by rw [HDK.out]; rfl))
    have HF2 := Lib.hid (orK_fun (Z := SvD.us) (P := spP) (ds := ds) (k := k) (m := bN ⟨y.x2, y.y2⟩) (zs := y.us) (by rw [HDK.out]; rfl) HYA.out.2.1 HUS.out (by rw [HDK.out]; rfl))
    have HG1 : Hid (∀ f : Nat, f < n2 → (fun f => orK SvD.zs wkP ds f k) (f : Int) < 16777216) := Lib.hid (fun f _ => orK_lt (Z := SvD.zs) (P := wkP) (fun i hi _ => (HV.out.2.2.1 i hi).1.2.1.2) k (by have := HKD.out; omega))
    have HG2 : Hid (∀ f : Nat, f < n2 → (fun f => orK SvD.us spP ds f k) (f : Int) < 16777216) := Lib.hid (fun f _ => orK_lt (Z := SvD.us) (P := spP) (fun i hi e => svP_b2 (HV.out.2.2.1 i hi).1 e) k (by have := HKD.out; omega))
    obtain ⟨hg3, r0, r1, r2, r3, r4, r5, r6, r7, r8, r9⟩ := (HT.out.moved hb).rd.svc hkl
    rw [Nat.zero_add, hke] at r0 r1 r2 r3 r4 r5 r6 r7 r8 r9
    obtain ⟨X1, hX1⟩ : ∃ X, wr.alloc (Obj.cells #[.int .i64 y.i, .int .i64 y.k, .int .i64 y.s1, .slice y.A y.n y.c, .int .i64 y.x1, .int .i64 y.y1, .int .i64 y.s2, .slice y.A2 y.m y.c2, .int .i64 y.x2, .int .i64 y.y2] 67) = X := ⟨_, rfl⟩
    have ky0 : X1.cell? ⟨wr.heap.size, 0, none⟩ = some (.int .i64 y.i) := by rw [← hX1]; simp [go_sem]
    have ky1 : X1.cell? ⟨wr.heap.size, 1, none⟩ = some (.int .i64 y.k) := by rw [← hX1]; simp [go_sem]
    have ky2 : X1.cell? ⟨wr.heap.size, 2, none⟩ = some (.int .i64 y.s1) := by rw [← hX1]; simp [go_sem]
    have ky3 : X1.cell? ⟨wr.heap.size, 3, none⟩ = some (.slice y.A y.n y.c) := by rw [← hX1]; simp [go_sem]
    have ky4 : X1.cell? ⟨wr.heap.size, 4, none⟩ = some (.int .i64 y.x1) := by rw [← hX1]; simp [go_sem]
    have ky5 : X1.cell? ⟨wr.heap.size, 5, none⟩ = some (.int .i64 y.y1) := by rw [← hX1]; simp [go_sem]
    have ky6 : X1.cell? ⟨wr.heap.size, 6, none⟩ = some (.int .i64 y.s2) := by rw [← hX1]; simp [go_sem]
    have ky7 : X1.cell? ⟨wr.heap.size, 7, none⟩ = some (.slice y.A2 y.m y.c2) := by rw [← hX1]; simp [go_sem]
    have ky8 : X1.cell? ⟨wr.heap.size, 8, none⟩ = some (.int .i64 y.x2) := by rw [← hX1]; simp [go_sem]
    have ky9 : X1.cell? ⟨wr.heap.size, 9, none⟩ = some (.int .i64 y.y2) := by rw [← hX1]; simp [go_sem]
    have hxs : wr.heap.size < X1.heap.size := by rw [← hX1]; simp
    have HBX : Hid (Below wr.heap.size wr X1) := Lib.hid (by rw [← hX1]; exact (Below.refl _ _).alloc (Nat.le_refl _) _)
    have HXS := Lib.hid hxs
    have HKY : Hid (∀ U, Off (· = gA) X1 U → U.cell? ⟨wr.heap.size, 0, none⟩ = some (.int .i64 y.i) ∧ U.cell? ⟨wr.heap.size, 1, none⟩ = some (.int .i64 y.k) ∧ U.cell? ⟨wr.heap.size, 2, none⟩ = some (.int .i64 y.s1) ∧ U.cell? ⟨wr.heap.size, 3, none⟩ = some (.slice y.A y.n y.c) ∧ U.cell? ⟨wr.heap.size, 4, none⟩ = some (.int .i64 y.x1) ∧ U.cell? ⟨wr.heap.size, 5, none⟩ = some (.int .i64 y.y1) ∧ U.cell? ⟨wr.heap.size, 6, none⟩ = some (.int .i64 y.s2) ∧ U.cell? ⟨wr.heap.size, 7, none⟩ = some (.slice y.A2 y.m y.c2) ∧ U.cell? ⟨wr.heap.size, 8, none⟩ = some (.int .i64 y.x2) ∧ U.cell? ⟨wr.heap.size, 9, none⟩ = some (.int .i64 y.y2) ∧ wr.heap.size < U.heap.size) := Lib.hid fun U hU => ⟨(hU.cell (p := ⟨wr.heap.size, 0, none⟩) hxs (fun e => by have e9 : wr.heap.size = gA := e; have := HGB.out; have := HZ3.out; omega)).trans ky0, (hU.cell (p := ⟨wr.heap.size, 1, none⟩) hxs (fun e => by have e9 : wr.heap.size = gA := e; have := HGB.out; have := HZ3.out; omega)).trans ky1, (hU.cell (p := ⟨wr.heap.size, 2, none⟩) hxs (fun e => by have e9 : wr.heap.size = gA := e; have := HGB.out; have := HZ3.out; omega)).trans ky2, (hU.cell (p := ⟨wr.heap.size, 3, none⟩) hxs (fun e => by have e9 : wr.heap.size = gA := e; have := HGB.out; have := HZ3.out; omega)).trans ky3, (hU.cell (p := ⟨wr.heap.size, 4, none⟩) hxs (fun e => by have e9 : wr.heap.size = gA := e; have := HGB.out; have := HZ3.out; omega)).trans ky4, (hU.cell (p := ⟨wr.heap.size, 5, none⟩) hxs (fun e => by have e9 : wr.heap.size = gA := e; have := HGB.out; have := HZ3.out; omega)).trans ky5, (hU.cell (p := ⟨wr.heap.size, 6, none⟩) hxs (fun e => by have e9 : wr.heap.size = gA := e; have := HGB.out; have := HZ3.out; omega)).trans ky6, (hU.cell (p := ⟨wr.heap.size, 7, none⟩) hxs (fun e => by have e9 : wr.heap.size = gA := e; have := HGB.out; have := HZ3.out; omega)).trans ky7, (hU.cell (p := ⟨wr.heap.size, 8, none⟩) hxs (fun e => by have e9 : wr.heap.size = gA := e; have := HGB.out; have := HZ3.out; omega)).trans ky8, (hU.cell (p := ⟨wr.heap.size, 9, none⟩) hxs (fun e => by have e9 : wr.heap.size = gA := e; have := HGB.out; have := HZ3.out; omega)).trans ky9, Nat.lt_of_lt_of_le hxs hU.size⟩
    go_wp2_with fail
    try rw [hX1]
    clear hX1 ky0 ky1 ky2 ky3 ky4 ky5 ky6 ky7 ky8 ky9 r0 r1 r2 r3 r4 r5 r6 r7 r8 r9 hg3 hyat hke hb hkl
    have HWX : Hid (Below w.heap.size w X1) := Lib.hid (HBR.out.trans (HBX.out.mono HBR.out.size))
    refine (wclm_ y.i y.k y.s1 y.x1 y.y1 y.s2 y.x2 y.y2 y.A y.n y.c y.A2 y.m y.c2 (zs := y.zs) X1 HYA.out.1.1 HYA.out.1.2.1 (HYA.out.1.2.2.moved HWX.out) HZS.out).mono ?_
    rintro e w4 ⟨rfl, hb4⟩
    have HB4 := Lib.hid hb4
    have HW4 : Hid (Below w.heap.size w w4) := Lib.hid (HWX.out.trans (hb4.mono HWX.out.size))
    have HOA4 := Lib.hid (ownB (ownB HOA.out HBX.out) hb4)
    have HOB4 := Lib.hid (ownB (ownB HOB.out HBX.out) hb4)
    have CO : Hid (Calls Tryd.prog 34 #[.agg #[.int .i64 y.x1, .int .i64 y.y1, .int .i64 (maskN y.zs y.n : Nat)], .slice (some ⟨gA, 0, none⟩) n2 n2] w4 fun e w' => e = .returned (.tuple #[]) ∧ Off (· = gA) w4 w' ∧ w'.ownsRow gA 3 1 (.slice (some ⟨gA, 0, none⟩) n2 n2) n2 ((smL (fun f => orK SvD.zs wkP ds f (k + 1)) n2).map (Value.int .i64))) := Lib.hid (by
      rw [← HF1.out]
      exact occupy_ (Nat.lt_trans (maskT_lt HZS.out) (by decide)) (fun v hv => by have h9 := svP_zs HPY.out v ((mask_bl HYA.out.1.1 HZS.out).1 hv); rw [HL2.out] at h9; exact h9) (fun _ => HPY.out.2.1.2) hn2m HG1.out HOA4.out (HTB.out.over HW4.out))
    clear hb4
    go_wp2_with fail
    refine CO.out.mono ?_
    rintro e w5 ⟨rfl, hf5, ho5⟩
    have HF5 := Lib.hid ((Off.ofBelow (S := (· = gA)) HB4.out).trans hf5)
    have HW5 : Hid (Below w.heap.size w w5) := Lib.hid (HW4.out.trans (hf5.below HW4.out.size (fun j hj => by have e9 : j = gA := hj; have := HZ3.out; omega)))
    have HOA5 := Lib.hid ho5
    have HOB5 := Lib.hid (hf5.own HOB4.out (fun e9 => by have e8 : gB = gA := e9; have := HZ3.out; omega))
    obtain ⟨v0, v1, v2, v3, v4, v5, v6, v7, v8, v9, hv5⟩ := HKY.out w5 HF5.out
    clear hf5 ho5 CO HOA4 HOB4
    go_wp2_with fail
    clear v0 v1 v2 v3 v4 v5 v6 v7 v8 v9 hv5
    refine (sclm_ y.i y.k y.s1 y.x1 y.y1 y.s2 y.x2 y.y2 y.A y.n y.c y.A2 y.m y.c2 (us := y.us) w5 HYA.out.2.1 HYA.out.2.2.1 (HYA.out.2.2.2.moved HW5.out) HUS.out).mono ?_
    rintro e w6 ⟨rfl, hb6⟩
    have HB6 := Lib.hid hb6
    have HW6 : Hid (Below w.heap.size w w6) := Lib.hid (HW5.out.trans (hb6.mono HW5.out.size))
    have HOA6 := Lib.hid (ownB HOA5.out hb6)
    have HOB6 := Lib.hid (ownB HOB5.out hb6)
    have CO : Hid (Calls Tryd.prog 34 #[.agg #[.int .i64 y.x2, .int .i64 y.y2, .int .i64 (maskN y.us y.m : Nat)], .slice (some ⟨gB, 0, none⟩) n2 n2] w6 fun e w' => e = .returned (.tuple #[]) ∧ Off (· = gB) w6 w' ∧ w'.ownsRow gA 3 1 (.slice (some ⟨gB, 0, none⟩) n2 n2) n2 ((smL (fun f => orK SvD.us spP ds f (k + 1)) n2).map (Value.int .i64))) := Lib.hid (by
      rw [← HF2.out]
      exact occupy_ (Nat.lt_trans (maskT_lt HUS.out) (by decide)) (fun v hv => by have h9 := svP_us HPY.out v ((mask_bl HYA.out.2.1 HUS.out).1 hv); rw [HL2.out] at h9; exact h9) (fun h0 => svP_b2 HPY.out (fun e => h0 (by have e2 : y.us = [] := e; have e3 := HYA.out.2.1; rw [e2] at e3; rw [e2, ← e3]; exact maskN_nil))) hn2m HG2.out HOB6.out (HTB.out.over HW6.out))
    clear hb6
    go_wp2_with fail
    refine CO.out.mono ?_
    rintro e w7 ⟨rfl, hf7, ho7⟩
    have HW7 : Hid (Below w.heap.size w w7) := Lib.hid (HW6.out.trans (hf7.below HW6.out.size (fun j hj => by have e9 : j = gB := hj; have := HZ3.out; omega)))
    have HOB7 := Lib.hid ho7
    have HOA7 := Lib.hid (hf7.own HOA6.out (fun e9 => by have e8 : gA = gB := e9; have := HZ3.out; omega))
    have HGB7 : Hid (gB < w7.heap.size) := Lib.hid (ho7.lt gB rfl).2
    clear hf7 ho7 CO HOA6 HOB6
    go_wp2
    go_roundw
    case rel => exact ⟨k + 1, by omega, by go_num, HW7.out, HGB7, HOA7, HOB7⟩
    case measure => simp [intOf]; omega
end Go.Proofs.YtlgkjidginibdaaDoor
