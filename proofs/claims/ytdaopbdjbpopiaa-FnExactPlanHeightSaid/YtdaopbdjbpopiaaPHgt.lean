/- Plans: contracts of PlanHeight, both sides. No condition but those typed. -/
import Derived.Test.YtdaopbdjbpopiaaPlanJ
import Derived.Laws.OwnMore
namespace Go.Proofs.Ytdaopbdjbpopiaa
open Go.ChangeShapes Go.WideShapes Go.ChangeAt Go.RowKit Go.Maps

def hgtK (ds : List LtD) : Nat → Int
  | 0 => 0
  | k + 1 => max (hgtK ds k) ((dn ds k).q0 + (dn ds k).q1)
theorem hgt_bd {ds : List LtD} : ∀ {k : Nat}, (∀ t, t < k → blkP (dn ds t).q0 (dn ds t).q1) → 0 ≤ hgtK ds k ∧ hgtK ds k ≤ 24
  | 0, _ => by rw [hgtK]; omega
  | k + 1, h => by
    have h1 := hgt_bd (k := k) (fun t ht => h t (by omega))
    obtain ⟨h2, h3, h4⟩ := h k (by omega)
    rw [hgtK]
    omega
noncomputable def phI (ss : List ByteArray) (fs : List Q4) (ds : List LtD) : Int := if pb (planP ss fs ds) then hgtK ds ds.length else 0
noncomputable def phR (ss : List ByteArray) (fs : List Q4) (ds : List LtD) : Value := .tuple #[.int .i64 (phI ss fs ds), .bool (pb (planP ss fs ds))]
theorem ph_no {ss : List ByteArray} {fs : List Q4} {ds : List LtD} (h : pb (planP ss fs ds) = false) : (.tuple #[.int .i64 0, .bool false] : Value) = phR ss fs ds := by unfold phR phI; rw [h]; rfl
theorem ph_yes {ss : List ByteArray} {fs : List Q4} {ds : List LtD} (h : pb (planP ss fs ds) = true) : (.tuple #[.int .i64 (hgtK ds ds.length), .bool true] : Value) = phR ss fs ds := by unfold phR phI; rw [h]; rfl
theorem ret_tupH {a b : Value} (h : a = b) : Ending.returned a = .returned b := by rw [h]
theorem most_ (a b : Int) (w : World) : Calls Try.prog 188 #[.int .i64 a, .int .i64 b] w fun e w' => e = .returned (.int .i64 (max a b)) ∧ w' = w := by
  by_cases h : b < a
  · have e : max a b = a := by omega
    rw [e]; clear e
    go_enter Try.func188, Try.ntmps188
    go_wp2
    go_ret
    exact ⟨rfl, rfl⟩
  · have e : max a b = b := by omega
    have h2 : a ≤ b := by omega
    rw [e]; clear e h
    go_enter Try.func188, Try.ntmps188
    go_wp2
    go_ret
    exact ⟨rfl, rfl⟩

set_option maxRecDepth 100000 in
set_option maxHeartbeats 4000000 in
theorem l21_ {g1 g2 g3 n1 n2 n3 c1 c2 B : Nat} {ss : List ByteArray} {fs : List Q4} {ys : List Lt} {ds : List LtD} {w : World} (h : NetAt g1 g2 n1 n2 c1 c2 ss fs w) (hT : Lts B g3 n3 ys w) (hd : ys.map Lt.d = ds) (hs : n3 ≤ 1048576) (hblk : ∀ t, t < ds.length → blkP (dn ds t).q0 (dn ds t).q1) :
    Calls Try.prog 138 #[.agg #[.slice (some ⟨g1, 0, none⟩) n1 c1, .slice (some ⟨g2, 0, none⟩) n2 c2, .slice (some ⟨g3, 0, none⟩) n3 n3]] w (RetP (.int .i64 (hgtK ds ds.length)) w) := by
  have HNT := Lib.hid h; have HT := Lib.hid hT; have HD := Lib.hid hd
  have HLD : Hid (ds.length = n3) := Lib.hid (by rw [← hd, List.length_map]; exact hT.len)
  clear h hT hd
  have HBLK := Lib.hid hblk
  clear hblk
  obtain ⟨r, hrr⟩ : ∃ r, hgtK ds ds.length = r := ⟨_, rfl⟩
  rw [hrr]
  have HRR := Lib.hid hrr
  clear hrr
  go_enter Try.func138, Try.ntmps138
  go_wp2
  obtain ⟨W0, hW0⟩ : ∃ W0, w.alloc (Obj.cells #[.slice (some ⟨g1, 0, none⟩) n1 c1, .slice (some ⟨g2, 0, none⟩) n2 c2, .slice (some ⟨g3, 0, none⟩) n3 n3] 84) = W0 := ⟨_, rfl⟩
  have hb0 : Below w.heap.size w W0 := by rw [← hW0]; exact (Below.refl _ _).alloc (Nat.le_refl _) _
  have hk0 : W0.cell? ⟨w.heap.size, 0, none⟩ = some (.slice (some ⟨g1, 0, none⟩) n1 c1) := by rw [← hW0]; simp [go_sem]
  have hk1 : W0.cell? ⟨w.heap.size, 1, none⟩ = some (.slice (some ⟨g2, 0, none⟩) n2 c2) := by rw [← hW0]; simp [go_sem]
  have hk2 : W0.cell? ⟨w.heap.size, 2, none⟩ = some (.slice (some ⟨g3, 0, none⟩) n3 n3) := by rw [← hW0]; simp [go_sem]
  have hz0 : w.heap.size < W0.heap.size := by rw [← hW0]; simp
  have HB0 := Lib.hid hb0; have HK0 := Lib.hid hk0; have HK1 := Lib.hid hk1; have HK2 := Lib.hid hk2; have HZB := Lib.hid hz0
  rw [hW0]
  clear hW0 hb0 hk0 hk1 hk2 hz0
  go_loopw [3, 4] (fun v i wr => ∃ (k : Nat) (z : Int), k ≤ n3 ∧ i = .int .i64 k ∧ v = .int .i64 z ∧ Hid (z = hgtK ds k) ∧ 0 ≤ z ∧ z ≤ 24 ∧ Below W0.heap.size W0 wr) (fun _ i _ => n3 - (intOf i).toNat)
  case atStart => exact ⟨0, 0, Nat.zero_le _, rfl, rfl, Lib.hid rfl, by omega, by omega, Below.refl _ _⟩
  case round =>
    obtain ⟨k, z, hk, rfl, rfl, HZ, hz0, hz1, hb⟩ := hrel
    have HBW := Lib.hid (HB0.out.trans (hb.mono HB0.out.size))
    have HBR := Lib.hid hb
    have k2 := (hb.cell (p := ⟨w.heap.size, 2, none⟩) HZB.out).trans HK2.out
    have hzw : w.heap.size < wr.heap.size := Nat.lt_of_lt_of_le HZB.out hb.size
    by_cases hlt : k < n3
    case neg =>
      have HE : Hid (z = r) := Lib.hid (by rw [HZ.out, ← HRR.out]; congr 1; have := HLD.out; omega)
      clear hb
      go_wp2
      go_ret
      exact ⟨reti HE.out, HBW.out⟩
    case pos =>
    have hkl : k < ys.length := by have := HT.out.len; omega
    have HKD : Hid (k < ds.length) := Lib.hid (by have := HLD.out; omega)
    obtain ⟨y, hke⟩ : ∃ y, ys[k]'hkl = y := ⟨_, rfl⟩
    have HDK := Lib.hid (dn_at HD.out hkl hke)
    obtain ⟨hg, f0, f1, f2, f3, f4⟩ := (HT.out.moved HBW.out).rd.ltc hkl
    rw [Nat.zero_add, hke] at f0 f1 f2 f3 f4
    have hbk := HBLK.out k HKD.out
    rw [HDK.out] at hbk
    obtain ⟨hb1, hb2, hb3⟩ := hbk
    have hb1' : 0 ≤ y.q0 := hb1
    have hb2' : 1 ≤ y.q1 := hb2
    have hb3' : y.q0 + y.q1 ≤ 24 := hb3
    have HZ2 : Hid (max z (y.q0 + y.q1) = hgtK ds (k + 1)) := Lib.hid (by rw [hgtK, ← HZ.out, HDK.out]; rfl)
    have hm0 : 0 ≤ max z (y.q0 + y.q1) := by omega
    have hm1 : max z (y.q0 + y.q1) ≤ 24 := by omega
    have CM := Lib.hid (fun W => most_ z (y.q0 + y.q1) W)
    obtain ⟨m, hm⟩ : ∃ m, max z (y.q0 + y.q1) = m := ⟨_, rfl⟩
    rw [hm] at HZ2 hm0 hm1 CM
    have e1 : IntKind.i64.wrap (y.q0 + y.q1) = y.q0 + y.q1 := IntWalk.i64_in _ (by omega)
    clear f0 f1 f2 hke hkl hb1 hb2 hb3 hb hm
    go_wp2
    go_quiet ((go_at_call 188; exact Calls.quiet_of_same (CM.out _)))
    clear e1
    go_wp2
    go_roundw
    case rel => exact ⟨k + 1, m, by omega, by go_num, rfl, HZ2, hm0, hm1, drewN_below HBR.out _⟩
    case measure => simp [intOf]; omega

set_option maxRecDepth 100000 in
set_option maxHeartbeats 4000000 in
theorem specPH {g1 g2 g3 n1 n2 n3 c1 c2 B : Nat} {ss : List ByteArray} {fs : List Q4} {ys : List Lt} {ds : List LtD} {w : World} (h : NetAt g1 g2 n1 n2 c1 c2 ss fs w) (hT : Lts B g3 n3 ys w) (hd : ys.map Lt.d = ds) (hs : n3 ≤ 1048576) :
    Calls Try.prog 66 #[.agg #[.slice (some ⟨g1, 0, none⟩) n1 c1, .slice (some ⟨g2, 0, none⟩) n2 c2, .slice (some ⟨g3, 0, none⟩) n3 n3]] w (RetP (phR ss fs ds) w) := by
  have HNT := Lib.hid h; have HT := Lib.hid hT; have HD := Lib.hid hd
  have HLD : Hid (ds.length = n3) := Lib.hid (by rw [← hd, List.length_map]; exact hT.len)
  clear h hT hd
  obtain ⟨R, hRR⟩ : ∃ R, phR ss fs ds = R := ⟨_, rfl⟩
  rw [hRR]
  have HRR := Lib.hid hRR
  clear hRR
  go_enter Try.func66, Try.ntmps66
  go_wp2_with fail
  obtain ⟨W0, hW0⟩ : ∃ W0, w.alloc (Obj.cells #[.slice (some ⟨g1, 0, none⟩) n1 c1, .slice (some ⟨g2, 0, none⟩) n2 c2, .slice (some ⟨g3, 0, none⟩) n3 n3] 84) = W0 := ⟨_, rfl⟩
  have hb0 : Below w.heap.size w W0 := by rw [← hW0]; exact (Below.refl _ _).alloc (Nat.le_refl _) _
  have hk0 : W0.cell? ⟨w.heap.size, 0, none⟩ = some (.slice (some ⟨g1, 0, none⟩) n1 c1) := by rw [← hW0]; simp [go_sem]
  have hk1 : W0.cell? ⟨w.heap.size, 1, none⟩ = some (.slice (some ⟨g2, 0, none⟩) n2 c2) := by rw [← hW0]; simp [go_sem]
  have hk2 : W0.cell? ⟨w.heap.size, 2, none⟩ = some (.slice (some ⟨g3, 0, none⟩) n3 n3) := by rw [← hW0]; simp [go_sem]
  have hz0 : w.heap.size < W0.heap.size := by rw [← hW0]; simp
  have HB0 := Lib.hid hb0; have HK0 := Lib.hid hk0; have HK1 := Lib.hid hk1; have HK2 := Lib.hid hk2; have HZB := Lib.hid hz0
  rw [hW0]
  clear hW0 hb0 hk0 hk1 hk2 hz0
  have CG := Lib.hid (l9Good_ (HNT.out.moved HB0.out) (HT.out.moved HB0.out) HD.out hs)
  obtain ⟨b, hb⟩ : ∃ b, pb (planP ss fs ds) = b := ⟨_, rfl⟩
  rw [hb] at CG
  have HPB := Lib.hid hb
  clear hb
  refine CG.out.mono ?_
  rintro e w1 ⟨rfl, hb1⟩
  have HB1 := Lib.hid (HB0.out.trans (hb1.mono HB0.out.size))
  have k0 := (hb1.cell (p := ⟨w.heap.size, 0, none⟩) HZB.out).trans HK0.out
  have k1 := (hb1.cell (p := ⟨w.heap.size, 1, none⟩) HZB.out).trans HK1.out
  have k2 := (hb1.cell (p := ⟨w.heap.size, 2, none⟩) HZB.out).trans HK2.out
  have hzw : w.heap.size < w1.heap.size := Nat.lt_of_lt_of_le HZB.out hb1.size
  clear hb1
  cases b
  case false =>
    have HE : Hid ((.tuple #[.int .i64 0, .bool false] : Value) = R) := Lib.hid (by rw [← HRR.out]; exact ph_no HPB.out)
    go_wp2
    go_ret2
    exact ⟨ret_tupH HE.out, HB1.out⟩
  case true =>
  have hpl : planP ss fs ds := of_pb HPB.out
  have CF := Lib.hid (l21_ (HNT.out.moved HB1.out) (HT.out.moved HB1.out) HD.out hs (fun t ht => (hpl.2.2.1 t ht).1.2.2))
  have HE : Hid ((.tuple #[.int .i64 (hgtK ds ds.length), .bool true] : Value) = R) := Lib.hid (by rw [← HRR.out]; exact ph_yes HPB.out)
  obtain ⟨z, hz⟩ : ∃ z, hgtK ds ds.length = z := ⟨_, rfl⟩
  rw [hz] at CF HE
  clear hz hpl
  go_wp2_with fail
  refine CF.out.mono ?_
  rintro e w2 ⟨rfl, hb2⟩
  have HB2 := Lib.hid (HB1.out.trans (hb2.mono HB1.out.size))
  clear hb2
  go_wp2
  go_ret2
  exact ⟨ret_tupH HE.out, HB2.out⟩

theorem Try.inf_Bl : (Try.prog.info? 169).map (fun i => (i.zero, i.size, i.bytes)) = some (some (.agg #[.int .i64 0, .int .i64 0]), 2, 16) := by kernel_rfl
def blkQ (y : Lt) : Q2 := ⟨y.q0, y.q1⟩
set_option maxRecDepth 100000 in
set_option maxHeartbeats 4000000 in
theorem blocksOf_ {g n B : Nat} {ys : List Lt} {w : World} (hT : Lts B g n ys w) (hs : n ≤ 1048576) :
    Calls Try.prog 140 #[.slice (some ⟨g, 0, none⟩) n n] w fun e w' => e = .returned (.slice (some ⟨w.heap.size, 0, none⟩) n n) ∧ w'.ownsRow w.heap.size 169 2 (.slice (some ⟨w.heap.size, 0, none⟩) n n) n ((ys.map blkQ).flatMap Q2.cells) ∧ Below w.heap.size w w' := by
  obtain ⟨i0, hi, hz0, hz1, hz2⟩ := info_parts Try.inf_Bl
  have HT := Lib.hid hT
  have HQ : Hid ((ys.map blkQ).length = n) := Lib.hid (by rw [List.length_map]; exact hT.len)
  clear hT
  go_enter Try.func140, Try.ntmps140
  go_wp2_with (at_make; refine wpList_make_full _ rfl _ _ 179 rfl w.heap.size 169 i0 _ 2 Try.underlying179 hi hz0 hz1 .i64 .i64 n n n rfl rfl rfl rfl (by rw [hz2]; omega) (by unfold maxLen; omega) (Nat.le_refl _) ?_)
  intro w1 hown hgrow
  have hb1 : Below w.heap.size w w1 := (Below.refl _ _).grown hgrow (Nat.le_refl _) (fun k h => by cases h)
  clear hgrow
  have hown0 : w1.ownsRow w.heap.size 169 2 (.slice (some ⟨w.heap.size, 0, none⟩) n n) n (fill Q2.cells 2 (ys.map blkQ) 0 n) := by rw [fill_zero, ← made2]; exact hown
  clear hown hi hz0 hz1 hz2
  go_wp2
  go_loopw [11] (fun i wr => ∃ k : Nat, k ≤ n ∧ i = .int .i64 k ∧ Hid (wr.ownsRow w.heap.size 169 2 (.slice (some ⟨w.heap.size, 0, none⟩) n n) n (fill Q2.cells 2 (ys.map blkQ) k n)) ∧ Below w.heap.size w wr) (fun i _ => n - (intOf i).toNat)
  case atStart => exact ⟨0, Nat.zero_le _, rfl, Lib.hid hown0, hb1⟩
  case round =>
    clear hown0 hb1
    obtain ⟨k, hk, rfl, HO, hb⟩ := hrel
    by_cases hlt : k < n
    case neg =>
      have HF : Hid (wr.ownsRow w.heap.size 169 2 (.slice (some ⟨w.heap.size, 0, none⟩) n n) n ((ys.map blkQ).flatMap Q2.cells)) := Lib.hid (by
        have h9 := HO.out
        rw [show k = n by omega, fill_all Q2.cells 2 _ n HQ.out] at h9
        exact h9)
      go_wp2
      go_ret
      exact ⟨rfl, HF.out, hb⟩
    case pos =>
    have hkl : k < ys.length := by have := HT.out.len; omega
    have hkq : k < (ys.map blkQ).length := by have := HQ.out; omega
    obtain ⟨y, hke⟩ : ∃ y, ys[k]'hkl = y := ⟨_, rfl⟩
    have HKQ : Hid ((ys.map blkQ)[k]'hkq = blkQ y) := Lib.hid (by simp [hke])
    obtain ⟨hg, f0, f1, f2, f3, f4⟩ := (HT.out.moved hb).rd.ltc hkl
    rw [Nat.zero_add, hke] at f0 f1 f2 f3 f4
    have HBZ := Lib.hid ((Below.refl wr.heap.size wr).alloc (Nat.le_refl _) (Obj.cells #[.int .i64 y.p0, .int .i64 y.p1, .slice y.A y.n y.c, .int .i64 y.q0, .int .i64 y.q1] 171))
    have HBX := Lib.hid (hb.alloc hb.size (Obj.cells #[.int .i64 y.p0, .int .i64 y.p1, .slice y.A y.n y.c, .int .i64 y.q0, .int .i64 y.q1] 171))
    have hold0 := HO.out.cellAt (k * 2) (by omega)
    have hold1 := HO.out.cellAt (k * 2 + 1) (by omega)
    rw [fill_get0 Q2.cells 2 _ k n (fun _ => rfl) HQ.out hlt (by omega)] at hold0
    rw [fill_get Q2.cells 2 _ k n 1 (fun _ => rfl) HQ.out hlt (by omega)] at hold1
    have hfz0 := HO.out.frozenAt (k * 2)
    have hfz1 := HO.out.frozenAt (k * 2 + 1)
    have hst := (((HO.out.stored (k * 2) (.int .i64 ((ys.map blkQ)[k]'hkq).a)).1).stored (k * 2 + 1) (.int .i64 ((ys.map blkQ)[k]'hkq).b)).1
    rw [fill_set2 _ k n HQ.out hlt, HKQ.out] at hst
    have HST := Lib.hid (hst.alloc (Obj.cells #[.int .i64 y.p0, .int .i64 y.p1, .slice y.A y.n y.c, .int .i64 y.q0, .int .i64 y.q1] 171))
    have hlw := (HO.out.lt w.heap.size rfl).2
    have HBS := Lib.hid (((hb.setCell (p := ⟨w.heap.size, k * 2, none⟩) (Nat.le_refl _) (.int .i64 y.q0)).setCell (p := ⟨w.heap.size, k * 2 + 1, none⟩) (Nat.le_refl _) (.int .i64 y.q1)).alloc (by simpa using hb.size) (Obj.cells #[.int .i64 y.p0, .int .i64 y.p1, .slice y.A y.n y.c, .int .i64 y.q0, .int .i64 y.q1] 171))
    have hne : wr.heap.size ≠ w.heap.size := by omega
    clear HKQ hke hkl hkq hb hst
    go_wp2
    go_roundw
    case rel => exact ⟨k + 1, by omega, by go_num, HST, HBS.out⟩
    case measure => simp [intOf]; omega

def hgtQ (qs : List Q2) : Nat → Int
  | 0 => 0
  | k + 1 => max (hgtQ qs k) ((qs.getD k ⟨0, 0⟩).a + (qs.getD k ⟨0, 0⟩).b)
set_option maxRecDepth 100000 in
set_option maxHeartbeats 4000000 in
theorem heightOf_ {g n : Nat} {qs : List Q2} {w : World} (hn : qs.length = n) (hr : Rd w w.heap.size (some ⟨g, 0, none⟩) (qs.flatMap Q2.cells)) (hs : n ≤ 1048576) (hb : ∀ t (h : t < qs.length), blkP qs[t].a qs[t].b) :
    Calls Try.prog 139 #[.slice (some ⟨g, 0, none⟩) n n] w (RetP (.int .i64 (hgtQ qs n)) w) := by
  have HN := Lib.hid hn; have HR := Lib.hid hr; have HB := Lib.hid hb
  obtain ⟨r, hrr⟩ : ∃ r, hgtQ qs n = r := ⟨_, rfl⟩
  rw [hrr]
  have HRR := Lib.hid hrr
  clear hn hr hb hrr
  go_enter Try.func139, Try.ntmps139
  go_wp2
  go_loopw [3, 8] (fun v i wr => ∃ (k : Nat) (z : Int), k ≤ n ∧ i = .int .i64 k ∧ v = .int .i64 z ∧ Hid (z = hgtQ qs k) ∧ 0 ≤ z ∧ z ≤ 24 ∧ Below w.heap.size w wr) (fun _ i _ => n - (intOf i).toNat)
  case atStart => exact ⟨0, 0, Nat.zero_le _, rfl, rfl, Lib.hid rfl, by omega, by omega, Below.refl _ _⟩
  case round =>
    obtain ⟨k, z, hk, rfl, rfl, HZ, hz0, hz1, hb⟩ := hrel
    have HBW := Lib.hid hb
    by_cases hlt : k < n
    case neg =>
      have HE : Hid (z = r) := Lib.hid (by rw [HZ.out, ← HRR.out]; congr 1; omega)
      clear hb
      go_wp2
      go_ret
      exact ⟨reti HE.out, HBW.out⟩
    case pos =>
    have hkl : k < qs.length := by have := HN.out; omega
    obtain ⟨hg, f0, f1⟩ := (HR.out.over hb).q2c hkl
    rw [Nat.zero_add] at f0 f1
    have hbk := HB.out k hkl
    obtain ⟨⟨a, b⟩, hq⟩ : ∃ q, qs[k]'hkl = q := ⟨_, rfl⟩
    have HQ : Hid (qs.getD k ⟨0, 0⟩ = ⟨a, b⟩) := Lib.hid (by rw [List.getD_eq_getElem?_getD, List.getElem?_eq_getElem hkl, hq]; rfl)
    rw [hq] at f0 f1 hbk
    obtain ⟨hb1, hb2, hb3⟩ := hbk
    simp only at f0 f1 hb1 hb2 hb3
    have HZ2 : Hid (max z (a + b) = hgtQ qs (k + 1)) := Lib.hid (by rw [hgtQ, ← HZ.out, HQ.out])
    have HBX := Lib.hid (hb.alloc hb.size (Obj.cells #[.int .i64 a, .int .i64 b] 169))
    clear hq hkl hb
    by_cases hm : z ≤ a + b
    · have HZ3 : Hid (a + b = hgtQ qs (k + 1)) := Lib.hid (by rw [← HZ2.out]; omega)
      have e2 : max z (a + b) = a + b := by omega
      go_wp2
      go_roundw
      case rel => exact ⟨k + 1, a + b, by omega, by go_num, rfl, HZ3, by omega, by omega, HBX.out⟩
      case measure => simp [intOf]; omega
    · have HZ3 : Hid (z = hgtQ qs (k + 1)) := Lib.hid (by rw [← HZ2.out]; omega)
      have e2 : max z (a + b) = z := by omega
      go_wp2
      go_roundw
      case rel => exact ⟨k + 1, z, by omega, by go_num, rfl, HZ3, by omega, by omega, HBX.out⟩
      case measure => simp [intOf]; omega
theorem hgt_same {ys : List Lt} {ds : List LtD} (hd : ys.map Lt.d = ds) : ∀ k, k ≤ ys.length → hgtQ (ys.map blkQ) k = hgtK ds k
  | 0, _ => rfl
  | k + 1, h => by
    have hk : k < ys.length := h
    rw [hgtQ, hgtK, hgt_same hd k (by omega), dn_at hd hk rfl]
    have e : (ys.map blkQ).getD k ⟨0, 0⟩ = blkQ ys[k] := by rw [List.getD_eq_getElem?_getD, List.getElem?_map, List.getElem?_eq_getElem hk]; rfl
    rw [e]; rfl
set_option maxRecDepth 100000 in
set_option maxHeartbeats 4000000 in
theorem implPH {g1 g2 g3 n1 n2 n3 c1 c2 B : Nat} {ss : List ByteArray} {fs : List Q4} {ys : List Lt} {ds : List LtD} {w : World} (h : NetAt g1 g2 n1 n2 c1 c2 ss fs w) (hT : Lts B g3 n3 ys w) (hd : ys.map Lt.d = ds) (hs : n3 ≤ 1048576) :
    Calls Try.prog 67 #[.agg #[.slice (some ⟨g1, 0, none⟩) n1 c1, .slice (some ⟨g2, 0, none⟩) n2 c2, .slice (some ⟨g3, 0, none⟩) n3 n3]] w (RetP (phR ss fs ds) w) := by
  have HNT := Lib.hid h; have HT := Lib.hid hT; have HD := Lib.hid hd
  have HLD : Hid (ds.length = n3) := Lib.hid (by rw [← hd, List.length_map]; exact hT.len)
  clear h hT hd
  obtain ⟨R, hRR⟩ : ∃ R, phR ss fs ds = R := ⟨_, rfl⟩
  rw [hRR]
  have HRR := Lib.hid hRR
  clear hRR
  go_enter Try.func67, Try.ntmps67
  go_wp2_with fail
  obtain ⟨W0, hW0⟩ : ∃ W0, w.alloc (Obj.cells #[.slice (some ⟨g1, 0, none⟩) n1 c1, .slice (some ⟨g2, 0, none⟩) n2 c2, .slice (some ⟨g3, 0, none⟩) n3 n3] 84) = W0 := ⟨_, rfl⟩
  have hb0 : Below w.heap.size w W0 := by rw [← hW0]; exact (Below.refl _ _).alloc (Nat.le_refl _) _
  have hk0 : W0.cell? ⟨w.heap.size, 0, none⟩ = some (.slice (some ⟨g1, 0, none⟩) n1 c1) := by rw [← hW0]; simp [go_sem]
  have hk1 : W0.cell? ⟨w.heap.size, 1, none⟩ = some (.slice (some ⟨g2, 0, none⟩) n2 c2) := by rw [← hW0]; simp [go_sem]
  have hk2 : W0.cell? ⟨w.heap.size, 2, none⟩ = some (.slice (some ⟨g3, 0, none⟩) n3 n3) := by rw [← hW0]; simp [go_sem]
  have hz0 : w.heap.size < W0.heap.size := by rw [← hW0]; simp
  have HB0 := Lib.hid hb0; have HK0 := Lib.hid hk0; have HK1 := Lib.hid hk1; have HK2 := Lib.hid hk2; have HZB := Lib.hid hz0
  rw [hW0]
  clear hW0 hb0 hk0 hk1 hk2 hz0
  have CG := Lib.hid (implVP (HNT.out.moved HB0.out) (HT.out.moved HB0.out) HD.out hs)
  obtain ⟨b, hb⟩ : ∃ b, pb (planP ss fs ds) = b := ⟨_, rfl⟩
  rw [hb] at CG
  have HPB := Lib.hid hb
  clear hb
  refine CG.out.mono ?_
  rintro e w1 ⟨rfl, hb1⟩
  have HB1 := Lib.hid (HB0.out.trans (hb1.mono HB0.out.size))
  have k2 := (hb1.cell (p := ⟨w.heap.size, 2, none⟩) HZB.out).trans HK2.out
  clear hb1
  cases b
  case false =>
    have HE : Hid ((.tuple #[.int .i64 0, .bool false] : Value) = R) := Lib.hid (by rw [← HRR.out]; exact ph_no HPB.out)
    go_wp2
    go_ret2
    exact ⟨ret_tupH HE.out, HB1.out⟩
  case true =>
  have hpl : planP ss fs ds := of_pb HPB.out
  have HBL : Hid (∀ t (h : t < (ys.map blkQ).length), blkP (ys.map blkQ)[t].a (ys.map blkQ)[t].b) := Lib.hid (fun t ht => by
    have htl : t < ys.length := by simpa using ht
    have h1 := (hpl.2.2.1 t (by have := HLD.out; have := HT.out.len; omega)).1.2.2
    rw [dn_at HD.out htl rfl] at h1
    simpa [blkQ, Lt.d] using h1)
  have HE : Hid ((.tuple #[.int .i64 (hgtQ (ys.map blkQ) n3), .bool true] : Value) = R) := Lib.hid (by
    rw [← HRR.out, hgt_same HD.out n3 (by have := HT.out.len; omega), ← HLD.out]; exact ph_yes HPB.out)
  clear hpl
  go_wp2_with fail
  refine (blocksOf_ (HT.out.moved HB1.out) hs).mono ?_
  rintro e w2 ⟨rfl, hown, hb2⟩
  have HB2 := Lib.hid (HB1.out.trans (hb2.mono HB1.out.size))
  have HO := Lib.hid (Rd.ofOwnK hown)
  have HQL : Hid ((ys.map blkQ).length = n3) := Lib.hid (by rw [List.length_map]; exact HT.out.len)
  clear hb2 hown k2
  have CH := Lib.hid (heightOf_ HQL.out HO.out hs HBL.out)
  obtain ⟨z, hz⟩ : ∃ z, hgtQ (ys.map blkQ) n3 = z := ⟨_, rfl⟩
  rw [hz] at CH HE
  clear hz
  go_wp2_with fail
  refine CH.out.mono ?_
  rintro e w3 ⟨rfl, hb3⟩
  have HB3 := Lib.hid (HB2.out.trans (hb3.mono HB2.out.size))
  clear hb3
  go_wp2
  go_ret2
  exact ⟨ret_tupH HE.out, HB3.out⟩
end Go.Proofs.Ytdaopbdjbpopiaa
