/- How far an assignment lies above the bound of cliques: contracts of OptimalityGap, both sides. Condition: the table of math/bits holds what Go's text lays (on impl's side). -/
import Derived.Test.YtbnfogedmjjiaaaDoorCaA
import Derived.Test.YtbnfogedmjjiaaaDoorCb2
namespace Go.Proofs.YtbnfogedmjjiaaaDoor
open Go.ChangeShapes Go.WideShapes Go.ChangeAt Go.RowKit Go.Maps

noncomputable def ogS (ds : List RqD) (bs : List Q2) : Int := hgtQ bs bs.length - (bdP ds ds.length (2 ^ ds.length)).1
noncomputable def ogV (ss : List ByteArray) (fs : List Q4) (ds : List RqD) (bs : List Q2) : Int := if caB ss fs ds bs then ogS ds bs else 0
noncomputable def ogR (ss : List ByteArray) (fs : List Q4) (ds : List RqD) (bs : List Q2) : Value := .tuple #[.int .i64 (ogV ss fs ds bs), .bool (caB ss fs ds bs)]
theorem og_no {ss : List ByteArray} {fs : List Q4} {ds : List RqD} {bs : List Q2} (h : ¬ caP ss fs ds bs) : (.tuple #[.int .i64 0, .bool false] : Value) = ogR ss fs ds bs := by
  unfold ogR ogV; rw [show caB ss fs ds bs = false from pb_false h]; rfl
theorem og_yes {ss : List ByteArray} {fs : List Q4} {ds : List RqD} {bs : List Q2} (h : caP ss fs ds bs) : (.tuple #[.int .i64 (ogS ds bs), .bool true] : Value) = ogR ss fs ds bs := by
  unfold ogR ogV; rw [show caB ss fs ds bs = true from pb_true h]; rfl
theorem hgt_in {bs : List Q2} : ∀ {k : Nat}, (∀ t, t < k → blkP (bs.getD t ⟨0, 0⟩).a (bs.getD t ⟨0, 0⟩).b) → 0 ≤ hgtQ bs k ∧ hgtQ bs k ≤ 24
  | 0, _ => by unfold hgtQ; omega
  | k + 1, h => by
    have ih := hgt_in (bs := bs) (k := k) (fun t ht => h t (by omega))
    obtain ⟨h1, h2, h3⟩ := h k (by omega)
    unfold hgtQ
    omega
set_option maxRecDepth 100000 in
set_option maxHeartbeats 8000000 in
theorem specOG {g1 g2 n1 n2 c1 c2 : Nat} {ss : List ByteArray} {fs : List Q4} {w : World} (h : NetAt g1 g2 n1 n2 c1 c2 ss fs w) {B g n : Nat} {ys : List Rq} {ds : List RqD} (hT : Rqs B g n ys w) (hd : ys.map Rq.d = ds) (hs : n ≤ 1048576) {gb m : Nat} {bs : List Q2} (hm : bs.length = m) (hrb : Rd w w.heap.size (some ⟨gb, 0, none⟩) (bs.flatMap Q2.cells)) (hs2 : m ≤ 1048576) :
    Calls Tryd.prog 31 #[.agg #[.slice (some ⟨g1, 0, none⟩) n1 c1, .slice (some ⟨g2, 0, none⟩) n2 c2], .slice (some ⟨g, 0, none⟩) n n, .slice (some ⟨gb, 0, none⟩) m m] w (RetP (ogR ss fs ds bs) w) := by
  have HNT := Lib.hid h; have HT := Lib.hid hT; have HD := Lib.hid hd; have HM := Lib.hid hm; have HRB := Lib.hid hrb
  have HLD : Hid (ds.length = n) := Lib.hid (by rw [← hd, List.length_map]; exact hT.len)
  obtain ⟨R, hR⟩ : ∃ r, ogR ss fs ds bs = r := ⟨_, rfl⟩
  have HNO : Hid (¬ caP ss fs ds bs → (.tuple #[.int .i64 0, .bool false] : Value) = R) := Lib.hid (fun e => by rw [← hR]; exact og_no e)
  have HYES : Hid (caP ss fs ds bs → (.tuple #[.int .i64 (ogS ds bs), .bool true] : Value) = R) := Lib.hid (fun e => by rw [← hR]; exact og_yes e)
  rw [hR]
  clear h hT hd hm hrb hR
  go_enter Tryd.func31, Tryd.ntmps31
  go_wp2_with fail
  obtain ⟨W0, hW0⟩ : ∃ W0, (w.alloc (Obj.cells #[.slice (some ⟨g1, 0, none⟩) n1 c1, .slice (some ⟨g2, 0, none⟩) n2 c2] 34)) = W0 := ⟨_, rfl⟩
  have hb0 : Below w.heap.size w W0 := by rw [← hW0]; exact (Below.refl _ _).alloc (Nat.le_refl _) _
  have hk0 : W0.cell? ⟨w.heap.size, 0, none⟩ = some (.slice (some ⟨g1, 0, none⟩) n1 c1) := by rw [← hW0]; simp [go_sem]
  have hk1 : W0.cell? ⟨w.heap.size, 1, none⟩ = some (.slice (some ⟨g2, 0, none⟩) n2 c2) := by rw [← hW0]; simp [go_sem]
  have hz0 : w.heap.size < W0.heap.size := by rw [← hW0]; simp
  have HB0 := Lib.hid hb0
  have HKB : Hid (∀ W, Below W0.heap.size W0 W → W.cell? ⟨w.heap.size, 0, none⟩ = some (.slice (some ⟨g1, 0, none⟩) n1 c1) ∧ W.cell? ⟨w.heap.size, 1, none⟩ = some (.slice (some ⟨g2, 0, none⟩) n2 c2) ∧ w.heap.size < W.heap.size) := Lib.hid (fun W hW => ⟨(hW.cell (p := ⟨w.heap.size, 0, none⟩) hz0).trans hk0, (hW.cell (p := ⟨w.heap.size, 1, none⟩) hz0).trans hk1, Nat.lt_of_lt_of_le hz0 hW.size⟩)
  rw [hW0]
  clear hW0 hb0 hk0 hk1 hz0
  have CV := Lib.hid (l12Good_ (HNT.out.moved HB0.out) (HT.out.moved HB0.out) HD.out hs)
  obtain ⟨v, hv⟩ : ∃ v, reqsB ss fs ds = v := ⟨_, rfl⟩
  rw [hv] at CV
  have HVB := Lib.hid hv
  clear hv
  refine CV.out.mono ?_
  rintro e w1 ⟨rfl, hb1⟩
  have HB1 := Lib.hid (HB0.out.trans (hb1.mono HB0.out.size))
  clear hb1 CV
  cases v
  case false =>
    have HE := Lib.hid (HNO.out (fun hp => by have h1 := hp.1; rw [HVB.out] at h1; cases h1))
    go_wp2
    go_ret2
    exact ⟨ret_tupC HE.out, HB1.out⟩
  case true =>
  have hn7a : n ≤ 7 := by have := (reqs_facts HVB.out).2.1; have := HLD.out; omega
  have HFA := Lib.hid (reqs_facts HVB.out)
  have CI := Lib.hid (l12Is_ (HT.out.moved HB1.out) HD.out hn7a HM.out (HRB.out.moved HB1.out) hs2 HFA.out.2.2)
  by_cases hp : isP ds bs
  case neg =>
    have HE := Lib.hid (HNO.out (fun h => hp h.2))
    rw [pb_false hp] at CI
    clear hp
    go_wp2_with fail
    refine CI.out.mono ?_
    rintro e w2 ⟨rfl, hb2⟩
    have HB2 := Lib.hid (HB1.out.trans (hb2.mono HB1.out.size))
    clear hb2
    go_wp2
    go_ret2
    exact ⟨ret_tupC HE.out, HB2.out⟩
  case pos =>
  rw [pb_true hp] at CI
  have HP := Lib.hid hp
  clear hp
  go_wp2_with fail
  refine CI.out.mono ?_
  rintro e w2 ⟨rfl, hb2⟩
  have HB2 := Lib.hid (HB1.out.trans (hb2.mono HB1.out.size))
  clear hb2
  have CB := Lib.hid (l12Bound_ (HT.out.moved HB2.out) HD.out hn7a (fun k hk => HFA.out.2.2 k (by have := HLD.out; omega)))
  have HF := Lib.hid (reqs_facts HVB.out)
  have hn7 : n ≤ 7 := by have := HF.out.2.1; have := HLD.out; omega
  have hbi := bd_in (ds := ds) (n := n) (fun k hk => HF.out.2.2 k (by have := HLD.out; omega)) (2 ^ n)
  have hhi := hgt_in (bs := bs) (k := m) (fun t ht => (HP.out.2.1 t (by have := HP.out.1; have := HM.out; omega)).1)
  have HX : Hid ((.tuple #[.int .i64 (hgtQ bs m - (bdP ds n (2 ^ n)).1), .bool true] : Value) = R) := Lib.hid (by have h9 := HYES.out ⟨HVB.out, HP.out⟩; unfold ogS at h9; rw [HLD.out, HM.out] at h9; exact h9)
  obtain ⟨G, hG⟩ : ∃ G, (bdP ds n (2 ^ n)).1 = G := ⟨_, rfl⟩
  obtain ⟨Hh, hHh⟩ : ∃ H, hgtQ bs m = H := ⟨_, rfl⟩
  rw [hG] at hbi HX
  rw [hHh] at hhi HX
  obtain ⟨hb1_, hb2_, _⟩ := hbi
  obtain ⟨hh1_, hh2_⟩ := hhi
  have hsub : IntKind.i64.wrap (Hh - G) = Hh - G := IntWalk.i64_in _ (by omega)
  rw [hG] at CB
  go_wp2_with fail
  refine CB.out.mono ?_
  rintro e w3 ⟨rfl, hb3⟩
  have HB3 := Lib.hid (HB2.out.trans (hb3.mono HB2.out.size))
  clear hb3
  have CH := Lib.hid (height12_ (w := w3) HM.out (HRB.out.moved HB3.out) hs2 (fun t ht => by have h9 := (HP.out.2.1 t (by have := HP.out.1; omega)).1; rw [bkn_at ht rfl] at h9; exact h9))
  rw [hHh] at CH
  clear hG hHh
  go_wp2_with fail
  refine CH.out.mono ?_
  rintro e w4 ⟨rfl, hb4⟩
  have HB4 := Lib.hid (HB3.out.trans (hb4.mono HB3.out.size))
  clear hb4
  go_wp2
  go_ret2
  exact ⟨ret_tupC HX.out, HB4.out⟩
set_option maxRecDepth 100000 in
set_option maxHeartbeats 8000000 in
theorem implOG {g1 g2 n1 n2 c1 c2 : Nat} {ss : List ByteArray} {fs : List Q4} {w : World} (h : NetAt g1 g2 n1 n2 c1 c2 ss fs w) {B g n : Nat} {ys : List Rq} {ds : List RqD} (hT : Rqs B g n ys w) (hd : ys.map Rq.d = ds) (hs : n ≤ 1048576) {gb m : Nat} {bs : List Q2} (hm : bs.length = m) (hrb : Rd w w.heap.size (some ⟨gb, 0, none⟩) (bs.flatMap Q2.cells)) (hs2 : m ≤ 1048576) (hTab : Tab w) :
    Calls Tryd.prog 33 #[.agg #[.slice (some ⟨g1, 0, none⟩) n1 c1, .slice (some ⟨g2, 0, none⟩) n2 c2], .slice (some ⟨g, 0, none⟩) n n, .slice (some ⟨gb, 0, none⟩) m m] w (RetP (ogR ss fs ds bs) w) := by
  have HNT := Lib.hid h; have HT := Lib.hid hT; have HD := Lib.hid hd; have HM := Lib.hid hm; have HRB := Lib.hid hrb
  have HLD : Hid (ds.length = n) := Lib.hid (by rw [← hd, List.length_map]; exact hT.len)
  obtain ⟨R, hR⟩ : ∃ r, ogR ss fs ds bs = r := ⟨_, rfl⟩
  have HNO : Hid (¬ caP ss fs ds bs → (.tuple #[.int .i64 0, .bool false] : Value) = R) := Lib.hid (fun e => by rw [← hR]; exact og_no e)
  have HYES : Hid (caP ss fs ds bs → (.tuple #[.int .i64 (ogS ds bs), .bool true] : Value) = R) := Lib.hid (fun e => by rw [← hR]; exact og_yes e)
  rw [hR]
  have HTB := Lib.hid hTab
  clear hTab h hT hd hm hrb hR
  go_enter Tryd.func33, Tryd.ntmps33
  go_wp2_with fail
  obtain ⟨W0, hW0⟩ : ∃ W0, (w.alloc (Obj.cells #[.slice (some ⟨g1, 0, none⟩) n1 c1, .slice (some ⟨g2, 0, none⟩) n2 c2] 34)) = W0 := ⟨_, rfl⟩
  have hb0 : Below w.heap.size w W0 := by rw [← hW0]; exact (Below.refl _ _).alloc (Nat.le_refl _) _
  have hk0 : W0.cell? ⟨w.heap.size, 0, none⟩ = some (.slice (some ⟨g1, 0, none⟩) n1 c1) := by rw [← hW0]; simp [go_sem]
  have hk1 : W0.cell? ⟨w.heap.size, 1, none⟩ = some (.slice (some ⟨g2, 0, none⟩) n2 c2) := by rw [← hW0]; simp [go_sem]
  have hz0 : w.heap.size < W0.heap.size := by rw [← hW0]; simp
  have HB0 := Lib.hid hb0
  have HKB : Hid (∀ W, Below W0.heap.size W0 W → W.cell? ⟨w.heap.size, 0, none⟩ = some (.slice (some ⟨g1, 0, none⟩) n1 c1) ∧ W.cell? ⟨w.heap.size, 1, none⟩ = some (.slice (some ⟨g2, 0, none⟩) n2 c2) ∧ w.heap.size < W.heap.size) := Lib.hid (fun W hW => ⟨(hW.cell (p := ⟨w.heap.size, 0, none⟩) hz0).trans hk0, (hW.cell (p := ⟨w.heap.size, 1, none⟩) hz0).trans hk1, Nat.lt_of_lt_of_le hz0 hW.size⟩)
  rw [hW0]
  clear hW0 hb0 hk0 hk1 hz0
  have CA := Lib.hid (implCA (HNT.out.moved HB0.out) (HT.out.moved HB0.out) HD.out hs HM.out (HRB.out.moved HB0.out) hs2)
  have HCB : Hid (∀ W, Below W0.heap.size W0 W → Calls Tryd.prog 22 #[.agg #[.slice (some ⟨g1, 0, none⟩) n1 c1, .slice (some ⟨g2, 0, none⟩) n2 c2], .slice (some ⟨g, 0, none⟩) n n] W (CbP (cbG ss fs ds) (cbL ss fs ds) (reqsB ss fs ds) W)) := Lib.hid (fun W hW => implCB ((HNT.out.moved HB0.out).moved hW) ((HT.out.moved HB0.out).moved hW) HD.out hs ((HTB.out.over HB0.out).over hW))
  by_cases hp : caP ss fs ds bs
  case neg =>
    have HE := Lib.hid (HNO.out hp)
    rw [← ca_no hp] at CA
    clear hp
    refine CA.out.mono ?_
    rintro e w1 ⟨rfl, hb1⟩
    have HB1 := Lib.hid (HB0.out.trans (hb1.mono HB0.out.size))
    clear hb1
    go_wp2
    go_ret2
    exact ⟨ret_tupC HE.out, HB1.out⟩
  case pos =>
  rw [← ca_yes hp, HM.out] at CA
  have HVB : Hid (reqsB ss fs ds = true) := Lib.hid hp.1
  have HP : Hid (isP ds bs) := Lib.hid hp.2
  clear hp
  have HF := Lib.hid (reqs_facts HVB.out)
  have hn7 : n ≤ 7 := by have := HF.out.2.1; have := HLD.out; omega
  have hbi := bd_in (ds := ds) (n := n) (fun k hk => HF.out.2.2 k (by have := HLD.out; omega)) (2 ^ n)
  have hhi := hgt_in (bs := bs) (k := m) (fun t ht => (HP.out.2.1 t (by have := HP.out.1; have := HM.out; omega)).1)
  have HX : Hid ((.tuple #[.int .i64 (hgtQ bs m - (bdP ds n (2 ^ n)).1), .bool true] : Value) = R) := Lib.hid (by have h9 := HYES.out ⟨HVB.out, HP.out⟩; unfold ogS at h9; rw [HLD.out, HM.out] at h9; exact h9)
  obtain ⟨G, hG⟩ : ∃ G, (bdP ds n (2 ^ n)).1 = G := ⟨_, rfl⟩
  obtain ⟨Hh, hHh⟩ : ∃ H, hgtQ bs m = H := ⟨_, rfl⟩
  rw [hG] at hbi HX
  rw [hHh] at hhi HX
  obtain ⟨hb1_, hb2_, _⟩ := hbi
  obtain ⟨hh1_, hh2_⟩ := hhi
  have hsub : IntKind.i64.wrap (Hh - G) = Hh - G := IntWalk.i64_in _ (by omega)
  rw [hHh] at CA
  have HCG : Hid (cbG ss fs ds = G) := Lib.hid (by rw [(cb_yes HVB.out).1, HLD.out, hG])
  rw [HCG.out, HVB.out] at HCB
  clear hG hHh
  refine CA.out.mono ?_
  rintro e w1 ⟨rfl, hb1⟩
  have HW1 := Lib.hid hb1
  have HB1 := Lib.hid (HB0.out.trans (hb1.mono HB0.out.size))
  clear hb1
  obtain ⟨k0, k1, hgz⟩ := HKB.out _ HW1.out
  go_wp2_with fail
  clear k0 k1 hgz
  refine (HCB.out _ HW1.out).mono ?_
  rintro e w2 ⟨A9, N9, c9, rfl, _, _, hb2⟩
  have HB2 := Lib.hid (HB1.out.trans (hb2.mono HB1.out.size))
  clear hb2
  go_wp2
  go_ret2
  exact ⟨ret_tupC HX.out, HB2.out⟩
end Go.Proofs.YtbnfogedmjjiaaaDoor
