/- Lights: the lowest first slot of one: contracts of LowestFirst, both sides. Condition: the table of math/bits holds what Go's text lays. -/
import Derived.Test.YtlmemmcdabhooaaDoorLow
namespace Go.Proofs.YtlmemmcdabhooaaDoor
open Go.ChangeShapes Go.WideShapes Go.ChangeAt Go.RowKit

noncomputable def lfB (ss : List ByteArray) (fs : List Q4) (ds : List LtD) (id : Int) : Bool := lnB ss fs ds id
noncomputable def lfV (ss : List ByteArray) (fs : List Q4) (ds : List LtD) (id : Int) (hl : Bool) : Int := if lnB ss fs ds id then (lowV ds (idxI ds id).toNat hl : Int) else 0
noncomputable def lfR (ss : List ByteArray) (fs : List Q4) (ds : List LtD) (id : Int) (hl : Bool) : Value := .tuple #[.int .i64 (lfV ss fs ds id hl), .bool (lfB ss fs ds id)]
theorem lf_cases (ss : List ByteArray) (fs : List Q4) (ds : List LtD) (id : Int) (hl : Bool) :
    ((pb (planP ss fs ds) = false ∨ idxI ds id = -1) ∧ lnR ss fs ds id = .tuple #[.int .i64 0, .bool false] ∧ lfR ss fs ds id hl = .tuple #[.int .i64 0, .bool false]) ∨
    ∃ k : Nat, k < ds.length ∧ pb (planP ss fs ds) = true ∧ idxI ds id = (k : Int) ∧ lnR ss fs ds id = .tuple #[.int .i64 (k : Int), .bool true] ∧ lfR ss fs ds id hl = .tuple #[.int .i64 (lowV ds k hl : Int), .bool true] := by
  cases hb : pb (planP ss fs ds) with
  | false =>
    refine .inl ⟨.inl rfl, (ln_bad hb).symm, ?_⟩
    unfold lfR lfV lfB lnB; rw [hb]; rfl
  | true =>
    cases hi : idxN ds id with
    | none =>
      refine .inl ⟨.inr (by unfold idxI; rw [hi]), (ln_none hi).symm, ?_⟩
      unfold lfR lfV lfB lnB; rw [hi]; simp
    | some k =>
      have he : idxI ds id = (k : Int) := by unfold idxI; rw [hi]
      refine .inr ⟨k, idx_lt hi, rfl, he, (ln_some hb hi).symm, ?_⟩
      unfold lfR lfV lfB lnB; rw [hi, hb, he]; rfl
theorem plan_facts {ss : List ByteArray} {fs : List Q4} {ds : List LtD} (h : planP ss fs ds) : ds.length ≤ 12 ∧ (∀ t, t < ds.length → blkP (dn ds t).q0 (dn ds t).q1) ∧ (∀ t, t < ds.length → ∀ k, k < (dn ds t).zs.length → 0 ≤ nth (dn ds t).zs k ∧ nth (dn ds t).zs k < 20) ∧ ∀ t, t < ds.length → (dn ds t).zs ≠ [] := by
  refine ⟨h.2.1, fun t ht => (h.2.2.1 t ht).1.2.2, fun t ht k hk => ?_, fun t ht => ?_⟩
  · have hr := (h.2.2.1 t ht).1.2.1
    have h2 := (route_nodup hr).2 ((dn ds t).zs[k]'hk) (List.getElem_mem hk)
    rw [nth_eq hk] at h2
    have := h.1.2.1
    omega
  · obtain ⟨_, vs, hvs⟩ := routeB_yes (h.2.2.1 t ht).1.2.1
    unfold routeN at hvs
    split at hvs
    · rename_i hc; exact hc.2
    · cases hvs
theorem lts_some {B g n : Nat} {ys : List Lt} {w : World} (h : Lts B g n ys w) : ∀ y ∈ ys, ∃ ad, y.A = some ad := fun y hy => by
  obtain ⟨q, e, _⟩ := h.own y hy
  exact ⟨_, e⟩
set_option maxRecDepth 100000 in
set_option maxHeartbeats 4000000 in
theorem implLF {g1 g2 g3 n1 n2 n3 c1 c2 B : Nat} {ss : List ByteArray} {fs : List Q4} {ys : List Lt} {ds : List LtD} {w : World} (h : NetAt g1 g2 n1 n2 c1 c2 ss fs w) (hT : Lts B g3 n3 ys w) (hd : ys.map Lt.d = ds) (hs : n3 ≤ 1048576) (id : Int) (hl : Bool) (hTab : Tab w) :
    Calls Tryd.prog 8 #[.agg #[.slice (some ⟨g1, 0, none⟩) n1 c1, .slice (some ⟨g2, 0, none⟩) n2 c2, .slice (some ⟨g3, 0, none⟩) n3 n3], .int .i64 id, .bool hl] w (RetP (lfR ss fs ds id hl) w) := by
  have HNT := Lib.hid h; have HT := Lib.hid hT; have HD := Lib.hid hd; have HTAB := Lib.hid hTab
  have HLD : Hid (ds.length = n3) := Lib.hid (by rw [← hd, List.length_map]; exact hT.len)
  clear h hT hd hTab
  obtain ⟨R, hRR⟩ : ∃ R, lfR ss fs ds id hl = R := ⟨_, rfl⟩
  obtain ⟨LR, hLR⟩ : ∃ R, lnR ss fs ds id = R := ⟨_, rfl⟩
  have hcs := lf_cases ss fs ds id hl
  rw [hRR, hLR] at hcs
  rw [hRR]
  have HCS := Lib.hid hcs
  have HLR := Lib.hid hLR
  clear hRR hcs hLR
  go_enter Tryd.func8, Tryd.ntmps8
  go_wp2_with fail
  obtain ⟨W0, hW0⟩ : ∃ W0, w.alloc (Obj.cells #[.slice (some ⟨g1, 0, none⟩) n1 c1, .slice (some ⟨g2, 0, none⟩) n2 c2, .slice (some ⟨g3, 0, none⟩) n3 n3] 37) = W0 := ⟨_, rfl⟩
  have hb0 : Below w.heap.size w W0 := by rw [← hW0]; exact (Below.refl _ _).alloc (Nat.le_refl _) _
  have hk2 : W0.cell? ⟨w.heap.size, 2, none⟩ = some (.slice (some ⟨g3, 0, none⟩) n3 n3) := by rw [← hW0]; simp [go_sem]
  have hz0 : w.heap.size < W0.heap.size := by rw [← hW0]; simp
  have HB0 := Lib.hid hb0; have HK2 := Lib.hid hk2; have HZB := Lib.hid hz0
  rw [hW0]
  clear hW0 hb0 hk2 hz0
  have CL := Lib.hid (implLN (HNT.out.moved HB0.out) (HT.out.moved HB0.out) HD.out hs id)
  rw [HLR.out] at CL
  refine CL.out.mono ?_
  rintro e w1 ⟨rfl, hb1⟩
  have HB1 := Lib.hid (HB0.out.trans (hb1.mono HB0.out.size))
  have k2 := (hb1.cell (p := ⟨w.heap.size, 2, none⟩) HZB.out).trans HK2.out
  clear hb1
  rcases HCS.out with ⟨_, h1, h2⟩ | ⟨k, hk, hp, _, h1, h2⟩
  · subst h1
    have HE : Hid ((.tuple #[.int .i64 0, .bool false] : Value) = R) := Lib.hid h2.symm
    clear h2
    go_wp2
    go_ret2
    exact ⟨ret_tup HE.out, HB1.out⟩
  · subst h1
    have HE : Hid ((.tuple #[.int .i64 (lowV ds k hl : Int), .bool true] : Value) = R) := Lib.hid h2.symm
    have hpf := plan_facts (of_pb hp)
    have hlen := HLD.out
    have CW := Lib.hid (implLow (HT.out.moved HB1.out) HD.out (by omega) hpf.2.1 hpf.2.2.1 k (by omega) (hpf.2.2.2 k hk) hl (HTAB.out.over HB1.out))
    obtain ⟨V, hV⟩ : ∃ V, lowV ds k hl = V := ⟨_, rfl⟩
    rw [hV] at CW HE
    clear h2 hpf hlen hp hk hV
    go_wp2_with fail
    refine CW.out.mono ?_
    rintro e w2 ⟨rfl, hb2⟩
    have HB2 := Lib.hid (HB1.out.trans (hb2.mono HB1.out.size))
    clear hb2 k2
    go_wp2
    go_ret2
    exact ⟨ret_tup HE.out, HB2.out⟩

set_option maxRecDepth 100000 in
set_option maxHeartbeats 8000000 in
theorem specLF {g1 g2 g3 n1 n2 n3 c1 c2 B : Nat} {ss : List ByteArray} {fs : List Q4} {ys : List Lt} {ds : List LtD} {w : World} (h : NetAt g1 g2 n1 n2 c1 c2 ss fs w) (hT : Lts B g3 n3 ys w) (hd : ys.map Lt.d = ds) (hs : n3 ≤ 1048576) (id : Int) (hl : Bool) :
    Calls Tryd.prog 6 #[.agg #[.slice (some ⟨g1, 0, none⟩) n1 c1, .slice (some ⟨g2, 0, none⟩) n2 c2, .slice (some ⟨g3, 0, none⟩) n3 n3], .int .i64 id, .bool hl] w (RetP (lfR ss fs ds id hl) w) := by
  have HNT := Lib.hid h; have HT := Lib.hid hT; have HD := Lib.hid hd
  have HLD : Hid (ds.length = n3) := Lib.hid (by rw [← hd, List.length_map]; exact hT.len)
  clear h hT hd
  obtain ⟨R, hRR⟩ : ∃ R, lfR ss fs ds id hl = R := ⟨_, rfl⟩
  have hcs := lf_cases ss fs ds id hl
  rw [hRR] at hcs
  rw [hRR]
  have HCS := Lib.hid hcs
  clear hRR hcs
  go_enter Tryd.func6, Tryd.ntmps6
  go_wp2_with fail
  obtain ⟨W0, hW0⟩ : ∃ W0, w.alloc (Obj.cells #[.slice (some ⟨g1, 0, none⟩) n1 c1, .slice (some ⟨g2, 0, none⟩) n2 c2, .slice (some ⟨g3, 0, none⟩) n3 n3] 37) = W0 := ⟨_, rfl⟩
  have hb0 : Below w.heap.size w W0 := by rw [← hW0]; exact (Below.refl _ _).alloc (Nat.le_refl _) _
  have hk0 : W0.cell? ⟨w.heap.size, 0, none⟩ = some (.slice (some ⟨g1, 0, none⟩) n1 c1) := by rw [← hW0]; simp [go_sem]
  have hk1 : W0.cell? ⟨w.heap.size, 1, none⟩ = some (.slice (some ⟨g2, 0, none⟩) n2 c2) := by rw [← hW0]; simp [go_sem]
  have hk2 : W0.cell? ⟨w.heap.size, 2, none⟩ = some (.slice (some ⟨g3, 0, none⟩) n3 n3) := by rw [← hW0]; simp [go_sem]
  have hz0 : w.heap.size < W0.heap.size := by rw [← hW0]; simp
  have HK : Hid (∀ u, Below W0.heap.size W0 u → u.cell? ⟨w.heap.size, 0, none⟩ = some (.slice (some ⟨g1, 0, none⟩) n1 c1) ∧ u.cell? ⟨w.heap.size, 1, none⟩ = some (.slice (some ⟨g2, 0, none⟩) n2 c2) ∧ u.cell? ⟨w.heap.size, 2, none⟩ = some (.slice (some ⟨g3, 0, none⟩) n3 n3)) := Lib.hid fun u hu => ⟨(hu.cell (p := ⟨w.heap.size, 0, none⟩) hz0).trans hk0, (hu.cell (p := ⟨w.heap.size, 1, none⟩) hz0).trans hk1, (hu.cell (p := ⟨w.heap.size, 2, none⟩) hz0).trans hk2⟩
  have HB0 := Lib.hid hb0; have HZB := Lib.hid hz0
  rw [hW0]
  clear hW0 hb0 hk0 hk1 hk2
  have CG := Lib.hid (l9Good_ (HNT.out.moved HB0.out) (HT.out.moved HB0.out) HD.out hs)
  obtain ⟨b, hb⟩ : ∃ b, pb (planP ss fs ds) = b := ⟨_, rfl⟩
  rw [hb] at CG HCS
  have HPB := Lib.hid hb
  clear hb
  refine CG.out.mono ?_
  rintro e w1 ⟨rfl, hb1⟩
  have HB1 := Lib.hid (HB0.out.trans (hb1.mono HB0.out.size))
  have HB1W := Lib.hid hb1
  obtain ⟨k0, k1, k2⟩ := HK.out w1 hb1
  have hzw : w.heap.size < w1.heap.size := Nat.lt_of_lt_of_le HZB.out hb1.size
  clear hb1 hz0
  cases b
  case false =>
    have HE : Hid ((.tuple #[.int .i64 0, .bool false] : Value) = R) := Lib.hid (by
      rcases HCS.out with ⟨_, _, h2⟩ | ⟨k, _, hp, _⟩
      · exact h2.symm
      · cases hp)
    go_wp2
    go_ret2
    exact ⟨ret_tup HE.out, HB1.out⟩
  case true =>
  have CF := Lib.hid (l9Find_ (HNT.out.moved HB1.out) (HT.out.moved HB1.out) HD.out hs id)
  obtain ⟨z, hz⟩ : ∃ z, idxI ds id = z := ⟨_, rfl⟩
  rw [hz] at CF HCS
  have HZ := Lib.hid hz
  clear hz
  rcases HCS.out with ⟨hno, _, h2⟩ | ⟨k, hk, _, rfl, _, h2⟩
  · have HE : Hid ((.tuple #[.int .i64 0, .bool false] : Value) = R) := Lib.hid h2.symm
    obtain rfl : z = -1 := by
      rcases hno with h | h
      · cases h
      · exact h
    clear h2 hno
    go_wp2_with fail
    refine CF.out.mono ?_
    rintro e w2 ⟨rfl, hb2⟩
    have HB2 := Lib.hid (HB1.out.trans (hb2.mono HB1.out.size))
    clear hb2
    go_wp2
    go_ret2
    exact ⟨ret_tup HE.out, HB2.out⟩
  · have HE : Hid ((.tuple #[.int .i64 (lowV ds k hl : Int), .bool true] : Value) = R) := Lib.hid h2.symm
    have hpf := plan_facts (of_pb HPB.out)
    have hlen := HLD.out
    have CW : Hid (∀ U, Below w.heap.size w U → Calls Tryd.prog 21 #[.agg #[.slice (some ⟨g1, 0, none⟩) n1 c1, .slice (some ⟨g2, 0, none⟩) n2 c2, .slice (some ⟨g3, 0, none⟩) n3 n3], .int .i64 (k : Int), .bool hl] U (RetP (.int .i64 (lowV ds k hl : Int)) U)) := Lib.hid (fun U hU => l21Low_ (HNT.out.moved hU) (HT.out.moved hU) HD.out (by omega) hpf.2.1 (lts_some HT.out) k (by omega) hl)
    have CF2 : Hid (∀ U, Below w.heap.size w U → Calls Tryd.prog 20 #[.agg #[.slice (some ⟨g1, 0, none⟩) n1 c1, .slice (some ⟨g2, 0, none⟩) n2 c2, .slice (some ⟨g3, 0, none⟩) n3 n3], .int .i64 id] U (RetP (.int .i64 (k : Int)) U)) := Lib.hid (fun U hU => by
      have h9 := l9Find_ (HNT.out.moved hU) (HT.out.moved hU) HD.out hs id
      rw [HZ.out] at h9; exact h9)
    obtain ⟨V, hV⟩ : ∃ V, lowV ds k hl = V := ⟨_, rfl⟩
    rw [hV] at CW HE
    clear h2 hpf hlen hk hV
    go_wp2_with fail
    refine CF.out.mono ?_
    rintro e w2 ⟨rfl, hb2⟩
    have HB2 := Lib.hid (HB1.out.trans (hb2.mono HB1.out.size))
    obtain ⟨l0, l1, l2⟩ := HK.out w2 (HB1W.out.trans (hb2.mono HB1W.out.size))
    have hzw2 : w.heap.size < w2.heap.size := Nat.lt_of_lt_of_le hzw hb2.size
    clear hb2 k0 k1 k2
    go_wp2_with fail
    have hbd : Bel w2 w2.drew := Bel.of (Below.refl _ _).drew
    go_region_held3 (fun U => U.cell? ⟨w.heap.size, 0, none⟩ = some (.slice (some ⟨g1, 0, none⟩) n1 c1) ∧ U.cell? ⟨w.heap.size, 1, none⟩ = some (.slice (some ⟨g2, 0, none⟩) n2 c2) ∧ U.cell? ⟨w.heap.size, 2, none⟩ = some (.slice (some ⟨g3, 0, none⟩) n3 n3) ∧ Bel w2 U)
      (first | (go_keep; done) | (go_split_ands; (refine ⟨?_, ?_, ?_, ?_⟩ <;> first | assumption | exact Bel.step (by assumption) hbA | exact Bel.step (by assumption) hbB | exact (Bel.at_ (by assumption) hbA (by assumption)).trans (by assumption) | exact (Bel.at_ (by assumption) hbB (by assumption)).trans (by assumption))))
      (first
        | (go_at_call 20; go_split_ands; refine (CF2.out _ (Below.trans HB2.out ((Bel.out (by assumption)).mono HB2.out.size))).mono ?_; rintro e u1 ⟨rfl, hbA⟩)
        | (go_at_call 21; go_split_ands; refine (CW.out _ (Below.trans HB2.out ((Bel.out (by assumption)).mono HB2.out.size))).mono ?_; rintro e u2 ⟨rfl, hbB⟩))
    all_goals
      go_split_ands
      have HB3 := Lib.hid (HB2.out.trans ((Bel.out (by assumption)).mono HB2.out.size))
      go_wp2
      go_ret2
      exact ⟨ret_tup HE.out, HB3.out⟩
end Go.Proofs.YtlmemmcdabhooaaDoor
