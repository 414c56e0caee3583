/- Traffic between nodes: contracts of TrafficBetween, both sides. No condition but those typed. -/
import Derived.Test.YtnbeomnlobfpfaaGB
import Derived.Test.YtnbeomnlobfpfaaRws
import Derived.Test.YtnbeomnlobfpfaaGA
import Derived.BigRegion
namespace Go.Proofs.Ytnbeomnlobfpfaa
open Go.ChangeShapes Go.WideShapes Go.ChangeAt Go.RowKit

theorem Rws.store {B : Nat} {A : Option Addr} {n c : Nat} {ys : List Rw} {w : World} (h : Rws B A n c ys w) {k : Nat} (hk : k < ys.length) {y : Rw} (hy : ys[k] = y) {g : Nat} (hA : y.A = some ⟨g, 0, none⟩) (j : Nat) (v : Int) :
    Rws B A n c (ys.set k ⟨y.A, y.n, y.c, y.zs.set j v⟩) (w.setCell ⟨g, j, none⟩ (.int .i64 v)) := by
  have hoff : Off (fun b => b = g) w (w.setCell ⟨g, j, none⟩ (.int .i64 v)) := Off.set_ (Off.refl (fun b => b = g) w) (p := ⟨g, j, none⟩) rfl _
  have hyo := h.own y (by rw [← hy]; exact List.getElem_mem hk)
  have hyb : y.val.ownBlock = some g := by unfold Rw.val; rw [hA]; rfl
  have hmap : (ys.set k ⟨y.A, y.n, y.c, y.zs.set j v⟩).map Rw.val = ys.map Rw.val := by
    rw [List.map_set]
    show (ys.map Rw.val).set k y.val = _
    rw [← hy]
    apply List.ext_getElem?
    intro i
    rw [List.getElem?_set]
    split
    · rename_i e; subst e; simp [hk]
    · rfl
  refine ⟨by rw [List.length_set]; exact h.len, ?_, ?_, ?_⟩
  · rw [hmap]
    exact own_offV h.row hoff (fun g2 hg2 e => h.ap hyo g2 (by rw [hyb, e]) hg2)
  · intro z hz
    obtain ⟨m, hm, rfl⟩ := List.getElem_of_mem hz
    rw [List.length_set] at hm
    rw [List.getElem_set]
    split
    · refine ⟨by rw [List.length_set]; exact hyo.1, ?_⟩
      have h9 := hyo.2
      simp only [hA] at h9 ⊢
      have h8 := (h9.stored j (.int .i64 v)).1
      rw [List.map_set]
      exact h8
    · rename_i hne
      have hzo := h.own ys[m] (List.getElem_mem hm)
      refine hzo.off hoff (fun g2 hg2 e => ?_)
      subst e
      have hp := List.pairwise_iff_getElem.1 h.apart
      rcases Nat.lt_or_gt_of_ne hne with h1 | h1
      · exact hp k m hk hm h1 g2 (by rw [hy]; exact hyb) hg2
      · exact hp m k hm hk h1 g2 hg2 (by rw [hy]; exact hyb)
  · have h1 := List.pairwise_map.2 h.apart
    rw [← hmap] at h1
    exact List.pairwise_map.1 h1

theorem sum_rep (n c : Nat) : (List.replicate n c).sum = n * c := by
  induction n with
  | zero => simp
  | succ n ih => rw [List.replicate_succ, List.sum_cons, ih, Nat.succ_mul]; omega
def dqn (ds : List Q4) (t : Nat) : Q4 := ds.getD t ⟨0, 0, 0, 0⟩
theorem dqn_at {ds : List Q4} {k : Nat} (hk : k < ds.length) {q : Q4} (hq : ds[k] = q) : dqn ds k = q := by
  unfold dqn; rw [List.getD_eq_getElem?_getD, List.getElem?_eq_getElem hk, hq]; rfl
/-- what demand t adds between i and j. -/
def tbC (ds : List Q4) (i j : Int) (t : Nat) : Int := (if (dqn ds t).a = i ∧ (dqn ds t).b = j then (dqn ds t).c else 0) + (if (dqn ds t).b = i ∧ (dqn ds t).a = j then (dqn ds t).c else 0)
def tbV (ds : List Q4) (i j : Int) : Nat → Int
  | 0 => 0
  | t + 1 => tbV ds i j t + tbC ds i j t
def tbR (ds : List Q4) (n : Nat) (i : Int) (t : Nat) : List Int := (List.range n).map fun (j : Nat) => tbV ds i (j : Int) t
def tbK (ds : List Q4) (n m t : Nat) : List (List Int) := (List.range m).map fun (i : Nat) => tbR ds n (i : Int) t
theorem tbR_len (ds : List Q4) (n : Nat) (i : Int) (t : Nat) : (tbR ds n i t).length = n := by unfold tbR; simp
theorem tbR_at (ds : List Q4) (n : Nat) (i : Int) (t j : Nat) (h : j < n) : (tbR ds n i t)[j]'(by rw [tbR_len]; exact h) = tbV ds i (j : Int) t := by unfold tbR; simp
theorem tb_set {ds : List Q4} {n t b : Nat} {i c : Int} (h : ∀ j : Nat, j < n → tbC ds i (j : Int) t = if j = b then c else 0) : tbR ds n i (t + 1) = (tbR ds n i t).set b (tbV ds i (b : Int) t + c) := by
  apply List.ext_getElem
  · rw [List.length_set, tbR_len, tbR_len]
  · intro j h1 h2
    rw [tbR_len] at h1
    rw [List.getElem_set, tbR_at _ _ _ _ _ h1]
    have e : tbV ds i (j : Int) (t + 1) = tbV ds i (j : Int) t + tbC ds i (j : Int) t := rfl
    rw [e, h j h1]
    by_cases hb : b = j
    · subst hb; rw [if_pos rfl, if_pos rfl]
    · rw [if_neg (fun e => hb e.symm), if_neg hb, tbR_at _ _ _ _ _ h1]; omega
theorem tb_same {ds : List Q4} {n t : Nat} {i : Int} (h : ∀ j : Nat, j < n → tbC ds i (j : Int) t = 0) : tbR ds n i (t + 1) = tbR ds n i t := by
  unfold tbR
  refine List.map_congr_left fun j hj => ?_
  have e : tbV ds i (j : Int) (t + 1) = tbV ds i (j : Int) t + tbC ds i (j : Int) t := rfl
  rw [e, h j (List.mem_range.1 hj)]; omega
theorem tbC_a {ds : List Q4} {t : Nat} {q : Q4} (hq : dqn ds t = q) (hne : q.a ≠ q.b) {i b : Nat} (ha : q.a = (i : Int)) (hb : q.b = (b : Int)) (j : Nat) : tbC ds (i : Int) (j : Int) t = if j = b then q.c else 0 := by
  unfold tbC
  rw [hq, if_neg (show ¬ (q.b = (i : Int) ∧ q.a = (j : Int)) from fun e => hne (by rw [e.1, ha]))]
  by_cases h : j = b
  · rw [if_pos ⟨ha, by rw [hb, h]⟩, if_pos h]; omega
  · rw [if_neg (fun e => h (by have := e.2; omega)), if_neg h]; omega
theorem tbC_b {ds : List Q4} {t : Nat} {q : Q4} (hq : dqn ds t = q) (hne : q.a ≠ q.b) {i a : Nat} (hb : q.b = (i : Int)) (ha : q.a = (a : Int)) (j : Nat) : tbC ds (i : Int) (j : Int) t = if j = a then q.c else 0 := by
  unfold tbC
  rw [hq, if_neg (show ¬ (q.a = (i : Int) ∧ q.b = (j : Int)) from fun e => hne (by rw [e.1, hb]))]
  by_cases h : j = a
  · rw [if_pos ⟨hb, by rw [ha, h]⟩, if_pos h]; omega
  · rw [if_neg (fun e => h (by have := e.2; omega)), if_neg h]; omega
theorem tbC_no {ds : List Q4} {t : Nat} {q : Q4} (hq : dqn ds t = q) {i : Int} (ha : q.a ≠ i) (hb : q.b ≠ i) (j : Int) : tbC ds i j t = 0 := by
  unfold tbC
  rw [hq, if_neg (fun e => ha e.1), if_neg (fun e => hb e.1)]; rfl
theorem tbC_in {ds : List Q4} {t : Nat} (h : 1 ≤ (dqn ds t).c ∧ (dqn ds t).c ≤ 1000) (i j : Int) : 0 ≤ tbC ds i j t ∧ tbC ds i j t ≤ 2000 := by
  unfold tbC; split <;> split <;> omega
theorem tbV_in {ds : List Q4} (h : ∀ t, t < ds.length → 1 ≤ (dqn ds t).c ∧ (dqn ds t).c ≤ 1000) (i j : Int) : ∀ t : Nat, t ≤ ds.length → 0 ≤ tbV ds i j t ∧ tbV ds i j t ≤ 2000 * (t : Int)
  | 0, _ => by show 0 ≤ (0 : Int) ∧ (0 : Int) ≤ 2000 * ((0 : Nat) : Int); omega
  | t + 1, ht => by
    have ih := tbV_in h i j t (by omega)
    have h2 := tbC_in (h t (by omega)) i j
    have e : tbV ds i j (t + 1) = tbV ds i j t + tbC ds i j t := rfl
    rw [e]; omega
theorem tbK_snoc (ds : List Q4) (n m t : Nat) : tbK ds n (m + 1) t = tbK ds n m t ++ [tbR ds n (m : Int) t] := by unfold tbK; rw [List.range_succ, List.map_append]; rfl
theorem tbK_len (ds : List Q4) (n m t : Nat) : (tbK ds n m t).length = m := by unfold tbK; simp
theorem tbK_at (ds : List Q4) (n m t i : Nat) (h : i < m) : (tbK ds n m t)[i]'(by rw [tbK_len]; exact h) = tbR ds n (i : Int) t := by unfold tbK; simp
theorem tbK_zero (ds : List Q4) (n m : Nat) : tbK ds n m 0 = List.replicate m (List.replicate n 0) := by
  apply List.ext_getElem
  · rw [tbK_len, List.length_replicate]
  · intro i h1 h2
    rw [tbK_len] at h1
    rw [tbK_at _ _ _ _ _ h1, List.getElem_replicate]
    apply List.ext_getElem
    · rw [tbR_len, List.length_replicate]
    · intro j h3 h4
      rw [tbR_len] at h3
      rw [tbR_at _ _ _ _ _ h3, List.getElem_replicate]; rfl
/-- both entries of a demand. -/
theorem tbK_step {ds : List Q4} {n t a b : Nat} {q : Q4} (hq : dqn ds t = q) (hne : q.a ≠ q.b) (ha : q.a = (a : Int)) (hb : q.b = (b : Int)) (han : a < n) (hbn : b < n) :
    tbK ds n n (t + 1) = ((tbK ds n n t).set a ((tbR ds n (a : Int) t).set b (tbV ds (a : Int) (b : Int) t + q.c))).set b ((tbR ds n (b : Int) t).set a (tbV ds (b : Int) (a : Int) t + q.c)) := by
  apply List.ext_getElem
  · simp [tbK_len]
  · intro i h1 h2
    rw [tbK_len] at h1
    rw [tbK_at _ _ _ _ _ h1, List.getElem_set, List.getElem_set]
    by_cases hbi : b = i
    · subst hbi
      rw [if_pos rfl]
      exact tb_set (fun j _ => tbC_b hq hne hb ha j)
    · rw [if_neg hbi]
      by_cases hai : a = i
      · subst hai
        rw [if_pos rfl]
        exact tb_set (fun j _ => tbC_a hq hne ha hb j)
      · rw [if_neg hai, tbK_at _ _ _ _ _ h1]
        exact tb_same (fun j _ => tbC_no hq (by rw [ha]; omega) (by rw [hb]; omega) _)
noncomputable def tbL (ss : List ByteArray) (fs ds : List Q4) : List (List Int) := if pb (demsP ss fs ds) then tbK ds ss.length ss.length ds.length else []
theorem tb_no {ss : List ByteArray} {fs ds : List Q4} (h : ¬ demsP ss fs ds) : tbL ss fs ds = [] ∧ pb (demsP ss fs ds) = false := by
  have hb := pb_false h
  exact ⟨by unfold tbL; rw [hb]; rfl, hb⟩
theorem tb_yes {ss : List ByteArray} {fs ds : List Q4} (h : demsP ss fs ds) : tbL ss fs ds = tbK ds ss.length ss.length ds.length ∧ pb (demsP ss fs ds) = true := by
  have hb := pb_true h
  exact ⟨by unfold tbL; rw [hb]; rfl, hb⟩
theorem tbL_len (ss : List ByteArray) (fs ds : List Q4) : (tbL ss fs ds).length ≤ 1048576 ∧ ((tbL ss fs ds).map List.length).sum ≤ 1048576 := by
  by_cases h : demsP ss fs ds
  · rw [(tb_yes h).1]
    have h8 : ss.length ≤ 8 := by have := h.2.2.1; omega
    refine ⟨by rw [tbK_len]; omega, ?_⟩
    have e : (tbK ds ss.length ss.length ds.length).map List.length = List.replicate ss.length ss.length := by
      apply List.ext_getElem
      · simp [tbK_len]
      · intro i h1 h2
        rw [List.length_map, tbK_len] at h1
        rw [List.getElem_map, tbK_at _ _ _ _ _ h1, tbR_len, List.getElem_replicate]
    rw [e, sum_rep]
    have := Nat.mul_le_mul h8 h8
    omega
  · rw [(tb_no h).1]; simp

set_option maxRecDepth 100000 in
set_option maxHeartbeats 8000000 in
theorem specTB {g1 g2 n1 n2 c1 c2 : Nat} {ss : List ByteArray} {fs : List Q4} {w : World} (h : NetAt g1 g2 n1 n2 c1 c2 ss fs w) {g3 n3 c3 : Nat} {ds : List Q4} (hn3 : ds.length = n3) (hrd : Rd w w.heap.size (some ⟨g3, 0, none⟩) (ds.flatMap Q4.cells)) (hs3 : n3 ≤ 1048576) :
    Calls Try.prog 37 #[.agg #[.slice (some ⟨g1, 0, none⟩) n1 c1, .slice (some ⟨g2, 0, none⟩) n2 c2], .slice (some ⟨g3, 0, none⟩) n3 c3] w (RowsP (tbL ss fs ds) (pb (demsP ss fs ds)) w) := by
  have HNT := Lib.hid h; have HN3 := Lib.hid hn3; have HRD := Lib.hid hrd
  have HL1 := Lib.hid h.ln1
  clear h hn3 hrd
  obtain ⟨i0, hi, hz0_, hz1_, hz2_⟩ := info_parts Try.inf_int
  have HI := Lib.hid hi; have HZI0 := Lib.hid hz0_; have HZI1 := Lib.hid hz1_; have HZI2 := Lib.hid hz2_
  clear hi hz0_ hz1_ hz2_
  obtain ⟨RL, hRL⟩ : ∃ r, tbL ss fs ds = r := ⟨_, rfl⟩
  obtain ⟨RB, hRB⟩ : ∃ r, pb (demsP ss fs ds) = r := ⟨_, rfl⟩
  rw [hRL, hRB]
  have HRL := Lib.hid hRL; have HRB := Lib.hid hRB
  clear hRL hRB
  go_enter Try.func37, Try.ntmps37
  go_wp2_with fail
  obtain ⟨W0, hW0⟩ : ∃ W0, (w.alloc (Obj.cells #[.slice (some ⟨g1, 0, none⟩) n1 c1, .slice (some ⟨g2, 0, none⟩) n2 c2] 34)).alloc (Obj.cells #[] 57) = W0 := ⟨_, rfl⟩
  have hb0 : Below w.heap.size w W0 := by rw [← hW0]; exact ((Below.refl _ _).alloc (Nat.le_refl _) _).alloc (by simp) _
  have hk0 : W0.cell? ⟨w.heap.size, 0, none⟩ = some (.slice (some ⟨g1, 0, none⟩) n1 c1) := by rw [← hW0]; simp [go_sem]
  have hk1 : W0.cell? ⟨w.heap.size, 1, none⟩ = some (.slice (some ⟨g2, 0, none⟩) n2 c2) := by rw [← hW0]; simp [go_sem]
  have hz0 : w.heap.size + 1 < W0.heap.size := by rw [← hW0]; simp
  have HO0 : Hid (Rws (w.heap.size + 1) (some ⟨w.heap.size + 1, 0, none⟩) 0 0 [] W0) := Lib.hid (by
    rw [← hW0]
    have h9 := Rws.lit (w.heap.size + 1) (w.alloc (Obj.cells #[.slice (some ⟨g1, 0, none⟩) n1 c1, .slice (some ⟨g2, 0, none⟩) n2 c2] 34)) (by simp)
    simpa using h9)
  have HB0 := Lib.hid hb0
  rw [hW0]
  clear hW0 hb0
  have CD := Lib.hid (specDems (HNT.out.moved HB0.out) g3 n3 c3 ds HN3.out hs3 (HRD.out.moved HB0.out))
  rw [HRB.out] at CD
  refine CD.out.mono ?_
  rintro e w1 ⟨rfl, hb1⟩
  have HB1 := Lib.hid (HB0.out.trans (hb1.mono HB0.out.size))
  have HK0 := Lib.hid ((hb1.cell (p := ⟨w.heap.size, 0, none⟩) (by show w.heap.size < _; omega)).trans hk0)
  have HK1 := Lib.hid ((hb1.cell (p := ⟨w.heap.size, 1, none⟩) (by show w.heap.size < _; omega)).trans hk1)
  have HO1 := Lib.hid (HO0.out.moved hb1)
  have HZW : Hid (w.heap.size + 1 < w1.heap.size) := Lib.hid (Nat.lt_of_lt_of_le hz0 hb1.size)
  clear hb1 hk0 hk1 hz0
  cases RB
  case false =>
    have HNL : Hid (RL = []) := Lib.hid (by rw [← HRL.out]; exact (tb_no (fun hp => by have := pb_true hp; rw [HRB.out] at this; cases this)).1)
    obtain rfl := HNL.out
    go_wp2
    go_ret2
    exact ⟨_, 0, 0, [], rfl, Lib.hid rfl, HO1.out.base (by omega), HB1.out⟩
  case true =>
  have HP : Hid (demsP ss fs ds) := Lib.hid (of_pb HRB.out)
  have HLE : Hid (RL = tbK ds n1 n1 n3) := Lib.hid (by rw [← HRL.out, (tb_yes HP.out).1, HL1.out, HN3.out])
  have hn8 : n1 ≤ 8 := by have := HP.out.2.2.1; have := HL1.out; omega
  have hn12 : n3 ≤ 12 := by have := HP.out.1; have := HN3.out; omega
  have HDP : Hid (∀ t, t < ds.length → demP (dqn ds t) n1) := Lib.hid (fun t ht => by rw [dqn_at ht rfl, ← HL1.out]; exact HP.out.2.1 t ht)
  have HVI : Hid (∀ i j : Int, ∀ t : Nat, t ≤ n3 → 0 ≤ tbV ds i j t ∧ tbV ds i j t ≤ 24000) := Lib.hid (fun i j t ht => by have := tbV_in (fun t ht => (HDP.out t ht).2.2.2.1) i j t (by rw [HN3.out]; exact ht); omega)
  go_wp2
  go_loopw [6, 7] (fun v l wr => ∃ (i c4 : Nat) (A4 : Option Addr) (ys : List Rw), i ≤ n1 ∧ l = .int .i64 i ∧ v = .slice A4 i c4 ∧ Hid (ys.map Rw.zs = tbK ds n1 i n3) ∧ Hid (Rws (w.heap.size + 1) A4 i c4 ys wr) ∧ Below (w.heap.size + 1) w1 wr) (fun _ l _ => n1 - (intOf l).toNat)
  case atStart => exact ⟨0, 0, _, [], Nat.zero_le _, rfl, rfl, Lib.hid rfl, HO1, Below.refl _ _⟩
  case round =>
    obtain ⟨i, c4, A4, ys, hi, rfl, rfl, HYZ, HRW, hb⟩ := hrel
    have HBR := Lib.hid hb
    have l0 := (hb.cell (p := ⟨w.heap.size, 0, none⟩) (by show w.heap.size < _; omega)).trans HK0.out
    have l1 := (hb.cell (p := ⟨w.heap.size, 1, none⟩) (by show w.heap.size < _; omega)).trans HK1.out
    have HSZ : Hid (w.heap.size + 1 < wr.heap.size) := Lib.hid (by have := hb.size; have := HZW.out; omega)
    have HBRW := Lib.hid (HB1.out.trans (hb.mono (Nat.le_succ _)))
    clear hb
    by_cases hlt : i < n1
    case neg =>
      obtain rfl : i = n1 := by omega
      obtain rfl := HLE.out
      clear hlt
      go_wp2
      go_ret2
      exact ⟨A4, i, c4, ys, rfl, HYZ, HRW.out.base (Nat.le_succ _), HBRW.out⟩
    case pos =>
    go_wp2_with (at_make; refine wpList_make_full _ rfl _ _ 57 rfl wr.heap.size 3 i0 (.int .i64 0) 1 Try.underlying57 HI.out HZI0.out HZI1.out .i64 .i64 _ _ n1 rfl rfl rfl rfl (by rw [HZI2.out]; omega) (by unfold maxLen; omega) (Nat.le_refl _) ?_)
    intro w4 hown4 hgrow4
    have HB4 : Hid (Below wr.heap.size wr w4) := Lib.hid ((Below.refl _ _).grown hgrow4 (Nat.le_refl _) (fun k h => by cases h))
    rw [toList_madeCells_one] at hown4
    have HO4 : Hid (w4.ownsRow wr.heap.size 3 1 (.slice (some ⟨wr.heap.size, 0, none⟩) n1 n1) n1 ((tbR ds n1 (i : Int) 0).map (Value.int .i64))) := Lib.hid (by
      have e9 : (tbR ds n1 (i : Int) 0).map (Value.int .i64) = List.replicate n1 (Value.int .i64 0) := by
        apply List.ext_getElem
        · rw [List.length_map, tbR_len, List.length_replicate]
        · intro j h1 h2
          rw [List.length_map, tbR_len] at h1
          rw [List.getElem_map, tbR_at _ _ _ _ _ h1, List.getElem_replicate]; rfl
      rw [e9]; exact hown4)
    clear hown4 hgrow4 l0 l1
    obtain ⟨gR, hgR⟩ : ∃ g, wr.heap.size = g := ⟨_, rfl⟩
    have HGR := Lib.hid hgR
    rw [hgR] at HO4 HB4 ⊢
    clear hgR
    go_wp2
    obtain ⟨wo, rfl⟩ : ∃ wo, wo = wr := ⟨wr, rfl⟩
    go_loopw [9] (fun l wv => ∃ k : Nat, k ≤ n3 ∧ l = .int .i64 k ∧ Hid (wv.ownsRow gR 3 1 (.slice (some ⟨gR, 0, none⟩) n1 n1) n1 ((tbR ds n1 (i : Int) k).map (Value.int .i64))) ∧ Below gR wo wv) (fun l _ => n3 - (intOf l).toNat)
    case atStart => exact ⟨0, Nat.zero_le _, rfl, HO4, HB4.out⟩
    case round =>
      obtain ⟨k, hk, rfl, HOW, hb⟩ := hrel
      have HBV := Lib.hid hb
      have HBVW : Hid (Below w.heap.size w wr) := Lib.hid (HBRW.out.trans (hb.mono (by have := HGR.out; have := HSZ.out; omega)))
      clear hb
      by_cases hlk : k < n3
      case neg =>
        obtain rfl : k = n3 := by omega
        have HGO : Hid (Below wo.heap.size wo wr) := Lib.hid (by rw [HGR.out]; exact HBV.out)
        have HRA := Lib.hid ((HRW.out.moved HGO.out).alloc (Obj.cells #[.slice (some ⟨gR, 0, none⟩) n1 n1] 57))
        have HLIT : Hid (RwOwn gR wr ⟨some ⟨gR, 0, none⟩, n1, n1, tbR ds n1 (i : Int) k⟩) := Lib.hid ⟨(tbR_len _ _ _ _).symm, HOW.out⟩
        have HLA := Lib.hid ((HLIT.out.base (B' := w.heap.size + 1) (by have := HGR.out; have := HSZ.out; omega)).moved ((Below.refl _ _).alloc (Nat.le_refl _) (Obj.cells #[.slice (some ⟨gR, 0, none⟩) n1 n1] 57)))
        have HAP : Hid (∀ z ∈ ys, Apart z.val (Rw.mk (some ⟨gR, 0, none⟩) n1 n1 (tbR ds n1 (i : Int) k)).val) := Lib.hid (HRW.out.newer HLIT.out (by rw [HGR.out]; exact Nat.le_refl _))
        have HSV : Hid (w.heap.size + 1 < wr.heap.size) := Lib.hid (by have := HGO.out.size; have := HSZ.out; omega)
        have HBV1 : Hid (Below (w.heap.size + 1) w1 wr) := Lib.hid (HBR.out.trans (HGO.out.mono (by have := HSZ.out; omega)))
        clear hlk
        go_wp2_with (at_builtin; refine wp_app rfl (.tmp 89) (.tmp 91) 69 57 rfl (w.heap.size + 1) Try.underlying69 Try.inf_ss rfl (by decide) (by decide) _ i _ rfl HRA.out.row _ _ [.slice (some ⟨gR, 0, none⟩) n1 n1] rfl rfl (news1 (new_at_ _ _ _ _ rfl)) (news_sl _ _ _) (by omega) (by have := HSV.out; simp; omega) ?_)
        intro A3 d3 N3 w3 hN3 hown3 hgrow3 hloc3
        have HR3 : Hid (Rws (w.heap.size + 1) A3 N3 d3 (ys ++ [⟨some ⟨gR, 0, none⟩, n1, n1, tbR ds n1 (i : Int) k⟩]) w3) := Lib.hid (HRA.out.push HLA.out HAP.out hN3 hown3 hgrow3)
        have HB3 := Lib.hid ((HBV1.out.alloc (by have := HSV.out; omega) _).grown hgrow3 (by have := HSV.out; simp; omega) (fun g hg => (HRA.out.row.lt g hg).1))
        have HX3 : Hid ((ys ++ [Rw.mk (some ⟨gR, 0, none⟩) n1 n1 (tbR ds n1 (i : Int) k)]).map Rw.zs = tbK ds n1 (i + 1) k) := Lib.hid (by rw [List.map_append, HYZ.out, tbK_snoc]; rfl)
        clear hown3 hgrow3 hloc3
        subst hN3
        obtain ⟨i2, hi2⟩ : ∃ i2, i + 1 = i2 := ⟨_, rfl⟩
        have HI2 := Lib.hid hi2
        rw [hi2] at HR3 HX3 ⊢
        have e9 : IntKind.i64.wrap ((i : Int) + 1) = (i2 : Int) := by rw [IntWalk.i64_in _ (by omega)]; omega
        clear hi2
        go_wp2
        go_roundw
        case rel => exact ⟨i2, d3, A3, _, by have := HI2.out; omega, rfl, rfl, HX3, HR3, HB3.out⟩
        case measure => have := HI2.out; simp [intOf]; omega
      case pos =>
      have hks : k < ds.length := by have := HN3.out; omega
      obtain ⟨⟨q0, q1, q2, q3⟩, hq⟩ : ∃ q, ds[k]'hks = q := ⟨_, rfl⟩
      have HQ := Lib.hid (dqn_at hks hq)
      have hdp := HDP.out k hks
      rw [HQ.out] at hdp
      obtain ⟨⟨ha0, ha1⟩, ⟨hb0, hb1⟩, hne, ⟨hc0, hc1⟩, _⟩ := hdp
      simp only at ha0 ha1 hb0 hb1 hne hc0 hc1
      obtain ⟨an, rfl⟩ : ∃ m : Nat, q0 = m := ⟨q0.toNat, by omega⟩
      obtain ⟨bn, rfl⟩ : ∃ m : Nat, q1 = m := ⟨q1.toNat, by omega⟩
      have HQC : Hid (∀ W, Below w.heap.size w W → W.cell? ⟨g3, k * 4, none⟩ = some (.int .i64 (an : Int)) ∧ W.cell? ⟨g3, k * 4 + 1, none⟩ = some (.int .i64 (bn : Int)) ∧ W.cell? ⟨g3, k * 4 + 2, none⟩ = some (.int .i64 q2)) := Lib.hid (fun W hW => by
        obtain ⟨_, f0, f1, f2, f3⟩ := (HRD.out.moved hW).q4c hks
        rw [Nat.zero_add, hq] at f0 f1 f2
        exact ⟨f0, f1, f2⟩)
      obtain ⟨f0, f1, f2⟩ := HQC.out _ HBVW.out
      have han : an < n1 := by omega
      have hbn : bn < n1 := by omega
      have hanb : an ≠ bn := fun e => hne (by rw [e])
      clear hq
      by_cases hai : an = i
      · subst hai
        have p1 : ((an : Int) == (an : Int)) = true := by simp
        have p2 : ((bn : Int) == (an : Int)) = false := by simp; omega
        have hvi := HVI.out (an : Int) (bn : Int) k hk
        have HTS := Lib.hid (tb_set (n := n1) (fun j _ => tbC_a HQ.out hne rfl rfl j))
        have hold := HOW.out.cellAt bn (by omega)
        rw [List.getElem?_map, List.getElem?_eq_getElem (by rw [tbR_len]; exact hbn), tbR_at _ _ _ _ _ hbn] at hold
        simp only [Option.map_some] at hold
        have hfz := HOW.out.frozenAt bn
        obtain ⟨v, hv⟩ : ∃ v, tbV ds (an : Int) (bn : Int) k = v := ⟨_, rfl⟩
        rw [hv] at hold HTS hvi
        have hvw : IntKind.i64.wrap (v + q2) = v + q2 := IntWalk.i64_in _ (by omega)
        have HST : Hid ((wr.setCell ⟨gR, bn, none⟩ (.int .i64 (v + q2))).ownsRow gR 3 1 (.slice (some ⟨gR, 0, none⟩) n1 n1) n1 ((tbR ds n1 (an : Int) (k + 1)).map (Value.int .i64))) := Lib.hid (by
          have h9 := (HOW.out.stored bn (.int .i64 (v + q2))).1
          rw [HTS.out, List.map_set]; exact h9)
        have HBS := Lib.hid (HBV.out.setCell (p := ⟨gR, bn, none⟩) (Nat.le_refl _) (.int .i64 (v + q2)))
        have HBSW := Lib.hid (HBVW.out.setCell (p := ⟨gR, bn, none⟩) (by show w.heap.size ≤ gR; have := HGR.out; have := HSZ.out; omega) (.int .i64 (v + q2)))
        clear hv hvi
        go_wp2
        go_region
        clear hold hfz f0 f1 f2
        obtain ⟨wd, hwd⟩ : ∃ wd, (wr.setCell ⟨gR, bn, none⟩ (.int .i64 (v + q2))).drew = wd := ⟨_, rfl⟩
        have HOD : Hid (wd.ownsRow gR 3 1 (.slice (some ⟨gR, 0, none⟩) n1 n1) n1 ((tbR ds n1 (an : Int) (k + 1)).map (Value.int .i64))) := Lib.hid (by rw [← hwd]; exact HST.out.drew)
        have HBD : Hid (Below gR wo wd) := Lib.hid (by rw [← hwd]; exact HBS.out.drew)
        have HBDW : Hid (Below w.heap.size w wd) := Lib.hid (by rw [← hwd]; exact HBSW.out.drew)
        rw [hwd]
        clear hwd
        obtain ⟨f0, f1, f2⟩ := HQC.out _ HBDW.out
        go_wp2
        go_roundw
        case rel => exact ⟨k + 1, by omega, by go_num, HOD, HBD.out⟩
        case measure => simp [intOf]; omega
      · have p1 : ((an : Int) == (i : Int)) = false := by simp; omega
        by_cases hbi : bn = i
        · subst hbi
          have p2 : ((bn : Int) == (bn : Int)) = true := by simp
          have hvi := HVI.out (bn : Int) (an : Int) k hk
          have HTS := Lib.hid (tb_set (n := n1) (fun j _ => tbC_b HQ.out hne rfl rfl j))
          have hold := HOW.out.cellAt an (by omega)
          rw [List.getElem?_map, List.getElem?_eq_getElem (by rw [tbR_len]; exact han), tbR_at _ _ _ _ _ han] at hold
          simp only [Option.map_some] at hold
          have hfz := HOW.out.frozenAt an
          obtain ⟨v, hv⟩ : ∃ v, tbV ds (bn : Int) (an : Int) k = v := ⟨_, rfl⟩
          rw [hv] at hold HTS hvi
          have hvw : IntKind.i64.wrap (v + q2) = v + q2 := IntWalk.i64_in _ (by omega)
          have HST : Hid ((wr.setCell ⟨gR, an, none⟩ (.int .i64 (v + q2))).ownsRow gR 3 1 (.slice (some ⟨gR, 0, none⟩) n1 n1) n1 ((tbR ds n1 (bn : Int) (k + 1)).map (Value.int .i64))) := Lib.hid (by
            have h9 := (HOW.out.stored an (.int .i64 (v + q2))).1
            rw [HTS.out, List.map_set]; exact h9)
          have HBS := Lib.hid (HBV.out.setCell (p := ⟨gR, an, none⟩) (Nat.le_refl _) (.int .i64 (v + q2)))
          clear hv hvi
          go_wp2
          go_region
          clear hold hfz f0 f1 f2
          go_wp2
          go_roundw
          case rel => exact ⟨k + 1, by omega, by go_num, Lib.hid HST.out.drew, HBS.out.drew⟩
          case measure => simp [intOf]; omega
        · have p2 : ((bn : Int) == (i : Int)) = false := by simp; omega
          have HTS := Lib.hid (tb_same (n := n1) (fun j _ => tbC_no HQ.out (i := (i : Int)) (by show (an : Int) ≠ i; omega) (by show (bn : Int) ≠ i; omega) (j : Int)))
          have HO2 : Hid (wr.ownsRow gR 3 1 (.slice (some ⟨gR, 0, none⟩) n1 n1) n1 ((tbR ds n1 (i : Int) (k + 1)).map (Value.int .i64))) := Lib.hid (by rw [HTS.out]; exact HOW.out)
          go_wp2
          go_roundw
          case rel => exact ⟨k + 1, by omega, by go_num, HO2, HBV.out⟩
          case measure => simp [intOf]; omega
end Go.Proofs.Ytnbeomnlobfpfaa
