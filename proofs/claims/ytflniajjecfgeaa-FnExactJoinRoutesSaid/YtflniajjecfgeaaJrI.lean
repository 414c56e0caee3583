/- Two routes joined: contract of the implementation. No condition but those typed. -/
import Derived.Test.YtflniajjecfgeaaJr
import Derived.Test.YtflniajjecfgeaaWk9
import Derived.Test.YtflniajjecfgeaaPlt
namespace Go.Proofs.Ytflniajjecfgeaa
open Go.ChangeShapes Go.WideShapes Go.ChangeAt Go.RowKit
theorem headD_cons (a : Int) (l : List Int) : (a :: l).headD 0 = a := rfl
theorem RtP_fin {w X : World} {s : Int} {zs : List Int} {A : Option Addr} {N c b B : Nat} {u1 u2 : Value} (hb : w.heap.size ≤ b) (hB : b < B) (hN : N = zs.length) (ho : X.ownsRow B 3 1 (.slice A N c) N (zs.map (Value.int .i64))) (hbw : Below w.heap.size w X) :
    RtP s zs true w (.returned (.tuple #[.agg #[.int .i64 s, .slice A N c], .bool true])) ((X.setCell ⟨b, 0, none⟩ u1).setCell ⟨b, 1, none⟩ u2) :=
  ⟨A, N, c, rfl, Lib.hid hN, own_base (ownsRow_setCell_below (ownsRow_setCell_below ho (a := ⟨b, 0, none⟩) hB _) (a := ⟨b, 1, none⟩) hB _) (by omega), (hbw.setCell (p := ⟨b, 0, none⟩) hb _).setCell (p := ⟨b, 1, none⟩) hb _⟩
theorem RtP_no {w X : World} {b : Nat} {u1 u2 : Value} (hb : w.heap.size ≤ b) (hbw : Below w.heap.size w X) :
    RtP 0 [] false w (.returned (.tuple #[.agg #[.int .i64 0, .slice none 0 0], .bool false])) ((X.setCell ⟨b, 0, none⟩ u1).setCell ⟨b, 1, none⟩ u2) :=
  ⟨none, 0, 0, rfl, Lib.hid rfl, World.ownsRow_nil _ _ _ _, (hbw.setCell (p := ⟨b, 0, none⟩) hb _).setCell (p := ⟨b, 1, none⟩) hb _⟩
theorem rx_facts {u : World} {B b : Nat} {x y : Value} (h : u.ownsRow B 31 2 (.slice (some ⟨b, 0, none⟩) 1 1) 1 [x, y]) : u.cell? ⟨b, 0, none⟩ = some x ∧ u.cell? ⟨b, 1, none⟩ = some y ∧ u.frozen? ⟨b, 0, none⟩ = false ∧ u.frozen? ⟨b, 1, none⟩ = false ∧ b < u.heap.size := by
  have c0 := h.cellAt 0 (by decide); have c1 := h.cellAt 1 (by decide)
  simp only [List.getElem?_cons_zero, List.getElem?_cons_succ] at c0 c1
  exact ⟨c0, c1, h.frozenAt 0, h.frozenAt 1, (h.lt b rfl).2⟩
theorem routeN_last {n1 : Nat} {fs : List Q4} {st : Int} : ∀ {xs vs : List Int}, routeN n1 fs st xs = some vs → vs.reverse.headD 0 = st := by
  have walk : ∀ {xs ns vs : List Int}, walkR fs xs ns = some vs → ∃ l, vs = l ++ ns := by
    intro xs
    induction xs with
    | nil => intro ns vs h; rw [walkR] at h; injection h with h; exact ⟨[], h.symm⟩
    | cons x r ih =>
      intro ns vs h
      rw [walkR] at h
      split at h
      · cases h
      · obtain ⟨l, rfl⟩ := ih h
        exact ⟨l ++ [_], by rw [List.append_assoc]; rfl⟩
  intro xs vs h
  unfold routeN at h
  split at h
  · obtain ⟨l, rfl⟩ := walk h
    rw [List.reverse_append]; rfl
  · cases h
set_option maxRecDepth 100000 in
set_option maxHeartbeats 8000000 in
theorem implJR {g1 g2 n1 n2 c1 c2 : Nat} {ss : List ByteArray} {fs : List Q4} {w : World} (h : NetAt g1 g2 n1 n2 c1 c2 ss fs w) (sa : Int) {A : Option Addr} {n c : Nat} {xs : List Int} (hn : xs.length = n) (hr : Rd w w.heap.size A (xs.map (Value.int .i64))) (hx : n ≤ 1048576) (sb : Int) {A2 : Option Addr} {m c3 : Nat} {ys : List Int} (hm : ys.length = m) (hr2 : Rd w w.heap.size A2 (ys.map (Value.int .i64))) (hx2 : m ≤ 1048576) :
    Calls Try.prog 19 #[.agg #[.slice (some ⟨g1, 0, none⟩) n1 c1, .slice (some ⟨g2, 0, none⟩) n2 c2], .agg #[.int .i64 sa, .slice A n c], .agg #[.int .i64 sb, .slice A2 m c3]] w (RtP (jrS ss fs sa xs sb ys) (jrL ss fs sa xs sb ys) (pb (jrP ss fs sa xs sb ys)) w) := by
  obtain ⟨S, hS⟩ : ∃ r, jrS ss fs sa xs sb ys = r := ⟨_, rfl⟩
  obtain ⟨L, hL⟩ : ∃ r, jrL ss fs sa xs sb ys = r := ⟨_, rfl⟩
  obtain ⟨b, hb⟩ : ∃ r, pb (jrP ss fs sa xs sb ys) = r := ⟨_, rfl⟩
  have HNO : Hid (¬ jrP ss fs sa xs sb ys → S = 0 ∧ L = [] ∧ b = false) := Lib.hid (fun e => by rw [← hS, ← hL, ← hb]; exact jr_no e)
  have HYES : Hid (jrP ss fs sa xs sb ys → S = sa ∧ L = xs ++ ys ∧ b = true) := Lib.hid (fun e => by rw [← hS, ← hL, ← hb]; exact jr_yes e)
  rw [hS, hL, hb]
  clear hS hL hb
  have HL1 := Lib.hid h.ln1
  obtain ⟨W0, hW0⟩ : ∃ W0, (((w.alloc (Obj.cells #[.slice (some ⟨g1, 0, none⟩) n1 c1, .slice (some ⟨g2, 0, none⟩) n2 c2] 36)).alloc (Obj.cells #[.int .i64 sa, .slice A n c] 31)).alloc (Obj.cells #[.int .i64 sb, .slice A2 m c3] 31)).alloc (Obj.cells #[.int .i64 0, .slice none 0 0] 31) = W0 := ⟨_, rfl⟩
  have hb0 : Below w.heap.size w W0 := by rw [← hW0]; exact ((((Below.refl _ _).alloc (Nat.le_refl _) _).alloc (by simp) _).alloc (by simp; omega) _).alloc (by simp; omega) _
  have k0 : W0.cell? ⟨w.heap.size, 0, none⟩ = some (.slice (some ⟨g1, 0, none⟩) n1 c1) := by rw [← hW0]; simp [go_sem]
  have k1 : W0.cell? ⟨w.heap.size, 1, none⟩ = some (.slice (some ⟨g2, 0, none⟩) n2 c2) := by rw [← hW0]; simp [go_sem]
  have k4 : W0.cell? ⟨w.heap.size + 1 + 1, 0, none⟩ = some (.int .i64 sb) := by rw [← hW0]; simp [go_sem]
  have k5 : W0.cell? ⟨w.heap.size + 1 + 1, 1, none⟩ = some (.slice A2 m c3) := by rw [← hW0]; simp [go_sem]
  have hsz : W0.heap.size = w.heap.size + 1 + 1 + 1 + 1 := by rw [← hW0]; simp
  have hor : W0.ownsRow w.heap.size 31 2 (.slice (some ⟨w.heap.size + 1 + 1 + 1, 0, none⟩) 1 1) 1 [.int .i64 0, .slice none 0 0] := by
    rw [← hW0]
    have := one_rowR (((w.alloc (Obj.cells #[.slice (some ⟨g1, 0, none⟩) n1 c1, .slice (some ⟨g2, 0, none⟩) n2 c2] 36)).alloc (Obj.cells #[.int .i64 sa, .slice A n c] 31)).alloc (Obj.cells #[.int .i64 sb, .slice A2 m c3] 31)) (.int .i64 0) (.slice none 0 0) rfl rfl (base := w.heap.size) (by simp; omega)
    simpa using this
  have HK : Hid (∀ u, Below W0.heap.size W0 u → u.cell? ⟨w.heap.size, 0, none⟩ = some (.slice (some ⟨g1, 0, none⟩) n1 c1) ∧ u.cell? ⟨w.heap.size, 1, none⟩ = some (.slice (some ⟨g2, 0, none⟩) n2 c2) ∧ u.cell? ⟨w.heap.size + 1 + 1, 0, none⟩ = some (.int .i64 sb) ∧ u.cell? ⟨w.heap.size + 1 + 1, 1, none⟩ = some (.slice A2 m c3) ∧ w.heap.size + 1 + 1 < u.heap.size) := Lib.hid fun u hu => ⟨(hu.cell (p := ⟨w.heap.size, 0, none⟩) (by show w.heap.size < _; omega)).trans k0, (hu.cell (p := ⟨w.heap.size, 1, none⟩) (by show w.heap.size < _; omega)).trans k1, (hu.cell (p := ⟨w.heap.size + 1 + 1, 0, none⟩) (by show w.heap.size + 1 + 1 < _; omega)).trans k4, (hu.cell (p := ⟨w.heap.size + 1 + 1, 1, none⟩) (by show w.heap.size + 1 + 1 < _; omega)).trans k5, by have := hu.size; omega⟩
  have HSR : Hid (∀ u, Below W0.heap.size W0 u → u.cell? ⟨w.heap.size + 1 + 1 + 1, 0, none⟩ = some (.int .i64 0) ∧ u.cell? ⟨w.heap.size + 1 + 1 + 1, 1, none⟩ = some (.slice none 0 0) ∧ u.frozen? ⟨w.heap.size + 1 + 1 + 1, 0, none⟩ = false ∧ u.frozen? ⟨w.heap.size + 1 + 1 + 1, 1, none⟩ = false ∧ w.heap.size + 1 + 1 + 1 < u.heap.size) := Lib.hid fun u hu => rx_facts (ownB hor hu)
  have hbl := (Below.refl W0.heap.size W0).alloc (Nat.le_refl _) (Obj.cells #[.int .i64 sa, .slice A n c, .int .i64 sb, .slice A2 m c3] 31)
  have hb1 := hb0.alloc hb0.size (Obj.cells #[.int .i64 sa, .slice A n c, .int .i64 sb, .slice A2 m c3] 31)
  have CW := Lib.hid (walks_two (cr := 2) (h.moved hb1) sa hn (hr.moved hb1) hx sb hm (hr2.moved hb1) hx2 (rd_four hsz _ _ _ _ _))
  have HNT := Lib.hid (h.moved hb0); have HN := Lib.hid hn; have HM := Lib.hid hm; have HR2 := Lib.hid (hr2.moved hb0)
  obtain ⟨W1, hW1⟩ : ∃ W1, W0.alloc (Obj.cells #[.int .i64 sa, .slice A n c, .int .i64 sb, .slice A2 m c3] 31) = W1 := ⟨_, rfl⟩
  rw [hW1] at CW hb1 hbl
  have HB0 := Lib.hid hb0; have HBL := Lib.hid hbl
  have HW0 := Lib.hid hW0; have HW1 := Lib.hid hW1; have HSZ := Lib.hid hsz
  clear h hn hr hm hr2 hb0 hb1 hbl hW0 hW1 hsz k0 k1 k4 k5 hor
  go_enter Try.func19, Try.ntmps19
  go_wp2_with fail
  rw [HW0.out, HW1.out]
  refine CW.out.mono ?_
  rintro e w1 ⟨hb2, h2⟩
  have HBB := Lib.hid (HBL.out.trans (hb2.mono HBL.out.size))
  have HB2 := Lib.hid (HB0.out.trans (HBB.out.mono HB0.out.size))
  obtain ⟨l0, l1, l2, l3, l4⟩ := HK.out w1 HBB.out
  clear hb2
  rcases h2 with ⟨hcr, rfl⟩ | ⟨gw, ga, gb, va, vb, hcr, hva, hvb, rfl, _, hgw, hc0, hc1, hla, hlb⟩
  · obtain ⟨rfl, rfl, rfl⟩ := HNO.out (fun e => by have h9 := e.1; rw [hcr] at h9; cases h9)
    obtain ⟨s0, s1, s2, s3, s4⟩ := HSR.out w1 HBB.out
    clear hcr l0 l1 l2 l3 l4
    go_wp2_with fail
    go_quiet (fail)
    go_wp2_with fail
    exact bodyPost_ret (v := .tuple #[.agg #[.int .i64 0, .slice none 0 0], .bool false]) (by simp [results, Try.results19, go_sem, s0, s1, s4]) rfl (RtP_no (by omega) (by first | exact HB2.out | exact drewN_below HB2.out _))
  obtain ⟨nd, tl, la, p9, hve, hga, _⟩ := hla.see
  obtain ⟨d0, _, _, _, _⟩ := five_cells hga
  have hgal := hla.lt
  have HCR := Lib.hid hcr; have HVA := Lib.hid hva; have HLA := Lib.hid hla
  have HVE := Lib.hid hve
  have HEN : Hid (endR ss fs sa xs = nd) := Lib.hid (by unfold endR; rw [HL1.out, hva, hve]; rfl)
  clear hcr hva hvb hlb hla hga hc1
  by_cases heq : nd = sb
  case neg =>
    obtain ⟨rfl, rfl, rfl⟩ := HNO.out (fun e => heq (HEN.out.symm.trans e.2.1))
    obtain ⟨s0, s1, s2, s3, s4⟩ := HSR.out w1 HBB.out
    have hne : decide (nd = sb) = false := decide_eq_false heq
    go_wp2_with fail
    go_quiet (fail)
    go_wp2_with fail
    exact bodyPost_ret (v := .tuple #[.agg #[.int .i64 0, .slice none 0 0], .bool false]) (by simp [results, Try.results19, go_sem, s0, s1, s4]) rfl (RtP_no (by omega) (by first | exact HB2.out | exact drewN_below HB2.out _))
  case pos =>
  subst heq
  go_wp2_with fail
  go_quiet (fail)
  obtain ⟨w2, hw2⟩ : ∃ w2, w1.drewN nq = w2 := ⟨_, rfl⟩
  have hbq : Below w1.heap.size w1 w2 := by rw [← hw2]; exact drewN_below (Below.refl _ _) _
  rw [hw2]
  have q0 := (hbq.cell (p := ⟨gw, 0, none⟩) hgw).trans hc0
  have hgw2 : gw < w2.heap.size := Nat.lt_of_lt_of_le hgw hbq.size
  have HLA2 := Lib.hid (HLA.out.over hbq)
  have HBB2 := Lib.hid (HBB.out.trans (hbq.mono HBB.out.size))
  clear hw2 l0 l1 l2 l3 l4 d0 hgal hc0 hgw hbq
  obtain ⟨l0, l1, l2, l3, l4⟩ := HK.out w2 HBB2.out
  have HNP := Lib.hid (cr_mem HCR.out).1
  have HB02 := Lib.hid (HB0.out.trans (HBB2.out.mono HB0.out.size))
  have hmN := HM.out
  have hxN := HN.out
  have CA : Hid (∀ U, Below w2.heap.size w2 U → Calls Try.prog 82 #[.pointer (some ⟨ga, 0, none⟩), .agg #[.slice (some ⟨g1, 0, none⟩) n1 c1, .slice (some ⟨g2, 0, none⟩) n2 c2], .slice A2 m c3] U (AlongP fs ys xs.reverse va U)) := Lib.hid fun U hU => along_ ((HNT.out.moved HBB2.out).moved hU) HNP.out (HLA2.out.over hU) hmN ((HR2.out.moved HBB2.out).moved hU) (by rw [List.length_reverse]; omega)
  have HRA : Hid (routeN ss.length fs sa (xs ++ ys) = walkR fs ys va) := Lib.hid (routeN_app (by rw [HL1.out]; exact HVA.out))
  clear hmN hxN
  cases hwk : walkR fs ys va with
  | none =>
    obtain ⟨rfl, rfl, rfl⟩ := HNO.out (fun e => by
      have h9 := e.2.2
      unfold routeB at h9
      rw [HRA.out, hwk, Bool.and_comm] at h9; cases h9)
    have CA0 : Hid (∀ U, Below w2.heap.size w2 U → Calls Try.prog 82 #[.pointer (some ⟨ga, 0, none⟩), .agg #[.slice (some ⟨g1, 0, none⟩) n1 c1, .slice (some ⟨g2, 0, none⟩) n2 c2], .slice A2 m c3] U fun e w' => e = .returned (.tuple #[.pointer none, .bool false]) ∧ Below U.heap.size U w') := Lib.hid fun U hU => (CA.out U hU).mono fun e w' ⟨h1, h2⟩ => by
      rcases h2 with ⟨_, h3⟩ | ⟨_, _, h3, _⟩
      · exact ⟨h3, h1⟩
      · rw [hwk] at h3; cases h3
    clear hwk CA
    go_wp2_with fail
    go_upto_region 4 with fail
    go_cut [10, 9] (fun s10 s9 wx => s10 = .pointer none ∧ s9 = .bool false ∧ Below w2.heap.size w2 wx)
    case first =>
      go_region_with (go_at_call 82; refine (CA0.out _ (by first | exact (Below.refl _ _) | exact (Below.refl _ _).drew | exact drewN_below (Below.refl _ _) _)).mono ?_; rintro e w3 ⟨rfl, hb3⟩; have hv3 : Below w2.heap.size w2 w3 := Below.trans (by first | exact (Below.refl _ _) | exact (Below.refl _ _).drew | exact drewN_below (Below.refl _ _) _) hb3)
      all_goals
        go_wp2_with fail
        go_meet
        exact ⟨rfl, rfl, hv3⟩
    case rest =>
    clear l0 l1 l2 l3 l4 q0
    revert hcut; generalize wc = w3; intro hcut
    obtain ⟨rfl, rfl, hb3⟩ := hcut
    have HBB3 := Lib.hid (HBB2.out.trans (hb3.mono HBB2.out.size))
    have HB03 := Lib.hid (HB0.out.trans (HBB3.out.mono HB0.out.size))
    obtain ⟨s0, s1, s2, s3, s4⟩ := HSR.out w3 HBB3.out
    clear hb3
    go_wp2_with fail
    exact bodyPost_ret (v := .tuple #[.agg #[.int .i64 0, .slice none 0 0], .bool false]) (by simp [results, Try.results19, go_sem, s0, s1, s4]) rfl (RtP_no (by omega) HB03.out)
  | some vs =>
    have hrb : routeB ss fs sa (xs ++ ys) = true := by
      unfold routeB
      rw [HRA.out, hwk, pb_true HNP.out]; rfl
    obtain ⟨rfl, rfl, rfl⟩ := HYES.out ⟨HCR.out, HEN.out, hrb⟩
    have HLE : Hid ((ys.reverse ++ xs.reverse).length ≤ 1048576) := Lib.hid (by
      obtain ⟨h1, h2⟩ := route_nodup hrb
      have h3 := nodup_bound fs.length _ h1 h2
      have h4 := HNP.out.2.1
      rw [List.length_append] at h3 ⊢
      rw [List.length_reverse, List.length_reverse]
      omega)
    have HLS : Hid (vs.reverse.headD 0 = S) := Lib.hid (routeN_last (HRA.out.trans hwk))
    have HAL : Hid ((ys.reverse ++ xs.reverse).reverse = xs ++ ys) := Lib.hid (by simp)
    have CA1 : Hid (∀ U, Below w2.heap.size w2 U → Calls Try.prog 82 #[.pointer (some ⟨ga, 0, none⟩), .agg #[.slice (some ⟨g1, 0, none⟩) n1 c1, .slice (some ⟨g2, 0, none⟩) n2 c2], .slice A2 m c3] U fun e w' => ∃ gj, e = .returned (.tuple #[.pointer (some ⟨gj, 0, none⟩), .bool true]) ∧ Hid (Lk fs w' gj (ys.reverse ++ xs.reverse) vs) ∧ Below U.heap.size U w') := Lib.hid fun U hU => (CA.out U hU).mono fun e w' ⟨h1, h2⟩ => by
      rcases h2 with ⟨h3, _⟩ | ⟨vs', gj, h3, h4, h5⟩
      · rw [hwk] at h3; cases h3
      · rw [hwk] at h3; injection h3 with h3; subst h3
        exact ⟨gj, h4, Lib.hid h5, h1⟩
    clear hwk CA hrb
    go_wp2_with fail
    go_upto_region 4 with fail
    go_cut [10, 9] (fun s10 s9 wx => ∃ gj, s10 = .pointer (some ⟨gj, 0, none⟩) ∧ s9 = .bool true ∧ Hid (Lk fs wx gj (ys.reverse ++ xs.reverse) vs) ∧ Below w2.heap.size w2 wx)
    case first =>
      go_region_with (go_at_call 82; refine (CA1.out _ (by first | exact (Below.refl _ _) | exact (Below.refl _ _).drew | exact drewN_below (Below.refl _ _) _)).mono ?_; rintro e w3 ⟨gj, rfl, HLJ, hb3⟩; have hv3 : Below w2.heap.size w2 w3 := Below.trans (by first | exact (Below.refl _ _) | exact (Below.refl _ _).drew | exact drewN_below (Below.refl _ _) _) hb3)
      all_goals
        go_wp2_with fail
        go_meet
        exact ⟨gj, rfl, rfl, HLJ, hv3⟩
    case rest =>
    clear l0 l1 l2 l3 l4 q0
    revert hcut; generalize wc = w3; intro hcut
    obtain ⟨gj, rfl, rfl, HLJ, hb3⟩ := hcut
    have HBB3 := Lib.hid (HBB2.out.trans (hb3.mono HBB2.out.size))
    have HB03 := Lib.hid (HB0.out.trans (HBB3.out.mono HB0.out.size))
    clear hb3
    have CR := Lib.hid (route_ w3 HLJ.out HLE.out S HLS.out (fun e => by have h9 := HLJ.out.len; rw [e] at h9; simp at h9))
    rw [HAL.out] at CR
    go_wp2_with fail
    refine CR.out.mono ?_
    rintro e w4 ⟨A9, N9, c9, rfl, HN9, ho9, hb4⟩
    have HBB4 := Lib.hid (HBB3.out.trans (hb4.mono HBB3.out.size))
    have HB04 := Lib.hid (HB0.out.trans (HBB4.out.mono HB0.out.size))
    have HO9 := Lib.hid ho9
    have HZ3 := Lib.hid HBB3.out.size
    obtain ⟨s0, s1, s2, s3, s4⟩ := HSR.out w4 HBB4.out
    clear hb4 ho9
    go_wp2_with fail
    exact bodyPost_ret (v := .tuple #[.agg #[.int .i64 S, .slice A9 N9 c9], .bool true]) (by simp [results, Try.results19, go_sem, s0, s1, s4]) rfl (RtP_fin (B := w3.heap.size) (by omega) (by have := HSZ.out; have := HZ3.out; omega) HN9.out HO9.out HB04.out)
end Go.Proofs.Ytflniajjecfgeaa
