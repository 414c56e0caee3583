/- Contracts: the levels along a line by the specification. No condition but those typed. -/
import Derived.Test.YtgaankdmppoghaaLevM
import Derived.Test.YtgaankdmppoghaaApd
namespace Go.Proofs.Ytgaankdmppoghaa
open Go.ChangeShapes Go.WideShapes Go.ChangeAt Go.RowKit

def argB (qs : List Q3) (am : List Q4) (l : Int) : Bool := lineB qs && ampsB am (qs.length : Int) && levB l
def levOk (qs : List Q3) (am : List Q4) (l : Int) : Bool := argB qs am l && (List.range qs.length).all (fun k => levB (befI qs am l k))
def befA (qs : List Q3) (am : List Q4) (l : Int) : List Int := if levOk qs am l then befL qs am l qs.length else []
def aftA (qs : List Q3) (am : List Q4) (l : Int) : List Int := if levOk qs am l then aftL qs am l qs.length else []
theorem lev_arg {qs : List Q3} {am : List Q4} {l : Int} (h : argB qs am l = false) : levOk qs am l = false := by unfold levOk; rw [h]; rfl
theorem lev_no {qs : List Q3} {am : List Q4} {l : Int} {k : Nat} (hk : k < qs.length) (h : levB (befI qs am l k) = false) : levOk qs am l = false := by
  cases hb : levOk qs am l with
  | false => rfl
  | true =>
    unfold levOk at hb
    simp only [Bool.and_eq_true, List.all_eq_true, List.mem_range] at hb
    rw [hb.2 k hk] at h; exact absurd h (by decide)
theorem lev_yes {qs : List Q3} {am : List Q4} {l : Int} (h : argB qs am l = true) (h2 : ∀ k, k < qs.length → levB (befI qs am l k) = true) : levOk qs am l = true := by
  unfold levOk; rw [h]; simp only [Bool.true_and, List.all_eq_true, List.mem_range]; exact h2
theorem lev_none {qs : List Q3} {am : List Q4} {l : Int} (h : levOk qs am l = false) : befA qs am l = [] ∧ aftA qs am l = [] := by
  unfold befA aftA; rw [h]; exact ⟨rfl, rfl⟩
theorem lev_some {qs : List Q3} {am : List Q4} {l : Int} (h : levOk qs am l = true) : befA qs am l = befL qs am l qs.length ∧ aftA qs am l = aftL qs am l qs.length := by
  unfold befA aftA; rw [h]; exact ⟨rfl, rfl⟩
theorem arg_parts {qs : List Q3} {am : List Q4} {l : Int} (h1 : lineB qs = true) (h2 : ampsB am (qs.length : Int) = true) (h3 : levB l = true) : argB qs am l = true ∧ argsP qs am l := by
  refine ⟨by unfold argB; rw [h1, h2, h3]; rfl, h1, ampsB_true h2, h3⟩
/-- the answer of the levels. -/
def LevAns (qs : List Q3) (am : List Q4) (l : Int) (w : World) : Ending → World → Prop :=
  Ans2 3 1 ((befA qs am l).map (Value.int .i64)) (befA qs am l).length 3 1 ((aftA qs am l).map (Value.int .i64)) (aftA qs am l).length (fun v v' => .tuple #[v, v', .bool (levOk qs am l)]) w
theorem levAns_no {qs : List Q3} {am : List Q4} {l : Int} {w w' : World} {A A' : Option Addr} {c c' : Nat} (h : levOk qs am l = false) (ho : w'.ownsRow w.heap.size 3 1 (.slice A 0 c) 0 []) (ho' : w'.ownsRow w.heap.size 3 1 (.slice A' 0 c') 0 [])
    (ha : Apart (.slice A 0 c) (.slice A' 0 c')) (hb : Below w.heap.size w w') : LevAns qs am l w (.returned (.tuple #[.slice A 0 c, .slice A' 0 c', .bool false])) w' := by
  obtain ⟨e1, e2⟩ := lev_none h
  unfold LevAns
  rw [e1, e2, h]
  exact ⟨A, c, A', c', rfl, ho, ho', fun g h1 h2 => by subst h1 h2; exact ha g rfl rfl, hb⟩
theorem levAns_yes {qs : List Q3} {am : List Q4} {l : Int} {w w' : World} {A A' : Option Addr} {n c c' : Nat} (h : levOk qs am l = true) (hn : qs.length = n) (ho : w'.ownsRow w.heap.size 3 1 (.slice A n c) n ((befL qs am l n).map (Value.int .i64))) (ho' : w'.ownsRow w.heap.size 3 1 (.slice A' n c') n ((aftL qs am l n).map (Value.int .i64)))
    (ha : Apart (.slice A n c) (.slice A' n c')) (hb : Below w.heap.size w w') : LevAns qs am l w (.returned (.tuple #[.slice A n c, .slice A' n c', .bool true])) w' := by
  obtain ⟨e1, e2⟩ := lev_some h
  unfold LevAns
  rw [e1, e2, h, hn, befL_len, aftL_len]
  exact ⟨A, c, A', c', rfl, ho, ho', fun g h1 h2 => by subst h1 h2; exact ha g rfl rfl, hb⟩
theorem apart_two (W : World) (n c n' c' : Nat) (k : Nat) (hk : k = W.heap.size + 1) : Apart (.slice (some ⟨W.heap.size, 0, none⟩) n c) (.slice (some ⟨k, 0, none⟩) n' c') := by
  intro g h1 h2
  simp only [Value.ownBlock, Option.some.injEq] at h1 h2
  omega
theorem own_empty (W : World) {B : Nat} (hB : B ≤ W.heap.size) (E : TypeId) (s : Nat) : (W.alloc (.cells #[] E)).ownsRow B E s (.slice (some ⟨W.heap.size, 0, none⟩) 0 0) 0 [] := by
  have := World.ownsRow_lit (base := B) (e := E) (size := s) W #[] 0 hB (by unfold maxLen; omega) (by simp)
  simpa using this

theorem lv_bef {qs : List Q3} {am : List Q4} {l z y : Int} {k t : Nat} (h : lvS qs am l k = (z, t)) (hy : lossI (qs.getD k spz) = y) : befI qs am l k = z - y := by unfold befI; rw [h, hy]
theorem lv_raise {qs : List Q3} {am : List Q4} {l z y : Int} {k t : Nat} {q : Q4} (h : lvS qs am l k = (z, t)) (hy : lossI (qs.getD k spz) = y) (ht : t < am.length) (hq : am.getD t amz = q) (ha : q.a = (k : Int)) : lvS qs am l (k + 1) = (raiseI q (z - y), t + 1) := by
  show (if (lvS qs am l k).2 < am.length ∧ (am.getD (lvS qs am l k).2 amz).a = (k : Int) then _ else _) = _
  rw [h, hy]
  simp only
  rw [hq, if_pos ⟨ht, ha⟩]
theorem lv_keep {qs : List Q3} {am : List Q4} {l z y : Int} {k t : Nat} (h : lvS qs am l k = (z, t)) (hy : lossI (qs.getD k spz) = y) (hn : ¬ (t < am.length ∧ (am.getD t amz).a = (k : Int))) : lvS qs am l (k + 1) = (z - y, t) := by
  show (if (lvS qs am l k).2 < am.length ∧ (am.getD (lvS qs am l k).2 amz).a = (k : Int) then _ else _) = _
  rw [h, hy]
  simp only
  rw [if_neg hn]
theorem bef_next {qs : List Q3} {am : List Q4} {l z y : Int} {k t : Nat} (h : lvS qs am l k = (z, t)) (hy : lossI (qs.getD k spz) = y) : (befL qs am l k).map (Value.int .i64) ++ [.int .i64 (z - y)] = (befL qs am l (k + 1)).map (Value.int .i64) := by
  rw [befL_succ, lv_bef h hy, List.map_append]; rfl
theorem aft_next {qs : List Q3} {am : List Q4} {l x : Int} {k t : Nat} (h : lvS qs am l (k + 1) = (x, t)) : (aftL qs am l k).map (Value.int .i64) ++ [.int .i64 x] = (aftL qs am l (k + 1)).map (Value.int .i64) := by
  rw [aftL_succ, h, List.map_append]; rfl

set_option maxHeartbeats 8000000 in
set_option maxRecDepth 100000 in
theorem sLevels (g1 n1 c1 g2 n2 c2 : Nat) (qs : List Q3) (am : List Q4) (l : Int) (w : World) (hn1 : qs.length = n1) (hs1 : n1 ≤ 1048576) (hr1 : Rd w w.heap.size (some ⟨g1, 0, none⟩) (qs.flatMap Q3.cells)) (hn2 : am.length = n2) (hs2 : n2 ≤ 1048576) (hr2 : Rd w w.heap.size (some ⟨g2, 0, none⟩) (am.flatMap Q4.cells)) :
    Calls Try.prog 60 #[.slice (some ⟨g1, 0, none⟩) n1 c1, .slice (some ⟨g2, 0, none⟩) n2 c2, .int .i64 l] w (LevAns qs am l w) := by
  have HN1 := Lib.hid hn1; have HN2 := Lib.hid hn2; have HR1 := Lib.hid hr1; have HR2 := Lib.hid hr2
  have CL : Hid (∀ W, Below w.heap.size w W → Calls Try.prog 66 #[.slice (some ⟨g1, 0, none⟩) n1 c1] W (RetV (.bool (lineB qs)) W)) := Lib.hid fun W hb => sLine g1 n1 c1 qs W hn1 hs1 (hr1.moved hb)
  have CA : Hid (∀ W, Below w.heap.size w W → Calls Try.prog 83 #[.slice (some ⟨g2, 0, none⟩) n2 c2, .int .i64 n1] W (RetV (.bool (ampsB am (qs.length : Int))) W)) := Lib.hid fun W hb => by
    rw [hn1]; exact sList g2 n2 c2 am n1 W (by omega) (by omega) hn2 hs2 (hr2.moved hb)
  have CV := Lib.hid (fun W => sLevel l W)
  clear hn1 hr1 hn2 hr2
  obtain ⟨r1, e1⟩ : ∃ r, lineB qs = r := ⟨_, rfl⟩
  obtain ⟨r2, e2⟩ : ∃ r, ampsB am (qs.length : Int) = r := ⟨_, rfl⟩
  obtain ⟨r3, e3⟩ : ∃ r, levB l = r := ⟨_, rfl⟩
  have HARG : Hid (argB qs am l = (r1 && r2 && r3)) := Lib.hid (by unfold argB; rw [e1, e2, e3])
  have HP : Hid (r1 = true → r2 = true → r3 = true → argsP qs am l) := Lib.hid fun h1 h2 h3 => (arg_parts (e1.trans h1) (e2.trans h2) (e3.trans h3)).2
  rw [e1] at CL; rw [e2] at CA; rw [e3] at CV
  clear e1 e2 e3
  go_enter Try.func60, Try.ntmps60
  go_wp2_with fail
  obtain ⟨W0, hW0⟩ : ∃ W0, ((w.alloc (Obj.cells #[] 3)).alloc (Obj.cells #[] 3)) = W0 := ⟨_, rfl⟩
  have HB0 := Lib.hid (((Below.refl w.heap.size w).alloc (Nat.le_refl _) (Obj.cells #[] 3)).alloc (by simp) (Obj.cells #[] 3))
  have HO0 := Lib.hid ((own_empty w (Nat.le_refl _) 3 1).alloc (Obj.cells #[] 3))
  have HQ0 := Lib.hid (own_empty (w.alloc (Obj.cells #[] 3)) (B := w.heap.size) (by simp) 3 1)
  have HA0 := Lib.hid (apart_two w 0 0 0 0 (w.alloc (Obj.cells #[] 3)).heap.size (by simp))
  rw [hW0] at HB0 HO0 HQ0 ⊢
  obtain ⟨s1, hs1_⟩ : ∃ s, (w.alloc (Obj.cells #[] 3)).heap.size = s := ⟨_, rfl⟩
  have es : (w.alloc (Obj.cells #[] 3)).heap.size = w.heap.size + 1 := by simp
  have hs1e : w.heap.size + 1 = s1 := by rw [← hs1_, es]
  rw [hs1_] at HQ0 HA0
  rw [hs1e]
  have HS1 := Lib.hid hs1e
  clear hW0 hs1_ es hs1e
  have CL0 := Lib.hid (CL.out W0 HB0.out); clear CL
  cases r1
  case false =>
    have HQ := Lib.hid (lev_arg (HARG.out.trans rfl))
    refine CL0.out.mono ?_
    rintro e w1 ⟨rfl, hb1⟩
    have HB1 := Lib.hid (HB0.out.trans (hb1.mono HB0.out.size)); have HO1 := Lib.hid (ownB HO0.out hb1); have HQ1 := Lib.hid (ownB HQ0.out hb1)
    clear hb1
    go_wp2
    go_ret3
    exact levAns_no HQ.out HO1.out HQ1.out HA0.out HB1.out
  case true =>
  refine CL0.out.mono ?_
  rintro e w1 ⟨rfl, hb1⟩
  have HB1 := Lib.hid (HB0.out.trans (hb1.mono HB0.out.size)); have HO1 := Lib.hid (ownB HO0.out hb1); have HQ1 := Lib.hid (ownB HQ0.out hb1)
  have CA0 := Lib.hid (CA.out w1 HB1.out); clear CA
  clear hb1 CL0 HB0 HO0 HQ0
  go_wp2_with fail
  cases r2
  case false =>
    have HQ := Lib.hid (lev_arg (HARG.out.trans rfl))
    refine CA0.out.mono ?_
    rintro e w2 ⟨rfl, hb2⟩
    have HB2 := Lib.hid (HB1.out.trans (hb2.mono HB1.out.size)); have HO2 := Lib.hid (ownB HO1.out hb2); have HQ2 := Lib.hid (ownB HQ1.out hb2)
    clear hb2
    go_wp2
    go_ret3
    exact levAns_no HQ.out HO2.out HQ2.out HA0.out HB2.out
  case true =>
  refine CA0.out.mono ?_
  rintro e w2 ⟨rfl, hb2⟩
  have HB2 := Lib.hid (HB1.out.trans (hb2.mono HB1.out.size)); have HO2 := Lib.hid (ownB HO1.out hb2); have HQ2 := Lib.hid (ownB HQ1.out hb2)
  clear hb2 CA0 HB1 HO1 HQ1
  go_wp2_with fail
  cases r3
  case false =>
    have HQ := Lib.hid (lev_arg (HARG.out.trans rfl))
    refine (CV.out _).mono ?_
    rintro e w' ⟨rfl, rfl⟩
    go_wp2
    go_ret3
    exact levAns_no HQ.out HO2.out HQ2.out HA0.out HB2.out
  case true =>
  refine (CV.out _).mono ?_
  rintro e w' ⟨rfl, rfl⟩
  have HPP := Lib.hid (HP.out (by trivial) (by trivial) (by trivial))
  clear CV HP
  go_wp2
  go_loopw [9, 10, 11, 12, 13] (fun v v' x a_ i wr => ∃ (k t : Nat) (A : Option Addr) (c : Nat) (A' : Option Addr) (c' : Nat) (z : Int), k ≤ n1 ∧ t ≤ n2 ∧ k ≤ 12 ∧ i = .int .i64 k ∧ a_ = .int .i64 t ∧ x = .int .i64 z ∧ v = .slice A k c ∧ v' = .slice A' k c' ∧ -10000 ≤ z ∧ z ≤ 10000 ∧ Hid (lvS qs am l k = (z, t)) ∧ Hid (∀ j, j < k → levB (befI qs am l j) = true) ∧ Hid (wr.ownsRow w.heap.size 3 1 (.slice A k c) k ((befL qs am l k).map (Value.int .i64))) ∧ Hid (wr.ownsRow w.heap.size 3 1 (.slice A' k c') k ((aftL qs am l k).map (Value.int .i64))) ∧ Hid (Apart (.slice A k c) (.slice A' k c')) ∧ Hid (Below w.heap.size w wr)) (fun _ _ _ _ i _ => n1 - (intOf i).toNat)
  case atStart =>
    have hl := levB_yes HPP.out.2.2
    exact ⟨0, 0, _, _, _, _, l, Nat.zero_le _, Nat.zero_le _, by omega, rfl, rfl, rfl, rfl, rfl, hl.1, hl.2, Lib.hid rfl, Lib.hid (fun j hj => by omega), HO2, HQ2, HA0, HB2⟩
  case round =>
    clear HB2 HO2 HQ2 HA0
    obtain ⟨k, t, A, c, A', c', z, hk, ht, hk12, rfl, rfl, rfl, rfl, rfl, hz0, hz1, HL, HJ, HOW, HOW', HAP, HBR⟩ := hrel
    by_cases hlt : k < n1
    case neg =>
      obtain rfl : k = n1 := by omega
      have HQ := Lib.hid (lev_yes (HARG.out.trans rfl) fun j hj => HJ.out j (by have := HN1.out; omega))
      clear hlt
      go_wp2
      go_ret3
      exact levAns_yes HQ.out HN1.out HOW.out HOW'.out HAP.out HBR.out
    case pos =>
    have hks : k < qs.length := by have := HN1.out; omega
    have hrc := (HR1.out.over HBR.out).q3c hks
    rw [Nat.zero_add] at hrc
    obtain ⟨⟨a, b, c3⟩, hq⟩ : ∃ q, qs[k]'hks = q := ⟨_, rfl⟩
    rw [hq] at hrc
    obtain ⟨hg, f0, f1, f2⟩ := hrc
    simp only at f0 f1 f2
    have hsp : spB ⟨a, b, c3⟩ = true := by
      have := List.all_eq_true.1 (lineB_true HPP.out.1).2 _ (List.getElem_mem hks)
      rw [hq] at this; exact this
    have hbd := loss_bd hsp
    have hgd : qs.getD k spz = ⟨a, b, c3⟩ := by rw [List.getD_eq_getElem?_getD, List.getElem?_eq_getElem hks]; exact hq
    have CLS : Hid (∀ W, Calls Try.prog 55 #[.agg #[.int .i64 a, .int .i64 b, .int .i64 c3]] W (RetV (.int .i64 (lossI ⟨a, b, c3⟩)) W)) := Lib.hid fun W => sLoss a b c3 W hsp
    obtain ⟨y, hy⟩ : ∃ y, lossI ⟨a, b, c3⟩ = y := ⟨_, rfl⟩
    rw [hy] at CLS hbd
    have HY : Hid (lossI (qs.getD k spz) = y) := Lib.hid (by rw [hgd]; exact hy)
    obtain ⟨y0, y1⟩ := hbd
    clear hq hsp hgd hy
    go_wp2_with fail
    refine (CLS.out _).mono ?_
    rintro e w3 ⟨rfl, hb3⟩
    have HB3 := Lib.hid (HBR.out.trans (hb3.mono HBR.out.size)); have HO3 := Lib.hid (ownB HOW.out hb3); have HQ3 := Lib.hid (ownB HOW'.out hb3)
    clear hb3 f0 f1 f2 HOW HOW' HBR
    have CV2 := Lib.hid (fun W => sLevel (z - y) W)
    obtain ⟨r, hr⟩ : ∃ r, levB (z - y) = r := ⟨_, rfl⟩
    rw [hr] at CV2
    have HR := Lib.hid hr; clear hr
    go_wp2_with fail
    cases r
    case false =>
      have HQ := Lib.hid (lev_no hks (by rw [lv_bef HL.out HY.out]; exact HR.out))
      refine (CV2.out _).mono ?_
      rintro e w' ⟨rfl, rfl⟩
      go_wp2
      go_ret3
      exact levAns_no HQ.out ((own_empty w3 HB3.out.size 3 1).alloc _) (by have := own_empty (w3.alloc (Obj.cells #[] 3)) (B := w.heap.size) (by have := HB3.out.size; simp; omega) 3 1; simpa using this) (apart_two w3 0 0 0 0 _ (by simp)) ((HB3.out.alloc HB3.out.size _).alloc (by have := HB3.out.size; simp; omega) _)
    case true =>
    have hzy := levB_yes HR.out
    obtain ⟨zy0, zy1⟩ := hzy
    have HJ1 : Hid (∀ j, j < k + 1 → levB (befI qs am l j) = true) := Lib.hid fun j hj => by
      by_cases hjk : j < k
      · exact HJ.out j hjk
      · obtain rfl : j = k := by omega
        rw [lv_bef HL.out HY.out]; exact HR.out
    clear HJ
    refine (CV2.out _).mono ?_
    rintro e w' ⟨rfl, rfl⟩
    go_wp2_with (at_builtin; refine wp_app rfl (.tmp 52) (.tmp 54) 35 3 rfl w.heap.size Try.underlying35 Try.inf_int rfl (by decide) (by decide) _ k _ rfl (HO3.out.alloc _) _ _ [.int .i64 (z - y)] rfl rfl (news1 (by simp [go_sem])) (news_int _) (by omega) (by have := HB3.out.size; simp; omega) ?_)
    intro A4 d4 N4 W4 hN4 ho4 hg4 hl4
    subst hN4
    rw [bef_next HL.out HY.out] at ho4
    have HO4 := Lib.hid ho4
    have HQ4 := Lib.hid (HAP.out.symm.kept (HQ3.out.alloc (Obj.cells #[.int .i64 (z - y)] 3)) hg4)
    have HA4 := Lib.hid ((HAP.out.symm.loc (HQ3.out.alloc (Obj.cells #[.int .i64 (z - y)] 3)) (hl4.imp id fun h => h.trans (by simp))).symm)
    have HB4 := Lib.hid ((HB3.out.alloc HB3.out.size (Obj.cells #[.int .i64 (z - y)] 3)).grown hg4 (by have := HB3.out.size; simp; omega) (fun g h => ((HO3.out.alloc (Obj.cells #[.int .i64 (z - y)] 3)).lt g h).1))
    clear ho4 hg4 hl4 HO3 HQ3 HAP HB3 CV2 CLS
    have hk12' : k < 12 := by have := (lineB_true HPP.out.1).1.2; omega
    by_cases ht2 : t < n2
    case neg =>
      have HV := Lib.hid (lv_keep HL.out HY.out (fun h => ht2 (by have := h.1; have := HN2.out; omega)))
      go_wp2_with (at_builtin; refine wp_app rfl (.tmp 77) (.tmp 79) 35 3 rfl w.heap.size Try.underlying35 Try.inf_int rfl (by decide) (by decide) _ k _ rfl (HQ4.out.alloc _) _ _ [.int .i64 (z - y)] rfl rfl (news1 (by simp [go_sem])) (news_int _) (by omega) (by have := HB4.out.size; simp; omega) ?_)
      intro A6 d6 N6 W6 hN6 ho6 hg6 hl6
      subst hN6
      rw [aft_next HV.out] at ho6
      have HQ6 := Lib.hid ho6
      have HO6 := Lib.hid (HA4.out.kept (HO4.out.alloc (Obj.cells #[.int .i64 (z - y)] 3)) hg6)
      have HA6 := Lib.hid (HA4.out.loc (HO4.out.alloc (Obj.cells #[.int .i64 (z - y)] 3)) (hl6.imp id fun h => h.trans (by simp)))
      have HB6 := Lib.hid ((HB4.out.alloc HB4.out.size (Obj.cells #[.int .i64 (z - y)] 3)).grown hg6 (by have := HB4.out.size; simp; omega) (fun g h => ((HQ4.out.alloc (Obj.cells #[.int .i64 (z - y)] 3)).lt g h).1))
      clear ho6 hg6 hl6
      go_wp2
      go_roundw
      case rel => exact ⟨k + 1, t, A4, d4, A6, d6, (z - y), by omega, by omega, by omega, by go_num, by go_num, rfl, rfl, rfl, by omega, by omega, HV, HJ1, HO6, HQ6, HA6, HB6⟩
      case measure => simp [intOf]; omega
    case pos =>
    have hts : t < am.length := by have := HN2.out; omega
    have hrc := (HR2.out.over HB4.out).q4c hts
    rw [Nat.zero_add] at hrc
    obtain ⟨⟨a', b', c', d'⟩, hq⟩ : ∃ q, am[t]'hts = q := ⟨_, rfl⟩
    have HG : Hid (am.getD t amz = ⟨a', b', c', d'⟩) := Lib.hid ((getD_at hts).trans hq)
    rw [hq] at hrc
    obtain ⟨hg, f0, f1, f2, f3⟩ := hrc
    simp only at f0 f1 f2 f3
    clear hq
    by_cases ha : a' = (k : Int)
    case neg =>
      have q1 : (a' == (k : Int)) = false := by simpa using ha
      have HV := Lib.hid (lv_keep HL.out HY.out (fun h => ha (by have := h.2; rw [HG.out] at this; exact this)))
      clear ha
      go_wp2_with (at_builtin; refine wp_app rfl (.tmp 77) (.tmp 79) 35 3 rfl w.heap.size Try.underlying35 Try.inf_int rfl (by decide) (by decide) _ k _ rfl (HQ4.out.alloc _) _ _ [.int .i64 (z - y)] rfl rfl (news1 (by simp [go_sem])) (news_int _) (by omega) (by have := HB4.out.size; simp; omega) ?_)
      intro A6 d6 N6 W6 hN6 ho6 hg6 hl6
      subst hN6
      rw [aft_next HV.out] at ho6
      have HQ6 := Lib.hid ho6
      have HO6 := Lib.hid (HA4.out.kept (HO4.out.alloc (Obj.cells #[.int .i64 (z - y)] 3)) hg6)
      have HA6 := Lib.hid (HA4.out.loc (HO4.out.alloc (Obj.cells #[.int .i64 (z - y)] 3)) (hl6.imp id fun h => h.trans (by simp)))
      have HB6 := Lib.hid ((HB4.out.alloc HB4.out.size (Obj.cells #[.int .i64 (z - y)] 3)).grown hg6 (by have := HB4.out.size; simp; omega) (fun g h => ((HQ4.out.alloc (Obj.cells #[.int .i64 (z - y)] 3)).lt g h).1))
      clear ho6 hg6 hl6
      go_wp2
      go_roundw
      case rel => exact ⟨k + 1, t, A4, d4, A6, d6, (z - y), by omega, by omega, by omega, by go_num, by go_num, rfl, rfl, rfl, by omega, by omega, HV, HJ1, HO6, HQ6, HA6, HB6⟩
      case measure => simp [intOf]; omega
    case pos =>
    subst ha
    have hkd : kindB ⟨(k : Int), b', c', d'⟩ = true := by
      have := HPP.out.2.1 t hts
      unfold ampK at this
      rw [HG.out] at this
      simp only [Bool.and_eq_true] at this
      exact this.1
    have HV := Lib.hid (lv_raise HL.out HY.out hts HG.out rfl)
    have CR : Hid (∀ W, Calls Try.prog 68 #[.agg #[.int .i64 (k : Int), .int .i64 b', .int .i64 c', .int .i64 d'], .int .i64 (z - y)] W (RetV (.int .i64 (raiseI ⟨(k : Int), b', c', d'⟩ (z - y))) W)) := Lib.hid fun W => sRaise (k : Int) b' c' d' (z - y) W hkd zy0 zy1
    have hrb := raise_bd hkd zy0 zy1
    obtain ⟨x, hx⟩ : ∃ x, raiseI ⟨(k : Int), b', c', d'⟩ (z - y) = x := ⟨_, rfl⟩
    rw [hx] at HV CR hrb
    obtain ⟨x0, x1⟩ := hrb
    clear hx hkd
    go_wp2_with fail
    refine (CR.out _).mono ?_
    rintro e w5 ⟨rfl, hb5⟩
    have HB5 := Lib.hid (HB4.out.trans (hb5.mono HB4.out.size)); have HO5 := Lib.hid (ownB HO4.out hb5); have HQ5 := Lib.hid (ownB HQ4.out hb5)
    clear hb5 f0 f1 f2 f3 HO4 HQ4 HB4
    go_wp2_with (at_builtin; refine wp_app rfl (.tmp 77) (.tmp 79) 35 3 rfl w.heap.size Try.underlying35 Try.inf_int rfl (by decide) (by decide) _ k _ rfl (HQ5.out.alloc _) _ _ [.int .i64 x] rfl rfl (news1 (by simp [go_sem])) (news_int _) (by omega) (by have := HB5.out.size; simp; omega) ?_)
    intro A6 d6 N6 W6 hN6 ho6 hg6 hl6
    subst hN6
    rw [aft_next HV.out] at ho6
    have HQ6 := Lib.hid ho6
    have HO6 := Lib.hid (HA4.out.kept (HO5.out.alloc (Obj.cells #[.int .i64 x] 3)) hg6)
    have HA6 := Lib.hid (HA4.out.loc (HO5.out.alloc (Obj.cells #[.int .i64 x] 3)) (hl6.imp id fun h => h.trans (by simp)))
    have HB6 := Lib.hid ((HB5.out.alloc HB5.out.size (Obj.cells #[.int .i64 x] 3)).grown hg6 (by have := HB5.out.size; simp; omega) (fun g h => ((HQ5.out.alloc (Obj.cells #[.int .i64 x] 3)).lt g h).1))
    clear ho6 hg6 hl6
    go_wp2
    go_roundw
    case rel => exact ⟨k + 1, t + 1, A4, d4, A6, d6, x, by omega, by omega, by omega, by go_num, by go_num, rfl, rfl, rfl, by omega, by omega, HV, HJ1, HO6, HQ6, HA6, HB6⟩
    case measure => simp [intOf]; omega
end Go.Proofs.Ytgaankdmppoghaa
