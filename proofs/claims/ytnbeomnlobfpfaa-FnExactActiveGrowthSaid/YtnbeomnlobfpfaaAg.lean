/- Growth of demands: which are wanted in a period: contracts of ActiveGrowth, both sides. No condition but those typed. -/
import Derived.Test.YtnbeomnlobfpfaaGv
import Derived.Test.YtnbeomnlobfpfaaGB
namespace Go.Proofs.Ytnbeomnlobfpfaa
open Go.ChangeShapes Go.WideShapes Go.ChangeAt Go.RowKit

def gwn (gs : List Q6) (i : Nat) : Q6 := gs.getD i ⟨0, 0, 0, 0, 0, 0⟩
theorem gwn_at {gs : List Q6} {k : Nat} (hk : k < gs.length) {q : Q6} (hq : gs[k] = q) : gwn gs k = q := by
  unfold gwn; rw [List.getD_eq_getElem?_getD, List.getElem?_eq_getElem hk, hq]; rfl
def agK (gs : List Q6) (x : Int) (k : Nat) : List Int := ((List.range k).filter fun i => decide ((gwn gs i).e ≤ x ∧ x ≤ (gwn gs i).f)).map fun (i : Nat) => (i : Int)
theorem ag_yes {gs : List Q6} {x : Int} {k : Nat} (h : (gwn gs k).e ≤ x ∧ x ≤ (gwn gs k).f) : agK gs x (k + 1) = agK gs x k ++ [(k : Int)] := by
  unfold agK
  rw [List.range_succ, List.filter_append, List.map_append]
  simp [h]
theorem ag_no {gs : List Q6} {x : Int} {k : Nat} (h : ¬ ((gwn gs k).e ≤ x ∧ x ≤ (gwn gs k).f)) : agK gs x (k + 1) = agK gs x k := by
  unfold agK
  rw [List.range_succ, List.filter_append, List.map_append]
  rw [show List.filter (fun i => decide ((gwn gs i).e ≤ x ∧ x ≤ (gwn gs i).f)) [k] = [] by rw [List.filter_cons, decide_eq_false h]; rfl]
  simp
theorem agK_len (gs : List Q6) (x : Int) (k : Nat) : (agK gs x k).length ≤ k := by
  unfold agK
  rw [List.length_map]
  exact Nat.le_trans (List.length_filter_le _ _) (by rw [List.length_range]; exact Nat.le_refl _)
def agP (ss : List ByteArray) (fs : List Q4) (gs : List Q6) (x : Int) : Prop := gwsP ss fs gs ∧ 0 ≤ x ∧ x ≤ 7
noncomputable def agL (ss : List ByteArray) (fs : List Q4) (gs : List Q6) (x : Int) : List Int := if pb (agP ss fs gs x) then agK gs x gs.length else []
theorem agL_len (ss : List ByteArray) (fs : List Q4) (gs : List Q6) (x : Int) : (agL ss fs gs x).length ≤ gs.length := by
  unfold agL
  split
  · exact agK_len _ _ _
  · simp
theorem ag_bad {ss : List ByteArray} {fs : List Q4} {gs : List Q6} {x : Int} (e : ¬ agP ss fs gs x) : agL ss fs gs x = [] ∧ pb (agP ss fs gs x) = false := by
  have hb := pb_false e
  exact ⟨by unfold agL; rw [hb]; rfl, hb⟩
theorem ag_good {ss : List ByteArray} {fs : List Q4} {gs : List Q6} {x : Int} (e : agP ss fs gs x) : agL ss fs gs x = agK gs x gs.length ∧ pb (agP ss fs gs x) = true := by
  have hb := pb_true e
  exact ⟨by unfold agL; rw [hb]; rfl, hb⟩
theorem isPeriod_ (x : Int) (w : World) : Calls Try.prog 122 #[.int .i64 x] w fun e w' => e = .returned (.bool (decide (0 ≤ x ∧ x ≤ 7))) ∧ w = w' := by
  by_cases h0 : 0 ≤ x
  · by_cases h1 : x < 8
    · rw [decide_eq_true ⟨h0, by omega⟩]
      go_enter Try.func122, Try.ntmps122
      go_wp2
      go_ret
      exact ⟨rfl, rfl⟩
    · rw [decide_eq_false (by omega)]
      have h2 : decide (x < 8) = false := decide_eq_false h1
      go_enter Try.func122, Try.ntmps122
      go_wp2
      go_ret
      exact ⟨rfl, rfl⟩
  · rw [decide_eq_false (by omega)]
    have h2 : decide (0 ≤ x) = false := decide_eq_false h0
    go_enter Try.func122, Try.ntmps122
    go_wp2
    go_ret
    exact ⟨rfl, rfl⟩

set_option maxRecDepth 100000 in
set_option maxHeartbeats 4000000 in
theorem specAG {g1 g2 n1 n2 c1 c2 : Nat} {ss : List ByteArray} {fs : List Q4} {w : World} (h : NetAt g1 g2 n1 n2 c1 c2 ss fs w) {g3 n3 c3 : Nat} {gs : List Q6} (hn3 : gs.length = n3) (hrd : Rd w w.heap.size (some ⟨g3, 0, none⟩) (gs.flatMap Q6.cells)) (hs3 : n3 ≤ 1048576) (x : Int) :
    Calls Try.prog 60 #[.agg #[.slice (some ⟨g1, 0, none⟩) n1 c1, .slice (some ⟨g2, 0, none⟩) n2 c2], .slice (some ⟨g3, 0, none⟩) n3 c3, .int .i64 x] w (IntsP (agL ss fs gs x) (pb (agP ss fs gs x)) w) := by
  have HNT := Lib.hid h; have HN3 := Lib.hid hn3; have HRD := Lib.hid hrd
  clear h hn3 hrd
  obtain ⟨RL, hRL⟩ : ∃ r, agL ss fs gs x = r := ⟨_, rfl⟩
  obtain ⟨RB, hRB⟩ : ∃ r, pb (agP ss fs gs x) = r := ⟨_, rfl⟩
  rw [hRL, hRB]
  have HNO : Hid (¬ agP ss fs gs x → RL = [] ∧ RB = false) := Lib.hid (fun e => by rw [← hRL, ← hRB]; exact ag_bad e)
  have HYES : Hid (agP ss fs gs x → RL = agK gs x gs.length ∧ RB = true) := Lib.hid (fun e => by rw [← hRL, ← hRB]; exact ag_good e)
  clear hRL hRB
  go_enter Try.func60, Try.ntmps60
  go_wp2_with fail
  obtain ⟨W0, hW0⟩ : ∃ W0, (w.alloc (Obj.cells #[.slice (some ⟨g1, 0, none⟩) n1 c1, .slice (some ⟨g2, 0, none⟩) n2 c2] 34)).alloc (Obj.cells #[] 3) = W0 := ⟨_, rfl⟩
  have hb0 : Below w.heap.size w W0 := by rw [← hW0]; exact ((Below.refl _ _).alloc (Nat.le_refl _) _).alloc (by simp) _
  have hz0 : w.heap.size + 1 < W0.heap.size := by rw [← hW0]; simp
  have hown0 : W0.ownsRow (w.heap.size + 1) 3 1 (.slice (some ⟨w.heap.size + 1, 0, none⟩) 0 0) 0 [] := by
    rw [← hW0]
    have := World.ownsRow_lit (base := w.heap.size + 1) (e := 3) (size := 1) (w.alloc (Obj.cells #[.slice (some ⟨g1, 0, none⟩) n1 c1, .slice (some ⟨g2, 0, none⟩) n2 c2] 34)) #[] 0 (by simp) (by unfold maxLen; omega) rfl
    simpa using this
  have HO0 := Lib.hid hown0
  clear hown0
  have HB0 := Lib.hid hb0
  rw [hW0]
  clear hW0 hb0
  have CG := Lib.hid (l26Good_ (c3 := c3) (HNT.out.moved HB0.out) HN3.out hs3 (HRD.out.moved HB0.out))
  obtain ⟨b, hb⟩ : ∃ b, pb (gwsP ss fs gs) = b := ⟨_, rfl⟩
  rw [hb] at CG
  have HPB := Lib.hid hb
  clear hb
  refine CG.out.mono ?_
  rintro e w1 ⟨rfl, hb1⟩
  have HB1 := Lib.hid (HB0.out.trans (hb1.mono HB0.out.size))
  have HO1 := Lib.hid (ownB HO0.out hb1)
  have HZW : Hid (w.heap.size + 1 < w1.heap.size) := Lib.hid (Nat.lt_of_lt_of_le hz0 hb1.size)
  clear hb1 hz0
  cases b
  case false =>
    have HNB := Lib.hid (HNO.out (fun e => by have := pb_true e.1; rw [HPB.out] at this; cases this))
    obtain ⟨rfl, rfl⟩ := HNB.out
    go_wp2
    go_ret2
    exact ⟨_, 0, _, rfl, Lib.hid rfl, own_base HO1.out (by omega), HB1.out⟩
  case true =>
  have CI := Lib.hid (fun W => in_any x 0 7 W)
  by_cases hx : 0 ≤ x ∧ x ≤ 7
  case neg =>
    have HNB := Lib.hid (HNO.out (fun e => hx e.2))
    obtain ⟨rfl, rfl⟩ := HNB.out
    rw [decide_eq_false hx] at CI
    clear hx
    go_wp2_with fail
    refine (CI.out _).mono ?_
    rintro e w' ⟨rfl, rfl⟩
    go_wp2
    go_ret2
    exact ⟨_, 0, _, rfl, Lib.hid rfl, own_base HO1.out (by omega), HB1.out⟩
  case pos =>
  have HGP : Hid (gwsP ss fs gs) := Lib.hid (of_pb HPB.out)
  have HYS := Lib.hid (HYES.out ⟨HGP.out, hx⟩)
  have hn12 : n3 ≤ 12 := by have := HGP.out.1; have := HN3.out; omega
  rw [decide_eq_true hx] at CI
  obtain ⟨rfl, rfl⟩ := HYS.out
  clear hx
  go_wp2_with fail
  refine (CI.out _).mono ?_
  rintro e w' ⟨rfl, rfl⟩
  go_wp2
  go_loopw [8, 9] (fun v i wr => ∃ (k N c1 : Nat) (A1 : Option Addr), k ≤ n3 ∧ i = .int .i64 k ∧ v = .slice A1 N c1 ∧ Hid (N = (agK gs x k).length) ∧ Hid (wr.ownsRow (w.heap.size + 1) 3 1 (.slice A1 N c1) N ((agK gs x k).map (Value.int .i64))) ∧ Below (w.heap.size + 1) w1 wr) (fun _ i _ => n3 - (intOf i).toNat)
  case atStart => exact ⟨0, 0, _, _, Nat.zero_le _, rfl, rfl, Lib.hid rfl, HO1, Below.refl _ _⟩
  case round =>
    obtain ⟨k, N, c1', A1, hk, rfl, rfl, HNN, HOW, hb⟩ := hrel
    have HBR := Lib.hid hb
    have HSZ : Hid ((w.heap.size + 1) ≤ wr.heap.size) := Lib.hid (by have := hb.size; have := HZW.out; omega)
    have HBRW := Lib.hid (HB1.out.trans (hb.mono (by have := HZW.out; omega)))
    clear hb
    have hN12 : N ≤ 12 := by have h1 := agK_len gs x k; have h2 := HNN.out; omega
    by_cases hlt : k < n3
    case neg =>
      have HKN : Hid (gs.length = k) := Lib.hid (by have := HN3.out; omega)
      go_wp2
      go_ret2
      rw [HKN.out]
      exact ⟨A1, N, c1', rfl, HNN, own_base HOW.out (by have := HZW.out; omega), HBRW.out⟩
    case pos =>
    have hks : k < gs.length := by have := HN3.out; omega
    obtain ⟨⟨q0, q1, q2, q3, q4, q5⟩, hq⟩ : ∃ q, gs[k]'hks = q := ⟨_, rfl⟩
    have HQ := Lib.hid (gwn_at hks hq)
    obtain ⟨T, f, x0, hx0, hTT, HST⟩ := above wr
    haveI : Nonempty T := ⟨x0⟩
    have HXX := Lib.hid hx0
    have HBX : Hid (∀ x, Below w.heap.size w (f x)) := Lib.hid (fun x => HBRW.out.trans ((hTT x).mono HBRW.out.size))
    have HTX : Hid (∀ x, Below wr.heap.size wr (f x)) := Lib.hid hTT
    clear hTT hx0
    have hr : ∀ x, (f x).cell? ⟨g3, k * 6 + 4, none⟩ = some (.int .i64 q4) ∧ (f x).cell? ⟨g3, k * 6 + 5, none⟩ = some (.int .i64 q5) := fun x => by
      obtain ⟨_, f0, f1, f2, f3, f4, f5⟩ := (HRD.out.moved (HBX.out x)).q6c hks
      rw [Nat.zero_add, hq] at f4 f5
      exact ⟨f4, f5⟩
    have r4 := fun x => (hr x).1
    have r5 := fun x => (hr x).2
    clear hr hq
    have CJ : Hid (∀ y, Calls Try.prog 121 #[.int .i64 x, .int .i64 q4, .int .i64 q5] (f y) (RetP (.bool (decide (q4 ≤ x ∧ x ≤ q5))) (f y))) := Lib.hid fun y => in_ret x q4 q5 (f y)
    by_cases hi : q4 ≤ x ∧ x ≤ q5
    case neg =>
      have HS2 : Hid (agK gs x (k + 1) = agK gs x k) := Lib.hid (ag_no (by rw [HQ.out]; exact hi))
      rw [← HS2.out] at HNN HOW
      rw [decide_eq_false hi] at CJ
      clear hi
      go_wp2_with fail
      refine wp_region_class f (by kernel_rfl) (by kernel_rfl) x0 HXX.out ?_
      repeat (go_big_quiet_step (first | (go_at_call 121; exact Calls.inClass HST (CJ.out _))))
      refine wpQuiet_nil ?_
      rintro _ ⟨t, rfl⟩
      have HB3 := Lib.hid (HBR.out.trans ((HTX.out t).mono HSZ.out))
      have HOW3 := Lib.hid (ownB HOW.out (HTX.out t))
      have HS3 : Hid ((w.heap.size + 1) ≤ (f t).heap.size) := Lib.hid (by have := (HTX.out t).size; have := HSZ.out; omega)
      clear r4 r5
      generalize f t = w2 at HB3 HOW3 HS3 ⊢
      go_wp2
      go_roundw
      case rel => exact ⟨k + 1, N, c1', A1, by omega, by go_num, rfl, HNN, HOW3, HB3.out⟩
      case measure => simp [intOf]; omega
    case pos =>
      have HS2 : Hid (agK gs x (k + 1) = agK gs x k ++ [(k : Int)]) := Lib.hid (ag_yes (by rw [HQ.out]; exact hi))
      rw [decide_eq_true hi] at CJ
      clear hi
      go_wp2_with fail
      refine wp_region_class f (by kernel_rfl) (by kernel_rfl) x0 HXX.out ?_
      repeat (go_big_quiet_step (first | (go_at_call 121; exact Calls.inClass HST (CJ.out _))))
      refine wpQuiet_nil ?_
      rintro _ ⟨t, rfl⟩
      have HB3 := Lib.hid (HBR.out.trans ((HTX.out t).mono HSZ.out))
      have HOW3 := Lib.hid (ownB HOW.out (HTX.out t))
      have HS3 : Hid ((w.heap.size + 1) ≤ (f t).heap.size) := Lib.hid (by have := (HTX.out t).size; have := HSZ.out; omega)
      clear r4 r5
      generalize f t = w2 at HB3 HOW3 HS3 ⊢
      go_wp2_with (at_builtin; refine wp_app rfl (.tmp 39) (.tmp 41) 57 3 rfl (w.heap.size + 1) Try.underlying57 Try.inf_int rfl (by decide) (by decide) _ N _ rfl (HOW3.out.alloc _) _ _ [.int .i64 (k : Int)] rfl rfl (news1 (new_at_ _ _ _ _ rfl)) (news_int _) (by omega) (by have := HS3.out; simp; omega) ?_)
      intro A2 d2 N2 w3 hN2 hown2 hgrow2 hloc2
      subst hN2
      have hB3 : Below (w.heap.size + 1) w1 w3 := (HB3.out.alloc HS3.out _).grown hgrow2 (by have := HS3.out; simp; omega) (fun g hg => (HOW3.out.lt g hg).1)
      have HNN3 : Hid (N + 1 = (agK gs x (k + 1)).length) := Lib.hid (by rw [HS2.out, List.length_append, ← HNN.out]; rfl)
      have HOW4 : Hid (w3.ownsRow (w.heap.size + 1) 3 1 (.slice A2 (N + 1) d2) (N + 1) ((agK gs x (k + 1)).map (Value.int .i64))) := Lib.hid (by rw [HS2.out, List.map_append]; exact hown2)
      clear hown2 hgrow2 hloc2
      obtain ⟨N3, hN3⟩ : ∃ N3, N + 1 = N3 := ⟨_, rfl⟩
      rw [hN3] at HNN3 HOW4 ⊢
      clear hN3
      go_wp2
      go_roundw
      case rel => exact ⟨k + 1, N3, d2, A2, by omega, by go_num, rfl, HNN3, HOW4, hB3⟩
      case measure => simp [intOf]; omega

set_option maxRecDepth 100000 in
set_option maxHeartbeats 4000000 in
theorem implAG {g1 g2 n1 n2 c1 c2 : Nat} {ss : List ByteArray} {fs : List Q4} {w : World} (h : NetAt g1 g2 n1 n2 c1 c2 ss fs w) {g3 n3 c3 : Nat} {gs : List Q6} (hn3 : gs.length = n3) (hrd : Rd w w.heap.size (some ⟨g3, 0, none⟩) (gs.flatMap Q6.cells)) (hs3 : n3 ≤ 1048576) (x : Int) :
    Calls Try.prog 61 #[.agg #[.slice (some ⟨g1, 0, none⟩) n1 c1, .slice (some ⟨g2, 0, none⟩) n2 c2], .slice (some ⟨g3, 0, none⟩) n3 c3, .int .i64 x] w (IntsP (agL ss fs gs x) (pb (agP ss fs gs x)) w) := by
  have HNT := Lib.hid h; have HN3 := Lib.hid hn3; have HRD := Lib.hid hrd
  clear h hn3 hrd
  obtain ⟨RL, hRL⟩ : ∃ r, agL ss fs gs x = r := ⟨_, rfl⟩
  obtain ⟨RB, hRB⟩ : ∃ r, pb (agP ss fs gs x) = r := ⟨_, rfl⟩
  rw [hRL, hRB]
  have HNO : Hid (¬ agP ss fs gs x → RL = [] ∧ RB = false) := Lib.hid (fun e => by rw [← hRL, ← hRB]; exact ag_bad e)
  have HYES : Hid (agP ss fs gs x → RL = agK gs x gs.length ∧ RB = true) := Lib.hid (fun e => by rw [← hRL, ← hRB]; exact ag_good e)
  clear hRL hRB
  go_enter Try.func61, Try.ntmps61
  go_wp2_with fail
  obtain ⟨W0, hW0⟩ : ∃ W0, w.alloc (Obj.cells #[.slice (some ⟨g1, 0, none⟩) n1 c1, .slice (some ⟨g2, 0, none⟩) n2 c2] 34) = W0 := ⟨_, rfl⟩
  have hb0 : Below w.heap.size w W0 := by rw [← hW0]; exact (Below.refl _ _).alloc (Nat.le_refl _) _
  have hz0 : w.heap.size < W0.heap.size := by rw [← hW0]; simp
  have HB0 := Lib.hid hb0
  rw [hW0]
  clear hW0 hb0
  have CG := Lib.hid (implGV (c3 := c3) (HNT.out.moved HB0.out) HN3.out (HRD.out.moved HB0.out) hs3)
  obtain ⟨b, hb⟩ : ∃ b, pb (gwsP ss fs gs) = b := ⟨_, rfl⟩
  rw [hb] at CG
  have HPB := Lib.hid hb
  clear hb
  refine CG.out.mono ?_
  rintro e w1 ⟨rfl, hb1⟩
  have HB1 := Lib.hid (HB0.out.trans (hb1.mono HB0.out.size))
  have HZW : Hid (w.heap.size < w1.heap.size) := Lib.hid (Nat.lt_of_lt_of_le hz0 hb1.size)
  clear hb1 hz0
  cases b
  case false =>
    have HNB := Lib.hid (HNO.out (fun e => by have := pb_true e.1; rw [HPB.out] at this; cases this))
    obtain ⟨rfl, rfl⟩ := HNB.out
    go_wp2
    go_ret2
    exact ints_no ⟨rfl, rfl⟩ HB1.out
  case true =>
  have CI := Lib.hid (fun W => isPeriod_ x W)
  by_cases hx : 0 ≤ x ∧ x ≤ 7
  case neg =>
    have HNB := Lib.hid (HNO.out (fun e => hx e.2))
    obtain ⟨rfl, rfl⟩ := HNB.out
    rw [decide_eq_false hx] at CI
    clear hx
    go_wp2_with fail
    refine (CI.out _).mono ?_
    rintro e w' ⟨rfl, rfl⟩
    go_wp2
    go_ret2
    exact ints_no ⟨rfl, rfl⟩ HB1.out
  case pos =>
  have HGP : Hid (gwsP ss fs gs) := Lib.hid (of_pb HPB.out)
  have HYS := Lib.hid (HYES.out ⟨HGP.out, hx⟩)
  have hn12 : n3 ≤ 12 := by have := HGP.out.1; have := HN3.out; omega
  rw [decide_eq_true hx] at CI
  obtain ⟨rfl, rfl⟩ := HYS.out
  clear hx
  go_wp2_with fail
  refine (CI.out _).mono ?_
  rintro e w' ⟨rfl, rfl⟩
  go_wp2
  go_loopw [8, 22] (fun v i wr => ∃ (k N c1 : Nat) (A1 : Option Addr), k ≤ n3 ∧ i = .int .i64 k ∧ v = .slice A1 N c1 ∧ Hid (N = (agK gs x k).length) ∧ Hid (wr.ownsRow w1.heap.size 3 1 (.slice A1 N c1) N ((agK gs x k).map (Value.int .i64))) ∧ Below w1.heap.size w1 wr) (fun _ i _ => n3 - (intOf i).toNat)
  case atStart => exact ⟨0, 0, _, _, Nat.zero_le _, rfl, rfl, Lib.hid rfl, (Lib.hid (World.ownsRow_nil _ _ _ _)), Below.refl _ _⟩
  case round =>
    obtain ⟨k, N, c1', A1, hk, rfl, rfl, HNN, HOW, hb⟩ := hrel
    have HBR := Lib.hid hb
    have HSZ : Hid (w1.heap.size ≤ wr.heap.size) := Lib.hid (by have := hb.size; have := HZW.out; omega)
    have HBRW := Lib.hid (HB1.out.trans (hb.mono (by have := HZW.out; omega)))
    clear hb
    have hN12 : N ≤ 12 := by have h1 := agK_len gs x k; have h2 := HNN.out; omega
    by_cases hlt : k < n3
    case neg =>
      have HKN : Hid (gs.length = k) := Lib.hid (by have := HN3.out; omega)
      go_wp2
      go_ret2
      rw [HKN.out]
      exact ⟨A1, N, c1', rfl, HNN, own_base HOW.out (by have := HZW.out; omega), HBRW.out⟩
    case pos =>
    have hks : k < gs.length := by have := HN3.out; omega
    obtain ⟨⟨q0, q1, q2, q3, q4, q5⟩, hq⟩ : ∃ q, gs[k]'hks = q := ⟨_, rfl⟩
    have HQ := Lib.hid (gwn_at hks hq)
    obtain ⟨hg, f0, f1, f2, f3, f4, f5⟩ := (HRD.out.moved HBRW.out).q6c hks
    rw [Nat.zero_add, hq] at f0 f1 f2 f3 f4 f5
    simp only at f0 f1 f2 f3 f4 f5
    clear hq
    obtain ⟨w2, hw2⟩ : ∃ w2, wr.alloc (Obj.cells #[.int .i64 q0, .int .i64 q1, .int .i64 q2, .int .i64 q3, .int .i64 q4, .int .i64 q5] 172) = w2 := ⟨_, rfl⟩
    have HB3 : Hid (Below w1.heap.size w1 w2) := Lib.hid (by rw [← hw2]; exact HBR.out.alloc HSZ.out _)
    have HOW3 : Hid (w2.ownsRow w1.heap.size 3 1 (.slice A1 N c1') N ((agK gs x k).map (Value.int .i64))) := Lib.hid (by rw [← hw2]; exact HOW.out.alloc _)
    have HS3 : Hid (w1.heap.size ≤ w2.heap.size) := Lib.hid (by rw [← hw2]; have := HSZ.out; simp; omega)
    have HZ3 : Hid (w2.heap.size = wr.heap.size + 1) := Lib.hid (by rw [← hw2]; simp)
    have HW2 := Lib.hid hw2
    clear hw2
    by_cases hi : q4 ≤ x ∧ x ≤ q5
    case neg =>
      have HS2 : Hid (agK gs x (k + 1) = agK gs x k) := Lib.hid (ag_no (by rw [HQ.out]; exact hi))
      rw [← HS2.out] at HNN HOW3
      by_cases h4 : q4 ≤ x
      · have h5 : decide (x ≤ q5) = false := decide_eq_false (fun e => hi ⟨h4, e⟩)
        clear hi
        go_wp2
        rw [HW2.out]
        go_roundw
        case rel => exact ⟨k + 1, N, c1', A1, by omega, by go_num, rfl, HNN, HOW3, HB3.out⟩
        case measure => simp [intOf]; omega
      · have h5 : decide (q4 ≤ x) = false := decide_eq_false h4
        clear hi
        go_wp2
        rw [HW2.out]
        go_roundw
        case rel => exact ⟨k + 1, N, c1', A1, by omega, by go_num, rfl, HNN, HOW3, HB3.out⟩
        case measure => simp [intOf]; omega
    case pos =>
      have HS2 : Hid (agK gs x (k + 1) = agK gs x k ++ [(k : Int)]) := Lib.hid (ag_yes (by rw [HQ.out]; exact hi))
      obtain ⟨h4, h5⟩ := hi
      go_wp2_with (at_builtin; rw [HW2.out]; refine wp_app rfl (.tmp 37) (.tmp 39) 57 3 rfl w1.heap.size Try.underlying57 Try.inf_int rfl (by decide) (by decide) _ N _ rfl (HOW3.out.alloc _) _ _ [.int .i64 (k : Int)] rfl rfl (news1 (new_at_ _ _ _ _ HZ3.out)) (news_int _) (by omega) (by have := HS3.out; simp; omega) ?_)
      intro A2 d2 N2 w3 hN2 hown2 hgrow2 hloc2
      subst hN2
      have hB3 : Below w1.heap.size w1 w3 := (HB3.out.alloc HS3.out _).grown hgrow2 (by have := HS3.out; simp; omega) (fun g hg => (HOW3.out.lt g hg).1)
      have HNN3 : Hid (N + 1 = (agK gs x (k + 1)).length) := Lib.hid (by rw [HS2.out, List.length_append, ← HNN.out]; rfl)
      have HOW4 : Hid (w3.ownsRow w1.heap.size 3 1 (.slice A2 (N + 1) d2) (N + 1) ((agK gs x (k + 1)).map (Value.int .i64))) := Lib.hid (by rw [HS2.out, List.map_append]; exact hown2)
      clear hown2 hgrow2 hloc2
      obtain ⟨N3, hN3⟩ : ∃ N3, N + 1 = N3 := ⟨_, rfl⟩
      rw [hN3] at HNN3 HOW4 ⊢
      clear hN3
      go_wp2
      go_roundw
      case rel => exact ⟨k + 1, N3, d2, A2, by omega, by go_num, rfl, HNN3, HOW4, hB3⟩
      case measure => simp [intOf]; omega
end Go.Proofs.Ytnbeomnlobfpfaa
