/- A growth's delay: contracts of DelayGrowth, both sides. No condition but those typed. -/
import Derived.Test.YtlmemmcdabhooaaAg
import Derived.Test.YtlmemmcdabhooaaGwA
namespace Go.Proofs.Ytlmemmcdabhooaa
open Go.ChangeShapes Go.WideShapes Go.ChangeAt Go.RowKit

theorem q6_skip (q : Q6) (l : List Value) (k j : Nat) (v : Value) : (q.cells ++ l).set ((k + 1) * 6 + j) v = q.cells ++ l.set (k * 6 + j) v := by
  have e : q.cells.length = 6 := rfl
  rw [List.set_append_right _ _ (by omega), e]
  congr 2
  omega
theorem q6_skip0 (q : Q6) (l : List Value) (k : Nat) (v : Value) : (q.cells ++ l).set ((k + 1) * 6) v = q.cells ++ l.set (k * 6) v := q6_skip q l k 0 v
theorem sets6 : ∀ (qs : List Q6) (k : Nat), k < qs.length → ∀ a b c d e f : Int, (((((((qs.flatMap Q6.cells).set (k * 6) (.int .i64 a)).set (k * 6 + 1) (.int .i64 b)).set (k * 6 + 2) (.int .i64 c)).set (k * 6 + 3) (.int .i64 d)).set (k * 6 + 4) (.int .i64 e)).set (k * 6 + 5) (.int .i64 f)) = (qs.set k ⟨a, b, c, d, e, f⟩).flatMap Q6.cells
  | q :: r, 0, _, a, b, c, d, e, f => by simp [Q6.cells]
  | q :: r, k + 1, h, a, b, c, d, e, f => by
    have ih := sets6 r k (by simpa using h) a b c d e f
    rw [List.flatMap_cons, q6_skip0, q6_skip, q6_skip, q6_skip, q6_skip, q6_skip, ih]
    simp
theorem sets2 : ∀ (qs : List Q6) (k : Nat), k < qs.length → ∀ q : Q6, gwn qs k = q → ∀ e f : Int, (((qs.flatMap Q6.cells).set (k * 6 + 4) (.int .i64 e)).set (k * 6 + 5) (.int .i64 f)) = (qs.set k ⟨q.a, q.b, q.c, q.d, e, f⟩).flatMap Q6.cells
  | q :: r, 0, _, q', hq, e, f => by
    have : q = q' := hq
    subst this
    simp [Q6.cells]
  | q :: r, k + 1, h, q', hq, e, f => by
    have ih := sets2 r k (by simpa using h) q' (by simpa [gwn] using hq) e f
    rw [List.flatMap_cons, q6_skip, q6_skip, ih]
    simp
/-- the list with the k-th growth later by p periods. -/
def dgS (gs : List Q6) (k : Nat) (p : Int) : List Q6 := gs.set k ⟨(gwn gs k).a, (gwn gs k).b, (gwn gs k).c, (gwn gs k).d, IntKind.i64.wrap ((gwn gs k).e + p), IntKind.i64.wrap ((gwn gs k).f + p)⟩
def dgP (ss : List ByteArray) (fs : List Q4) (gs : List Q6) (i p : Int) : Prop := gwsP ss fs gs ∧ (0 ≤ i ∧ i < gs.length) ∧ gwsP ss fs (dgS gs i.toNat p)
noncomputable def dgL (ss : List ByteArray) (fs : List Q4) (gs : List Q6) (i p : Int) : List Q6 := if pb (dgP ss fs gs i p) then dgS gs i.toNat p else []
theorem dgS_len (gs : List Q6) (k : Nat) (p : Int) : (dgS gs k p).length = gs.length := by unfold dgS; rw [List.length_set]
theorem dg_bad {ss : List ByteArray} {fs : List Q4} {gs : List Q6} {i p : Int} (e : ¬ dgP ss fs gs i p) : dgL ss fs gs i p = [] ∧ pb (dgP ss fs gs i p) = false := by
  have h := pb_false e
  refine ⟨?_, h⟩
  unfold dgL; rw [h]; rfl
theorem dg_good {ss : List ByteArray} {fs : List Q4} {gs : List Q6} {i p : Int} (e : dgP ss fs gs i p) : dgL ss fs gs i p = dgS gs i.toNat p ∧ pb (dgP ss fs gs i p) = true := by
  have h := pb_true e
  refine ⟨?_, h⟩
  unfold dgL; rw [h]; rfl
theorem dgL_len (ss : List ByteArray) (fs : List Q4) (gs : List Q6) (i p : Int) : (dgL ss fs gs i p).length ≤ gs.length := by
  unfold dgL
  split
  · rw [dgS_len]; exact Nat.le_refl _
  · simp
theorem dg_in {ss : List ByteArray} {fs : List Q4} {gs : List Q6} {i p : Int} (hp : i64s p) (h : dgP ss fs gs i p) : -8 ≤ p ∧ p ≤ 8 := by
  obtain ⟨h1, h2, h3⟩ := h
  have hk : i.toNat < gs.length := by omega
  have hg := (h1.2.1 _ hk).2
  have hd := (h3.2.1 i.toNat (by rw [dgS_len]; exact hk)).2
  have e1 : gwn gs i.toNat = gs[i.toNat]'hk := gwn_at hk rfl
  obtain ⟨z, hz⟩ : ∃ z, gs[i.toNat]'hk = z := ⟨_, rfl⟩
  rw [hz] at hg e1
  unfold dgS at hd
  rw [List.getElem_set_self] at hd
  rw [e1] at hd
  unfold gtP at hg hd
  simp only [IntKind.wrap_i64] at hd
  have hp1 := hp
  have hmin : IntKind.i64.min = -9223372036854775808 := by decide
  have hmax : IntKind.i64.max = 9223372036854775807 := by decide
  simp only [i64s, Lit.wf, Bool.and_eq_true, decide_eq_true_eq, hmin, hmax] at hp1
  omega
/-- an answer: a list of growths and a word. -/
def GwsO (L : List Q6) (b : Bool) (w : World) (e : Ending) (w' : World) : Prop :=
  ∃ (A : Option Addr) (N c : Nat), e = .returned (.tuple #[.slice A N c, .bool b]) ∧ Hid (N = L.length) ∧ w'.ownsRow w.heap.size 104 6 (.slice A N c) N (L.flatMap Q6.cells) ∧ Below w.heap.size w w'
theorem gws_no {L : List Q6} {b : Bool} {w w' : World} (h : L = [] ∧ b = false) (hb : Below w.heap.size w w') : GwsO L b w (.returned (.tuple #[.slice none 0 0, .bool false])) w' := by
  obtain ⟨rfl, rfl⟩ := h
  exact ⟨none, 0, 0, rfl, Lib.hid rfl, World.ownsRow_nil _ _ _ _, hb⟩
theorem news_gw (W : World) (b : Nat) (A : Option Addr) {xs : List Value} (h : Rd W W.heap.size A xs) {ad : Addr} (hA : A = some ad) : ∀ (j : Nat) (u : Value), xs[j]? = some u → W.cell? (ad.add j) = some u := by
  intro j u hu
  obtain ⟨ad', e, _, hc⟩ := h j u hu
  rw [hA] at e
  injection e with e; subst e; exact hc
set_option maxRecDepth 100000 in
set_option maxHeartbeats 4000000 in
theorem cloneGw (b n c : Nat) (qs : List Q6) (w : World) (hz : qs.length = n) (hbig : n ≤ 1000) (hr : Rd w w.heap.size (some ⟨b, 0, none⟩) (qs.flatMap Q6.cells)) :
    Calls Try.prog 67 #[.slice (some ⟨b, 0, none⟩) n c] w fun e w' => ∃ (A : Option Addr) (c' : Nat), e = .returned (.slice A n c') ∧ w'.ownsRow w.heap.size 104 6 (.slice A n c') n (qs.flatMap Q6.cells) ∧ Below w.heap.size w w' := by
  obtain ⟨i0, hi, hz0_, hz1_, hz2_⟩ := info_parts Try.inf_Gw
  have HI := Lib.hid hi; have HZ0 := Lib.hid hz0_; have HZ1 := Lib.hid hz1_; have HZ2 := Lib.hid hz2_
  clear hi hz0_ hz1_ hz2_
  have q22 : ∀ (w : World) (a : Option Addr) (n c n' c' : Nat), (binOp .eql 29 (.slice a n c) (.slice none n' c')).run Try.prog w = .ok (.bool a.isNone) w := fun w a n c n' c' => Lib.run_eql_slice_nil w _ _ a n c n' c' Try.underlying29
  have HR := Lib.hid hr
  have HN := Lib.hid hz
  have HLN := Lib.hid (q6_len qs)
  clear hr hz
  go_enter Try.func67, Try.ntmps67
  go_wp2_with (at_builtin; refine wpList_append_own _ rfl _ _ 29 rfl w.heap.size 104 i0 (.agg #[.int .i64 0, .int .i64 0, .int .i64 0, .int .i64 0, .int .i64 0, .int .i64 0]) 6 48 Try.underlying29 HI.out HZ0.out HZ1.out HZ2.out rfl (by decide) _ _ _ rfl (World.ownsRow_made w #[] 0 (Nat.le_refl _) (Nat.zero_le _) rfl) ⟨b, 0, none⟩ n c (qs.flatMap Q6.cells) rfl ?qc1 ?qc2 ?qc3 ?qc4 ?qc5 ?qc6 ?_)
  case qc1 => rw [HLN.out, HN.out]
  case qc2 =>
    intro j u hj
    exact Lib.cell?_alloc_some _ (news_gw w b _ HR.out rfl j u hj)
  case qc3 => exact q6_one qs
  case qc4 => unfold maxLen; omega
  case qc5 => omega
  case qc6 => simp
  intro v' w1 hown hgrow hnil
  have hown2 : w1.ownsRow w.heap.size 104 6 v' n (qs.flatMap Q6.cells) := by simpa using hown
  obtain ⟨A1, c1, rfl⟩ := formOf hown2
  clear hown
  go_wp2
  go_ret
  exact ⟨A1, c1, rfl, hown2, ((Below.refl _ w).alloc (Nat.le_refl _) _).grown hgrow (by simp) (by intro k hk; simp [Value.ownBlock] at hk; omega)⟩

set_option maxRecDepth 100000 in
set_option maxHeartbeats 4000000 in
theorem implDG {g1 g2 n1 n2 c1 c2 : Nat} {ss : List ByteArray} {fs : List Q4} {w : World} (h : NetAt g1 g2 n1 n2 c1 c2 ss fs w) {g3 n3 c3 : Nat} {gs : List Q6} (hn3 : gs.length = n3) (hrd : Rd w w.heap.size (some ⟨g3, 0, none⟩) (gs.flatMap Q6.cells)) (hs3 : n3 ≤ 1048576) (i p : Int) :
    Calls Try.prog 16 #[.agg #[.slice (some ⟨g1, 0, none⟩) n1 c1, .slice (some ⟨g2, 0, none⟩) n2 c2], .slice (some ⟨g3, 0, none⟩) n3 c3, .int .i64 i, .int .i64 p] w (GwsO (dgL ss fs gs i p) (pb (dgP ss fs gs i p)) w) := by
  have HNT := Lib.hid h; have HN3 := Lib.hid hn3; have HRD := Lib.hid hrd
  clear h hn3 hrd
  obtain ⟨RL, hRL⟩ : ∃ r, dgL ss fs gs i p = r := ⟨_, rfl⟩
  obtain ⟨RB, hRB⟩ : ∃ r, pb (dgP ss fs gs i p) = r := ⟨_, rfl⟩
  rw [hRL, hRB]
  have HNO : Hid (¬ dgP ss fs gs i p → RL = [] ∧ RB = false) := Lib.hid (fun e => by rw [← hRL, ← hRB]; exact dg_bad e)
  have HYES : Hid (dgP ss fs gs i p → RL = dgS gs i.toNat p ∧ RB = true) := Lib.hid (fun e => by rw [← hRL, ← hRB]; exact dg_good e)
  clear hRL hRB
  obtain ⟨W0, hW0⟩ : ∃ W0, w.alloc (Obj.cells #[.slice (some ⟨g1, 0, none⟩) n1 c1, .slice (some ⟨g2, 0, none⟩) n2 c2] 34) = W0 := ⟨_, rfl⟩
  have hb0 : Below w.heap.size w W0 := by rw [← hW0]; exact (Below.refl _ _).alloc (Nat.le_refl _) _
  have hk0 : W0.cell? ⟨w.heap.size, 0, none⟩ = some (.slice (some ⟨g1, 0, none⟩) n1 c1) := by rw [← hW0]; simp [go_sem]
  have hk1 : W0.cell? ⟨w.heap.size, 1, none⟩ = some (.slice (some ⟨g2, 0, none⟩) n2 c2) := by rw [← hW0]; simp [go_sem]
  have hz0 : w.heap.size < W0.heap.size := by rw [← hW0]; simp
  have HB0 := Lib.hid hb0; have HK0 := Lib.hid hk0; have HK1 := Lib.hid hk1; have HZ0 := Lib.hid hz0
  obtain ⟨b, hb⟩ : ∃ b, pb (gwsP ss fs gs) = b := ⟨_, rfl⟩
  have HPB := Lib.hid hb
  have CG := Lib.hid (implGV (c3 := c3) (HNT.out.moved HB0.out) HN3.out (HRD.out.moved HB0.out) hs3)
  rw [hb] at CG
  clear hb hb0 hz0
  go_enter Try.func16, Try.ntmps16
  go_wp2_with fail
  clear hW0
  refine CG.out.mono ?_
  rintro e w1 ⟨rfl, hb1⟩
  have HB1 := Lib.hid (HB0.out.trans (hb1.mono HB0.out.size))
  have hq0 := (hb1.cell (p := ⟨w.heap.size, 0, none⟩) HZ0.out).trans hk0
  have hq1 := (hb1.cell (p := ⟨w.heap.size, 1, none⟩) HZ0.out).trans hk1
  have HQ0 := Lib.hid hq0; have HQ1 := Lib.hid hq1
  have HZ1 : Hid (w.heap.size < w1.heap.size) := Lib.hid (Nat.lt_of_lt_of_le HZ0.out hb1.size)
  clear hb1 hk0 hk1 hq0 hq1
  cases b
  case false =>
    have HNB := Lib.hid (HNO.out (fun e => by have := pb_true e.1; rw [HPB.out] at this; cases this))
    go_wp2
    go_ret2
    exact gws_no HNB.out HB1.out
  case true =>
  by_cases hi0 : 0 ≤ i
  case neg =>
    have HNB := Lib.hid (HNO.out (fun e => hi0 e.2.1.1))
    have hi1 : i < 0 := by omega
    clear hi0
    go_wp2
    go_ret2
    exact gws_no HNB.out HB1.out
  case pos =>
  obtain ⟨k, rfl⟩ : ∃ k : Nat, i = k := ⟨i.toNat, by omega⟩
  by_cases hi1 : k < n3
  case neg =>
    have HNB := Lib.hid (HNO.out (fun e => hi1 (by have := e.2.1.2; have := HN3.out; omega)))
    have hi2 : (n3 : Int) ≤ (k : Int) := by omega
    clear hi1
    go_wp2
    go_ret2
    exact gws_no HNB.out HB1.out
  case pos =>
  have hGP : gwsP ss fs gs := of_pb HPB.out
  have hn12 : n3 ≤ 12 := by have := hGP.1; have := HN3.out; omega
  have HGP := Lib.hid hGP
  clear hGP hi0
  have CC := Lib.hid (cloneGw g3 n3 c3 gs w1 HN3.out (by omega) (HRD.out.moved HB1.out))
  have hi2 : (k : Int) < (n3 : Int) := by omega
  go_wp2_with fail
  refine CC.out.mono ?_
  rintro e w2 ⟨A4, c4, rfl, hown, hb2⟩
  rcases hown.2 with ⟨_, h0⟩ | ⟨g4, cap, cur, hv, hg4, hgg, _⟩
  · exact absurd h0 (by omega)
  injection hv with hA _ hC
  subst hA hC
  have HB2 := Lib.hid (HB1.out.trans (hb2.mono HB1.out.size))
  have hlt4 := hown.lt g4 rfl
  have hks : k < gs.length := by have := HN3.out; omega
  obtain ⟨q, hq⟩ : ∃ q, gs[k]'hks = q := ⟨_, rfl⟩
  have HQ := Lib.hid (gwn_at hks hq)
  obtain ⟨_, f0, f1, f2, f3, f4, f5⟩ := (rdOwnA hown).q6c hks
  rw [Nat.zero_add, hq] at f4 f5
  have z4_ := hown.frozenAt (k * 6 + 4)
  have z5_ := hown.frozenAt (k * 6 + 5)
  obtain ⟨qa, qb, qc, qd, qe, qf⟩ := q
  simp only at f4 f5
  have hst := ((hown.stored (k * 6 + 4) (.int .i64 (IntKind.i64.wrap (qe + p)))).1.stored (k * 6 + 5) (.int .i64 (IntKind.i64.wrap (qf + p)))).1
  rw [sets2 gs k hks ⟨qa, qb, qc, qd, qe, qf⟩ HQ.out] at hst
  have HDS : Hid (gs.set k ⟨qa, qb, qc, qd, IntKind.i64.wrap (qe + p), IntKind.i64.wrap (qf + p)⟩ = dgS gs k p) := Lib.hid (by unfold dgS; rw [HQ.out])
  rw [HDS.out] at hst
  have HST := Lib.hid hst
  have y0 := (hb2.cell (p := ⟨w.heap.size, 0, none⟩) HZ1.out).trans HQ0.out
  have y1 := (hb2.cell (p := ⟨w.heap.size, 1, none⟩) HZ1.out).trans HQ1.out
  have hg4w : w.heap.size < g4 := by have := HZ1.out; omega
  have HG4 := Lib.hid hg4w
  have HB3 : Hid (Below w.heap.size w ((w2.setCell ⟨g4, k * 6 + 4, none⟩ (.int .i64 (IntKind.i64.wrap (qe + p)))).setCell ⟨g4, k * 6 + 5, none⟩ (.int .i64 (IntKind.i64.wrap (qf + p))))) := Lib.hid ((HB2.out.setCell (by show w.heap.size ≤ g4; omega) _).setCell (by show w.heap.size ≤ g4; omega) _)
  obtain ⟨e1, he1⟩ : ∃ e1, IntKind.i64.wrap (qe + p) = e1 := ⟨_, rfl⟩
  obtain ⟨e2, he2⟩ : ∃ e2, IntKind.i64.wrap (qf + p) = e2 := ⟨_, rfl⟩
  rw [he1, he2] at HST HB3
  clear hb2 hst hgg hown hq
  have hne4 : ¬ w.heap.size = g4 := by omega
  have hne5 : ¬ g4 = w.heap.size := by omega
  have HY4 : Hid (gwsP ss fs (dgS gs k p) → RL = dgS gs k p ∧ RB = true) := Lib.hid fun e => HYES.out ⟨HGP.out, ⟨by omega, by have := HN3.out; omega⟩, e⟩
  have HN4 : Hid (¬ gwsP ss fs (dgS gs k p) → RL = [] ∧ RB = false) := Lib.hid fun e => HNO.out fun h => e h.2.2
  obtain ⟨ds, hds⟩ : ∃ d, dgS gs k p = d := ⟨_, rfl⟩
  have HDL : Hid (ds.length = n3) := Lib.hid (by rw [← hds, dgS_len]; exact HN3.out)
  rw [hds] at HST HY4 HN4
  clear hds
  go_wp2_with fail
  obtain ⟨W4, hW4⟩ : ∃ W4, (w2.setCell ⟨g4, k * 6 + 4, none⟩ (.int .i64 e1)).setCell ⟨g4, k * 6 + 5, none⟩ (.int .i64 e2) = W4 := ⟨_, rfl⟩
  rw [hW4] at HST HB3 ⊢
  clear hW4 y0 y1 f0 f1 f2 f3 f4 f5 z4_ z5_
  obtain ⟨b2, hb2⟩ : ∃ b, pb (gwsP ss fs ds) = b := ⟨_, rfl⟩
  have HPB2 := Lib.hid hb2
  have CG2 := Lib.hid (implGV (c3 := c4) (HNT.out.moved HB3.out) HDL.out (rdOwnA HST.out) hs3)
  rw [hb2] at CG2
  clear hb2
  refine CG2.out.mono ?_
  rintro e w5 ⟨rfl, hb5⟩
  have HB5 := Lib.hid (HB3.out.trans (hb5.mono HB3.out.size))
  have HST5 := Lib.hid (ownB HST.out hb5)
  clear hb5
  cases b2
  case false =>
    have HNB := Lib.hid (HN4.out (fun e => by have := pb_true e; rw [HPB2.out] at this; cases this))
    go_wp2
    go_ret2
    exact gws_no HNB.out HB5.out
  case true =>
    have HYB := Lib.hid (HY4.out (of_pb HPB2.out))
    obtain ⟨rfl, rfl⟩ := HYB.out
    go_wp2
    go_ret2
    exact ⟨_, n3, _, rfl, Lib.hid HDL.out.symm, own_base HST5.out (by have := HB1.out.size; omega), HB5.out⟩
end Go.Proofs.Ytlmemmcdabhooaa
