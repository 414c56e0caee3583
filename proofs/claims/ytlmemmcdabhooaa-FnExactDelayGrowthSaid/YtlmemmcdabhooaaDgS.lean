/- A growth's delay: contract of the specification's DelayGrowth. No condition but those typed. -/
import Derived.Test.YtlmemmcdabhooaaDg
namespace Go.Proofs.Ytlmemmcdabhooaa
open Go.ChangeShapes Go.WideShapes Go.ChangeAt Go.RowKit

theorem one_rowG (w : World) (a b c d e f : Value) {base : Nat} (hb : base ≤ w.heap.size) : (w.alloc (.cells #[a, b, c, d, e, f] 104)).ownsRow base 104 6 (.slice (some ⟨w.heap.size, 0, none⟩) 1 1) 1 [a, b, c, d, e, f] := by
  have := World.ownsRow_lit (base := base) (e := 104) (size := 6) w #[a, b, c, d, e, f] 1 hb (by unfold maxLen; omega) rfl
  simpa using this
theorem gws_lit {w w' : World} {L : List Q6} {b : Bool} {g : Nat} (h : L = [] ∧ b = false) (ho : w'.ownsRow w.heap.size 104 6 (.slice (some ⟨g, 0, none⟩) 0 0) 0 []) (hb : Below w.heap.size w w') : GwsO L b w (.returned (.tuple #[.slice (some ⟨g, 0, none⟩) 0 0, .bool false])) w' := by
  obtain ⟨rfl, rfl⟩ := h
  exact ⟨_, 0, 0, rfl, Lib.hid rfl, ho, hb⟩
theorem gw_lit {w : World} {B : Nat} (hB : B ≤ w.heap.size) : (w.alloc (Obj.cells #[] 104)).ownsRow B 104 6 (.slice (some ⟨w.heap.size, 0, none⟩) 0 0) 0 [] := by
  have := World.ownsRow_lit (base := B) (e := 104) (size := 6) w #[] 0 hB (by unfold maxLen; omega) rfl
  simpa using this
theorem wrap_in {x p : Int} (hx : 0 ≤ x ∧ x ≤ 7) (hp : -8 ≤ p ∧ p ≤ 8) : IntKind.i64.wrap (x + p) = x + p := IntWalk.i64_in _ (by omega)
set_option maxRecDepth 100000 in
set_option maxHeartbeats 600000 in
theorem specDG {g1 g2 n1 n2 c1 c2 : Nat} {ss : List ByteArray} {fs : List Q4} {w : World} (h : NetAt g1 g2 n1 n2 c1 c2 ss fs w) {g3 n3 c3 : Nat} {gs : List Q6} (hn3 : gs.length = n3) (hrd : Rd w w.heap.size (some ⟨g3, 0, none⟩) (gs.flatMap Q6.cells)) (hs3 : n3 ≤ 1048576) (i p : Int) (hp : i64s p) :
    Calls Try.prog 13 #[.agg #[.slice (some ⟨g1, 0, none⟩) n1 c1, .slice (some ⟨g2, 0, none⟩) n2 c2], .slice (some ⟨g3, 0, none⟩) n3 c3, .int .i64 i, .int .i64 p] w (GwsO (dgL ss fs gs i p) (pb (dgP ss fs gs i p)) w) := by
  have HNT := Lib.hid h; have HN3 := Lib.hid hn3; have HRD := Lib.hid hrd
  clear h hn3 hrd
  have HIN : Hid (dgP ss fs gs i p → -8 ≤ p ∧ p ≤ 8) := Lib.hid (dg_in hp)
  obtain ⟨RL, hRL⟩ : ∃ r, dgL ss fs gs i p = r := ⟨_, rfl⟩
  obtain ⟨RB, hRB⟩ : ∃ r, pb (dgP ss fs gs i p) = r := ⟨_, rfl⟩
  rw [hRL, hRB]
  have HNO : Hid (¬ dgP ss fs gs i p → RL = [] ∧ RB = false) := Lib.hid (fun e => by rw [← hRL, ← hRB]; exact dg_bad e)
  have HYES : Hid (dgP ss fs gs i p → RL = dgS gs i.toNat p ∧ RB = true) := Lib.hid (fun e => by rw [← hRL, ← hRB]; exact dg_good e)
  clear hRL hRB hp
  obtain ⟨ig, hig, hg0_, hg1_, hg2_⟩ := info_parts Try.inf_Gw
  have HI := Lib.hid hig; have HIZ0 := Lib.hid hg0_; have HIZ1 := Lib.hid hg1_; have HIZ2 := Lib.hid hg2_
  clear hig hg0_ hg1_ hg2_
  obtain ⟨W0, hW0⟩ : ∃ W0, w.alloc (Obj.cells #[.slice (some ⟨g1, 0, none⟩) n1 c1, .slice (some ⟨g2, 0, none⟩) n2 c2] 34) = W0 := ⟨_, rfl⟩
  have hb0 : Below w.heap.size w W0 := by rw [← hW0]; exact (Below.refl _ _).alloc (Nat.le_refl _) _
  have hk0 : W0.cell? ⟨w.heap.size, 0, none⟩ = some (.slice (some ⟨g1, 0, none⟩) n1 c1) := by rw [← hW0]; simp [go_sem]
  have hk1 : W0.cell? ⟨w.heap.size, 1, none⟩ = some (.slice (some ⟨g2, 0, none⟩) n2 c2) := by rw [← hW0]; simp [go_sem]
  have hz0 : w.heap.size < W0.heap.size := by rw [← hW0]; simp
  have HB0 := Lib.hid hb0; have HZ0 := Lib.hid hz0
  obtain ⟨b, hb⟩ : ∃ b, pb (gwsP ss fs gs) = b := ⟨_, rfl⟩
  have HPB := Lib.hid hb
  have CG := Lib.hid (l26Good_ (c3 := c3) (HNT.out.moved HB0.out) HN3.out hs3 (HRD.out.moved HB0.out))
  rw [hb] at CG
  clear hb hb0 hz0
  go_enter Try.func13, Try.ntmps13
  go_wp2_with fail
  clear hW0
  refine CG.out.mono ?_
  rintro e w1 ⟨rfl, hb1⟩
  have HB1 := Lib.hid (HB0.out.trans (hb1.mono HB0.out.size))
  have HQ0 := Lib.hid ((hb1.cell (p := ⟨w.heap.size, 0, none⟩) HZ0.out).trans hk0)
  have HQ1 := Lib.hid ((hb1.cell (p := ⟨w.heap.size, 1, none⟩) HZ0.out).trans hk1)
  have HZ1 : Hid (w.heap.size < w1.heap.size) := Lib.hid (Nat.lt_of_lt_of_le HZ0.out hb1.size)
  have HE1 : Hid ((w1.alloc (Obj.cells #[] 104)).ownsRow w.heap.size 104 6 (.slice (some ⟨w1.heap.size, 0, none⟩) 0 0) 0 []) := Lib.hid (gw_lit (by have := HZ1.out; omega))
  have HBE : Hid (Below w.heap.size w (w1.alloc (Obj.cells #[] 104))) := Lib.hid (HB1.out.alloc HB1.out.size _)
  clear hb1 hk0 hk1
  cases b
  case false =>
    have HNB := Lib.hid (HNO.out (fun e => by have := pb_true e.1; rw [HPB.out] at this; cases this))
    go_wp2
    go_ret2
    exact gws_lit HNB.out HE1.out HBE.out
  case true =>
  have CI := Lib.hid (fun W => in_any i 0 ((n3 : Int) - 1) W)
  by_cases hii : 0 ≤ i ∧ i ≤ (n3 : Int) - 1
  case neg =>
    have HNB := Lib.hid (HNO.out (fun e => hii (by have := e.2.1; have := HN3.out; omega)))
    rw [decide_eq_false hii] at CI
    clear hii
    go_wp2_with fail
    refine (CI.out _).mono ?_
    rintro e w' ⟨rfl, rfl⟩
    go_wp2
    go_ret2
    exact gws_lit HNB.out HE1.out HBE.out
  case pos =>
  obtain ⟨k, rfl⟩ : ∃ k : Nat, i = k := ⟨i.toNat, by omega⟩
  have hi1 : k < n3 := by omega
  rw [decide_eq_true hii] at CI
  have CJ := Lib.hid (fun W => in_any p (-8) 8 W)
  by_cases hpp : -8 ≤ p ∧ p ≤ 8
  case neg =>
    have HNB := Lib.hid (HNO.out (fun e => hpp (HIN.out e)))
    rw [decide_eq_false hpp] at CJ
    clear hii hpp
    go_wp2_with fail
    refine (CI.out _).mono ?_
    rintro e w' ⟨rfl, rfl⟩
    go_wp2_with fail
    refine (CJ.out _).mono ?_
    rintro e w' ⟨rfl, rfl⟩
    go_wp2
    go_ret2
    exact gws_lit HNB.out HE1.out HBE.out
  case pos =>
  rw [decide_eq_true hpp] at CJ
  have hGP : gwsP ss fs gs := of_pb HPB.out
  have hn12 : n3 ≤ 12 := by have := hGP.1; have := HN3.out; omega
  have HGP := Lib.hid hGP
  have hks : k < gs.length := by have := HN3.out; omega
  have HT := Lib.hid (hGP.2.1 k hks).2
  clear hGP hii
  have hi2 : (k : Int) < (n3 : Int) := by omega
  have hrdn : ∀ (j : Nat) (u : Value), (gs.flatMap Q6.cells)[j]? = some u → (w1.alloc (Obj.cells #[] 104)).cell? ((⟨g3, 0, none⟩ : Addr).add j) = some u := fun j u hu => Lib.cell?_alloc_some _ (news_gw w1 g3 _ (HRD.out.moved HB1.out) rfl j u hu)
  have HNW := Lib.hid hrdn
  clear hrdn
  go_wp2_with fail
  refine (CI.out _).mono ?_
  rintro e w' ⟨rfl, rfl⟩
  go_wp2_with fail
  refine (CJ.out _).mono ?_
  rintro e w' ⟨rfl, rfl⟩
  go_wp2_with (at_builtin; refine wpList_append_own _ rfl _ _ 29 rfl w1.heap.size 104 ig (.agg #[.int .i64 0, .int .i64 0, .int .i64 0, .int .i64 0, .int .i64 0, .int .i64 0]) 6 48 Try.underlying29 HI.out HIZ0.out HIZ1.out HIZ2.out rfl (by decide) _ 0 _ rfl (gw_lit (Nat.le_refl _)) ⟨g3, 0, none⟩ n3 c3 _ rfl (by rw [q6_len, HN3.out]) HNW.out (q6_one gs) (by unfold maxLen; omega) (by omega) (by simp) ?_)
  intro v1 w2 hown hgrow _
  have hb2 : Below w1.heap.size w1 w2 := ((Below.refl _ _).alloc (Nat.le_refl _) _).grown hgrow (by simp) (fun g hg => by simp [Value.ownBlock] at hg; omega)
  obtain ⟨A4, c4, rfl⟩ := formOf hown
  rcases hown.2 with ⟨_, h0⟩ | ⟨g4, cap, cur, hv, hg4, hgg, _⟩
  · exact absurd h0 (by omega)
  injection hv with hA _ hC
  subst hA hC
  have HB2 := Lib.hid (HB1.out.trans (hb2.mono HB1.out.size))
  have hlt4 := hown.lt g4 rfl
  obtain ⟨q, hq⟩ : ∃ q, gs[k]'hks = q := ⟨_, rfl⟩
  have HQ := Lib.hid (gwn_at hks hq)
  obtain ⟨_, f0, f1, f2, f3, f4, f5⟩ := (rdOwnA hown).q6c hks
  rw [hq] at HT
  obtain ⟨qa, qb, qc, qd, qe, qf⟩ := q
  clear f0 f1 f2 f3 f4 f5
  have ht6 : (0 ≤ qe ∧ qe ≤ 7) ∧ 0 ≤ qf ∧ qf ≤ 7 := by have := HT.out; unfold gtP at this; simp only at this; omega
  have we := wrap_in ht6.1 hpp
  have wf_ := wrap_in ht6.2 hpp
  have HDS : Hid (gs.set k ⟨qa, qb, qc, qd, qe + p, qf + p⟩ = dgS gs k p) := Lib.hid (by unfold dgS; rw [HQ.out, we, wf_])
  obtain ⟨bx, hbx⟩ : ∃ b, w2.heap.size = b := ⟨_, rfl⟩
  obtain ⟨W3, hW3⟩ : ∃ W3, w2.alloc (Obj.cells #[.int .i64 qa, .int .i64 qb, .int .i64 qc, .int .i64 qd, .int .i64 qe, .int .i64 qf] 104) = W3 := ⟨_, rfl⟩
  have hb3 : Below w2.heap.size w2 W3 := by rw [← hW3]; exact (Below.refl _ _).alloc (Nat.le_refl _) _
  have hbo : W3.ownsRow bx 104 6 (.slice (some ⟨bx, 0, none⟩) 1 1) 1 [.int .i64 qa, .int .i64 qb, .int .i64 qc, .int .i64 qd, .int .i64 qe, .int .i64 qf] := by rw [← hW3, ← hbx]; exact one_rowG w2 _ _ _ _ _ _ (Nat.le_refl _)
  have d0 := hbo.cellAt 0 (by decide)
  have d1 := hbo.cellAt 1 (by decide)
  have d2 := hbo.cellAt 2 (by decide)
  have d3 := hbo.cellAt 3 (by decide)
  have d4 := hbo.cellAt 4 (by decide)
  have d5 := hbo.cellAt 5 (by decide)
  simp only [List.getElem?_cons_zero, List.getElem?_cons_succ] at d0 d1 d2 d3 d4 d5
  have z4 := hbo.frozenAt 4
  have z5 := hbo.frozenAt 5
  have hown3 := ownB hown hb3
  obtain ⟨_, f0, f1, f2, f3, f4, f5⟩ := (rdOwnA hown3).q6c hks
  rw [Nat.zero_add, hq] at f0 f1 f2 f3 f4 f5
  simp only at f0 f1 f2 f3 f4 f5
  have t0 := hown3.frozenAt (k * 6)
  have t1 := hown3.frozenAt (k * 6 + 1)
  have t2 := hown3.frozenAt (k * 6 + 2)
  have t3 := hown3.frozenAt (k * 6 + 3)
  have t4 := hown3.frozenAt (k * 6 + 4)
  have t5 := hown3.frozenAt (k * 6 + 5)
  have hz3 : W3.heap.size = bx + 1 := by rw [← hW3, ← hbx]; simp
  have hgb : g4 < bx := by omega
  have hn1 : ¬ g4 = bx := by omega
  have hn2 : ¬ bx = g4 := by omega
  have hwb : w.heap.size < g4 := by have := HZ1.out; omega
  have hn3 : ¬ w.heap.size = g4 := by omega
  have hn4 : ¬ w.heap.size = bx := by omega
  have x0 := (hb3.cell (p := ⟨w.heap.size, 0, none⟩) (by show w.heap.size < _; omega)).trans ((hb2.cell (p := ⟨w.heap.size, 0, none⟩) HZ1.out).trans HQ0.out)
  have x1 := (hb3.cell (p := ⟨w.heap.size, 1, none⟩) (by show w.heap.size < _; omega)).trans ((hb2.cell (p := ⟨w.heap.size, 1, none⟩) HZ1.out).trans HQ1.out)
  have y0 := (hb2.cell (p := ⟨w.heap.size, 0, none⟩) HZ1.out).trans HQ0.out
  have HO3 := Lib.hid hown3
  have HB3 := Lib.hid (HB2.out.trans (hb3.mono HB2.out.size))
  have HST : Hid (∀ V : World, V.ownsRow w1.heap.size 104 6 (.slice (some ⟨g4, 0, none⟩) n3 c4) n3 (gs.flatMap Q6.cells) → ((((((V.setCell ⟨g4, k * 6, none⟩ (.int .i64 qa)).setCell ⟨g4, k * 6 + 1, none⟩ (.int .i64 qb)).setCell ⟨g4, k * 6 + 2, none⟩ (.int .i64 qc)).setCell ⟨g4, k * 6 + 3, none⟩ (.int .i64 qd)).setCell ⟨g4, k * 6 + 4, none⟩ (.int .i64 (qe + p))).setCell ⟨g4, k * 6 + 5, none⟩ (.int .i64 (qf + p))).ownsRow w1.heap.size 104 6 (.slice (some ⟨g4, 0, none⟩) n3 c4) n3 ((dgS gs k p).flatMap Q6.cells)) := Lib.hid (fun V hV => by
    have h9 := ((((((hV.stored (k * 6) (.int .i64 qa)).1.stored (k * 6 + 1) (.int .i64 qb)).1.stored (k * 6 + 2) (.int .i64 qc)).1.stored (k * 6 + 3) (.int .i64 qd)).1.stored (k * 6 + 4) (.int .i64 (qe + p))).1.stored (k * 6 + 5) (.int .i64 (qf + p))).1
    rw [sets6 gs k hks, HDS.out] at h9
    exact h9)
  have g0 := hown.cellAt (k * 6) (by have := hown.1; omega)
  obtain ⟨_, u0, u1, u2, u3, u4, u5⟩ := (rdOwnA hown).q6c hks
  rw [Nat.zero_add, hq] at u0 u1 u2 u3 u4 u5
  simp only at u0 u1 u2 u3 u4 u5
  clear g0 hown hown3 hbo hgg hq hb2 hb3 we wf_ hgrow
  have HY4 : Hid (gwsP ss fs (dgS gs k p) → RL = dgS gs k p ∧ RB = true) := Lib.hid fun e => HYES.out ⟨HGP.out, ⟨by omega, by have := HN3.out; omega⟩, e⟩
  have HN4 : Hid (¬ gwsP ss fs (dgS gs k p) → RL = [] ∧ RB = false) := Lib.hid fun e => HNO.out fun h => e h.2.2
  obtain ⟨ds, hds⟩ : ∃ d, dgS gs k p = d := ⟨_, rfl⟩
  have HDL : Hid (ds.length = n3) := Lib.hid (by rw [← hds, dgS_len]; exact HN3.out)
  rw [hds] at HST HY4 HN4 HDS
  clear hds
  have HOS := Lib.hid (HST.out _ (own_set (own_set HO3.out (p := ⟨bx, 4, none⟩) hn2 (.int .i64 (qe + p))) (p := ⟨bx, 5, none⟩) hn2 (.int .i64 (qf + p))))
  have HBS : Hid (Below w.heap.size w ((((((((W3.setCell ⟨bx, 4, none⟩ (.int .i64 (qe + p))).setCell ⟨bx, 5, none⟩ (.int .i64 (qf + p))).setCell ⟨g4, k * 6, none⟩ (.int .i64 qa)).setCell ⟨g4, k * 6 + 1, none⟩ (.int .i64 qb)).setCell ⟨g4, k * 6 + 2, none⟩ (.int .i64 qc)).setCell ⟨g4, k * 6 + 3, none⟩ (.int .i64 qd)).setCell ⟨g4, k * 6 + 4, none⟩ (.int .i64 (qe + p))).setCell ⟨g4, k * 6 + 5, none⟩ (.int .i64 (qf + p)))) := Lib.hid ((((((((HB3.out.setCell (p := ⟨bx, 4, none⟩) (by show w.heap.size ≤ bx; omega) _).setCell (p := ⟨bx, 5, none⟩) (by show w.heap.size ≤ bx; omega) _).setCell (p := ⟨g4, _, none⟩) (by show w.heap.size ≤ g4; omega) _).setCell (p := ⟨g4, _, none⟩) (by show w.heap.size ≤ g4; omega) _).setCell (p := ⟨g4, _, none⟩) (by show w.heap.size ≤ g4; omega) _).setCell (p := ⟨g4, _, none⟩) (by show w.heap.size ≤ g4; omega) _).setCell (p := ⟨g4, _, none⟩) (by show w.heap.size ≤ g4; omega) _).setCell (p := ⟨g4, _, none⟩) (by show w.heap.size ≤ g4; omega) _)
  go_wp2_with fail
  obtain ⟨W6, hW6⟩ : ∃ W6, (((((((W3.setCell ⟨bx, 4, none⟩ (.int .i64 (qe + p))).setCell ⟨bx, 5, none⟩ (.int .i64 (qf + p))).setCell ⟨g4, k * 6, none⟩ (.int .i64 qa)).setCell ⟨g4, k * 6 + 1, none⟩ (.int .i64 qb)).setCell ⟨g4, k * 6 + 2, none⟩ (.int .i64 qc)).setCell ⟨g4, k * 6 + 3, none⟩ (.int .i64 qd)).setCell ⟨g4, k * 6 + 4, none⟩ (.int .i64 (qe + p))).setCell ⟨g4, k * 6 + 5, none⟩ (.int .i64 (qf + p)) = W6 := ⟨_, rfl⟩
  rw [hW6] at HOS HBS ⊢
  clear hW6 d0 d1 d2 d3 d4 d5 z4 z5 f0 f1 f2 f3 f4 f5 t0 t1 t2 t3 t4 t5 u0 u1 u2 u3 u4 u5 x0 x1 y0 hW3
  obtain ⟨b2, hb2⟩ : ∃ b, pb (gwsP ss fs ds) = b := ⟨_, rfl⟩
  have HPB2 := Lib.hid hb2
  have CG2 := Lib.hid (l26Good_ (c3 := c4) (HNT.out.moved HBS.out) HDL.out hs3 (rdOwnA HOS.out))
  rw [hb2] at CG2
  clear hb2
  refine CG2.out.mono ?_
  rintro e w5 ⟨rfl, hb5⟩
  have HB5 := Lib.hid (HBS.out.trans (hb5.mono HBS.out.size))
  have HST5 := Lib.hid (ownB HOS.out hb5)
  have HE5 : Hid ((w5.alloc (Obj.cells #[] 104)).ownsRow w.heap.size 104 6 (.slice (some ⟨w5.heap.size, 0, none⟩) 0 0) 0 []) := Lib.hid (gw_lit HB5.out.size)
  have HBE5 : Hid (Below w.heap.size w (w5.alloc (Obj.cells #[] 104))) := Lib.hid (HB5.out.alloc HB5.out.size _)
  clear hb5
  cases b2
  case false =>
    have HNB := Lib.hid (HN4.out (fun e => by have := pb_true e; rw [HPB2.out] at this; cases this))
    go_wp2
    go_ret2
    exact gws_lit HNB.out HE5.out HBE5.out
  case true =>
    have HYB := Lib.hid (HY4.out (of_pb HPB2.out))
    obtain ⟨rfl, rfl⟩ := HYB.out
    go_wp2
    go_ret2
    exact ⟨_, n3, _, rfl, Lib.hid HDL.out.symm, own_base HST5.out (by have := HZ1.out; omega), HB5.out⟩
end Go.Proofs.Ytlmemmcdabhooaa
