/- Rings: fibers that are protected: the specification's contracts. No condition but those typed. -/
import Derived.Test.YtkpendpjdemknaaDoorPfP
import Derived.Test.YtkpendpjdemknaaDoorGB
namespace Go.Proofs.YtkpendpjdemknaaDoor
open Go.ChangeShapes Go.WideShapes Go.ChangeAt Go.RowKit

/-- two lists of the call's own. -/
def TwoP (L1 L2 : List Int) (w : World) (e : Ending) (w' : World) : Prop :=
  ∃ (A1 A2 : Option Addr) (N1 N2 d1 d2 : Nat), e = .returned (.tuple #[.slice A1 N1 d1, .slice A2 N2 d2]) ∧ Hid (N1 = L1.length) ∧ Hid (N2 = L2.length) ∧ w'.ownsRow w.heap.size 3 1 (.slice A1 N1 d1) N1 (L1.map (Value.int .i64)) ∧ w'.ownsRow w.heap.size 3 1 (.slice A2 N2 d2) N2 (L2.map (Value.int .i64)) ∧ Hid (Apart (.slice A1 N1 d1) (.slice A2 N2 d2)) ∧ Below w.heap.size w w'
/-- two lists of the call's own and a word. -/
def IiP (L1 L2 : List Int) (b : Bool) (w : World) (e : Ending) (w' : World) : Prop :=
  ∃ (A1 A2 : Option Addr) (N1 N2 d1 d2 : Nat), e = .returned (.tuple #[.slice A1 N1 d1, .slice A2 N2 d2, .bool b]) ∧ Hid (N1 = L1.length) ∧ Hid (N2 = L2.length) ∧ w'.ownsRow w.heap.size 3 1 (.slice A1 N1 d1) N1 (L1.map (Value.int .i64)) ∧ w'.ownsRow w.heap.size 3 1 (.slice A2 N2 d2) N2 (L2.map (Value.int .i64)) ∧ Hid (Apart (.slice A1 N1 d1) (.slice A2 N2 d2)) ∧ Below w.heap.size w w'
theorem lit9 {w : World} {H : Nat} (hH : w.heap.size = H) (base : Nat) (hb : base ≤ w.heap.size) : (w.alloc (Obj.cells #[] 3)).ownsRow base 3 1 (.slice (some ⟨H, 0, none⟩) 0 0) 0 [] := by
  subst hH
  have h9 := World.ownsRow_lit (base := base) (e := 3) (size := 1) w #[] 0 hb (by unfold maxLen; omega) rfl
  simpa using h9
theorem rg_vlen {fs : List Q4} {fl vs : List Int} (h : rgI fs fl = some vs) : vs.length = fl.length := by
  obtain ⟨f0, mid, last, e, _, h1, _⟩ := rg_some h
  have := walkR_len h1
  rw [e]; simp at this ⊢; omega
set_option maxRecDepth 100000 in
set_option maxHeartbeats 8000000 in
theorem l17Prot_ {g1 g2 n1 n2 c1 c2 : Nat} {ss : List ByteArray} {fs : List Q4} {w : World} (h : NetAt g1 g2 n1 n2 c1 c2 ss fs w) (hv : netP ss fs)
    {A : Option Addr} {n c : Nat} {fl vs : List Int} (hn : fl.length = n) (hr : Rd w w.heap.size A (fl.map (Value.int .i64))) (hx : n ≤ 1048576) (hcp : n ≤ c) (hg : rgI fs fl = some vs) :
    Calls Tryd.prog 30 #[.agg #[.slice (some ⟨g1, 0, none⟩) n1 c1, .slice (some ⟨g2, 0, none⟩) n2 c2], .slice A n c] w (TwoP (selK (ownQ fl) n2) (selK (crsQ fs fl vs.reverse) n2) w) := by
  have HNT := Lib.hid h; have HN := Lib.hid hn; have HR := Lib.hid hr
  have HL2 := Lib.hid h.ln2
  have hn14 : n2 ≤ 14 := by have := hv.2.1; have := h.ln2; omega
  have CN := Lib.hid (fun (W : World) (hb : Below w.heap.size w W) => l17Nodes_ (h.moved hb) hv hn (hr.moved hb) hx hcp hg)
  have HUL : Hid (vs.reverse.length ≤ 1048576) := Lib.hid (by rw [List.length_reverse, rg_vlen hg, hn]; exact hx)
  obtain ⟨us, hus⟩ : ∃ u, vs.reverse = u := ⟨_, rfl⟩
  rw [hus] at CN HUL ⊢
  clear h hv hn hr hg hus
  go_enter Tryd.func30, Tryd.ntmps30
  go_wp2_with fail
  obtain ⟨W0, hW0⟩ : ∃ W0, ((w.alloc (Obj.cells #[.slice (some ⟨g1, 0, none⟩) n1 c1, .slice (some ⟨g2, 0, none⟩) n2 c2] 32)).alloc (Obj.cells #[] 3)).alloc (Obj.cells #[] 3) = W0 := ⟨_, rfl⟩
  have hb0 : Below w.heap.size w W0 := by rw [← hW0]; exact (((Below.refl _ _).alloc (Nat.le_refl _) _).alloc (by simp) _).alloc (by simp; omega) _
  have k0 : W0.cell? ⟨w.heap.size, 0, none⟩ = some (.slice (some ⟨g1, 0, none⟩) n1 c1) := by rw [← hW0]; simp [go_sem]
  have k1 : W0.cell? ⟨w.heap.size, 1, none⟩ = some (.slice (some ⟨g2, 0, none⟩) n2 c2) := by rw [← hW0]; simp [go_sem]
  have hz0 : W0.heap.size = w.heap.size + 3 := by rw [← hW0]; simp
  have HO1 : Hid (W0.ownsRow (w.heap.size + 1) 3 1 (.slice (some ⟨w.heap.size + 1, 0, none⟩) 0 0) 0 []) := Lib.hid (by rw [← hW0]; exact (lit9 (by simp) _ (by simp)).alloc _)
  have HO2 : Hid (W0.ownsRow (w.heap.size + 1) 3 1 (.slice (some ⟨w.heap.size + 1 + 1, 0, none⟩) 0 0) 0 []) := Lib.hid (by rw [← hW0]; exact lit9 (by simp) _ (by simp))
  have HP0 : Hid (Apart (.slice (some ⟨w.heap.size + 1, 0, none⟩) 0 0) (.slice (some ⟨w.heap.size + 1 + 1, 0, none⟩) 0 0)) := Lib.hid (fun g h1 h2 => by simp [Value.ownBlock] at h1 h2; omega)
  have HB0 := Lib.hid hb0; have HZ0 := Lib.hid hz0
  have HK : Hid (∀ u, Below (w.heap.size + 1) W0 u → u.cell? ⟨w.heap.size, 0, none⟩ = some (.slice (some ⟨g1, 0, none⟩) n1 c1) ∧ u.cell? ⟨w.heap.size, 1, none⟩ = some (.slice (some ⟨g2, 0, none⟩) n2 c2) ∧ w.heap.size + 3 ≤ u.heap.size) := Lib.hid fun u hu => ⟨(hu.cell (p := ⟨w.heap.size, 0, none⟩) (Nat.lt_succ_self _)).trans k0, (hu.cell (p := ⟨w.heap.size, 1, none⟩) (Nat.lt_succ_self _)).trans k1, by have := hu.size; omega⟩
  rw [hW0]
  clear hW0 hb0 k0 k1 hz0
  refine (CN.out _ HB0.out).mono ?_
  rintro e w1 ⟨A0, N, cc, rfl, HNN, ho, hb1⟩
  have HPN1 := Lib.hid (apart_new HO1.out ho (Nat.le_refl _))
  have HPN2 := Lib.hid (apart_new HO2.out ho (Nat.le_refl _))
  have HON : Hid (w1.ownsRow (w.heap.size + 1) 3 1 (.slice A0 N cc) N (us.map (Value.int .i64))) := Lib.hid (own_base ho (by have := HZ0.out; omega))
  have HO1_ := Lib.hid (ownB HO1.out hb1)
  have HO2_ := Lib.hid (ownB HO2.out hb1)
  have HB1 : Hid (Below (w.heap.size + 1) W0 w1) := Lib.hid (hb1.mono (by have := HZ0.out; omega))
  have hN20 : N ≤ 1048576 := by have := HNN.out; have := HUL.out; omega
  clear ho hb1
  go_wp2
  go_loopw [6, 7, 9] (fun u v i wr => ∃ (k : Nat) (A1 A2 : Option Addr) (N1 d1 N2 d2 : Nat), k ≤ n2 ∧ i = .int .i64 k ∧ u = .slice A1 N1 d1 ∧ v = .slice A2 N2 d2 ∧ N1 ≤ k ∧ N2 ≤ k ∧ Hid (N1 = (selK (ownQ fl) k).length) ∧ Hid (N2 = (selK (crsQ fs fl us) k).length) ∧ Hid (wr.ownsRow (w.heap.size + 1) 3 1 (.slice A1 N1 d1) N1 ((selK (ownQ fl) k).map (Value.int .i64))) ∧ Hid (wr.ownsRow (w.heap.size + 1) 3 1 (.slice A2 N2 d2) N2 ((selK (crsQ fs fl us) k).map (Value.int .i64))) ∧ Hid (wr.ownsRow (w.heap.size + 1) 3 1 (.slice A0 N cc) N (us.map (Value.int .i64))) ∧ Hid (Apart (.slice A1 N1 d1) (.slice A2 N2 d2)) ∧ Hid (Apart (.slice A0 N cc) (.slice A1 N1 d1)) ∧ Hid (Apart (.slice A0 N cc) (.slice A2 N2 d2)) ∧ Below (w.heap.size + 1) W0 wr) (fun _ _ i _ => n2 - (intOf i).toNat)
  case atStart => exact ⟨0, _, _, 0, _, 0, _, Nat.zero_le _, rfl, rfl, rfl, Nat.le_refl _, Nat.le_refl _, Lib.hid rfl, Lib.hid rfl, HO1_, HO2_, HON, HP0, HPN1, HPN2, HB1.out⟩
  case round =>
    clear HO1 HO2 HO1_ HO2_ HON HP0 HPN1 HPN2
    obtain ⟨k, A1, A2, N1, d1, N2, d2, hk, rfl, rfl, rfl, hN1, hN2, HE1, HE2, HO1, HO2, HON, HP12, HPN1, HPN2, hb⟩ := hrel
    have HBR := Lib.hid hb
    have HBW := Lib.hid (HB0.out.trans (hb.mono (Nat.le_succ _)))
    obtain ⟨q0, q1, q2⟩ := HK.out wr hb
    have HSZ := Lib.hid q2
    have hgw : w.heap.size < wr.heap.size := by omega
    clear hb
    by_cases hlt : k < n2
    case neg =>
      obtain rfl : k = n2 := by omega
      clear hlt
      go_wp2
      go_ret2
      exact ⟨A1, A2, N1, N2, d1, d2, rfl, HE1, HE2, own_base HO1.out (Nat.le_succ _), own_base HO2.out (Nat.le_succ _), HP12, HBW.out⟩
    case pos =>
    have hkI : (k : Int) < (n2 : Int) := by omega
    have CH := Lib.hid (has_ A n c fl (k : Int) wr HN.out (HR.out.moved HBW.out) (by omega))
    obtain ⟨b, hbq⟩ : ∃ b, decide ((k : Int) ∈ fl) = b := ⟨_, rfl⟩
    rw [hbq] at CH
    have HQ : Hid (ownQ fl k = b) := Lib.hid hbq
    clear hbq hlt
    go_wp2_with fail
    refine CH.out.mono ?_
    rintro e w' ⟨rfl, rfl⟩
    cases b
    case true =>
      have HS1 : Hid (selK (ownQ fl) (k + 1) = selK (ownQ fl) k ++ [(k : Int)]) := Lib.hid (sel_in HQ.out)
      have HS2 : Hid (selK (crsQ fs fl us) (k + 1) = selK (crsQ fs fl us) k) := Lib.hid (sel_out (by unfold crsQ; rw [HQ.out]; rfl))
      have HLL : Hid (N1 + 1 = (selK (ownQ fl) (k + 1)).length) := Lib.hid (by rw [HS1.out, List.length_append, ← HE1.out]; rfl)
      clear q0 q1
      go_wp2_with (at_builtin; refine wp_app rfl (.tmp 26) (.tmp 28) 26 3 rfl (w.heap.size + 1) Tryd.underlying26 Tryd.inf_int rfl (by decide) (by decide) _ N1 _ rfl (HO1.out.alloc _) _ _ [.int .i64 (k : Int)] rfl rfl (news1 (new_at_ _ _ _ _ rfl)) (news_int _) (by omega) (by simp; omega) ?_)
      intro A3 d3 N3 w3 hN3 hown3 hgrow3 hloc3
      subst hN3
      have HB3 : Hid (Below (w.heap.size + 1) W0 w3) := Lib.hid ((HBR.out.alloc (by have := HSZ.out; omega) _).grown hgrow3 (by have := HSZ.out; simp; omega) (fun g hg => (HO1.out.lt g hg).1))
      have HO3 : Hid (w3.ownsRow (w.heap.size + 1) 3 1 (.slice A3 (N1 + 1) d3) (N1 + 1) ((selK (ownQ fl) (k + 1)).map (Value.int .i64))) := Lib.hid (by rw [HS1.out, List.map_append]; exact hown3)
      have HO4 := Lib.hid (HP12.out.symm.kept (HO2.out.alloc _) hgrow3)
      rw [← HS2.out] at HO4 HE2
      have HON4 := Lib.hid (HPN1.out.kept (HON.out.alloc _) hgrow3)
      have HP1 := Lib.hid (apart_loc HP12.out.symm HO2.out (Nat.le_succ _) hloc3).symm
      have HP2 := Lib.hid (apart_loc HPN1.out HON.out (Nat.le_succ _) hloc3)
      clear hown3 hgrow3 hloc3
      obtain ⟨m2, hm2⟩ : ∃ m2, N1 + 1 = m2 := ⟨_, rfl⟩
      rw [hm2] at HO3 HLL HP1 HP2 ⊢
      have hmk : m2 ≤ k + 1 := by omega
      clear hm2
      go_wp2
      go_roundw
      case rel => exact ⟨k + 1, A3, A2, m2, d3, N2, d2, by omega, by go_num, rfl, rfl, hmk, by omega, HLL, HE2, HO3, HO4, HON4, HP1, HP2, HPN2, HB3.out⟩
      case measure => simp [intOf]; omega
    case false =>
      have HS1 : Hid (selK (ownQ fl) (k + 1) = selK (ownQ fl) k) := Lib.hid (sel_out HQ.out)
      rw [← HS1.out] at HO1 HE1
      have hkl : k < fs.length := by have := HL2.out; omega
      obtain ⟨⟨qa, qb, qc, qd⟩, hq⟩ : ∃ q, fs[k]'hkl = q := ⟨_, rfl⟩
      have hrd := (HNT.out.moved HBW.out).rd2.q4c hkl
      rw [Nat.zero_add, hq] at hrd
      obtain ⟨hg2, r0, r1, r2, r3⟩ := hrd
      simp only at r0 r1 r2 r3
      have HQF : Hid (fibI fs (k : Int) = ⟨qa, qb, qc, qd⟩) := Lib.hid ((fib_at hkl).trans hq)
      have CH1 := Lib.hid (has_ A0 N cc us qa wr HNN.out.symm (Rd.ofOwn HON.out) (by omega))
      have CH2 := Lib.hid (has_ A0 N cc us qb wr HNN.out.symm (Rd.ofOwn HON.out) (by omega))
      obtain ⟨x, hx9⟩ : ∃ b, decide (qa ∈ us) = b := ⟨_, rfl⟩
      obtain ⟨y, hy9⟩ : ∃ b, decide (qb ∈ us) = b := ⟨_, rfl⟩
      rw [hx9] at CH1
      rw [hy9] at CH2
      have HCQ : Hid (crsQ fs fl us k = (x && y)) := Lib.hid (by unfold crsQ strQ; rw [HQ.out, HQF.out, hx9, hy9]; rfl)
      clear hq r2 r3 hx9 hy9 hkl
      go_wp2_with fail
      clear r0
      refine CH1.out.mono ?_
      rintro e w' ⟨rfl, rfl⟩
      cases x
      case false =>
        have HS2 : Hid (selK (crsQ fs fl us) (k + 1) = selK (crsQ fs fl us) k) := Lib.hid (sel_out HCQ.out)
        rw [← HS2.out] at HO2 HE2
        clear r1 q0 q1
        go_wp2
        go_roundw
        case rel => exact ⟨k + 1, A1, A2, N1, d1, N2, d2, by omega, by go_num, rfl, rfl, by omega, by omega, HE1, HE2, HO1, HO2, HON, HP12, HPN1, HPN2, HBR.out⟩
        case measure => simp [intOf]; omega
      case true =>
      go_wp2_with fail
      clear r1 q0 q1
      refine CH2.out.mono ?_
      rintro e w' ⟨rfl, rfl⟩
      cases y
      case false =>
        have HS2 : Hid (selK (crsQ fs fl us) (k + 1) = selK (crsQ fs fl us) k) := Lib.hid (sel_out HCQ.out)
        rw [← HS2.out] at HO2 HE2
        go_wp2
        go_roundw
        case rel => exact ⟨k + 1, A1, A2, N1, d1, N2, d2, by omega, by go_num, rfl, rfl, by omega, by omega, HE1, HE2, HO1, HO2, HON, HP12, HPN1, HPN2, HBR.out⟩
        case measure => simp [intOf]; omega
      case true =>
        have HS2 : Hid (selK (crsQ fs fl us) (k + 1) = selK (crsQ fs fl us) k ++ [(k : Int)]) := Lib.hid (sel_in HCQ.out)
        have HLL : Hid (N2 + 1 = (selK (crsQ fs fl us) (k + 1)).length) := Lib.hid (by rw [HS2.out, List.length_append, ← HE2.out]; rfl)
        go_wp2_with (at_builtin; refine wp_app rfl (.tmp 49) (.tmp 51) 26 3 rfl (w.heap.size + 1) Tryd.underlying26 Tryd.inf_int rfl (by decide) (by decide) _ N2 _ rfl (HO2.out.alloc _) _ _ [.int .i64 (k : Int)] rfl rfl (news1 (new_at_ _ _ _ _ rfl)) (news_int _) (by omega) (by simp; omega) ?_)
        intro A3 d3 N3 w3 hN3 hown3 hgrow3 hloc3
        subst hN3
        have HB3 : Hid (Below (w.heap.size + 1) W0 w3) := Lib.hid ((HBR.out.alloc (by have := HSZ.out; omega) _).grown hgrow3 (by have := HSZ.out; simp; omega) (fun g hg => (HO2.out.lt g hg).1))
        have HO3 : Hid (w3.ownsRow (w.heap.size + 1) 3 1 (.slice A3 (N2 + 1) d3) (N2 + 1) ((selK (crsQ fs fl us) (k + 1)).map (Value.int .i64))) := Lib.hid (by rw [HS2.out, List.map_append]; exact hown3)
        have HO4 := Lib.hid (HP12.out.kept (HO1.out.alloc _) hgrow3)
        have HON4 := Lib.hid (HPN2.out.kept (HON.out.alloc _) hgrow3)
        have HP1 := Lib.hid (apart_loc HP12.out HO1.out (Nat.le_succ _) hloc3)
        have HP2 := Lib.hid (apart_loc HPN2.out HON.out (Nat.le_succ _) hloc3)
        clear hown3 hgrow3 hloc3
        obtain ⟨m2, hm2⟩ : ∃ m2, N2 + 1 = m2 := ⟨_, rfl⟩
        rw [hm2] at HO3 HLL HP1 HP2 ⊢
        have hmk : m2 ≤ k + 1 := by omega
        clear hm2
        go_wp2
        go_roundw
        case rel => exact ⟨k + 1, A1, A3, N1, d1, m2, d3, by omega, by go_num, rfl, rfl, by omega, hmk, HE1, HLL, HO4, HO3, HON4, HP1, HPN1, HP2, HB3.out⟩
        case measure => simp [intOf]; omega
end Go.Proofs.YtkpendpjdemknaaDoor
