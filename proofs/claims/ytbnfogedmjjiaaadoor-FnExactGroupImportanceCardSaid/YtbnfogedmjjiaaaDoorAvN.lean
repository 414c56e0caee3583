/- Sums over the states of a network, over one closure. Condition: the table of math/bits holds what Go's text lays. -/
import Derived.Test.YtbnfogedmjjiaaaDoorAv
import Derived.Test.YtbnfogedmjjiaaaDoorGB
namespace Go.Proofs.YtbnfogedmjjiaaaDoor
open Go.ChangeShapes Go.WideShapes Go.ChangeAt Go.RowKit

set_option maxRecDepth 100000 in
set_option maxHeartbeats 4000000 in
theorem stpN_ (b1 b2 : Nat) {w : World} {g : Nat → Bool} (HG : Hid (∀ W, Below w.heap.size w W → ∀ x : Nat, x < 2 ^ 20 → Calls Tryd.prog 111 #[.int .i64 (x : Int), .pointer (some ⟨b1, 0, none⟩), .pointer (some ⟨b2, 0, none⟩)] W (RetP (.bool (g x)) W))) (S fg wt : Int) (ff : Nat) (bg : Nat) (hbg : w.cell? ⟨bg, 0, none⟩ = some (.func (.func 111) #[] #[.pointer (some ⟨b1, 0, none⟩), .pointer (some ⟨b2, 0, none⟩)])) (hbs : bg < w.heap.size) (hS0 : 0 ≤ S) (hw0 : 0 ≤ wt) (hS1 : S + wt ≤ 20 ^ 14) (hff : ff < 2 ^ 20) :
    Calls Tryd.prog 160 #[.int .i64 S, .agg #[.int .i64 fg, .int .i64 (ff : Int), .int .i64 wt], .pointer (some ⟨bg, 0, none⟩)] w (RetP (.int .i64 (if g ff then S + wt else S)) w) := by
  have hS2 : S + wt ≤ 1638400000000000000 := hS1
  have hb0 := (Below.refl w.heap.size w).alloc (Nat.le_refl _) (Obj.cells #[.int .i64 fg, .int .i64 (ff : Int), .int .i64 wt] 192)
  have CG := Lib.hid (HG.out _ hb0 ff hff)
  have HB := Lib.hid hb0
  clear hS1 hff hb0
  by_cases hwz : wt = 0
  case pos =>
    subst hwz
    rw [show (if g ff then S + 0 else S) = S by split <;> omega]
    clear CG
    go_enter Tryd.func160, Tryd.ntmps160
    go_wp2
    go_ret
    exact ⟨rfl, HB.out⟩
  case neg =>
  have hwn : (wt == 0) = false := beq_eq_false_iff_ne.2 hwz
  obtain ⟨b, hb⟩ : ∃ b, g ff = b := ⟨_, rfl⟩
  rw [hb] at CG ⊢
  clear hb
  cases b
  case false =>
    rw [if_neg (by decide)]
    go_enter Tryd.func160, Tryd.ntmps160
    go_wp2_with fail
    go_at_call 111
    refine CG.out.mono ?_
    rintro e w1 ⟨rfl, hb1⟩
    have HB1 := Lib.hid (HB.out.trans (hb1.mono HB.out.size))
    clear hb1
    go_wp2
    go_ret
    exact ⟨rfl, HB1.out⟩
  case true =>
    rw [if_pos rfl]
    have hwr : IntKind.i64.wrap (S + wt) = S + wt := IntWalk.i64_in _ (by omega)
    go_enter Tryd.func160, Tryd.ntmps160
    go_wp2_with fail
    go_at_call 111
    refine CG.out.mono ?_
    rintro e w1 ⟨rfl, hb1⟩
    have HB1 := Lib.hid (HB.out.trans (hb1.mono HB.out.size))
    have l0 := (hb1.cell (p := ⟨w.heap.size, 2, none⟩) (by simp)).trans (show (w.alloc (Obj.cells #[.int .i64 fg, .int .i64 (ff : Int), .int .i64 wt] 192)).cell? ⟨w.heap.size, 2, none⟩ = some (.int .i64 wt) by simp [go_sem])
    clear hb1
    go_wp2
    go_ret
    exact ⟨rfl, HB1.out⟩

set_option maxRecDepth 100000 in
set_option maxHeartbeats 1500000 in
theorem ovfN_ {g1 g2 n1 n2 c1 c2 : Nat} {ss : List ByteArray} {fs : List Q4} {w : World} (h : NetAt g1 g2 n1 n2 c1 c2 ss fs w) (hv : netP ss fs) (u : Int) {A : Option Addr} {n c : Nat} {ds : List Int} (hn : ds.length = n) (hr : Rd w w.heap.size A (ds.map (Value.int .i64))) (hx : n ≤ 14) (hg : n = (rgL fs).length) (hu0 : 0 ≤ u) (hu : u ≤ 20) (hd : ∀ j, j < n → 0 ≤ nth ds j ∧ nth ds j ≤ u) (b1 b2 : Nat) {g : Nat → Bool} (HG : Hid (∀ W, Below w.heap.size w W → ∀ x : Nat, x < 2 ^ 20 → Calls Tryd.prog 111 #[.int .i64 (x : Int), .pointer (some ⟨b1, 0, none⟩), .pointer (some ⟨b2, 0, none⟩)] W (RetP (.bool (g x)) W))) (bg : Nat) (hbg : w.cell? ⟨bg, 0, none⟩ = some (.func (.func 111) #[] #[.pointer (some ⟨b1, 0, none⟩), .pointer (some ⟨b2, 0, none⟩)])) (hbs : bg < w.heap.size) (hTab : Tab w) :
    Calls Tryd.prog 159 #[.agg #[.slice (some ⟨g1, 0, none⟩) n1 c1, .slice (some ⟨g2, 0, none⟩) n2 c2], .agg #[.int .i64 u, .slice A n c], .int .i64 0, .func (.func 160) #[] #[.pointer (some ⟨bg, 0, none⟩)]] w (RetP (.int .i64 (avN (fun x => wtN u ds x n) (fun x => g (gnN (rgL fs) x)) (2 ^ n))) w) := by
  have HNT := Lib.hid h; have HN := Lib.hid hn; have HR := Lib.hid hr; have HD := Lib.hid hd; have HBG := Lib.hid hbg; have HTB := Lib.hid hTab; have HGN := Lib.hid hg
  have HGB := Lib.hid (rg_gb hv)
  have HGV : Hid (gmV ss fs = gmL fs) := Lib.hid (gmV_yes hv)
  have HBD : Hid (∀ f : Nat, f < 2 ^ n → 0 ≤ avN (fun x => wtN u ds x n) (fun x => g (gnN (rgL fs) x)) f ∧ 0 ≤ wtN u ds f n ∧ avN (fun x => wtN u ds x n) (fun x => g (gnN (rgL fs) x)) f + wtN u ds f n ≤ 20 ^ 14) := Lib.hid (fun f hf => av_bd hu0 hu hd hx _ hf)
  have hP14 : 2 ^ n ≤ 16384 := Nat.pow_le_pow_right (by decide : 0 < 2) hx
  have hpi : (2 : Int) ^ n = ((2 ^ n : Nat) : Int) := pow_int n
  have HPL : Hid (∀ x : Nat, x < 2 ^ n → x < 16777216) := Lib.hid (fun x hx => by omega)
  obtain ⟨P, hP⟩ : ∃ P : Nat, 2 ^ n = P := ⟨_, rfl⟩
  rw [hP] at hpi hP14 HBD HPL ⊢
  have HP := Lib.hid hP
  have HPI2 := Lib.hid hpi
  clear h hn hr hd hbg hTab hv hg hP hpi
  go_enter Tryd.func159, Tryd.ntmps159
  go_wp2_with fail
  obtain ⟨W0, hW0⟩ : ∃ W0, (w.alloc (Obj.cells #[.slice (some ⟨g1, 0, none⟩) n1 c1, .slice (some ⟨g2, 0, none⟩) n2 c2] 34)).alloc (Obj.cells #[.int .i64 u, .slice A n c] 60) = W0 := ⟨_, rfl⟩
  have hb0 : Below w.heap.size w W0 := by rw [← hW0]; exact ((Below.refl _ _).alloc (Nat.le_refl _) _).alloc (by simp) _
  have k0 : W0.cell? ⟨w.heap.size, 0, none⟩ = some (.slice (some ⟨g1, 0, none⟩) n1 c1) := by rw [← hW0]; simp [go_sem]
  have k1 : W0.cell? ⟨w.heap.size, 1, none⟩ = some (.slice (some ⟨g2, 0, none⟩) n2 c2) := by rw [← hW0]; simp [go_sem]
  have k2 : W0.cell? ⟨w.heap.size + 1, 0, none⟩ = some (.int .i64 u) := by rw [← hW0]; simp [go_sem]
  have k3 : W0.cell? ⟨w.heap.size + 1, 1, none⟩ = some (.slice A n c) := by rw [← hW0]; simp [go_sem]
  have hz0 : w.heap.size + 1 < W0.heap.size := by rw [← hW0]; simp
  have HB0 := Lib.hid hb0; have HK0 := Lib.hid k0; have HK1 := Lib.hid k1; have HK2 := Lib.hid k2; have HK3 := Lib.hid k3; have HZ0 := Lib.hid hz0
  rw [hW0]
  clear hW0 hb0 k0 k1 k2 k3 hz0
  refine (groupMasks_ (HNT.out.moved HB0.out)).mono ?_
  rw [HGV.out]
  rintro e w1 ⟨AG, NG, cG, rfl, HNG, hoG, hb1⟩
  have HB1 := Lib.hid (HB0.out.trans (hb1.mono HB0.out.size))
  have HRG := Lib.hid (Rd.ofOwn hoG)
  obtain rfl : NG = n := by rw [HNG.out]; unfold gmL; rw [List.length_map]; exact HGN.out.symm
  have HKB : Hid (∀ W, Below w1.heap.size w1 W → W.cell? ⟨w.heap.size + 1, 0, none⟩ = some (.int .i64 u) ∧ W.cell? ⟨w.heap.size + 1, 1, none⟩ = some (.slice A NG c)) := Lib.hid (fun W hW => ⟨((hb1.trans (hW.mono hb1.size)).cell (p := ⟨w.heap.size + 1, 0, none⟩) (by show w.heap.size + 1 < _; have := HZ0.out; omega)).trans HK2.out, ((hb1.trans (hW.mono hb1.size)).cell (p := ⟨w.heap.size + 1, 1, none⟩) (by show w.heap.size + 1 < _; have := HZ0.out; omega)).trans HK3.out⟩)
  clear hb1 hoG
  have hpi := HPI2.out
  go_wp2
  go_loopw [2, 22] (fun v i wr => ∃ (f : Nat) (S : Int), f ≤ P ∧ i = .int .i64 f ∧ v = .int .i64 S ∧ Hid (avN (fun x => wtN u ds x NG) (fun x => g (gnN (rgL fs) x)) f = S) ∧ Below w1.heap.size w1 wr) (fun _ i _ => P - (intOf i).toNat)
  case atStart => exact ⟨0, 0, Nat.zero_le _, rfl, rfl, Lib.hid rfl, Below.refl _ _⟩
  case round =>
    obtain ⟨f, S, hf, rfl, rfl, HS, hb⟩ := hrel
    have HBR := Lib.hid hb
    have HBW := Lib.hid (HB1.out.trans (hb.mono HB1.out.size))
    clear hb
    by_cases hlt : f < P
    case neg =>
      have HE : Hid (S = avN (fun x => wtN u ds x NG) (fun x => g (gnN (rgL fs) x)) P) := Lib.hid (by rw [← HS.out, show f = P by omega])
      have hlt2 : ¬ (f : Int) < P := by omega
      clear hlt
      go_wp2
      go_ret
      exact ⟨reti HE.out, HBW.out⟩
    case pos =>
    obtain ⟨hS0, hw0, hS1⟩ := HBD.out f hlt
    rw [HS.out] at hS0 hS1
    have HST : Hid (avN (fun x => wtN u ds x NG) (fun x => g (gnN (rgL fs) x)) (f + 1) = S + (if g (gnN (rgL fs) f) then wtN u ds f NG else 0)) := Lib.hid (by rw [← HS.out]; rfl)
    have CW := Lib.hid (weightOf_ (c := c) u f HN.out (HR.out.moved HBW.out) hx hu0 hu HD.out (by have := HPL.out f hlt; omega))
    obtain ⟨wt, hwt⟩ : ∃ wt, wtN u ds f NG = wt := ⟨_, rfl⟩
    rw [hwt] at CW HST hw0 hS1
    clear hwt
    obtain ⟨k2, k3⟩ := HKB.out _ HBR.out
    go_wp2_with fail
    clear k2 k3
    refine CW.out.mono ?_
    rintro e w2 ⟨rfl, hb2⟩
    have HB2 := Lib.hid (HBR.out.trans (hb2.mono HBR.out.size))
    have HB2W := Lib.hid (HBW.out.trans (hb2.mono HBW.out.size))
    clear hb2
    obtain ⟨w3, hw3⟩ : ∃ w3, w2.alloc (Obj.cells #[.int .i64 (f : Int), .int .i64 0, .int .i64 wt] 192) = w3 := ⟨_, rfl⟩
    have HO3 : Hid (w3.ownsRow w2.heap.size 192 3 (.slice (some ⟨w2.heap.size, 0, none⟩) 1 1) 1 [.int .i64 (f : Int), .int .i64 0, .int .i64 wt]) := Lib.hid (by rw [← hw3]; exact one_rowF w2 _ _ _ (Nat.le_refl _))
    have HB3 : Hid (Below w2.heap.size w2 w3) := Lib.hid (by rw [← hw3]; exact (Below.refl _ _).alloc (Nat.le_refl _) _)
    have HS21 : Hid (w1.heap.size ≤ w2.heap.size) := Lib.hid (HB2.out.size)
    obtain ⟨gf, hgf⟩ : ∃ gf, w2.heap.size = gf := ⟨_, rfl⟩
    have HGF := Lib.hid hgf
    go_wp2
    rw [hgf] at HO3 HB3
    clear hw3 hgf
    obtain ⟨wa, rfl⟩ : ∃ wa, wa = wr := ⟨wr, rfl⟩
    go_loopw [13] (fun q wv => ∃ (x fib : Nat), q = .int .i64 x ∧ x < P ∧ fib < 2 ^ 20 ∧ Hid (fib ||| orN x.testBit (fun k => mkN ((rgL fs).getD k [])) NG = gnN (rgL fs) f) ∧ Hid (wv.ownsRow gf 192 3 (.slice (some ⟨gf, 0, none⟩) 1 1) 1 [.int .i64 (f : Int), .int .i64 (fib : Int), .int .i64 wt]) ∧ Below gf w3 wv) (fun q _ => (intOf q).toNat)
    case atStart => exact ⟨f, 0, rfl, hlt, Nat.two_pow_pos 20, Lib.hid (by rw [Nat.zero_or]; unfold gnN; rw [HGN.out]), HO3, Below.refl _ _⟩
    case round =>
      obtain ⟨x, fib, rfl, hxP, hfib, HOR, HOW, hb⟩ := hrel
      have HBV := Lib.hid hb
      have HBVW : Hid (Below w.heap.size w wr) := Lib.hid (HB2W.out.trans ((HB3.out.trans hb).mono (by have := HB2W.out.size; have := HGF.out; omega)))
      have HBV1 : Hid (Below w1.heap.size w1 wr) := Lib.hid (HB2.out.trans ((HB3.out.trans hb).mono (by have := HB2.out.size; have := HGF.out; omega)))
      clear hb
      by_cases hx0 : x = 0
      case pos =>
        subst hx0
        have HFB : Hid (gnN (rgL fs) f = fib) := Lib.hid (by rw [← HOR.out, orN_zero (fun j _ => Nat.zero_testBit j), Nat.or_zero])
        have r0 := HOW.out.cellAt 0 (by decide)
        have r1 := HOW.out.cellAt 1 (by decide)
        have r2 := HOW.out.cellAt 2 (by decide)
        simp only [List.getElem?_cons_zero, List.getElem?_cons_succ] at r0 r1 r2
        rw [HFB.out] at HST
        have CS := Lib.hid (stpN_ b1 b2 (g := g) (Lib.hid (fun W hW => HG.out W (HBVW.out.trans (hW.mono HBVW.out.size)))) S (f : Int) wt fib bg ((HBVW.out.cell (p := ⟨bg, 0, none⟩) hbs).trans HBG.out) (Nat.lt_of_lt_of_le hbs HBVW.out.size) hS0 hw0 hS1 hfib)
        have HST2 : Hid (avN (fun x => wtN u ds x NG) (fun x => g (gnN (rgL fs) x)) (f + 1) = (if g fib then S + wt else S)) := Lib.hid (by rw [HST.out]; split <;> omega)
        obtain ⟨S2, hS2⟩ : ∃ S2, (if g fib then S + wt else S) = S2 := ⟨_, rfl⟩
        rw [hS2] at CS HST2
        clear hS2
        go_wp2_with fail
        go_at_call 160
        refine CS.out.mono ?_
        rintro e w5 ⟨rfl, hb5⟩
        have HB5 := Lib.hid (HBV1.out.trans (hb5.mono HBV1.out.size))
        clear hb5 r0 r1 r2
        go_wp2
        go_roundw
        case rel => exact ⟨f + 1, S2, by omega, by go_num, rfl, HST2, HB5.out⟩
        case measure => simp [intOf]; omega
      case neg =>
      have hxP2 : x < 2 ^ NG := by rw [HP.out]; exact hxP
      have hx24 := HPL.out x hxP
      have htl := tz_lt hx0 hxP2 hx
      obtain ⟨h1, _⟩ := low_bit x hx0 (by omega)
      have HTK := Lib.hid (orN_take (m := fun k => mkN ((rgL fs).getD k [])) htl h1 (fun i => and_pred x hx0 (by omega) i))
      have hpl := pred_lt x hx0
      have HPI := Lib.hid (pred_i64 x hx0 hx24)
      have CL : Hid (∀ W, W.heap = wr.heap → Calls Tryd.prog 137 #[.int .u64 (x : Int)] W fun e w' => e = .returned (.int .i64 (Lib.ctz 64 x : Int)) ∧ W = w') := Lib.hid (fun W hW => tz x W (by omega) hx0 (by
        have h9 := HTB.out.over HBVW.out
        unfold Tab Lib.TabIs World.var? at h9 ⊢
        rw [hW]; exact h9))
      have hmz := gb_at HGB.out (k := Lib.ctz 64 x) (by have := HGN.out; omega)
      have hgm := gm_at (fs := fs) (k := Lib.ctz 64 x) (by have := HGN.out; omega)
      have hln : (gmL fs).length = NG := HNG.out.symm
      obtain ⟨adG, hA, _, hc⟩ := ints_at (HRG.out.moved HBV1.out) (k := Lib.ctz 64 x) (by omega)
      subst hA
      rw [nth_eq (by omega), hgm] at hc
      obtain ⟨l, hl⟩ : ∃ l, Lib.ctz 64 x = l := ⟨_, rfl⟩
      rw [hl] at HTK CL htl hmz hc
      obtain ⟨z, hz⟩ : ∃ z, mkN ((rgL fs).getD l []) = z := ⟨_, rfl⟩
      try simp only at HTK
      rw [hz] at HTK hmz hc
      obtain ⟨y, hy⟩ : ∃ y, x &&& (x - 1) = y := ⟨_, rfl⟩
      rw [hy] at HTK HPI hpl
      have hor := or_i64v fib z hfib hmz
      have hfz : fib ||| z < 2 ^ 20 := Nat.or_lt_two_pow hfib hmz
      have HOR2 : Hid ((fib ||| z) ||| orN y.testBit (fun k => mkN ((rgL fs).getD k [])) NG = gnN (rgL fs) f) := Lib.hid (by rw [Nat.or_assoc, HTK.out]; exact HOR.out)
      obtain ⟨v, hv⟩ : ∃ v, fib ||| z = v := ⟨_, rfl⟩
      rw [hv] at hor hfz HOR2
      have r1 := HOW.out.cellAt 1 (by decide)
      simp only [List.getElem?_cons_zero, List.getElem?_cons_succ] at r1
      have z1 := HOW.out.frozenAt 1
      have q1 : ((x : Int) != 0) = true := by simp; omega
      have q2 : decide ((x : Int) = 0) = false := decide_eq_false (by omega)
      have q3 : IntKind.u64.wrap (x : Int) = x := by rw [IntKind.wrap_u64]; omega
      have q4 : 0 < (x : Int) := by omega
      have q5 : (x : Int) ≤ 16777215 := by omega
      have hhe : wr.heap = wr.heap := rfl
      clear h1 hgm hln hl hz hy hv hx0
      go_upto_block 3 with fail
      go_cut [13] (fun s13 wx => s13 = .int .i64 (x : Int) ∧ wx.heap = (wr.setCell ⟨gf, 1, none⟩ (.int .i64 (v : Int))).heap ∧ Below gf wr wx)
      case first =>
        go_upto_region 9 with fail
        go_region_with ((go_at_call 137; refine (CL.out _ ?_).mono ?_; (· rfl); rintro e u1 ⟨rfl, rfl⟩))
        all_goals
          go_wp2_with fail
          go_meet
          refine ⟨rfl, rfl, ?_⟩
          repeat (first | exact (Below.refl _ _).setCell (p := ⟨gf, 1, none⟩) (Nat.le_refl _) _ | refine Below.drew ?_)
      case rest =>
      clear hhe hc r1 z1
      revert hcut; generalize wc = w6; intro hcut
      obtain ⟨h0_, hU1, hU2⟩ := hcut
      subst h0_
      have HO6 : Hid (w6.ownsRow gf 192 3 (.slice (some ⟨gf, 0, none⟩) 1 1) 1 [.int .i64 (f : Int), .int .i64 (v : Int), .int .i64 wt]) := Lib.hid (by
        refine own_heapW hU1 ?_
        have h9 := (HOW.out.stored 1 (.int .i64 (v : Int))).1
        simpa using h9)
      have HB6 : Hid (Below gf w3 w6) := Lib.hid (HBV.out.trans hU2)
      clear hU1 hU2
      go_wp2
      rw [HPI.out]
      go_roundw
      case rel => exact ⟨y, v, rfl, by omega, hfz, HOR2, HO6, HB6.out⟩
      case measure => simp [intOf]; omega

set_option maxRecDepth 100000 in
set_option maxHeartbeats 4000000 in
theorem avlN_ {g1 g2 n1 n2 c1 c2 : Nat} {ss : List ByteArray} {fs : List Q4} {w : World} (h : NetAt g1 g2 n1 n2 c1 c2 ss fs w) (hv : netP ss fs) (u : Int) {A : Option Addr} {n c : Nat} {ds : List Int} (hn : ds.length = n) (hr : Rd w w.heap.size A (ds.map (Value.int .i64))) (hx : n ≤ 14) (hg : n = (rgL fs).length) (hu0 : 0 ≤ u) (hu : u ≤ 20) (hd : ∀ j, j < n → 0 ≤ nth ds j ∧ nth ds j ≤ u) (b1 b2 : Nat) {g : Nat → Bool} (HG : Hid (∀ W, Below w.heap.size w W → ∀ x : Nat, x < 2 ^ 20 → Calls Tryd.prog 111 #[.int .i64 (x : Int), .pointer (some ⟨b1, 0, none⟩), .pointer (some ⟨b2, 0, none⟩)] W (RetP (.bool (g x)) W))) (hTab : Tab w) :
    Calls Tryd.prog 104 #[.agg #[.slice (some ⟨g1, 0, none⟩) n1 c1, .slice (some ⟨g2, 0, none⟩) n2 c2], .agg #[.int .i64 u, .slice A n c], .func (.func 111) #[] #[.pointer (some ⟨b1, 0, none⟩), .pointer (some ⟨b2, 0, none⟩)]] w (RetP (.int .i64 (avN (fun x => wtN u ds x n) (fun x => g (gnN (rgL fs) x)) (2 ^ n))) w) := by
  have HNT := Lib.hid h; have HN := Lib.hid hn; have HR := Lib.hid hr; have HD := Lib.hid hd; have HTB := Lib.hid hTab; have HGN := Lib.hid hg; have HV := Lib.hid hv
  obtain ⟨S, hS⟩ : ∃ S, avN (fun x => wtN u ds x n) (fun x => g (gnN (rgL fs) x)) (2 ^ n) = S := ⟨_, rfl⟩
  rw [hS]
  have HSS := Lib.hid hS
  clear h hn hr hd hTab hv hS hg
  go_enter Tryd.func104, Tryd.ntmps104
  go_wp2_with fail
  obtain ⟨W0, hW0⟩ : ∃ W0, ((w.alloc (Obj.cells #[.slice (some ⟨g1, 0, none⟩) n1 c1, .slice (some ⟨g2, 0, none⟩) n2 c2] 34)).alloc (Obj.cells #[.int .i64 u, .slice A n c] 60)).alloc (Obj.cells #[.func (.func 111) #[] #[.pointer (some ⟨b1, 0, none⟩), .pointer (some ⟨b2, 0, none⟩)]] 140) = W0 := ⟨_, rfl⟩
  have hb0 : Below w.heap.size w W0 := by rw [← hW0]; exact (((Below.refl _ _).alloc (Nat.le_refl _) _).alloc (by simp) _).alloc (by simp; omega) _
  have k5 : W0.cell? ⟨w.heap.size + 1 + 1, 0, none⟩ = some (.func (.func 111) #[] #[.pointer (some ⟨b1, 0, none⟩), .pointer (some ⟨b2, 0, none⟩)]) := by rw [← hW0]; simp [go_sem]
  have hz5 : w.heap.size + 1 + 1 < W0.heap.size := by rw [← hW0]; simp
  rw [hW0]
  clear hW0
  have CO := Lib.hid (ovfN_ (c := c) (HNT.out.moved hb0) HV.out u HN.out (HR.out.moved hb0) hx HGN.out hu0 hu HD.out b1 b2 (g := g) (Lib.hid fun W hW => HG.out W (hb0.trans (hW.mono hb0.size))) (w.heap.size + 1 + 1) k5 hz5 (HTB.out.over hb0))
  rw [HSS.out] at CO
  have HB1 := Lib.hid hb0
  clear hb0 k5 hz5
  refine CO.out.mono ?_
  rintro e w2 ⟨rfl, hb2⟩
  have HB2 := Lib.hid (HB1.out.trans (hb2.mono HB1.out.size))
  clear hb2
  go_wp2
  go_ret
  exact ⟨rfl, HB2.out⟩
end Go.Proofs.YtbnfogedmjjiaaaDoor
