/- Lights: the lowest start of a light's block: contracts, both sides. Condition: the table of math/bits holds what Go's text lays. -/
import Derived.Test.YtflniajjecfgeaaGreatDoorLowP
import Derived.Test.YtflniajjecfgeaaGreatDoorUsR
import Derived.Test.YtflniajjecfgeaaGreatDoorL9Wo
import Derived.Test.YtflniajjecfgeaaGreatDoorLtV
import Derived.Test.YtflniajjecfgeaaGreatDoorGD
import Derived.BigQuiet
namespace Go.Proofs.YtflniajjecfgeaaGreatDoor
open Go.ChangeShapes Go.WideShapes Go.ChangeAt Go.RowKit

theorem new5 (W : World) (E : TypeId) (a b c d e : Value) (W1 : World) (h : W.alloc (.cells #[a, b, c, d, e] E) = W1) {g : Nat} (hg : W.heap.size = g) : W1.cell? ⟨g, 0, none⟩ = some a ∧ W1.cell? ⟨g, 1, none⟩ = some b ∧ W1.cell? ⟨g, 2, none⟩ = some c ∧ W1.cell? ⟨g, 3, none⟩ = some d ∧ W1.cell? ⟨g, 4, none⟩ = some e := by
  subst h hg
  refine ⟨?_, ?_, ?_, ?_, ?_⟩ <;> simp [go_sem]
theorem blk_parts {x y : Int} (h : blkP x y) : ∃ f c : Nat, x = f ∧ y = c ∧ 1 ≤ c ∧ f + c ≤ 24 := by
  unfold blkP at h
  exact ⟨x.toNat, y.toNat, by omega, by omega, by omega, by omega⟩

set_option maxRecDepth 100000 in
set_option maxHeartbeats 8000000 in
theorem implLowG {g3 n3 c3 : Nat} {ys : List Lt} {ds : List LtD} {w : World} (hT : LtR (some ⟨g3, 0, none⟩) n3 ys w) (hd : ys.map Lt.d = ds) (hs : n3 ≤ 12)
    (hblk : ∀ t, t < ds.length → blkP (dn ds t).q0 (dn ds t).q1) (hz : ∀ t, t < ds.length → ∀ k, k < (dn ds t).zs.length → 0 ≤ nth (dn ds t).zs k ∧ nth (dn ds t).zs k < 20)
    (a : Nat) (ha : a < n3) (hne : (dn ds a).zs ≠ []) (hl : Bool) (hTab : Tab w) :
    Calls Tryz.prog 66 #[.slice (some ⟨g3, 0, none⟩) n3 c3, .int .i64 (a : Int), .bool hl] w (RetP (.int .i64 (lowV ds a hl : Int)) w) := by
  have HT := Lib.hid hT; have HD := Lib.hid hd; have HTAB := Lib.hid hTab
  have HLD : Hid (ds.length = n3) := Lib.hid (by rw [← hd, List.length_map]; exact hT.len)
  have HBLK := Lib.hid hblk; have HZZ := Lib.hid hz
  have hal : a < ys.length := by rw [hT.len]; exact ha
  obtain ⟨x, hxe⟩ : ∃ y, ys[a]'hal = y := ⟨_, rfl⟩
  have HDX := Lib.hid (dn_at hd hal hxe)
  have HXA : Hid (LtAt w x) := Lib.hid (by rw [← hxe]; exact hT.at_ _ (List.getElem_mem hal))
  obtain ⟨f, c, hf0, hc0, hc1, hfc⟩ := blk_parts (hblk a (by rw [HLD.out]; exact ha))
  rw [HDX.out] at hf0 hc0 hne
  have hqf : x.q0 = (f : Int) := hf0
  have hqc : x.q1 = (c : Int) := hc0
  have hft : (dn ds a).q0.toNat = f := by rw [HDX.out]; show x.q0.toNat = f; rw [hqf]; rfl
  have hct : (dn ds a).q1.toNat = c := by rw [HDX.out]; show x.q1.toNat = c; rw [hqc]; rfl
  have hzx : (dn ds a).zs = x.zs := by rw [HDX.out]; rfl
  have hQ : ∀ s, s < f → fitB (lowK ds a hl ds.length) c s = lowQ (alongK (outD ds a) (dn ds a).zs (dn ds a).zs.length) c f hl s := fun s hs => by
    have h := low_fit (ds := ds) (a := a) (hl := hl) (by rw [HLD.out]; exact ha) (hblk a (by rw [HLD.out]; exact ha)) (by rw [hzx]; exact hne) (s := s) (by rw [hft]; exact hs)
    rw [hft, hct] at h; exact h
  have hlv : lowV ds a hl = lowF (lowQ (alongK (outD ds a) (dn ds a).zs (dn ds a).zs.length) c f hl) f := by unfold lowV; rw [hft, hct]
  obtain ⟨I, hI⟩ : ∃ I, lowK ds a hl ds.length = I := ⟨_, rfl⟩
  rw [hI] at hQ
  have hfl := first_low hc1 hfc hQ
  obtain ⟨r, hr⟩ : ∃ r, lowV ds a hl = r := ⟨_, rfl⟩
  have his := lowF_is (lowQ (alongK (outD ds a) (dn ds a).zs (dn ds a).zs.length) c f hl) f
  rw [← hlv, hr] at his
  have HE1 : Hid (begN I (c - 1) = 0 → f = r) := Lib.hid fun h => low_one (hfl.1 h) his
  have HE2 : Hid (begN I (c - 1) ≠ 0 → f < Lib.ctz 64 (begN I (c - 1)) → f = r) := Lib.hid fun h h2 => low_one ((hfl.2 h).1 h2) his
  have HE3 : Hid (begN I (c - 1) ≠ 0 → Lib.ctz 64 (begN I (c - 1)) ≤ f → Lib.ctz 64 (begN I (c - 1)) = r) := Lib.hid fun h h2 => low_one ((hfl.2 h).2 h2) his
  have hIl : I < 2 ^ 24 := by rw [← hI]; exact low_lt hblk
  have HI : Hid (lowK ds a hl n3 = I) := Lib.hid (by rw [← HLD.out]; exact hI)
  have hxn : ∀ k, k < x.n → 0 ≤ nth x.zs k ∧ nth x.zs k < 20 := by
    have h := hz a (by rw [HLD.out]; exact ha)
    rw [hzx] at h
    intro k hk
    exact h k (by rw [HXA.out.1]; exact hk)
  have CX : Hid (∀ W, Below w.heap.size w W → Calls Tryz.prog 107 #[.slice x.A x.n x.c] W fun e w' => e = .returned (.int .i64 (maskN x.zs x.n : Nat)) ∧ w' = W) := Lib.hid fun W hW => (maskOf_ x.A x.n x.c x.zs W HXA.out.1 HXA.out.2.1 (HXA.out.2.2.moved hW) hxn).mono fun _ _ h => ⟨h.1, h.2.symm⟩
  have HXN := Lib.hid hxn
  have hmx := maskT_lt hxn
  obtain ⟨mx, hmxe⟩ : ∃ m, maskN x.zs x.n = m := ⟨_, rfl⟩
  rw [hmxe] at CX hmx
  have HMX := Lib.hid hmxe
  obtain ⟨hg3, e0, e1, e2, e3, e4⟩ := hT.rd.ltc hal
  rw [Nat.zero_add, hxe, hqf, hqc] at *
  rw [hr]
  clear hT hd hblk hz hTab hfl his hlv hQ hI hr hne hf0 hc0 hft hct hzx hxe hmxe hxn
  go_enter Tryz.func66, Tryz.ntmps66
  go_wp2
  obtain ⟨W0, hW0⟩ : ∃ W0, w.alloc (Obj.cells #[.int .i64 x.p0, .int .i64 x.p1, .slice x.A x.n x.c, .int .i64 (f : Int), .int .i64 (c : Int)] 62) = W0 := ⟨_, rfl⟩
  have hb0 : Below w.heap.size w W0 := by rw [← hW0]; exact (Below.refl _ _).alloc (Nat.le_refl _) _
  obtain ⟨i0, i1, i2, i3, i4⟩ := new5 _ _ _ _ _ _ _ W0 hW0 rfl
  have hz0 : w.heap.size < W0.heap.size := by rw [← hW0]; simp
  have HK : Hid (∀ u, Below W0.heap.size W0 u → u.cell? ⟨w.heap.size, 2, none⟩ = some (.slice x.A x.n x.c) ∧ u.cell? ⟨w.heap.size, 3, none⟩ = some (.int .i64 (f : Int)) ∧ u.cell? ⟨w.heap.size, 4, none⟩ = some (.int .i64 (c : Int))) := Lib.hid fun u hu => ⟨(hu.cell (p := ⟨w.heap.size, 2, none⟩) hz0).trans i2, (hu.cell (p := ⟨w.heap.size, 3, none⟩) hz0).trans i3, (hu.cell (p := ⟨w.heap.size, 4, none⟩) hz0).trans i4⟩
  have HB0 := Lib.hid hb0; have HZ0 := Lib.hid hz0
  rw [hW0]
  clear hW0 hb0 i0 i1 i2 i3 i4 e0 e1 e2 e3 e4 hz0
  go_loopw [8, 19] (fun v i wr => ∃ (k u : Nat), k ≤ n3 ∧ i = .int .i64 k ∧ v = .int .i64 u ∧ Hid (u = lowK ds a hl k) ∧ u < 16777216 ∧ Below W0.heap.size W0 wr) (fun _ i _ => n3 - (intOf i).toNat)
  case atStart => exact ⟨0, 0, Nat.zero_le _, rfl, rfl, Lib.hid rfl, by omega, Below.refl _ _⟩
  case round =>
    obtain ⟨k, u, hk, rfl, rfl, HU, hu, hb⟩ := hrel
    have HBW := Lib.hid (HB0.out.trans (hb.mono (Nat.le_of_lt HZ0.out)))
    have HBR := Lib.hid hb
    obtain ⟨x2, x3, x4⟩ := HK.out wr hb
    have hzw : w.heap.size < wr.heap.size := Nat.lt_of_lt_of_le HZ0.out hb.size
    clear hb
    by_cases hlt : k < n3
    case neg =>
      obtain rfl : k = n3 := by omega
      obtain rfl : u = I := by rw [HU.out, HI.out]
      have CF := Lib.hid (implFirst (u : Int) (c : Int) wr (HTAB.out.over HBW.out))
      have hask : askP (u : Int) (c : Int) := ⟨⟨by omega, by omega⟩, by omega, by omega⟩
      have et1 : ((u : Int)).toNat = u := by omega
      have et2 : ((c : Int)).toNat = c := by omega
      by_cases hb0 : begN u (c - 1) = 0
      case pos =>
        rw [← first_no (m := u) (c := c) (fun h => h.2 (by rw [et1, et2]; exact hb0))] at CF
        have HE : Hid ((f : Int) = (r : Int)) := Lib.hid (by rw [HE1.out hb0])
        clear hb0 hask et1 et2 hlt
        go_wp2_with fail
        refine CF.out.mono ?_
        rintro e w3 ⟨rfl, hb3⟩
        have HB3 := Lib.hid (HBW.out.trans (hb3.mono HBW.out.size))
        have y3 := (hb3.cell (p := ⟨w.heap.size, 3, none⟩) hzw).trans x3
        have hz3 : w.heap.size < w3.heap.size := Nat.lt_of_lt_of_le hzw hb3.size
        clear hb3 x2 x3 x4
        go_wp2
        go_ret
        exact ⟨reti HE.out, HB3.out.alloc (by omega) _⟩
      case neg =>
        have hfy := first_yes (m := u) (c := c) ⟨hask, by rw [et1, et2]; exact hb0⟩
        rw [et1, et2] at hfy
        rw [← hfy] at CF
        have HE2' := Lib.hid (HE2.out hb0); have HE3' := Lib.hid (HE3.out hb0)
        obtain ⟨t, ht⟩ : ∃ t, Lib.ctz 64 (begN u (c - 1)) = t := ⟨_, rfl⟩
        rw [ht] at CF HE2' HE3'
        clear hb0 hask et1 et2 hlt hfy ht
        by_cases hft : f < t
        case pos =>
          have HE : Hid ((f : Int) = (r : Int)) := Lib.hid (by rw [HE2'.out hft])
          have hft2 : (f : Int) < (t : Int) := by omega
          have hft3 : decide ((f : Int) < (t : Int)) = true := decide_eq_true hft2
          have hft4 : decide ((t : Int) > (f : Int)) = true := decide_eq_true hft2
          go_wp2_with fail
          refine CF.out.mono ?_
          rintro e w3 ⟨rfl, hb3⟩
          have HB3 := Lib.hid (HBW.out.trans (hb3.mono HBW.out.size))
          have y3 := (hb3.cell (p := ⟨w.heap.size, 3, none⟩) hzw).trans x3
          have hz3 : w.heap.size < w3.heap.size := Nat.lt_of_lt_of_le hzw hb3.size
          clear hb3 x2 x3 x4
          go_wp2
          go_ret
          exact ⟨reti HE.out, HB3.out.alloc (by omega) _⟩
        case neg =>
          have HE : Hid ((t : Int) = (r : Int)) := Lib.hid (by rw [HE3'.out (by omega)])
          have hft2 : ¬ (f : Int) < (t : Int) := by omega
          have hft3 : decide ((f : Int) < (t : Int)) = false := decide_eq_false hft2
          have hft4 : decide ((t : Int) > (f : Int)) = false := decide_eq_false hft2
          go_wp2_with fail
          refine CF.out.mono ?_
          rintro e w3 ⟨rfl, hb3⟩
          have HB3 := Lib.hid (HBW.out.trans (hb3.mono HBW.out.size))
          have y3 := (hb3.cell (p := ⟨w.heap.size, 3, none⟩) hzw).trans x3
          have hz3 : w.heap.size < w3.heap.size := Nat.lt_of_lt_of_le hzw hb3.size
          clear hb3 x2 x3 x4
          go_wp2
          go_ret
          exact ⟨reti HE.out, HB3.out.alloc (by omega) _⟩
    case pos =>
    have hkl : k < ys.length := by have := HT.out.len; omega
    have HKD : Hid (k < ds.length) := Lib.hid (by have := HLD.out; omega)
    obtain ⟨y, hke⟩ : ∃ y, ys[k]'hkl = y := ⟨_, rfl⟩
    have HDK := Lib.hid (dn_at HD.out hkl hke)
    have HYA : Hid (LtAt w y) := Lib.hid (by rw [← hke]; exact HT.out.at_ _ (List.getElem_mem hkl))
    obtain ⟨hg, f0, f1, f2, f3, f4⟩ := (HT.out.moved HBW.out).rd.ltc hkl
    rw [Nat.zero_add, hke] at f0 f1 f2 f3 f4
    have hyn : ∀ j, j < y.n → 0 ≤ nth y.zs j ∧ nth y.zs j < 20 := by
      have h := HZZ.out k HKD.out
      rw [HDK.out] at h
      intro j hj
      exact h j (by show j < y.zs.length; rw [HYA.out.1]; exact hj)
    have CY : Hid (∀ W, Below w.heap.size w W → Calls Tryz.prog 107 #[.slice y.A y.n y.c] W fun e w' => e = .returned (.int .i64 (maskN y.zs y.n : Nat)) ∧ w' = W) := Lib.hid fun W hW => (maskOf_ y.A y.n y.c y.zs W HYA.out.1 HYA.out.2.1 (HYA.out.2.2.moved hW) hyn).mono fun _ _ h => ⟨h.1, h.2.symm⟩
    have hmy := maskT_lt hyn
    have hme := mask_meet HXA.out.1 HYA.out.1 HXN.out hyn
    have HUB : Hid (usesB (dn ds a) (dn ds k) = decide ((maskN x.zs x.n &&& maskN y.zs y.n) ≠ 0)) := Lib.hid (by rw [HDX.out, HDK.out]; exact hme)
    have hbk := HBLK.out k HKD.out
    rw [HDK.out] at hbk
    have hblk : blkP y.q0 y.q1 := hbk
    have hbe := bitN_eq (d := y.d) hbk
    have hbl := bitN_lt (d := y.d) hbk
    have hbe2 : bitsV y.q0 y.q1 = (bitN y.d : Int) := hbe
    have CB : Hid (∀ W, Calls Tryz.prog 106 #[.agg #[.int .i64 y.q0, .int .i64 y.q1]] W (RetP (.int .i64 (bitN y.d : Int)) W)) := Lib.hid (fun W => by rw [← hbe2]; exact implBits y.q0 y.q1 W hblk)
    have HBN : Hid (bitN (dn ds k) = bitN y.d) := Lib.hid (by rw [HDK.out])
    obtain ⟨b, hbb⟩ : ∃ b, bitN y.d = b := ⟨_, rfl⟩
    rw [hbb] at CB HBN hbl
    have hor := or_i64_ u b (by omega) (by omega)
    have hol : u ||| b < 2 ^ 24 := Nat.or_lt_two_pow hu hbl
    obtain ⟨my, hmye⟩ : ∃ m, maskN y.zs y.n = m := ⟨_, rfl⟩
    rw [hmye] at CY hmy HUB
    rw [HMX.out] at HUB
    have hand := and_i64n mx my (by omega) (by omega)
    obtain ⟨z, hze⟩ : ∃ z, mx &&& my = z := ⟨_, rfl⟩
    rw [hze] at hand HUB
    have HSK : Hid (lowK ds a hl (k + 1) = u ||| (if (decide (k ≠ a) || hl) && usesB (dn ds a) (dn ds k) then b else 0)) := Lib.hid (by rw [lowK, ← HU.out, HBN.out])
    rw [HUB.out] at HSK
    have HCX : Hid (∀ W, Below wr.heap.size wr W → Calls Tryz.prog 107 #[.slice x.A x.n x.c] W fun e w' => e = .returned (.int .i64 (mx : Nat)) ∧ w' = W) := Lib.hid fun W hW => CX.out W (HBW.out.trans (hW.mono HBW.out.size))
    have HCY : Hid (∀ W, Below wr.heap.size wr W → Calls Tryz.prog 107 #[.slice y.A y.n y.c] W fun e w' => e = .returned (.int .i64 (my : Nat)) ∧ w' = W) := Lib.hid fun W hW => CY.out W (HBW.out.trans (hW.mono HBW.out.size))
    obtain ⟨W1, hW1⟩ : ∃ W1, wr.alloc (Obj.cells #[.int .i64 y.p0, .int .i64 y.p1, .slice y.A y.n y.c, .int .i64 y.q0, .int .i64 y.q1] 62) = W1 := ⟨_, rfl⟩
    have hb1 : Below wr.heap.size wr W1 := by rw [← hW1]; exact (Below.refl _ _).alloc (Nat.le_refl _) _
    obtain ⟨j0, j1, j2, j3, j4⟩ := new5 _ _ _ _ _ _ _ W1 hW1 rfl
    have hz1 : wr.heap.size < W1.heap.size := by rw [← hW1]; simp
    have v2 := (hb1.cell (p := ⟨w.heap.size, 2, none⟩) hzw).trans x2
    have HB1 := Lib.hid hb1; have HZ1 := Lib.hid hz1; have HJ3 := Lib.hid j3; have HJ4 := Lib.hid j4
    clear hme hyn hke hkl hbk hblk hbe hbe2 hbb hmye hze hb1 j0 j1 x2 x3 x4
    go_wp2_with fail
    clear hW1 f0 f1 f2 f3 f4 j3 j4
    by_cases hka : k = a
    case neg =>
      have HGT : Hid ((decide (k ≠ a) || hl) = true) := Lib.hid (by rw [decide_eq_true hka]; rfl)
      have hn1 : ¬ ((k : Int) = (a : Int)) := by omega
      have hn2 : ((k : Int) != (a : Int)) = true := bne_iff_ne.2 hn1
      have hn3 : ((k : Int) == (a : Int)) = false := beq_eq_false_iff_ne.2 hn1
      by_cases hz9 : z = 0
      case pos =>
        have HS : Hid (u = lowK ds a hl (k + 1)) := Lib.hid (by rw [HSK.out, decide_eq_false (by simp [hz9] : ¬ (z ≠ 0)), Bool.and_false, if_neg Bool.false_ne_true, Nat.or_zero])
        subst hz9
        go_quiet (first | (go_at_call 107; with_reducible exact Calls.quiet_of_same (HCX.out _ (by first | exact HB1.out | exact drewN_below_ HB1.out _))) | (go_at_call 107; with_reducible exact Calls.quiet_of_same (HCY.out _ (by first | exact HB1.out | exact drewN_below_ HB1.out _))))
        obtain ⟨W2, hW2⟩ : ∃ W2, W1.drewN nq = W2 := ⟨_, rfl⟩
        have HB2 : Hid (Below wr.heap.size wr W2) := Lib.hid (by rw [← hW2]; exact drewN_below_ HB1.out _)
        rw [hW2]
        clear hW2
        have HB3 := Lib.hid (HBR.out.trans (HB2.out.mono HBR.out.size))
        go_wp2
        go_roundw
        case rel => exact ⟨k + 1, u, by omega, by go_num, rfl, HS, hu, HB3.out⟩
        case measure => simp [intOf]; omega
      case neg =>
        have HS : Hid (u ||| b = lowK ds a hl (k + 1)) := Lib.hid (by rw [HSK.out, decide_eq_true hz9, Bool.and_true, HGT.out, if_pos rfl])
        have hz8 : (z : Int) ≠ 0 := by omega
        have hz7 : ((z : Int) != 0) = true := bne_iff_ne.2 hz8
        obtain ⟨o, ho⟩ : ∃ o, u ||| b = o := ⟨_, rfl⟩
        rw [ho] at hor hol HS
        clear ho
        go_quiet (first | (go_at_call 107; with_reducible exact Calls.quiet_of_same (HCX.out _ (by first | exact HB1.out | exact drewN_below_ HB1.out _))) | (go_at_call 107; with_reducible exact Calls.quiet_of_same (HCY.out _ (by first | exact HB1.out | exact drewN_below_ HB1.out _))))
        obtain ⟨W2, hW2⟩ : ∃ W2, W1.drewN nq = W2 := ⟨_, rfl⟩
        have hb12 : Below W1.heap.size W1 W2 := by rw [← hW2]; exact drewN_below_ (Below.refl _ _) _
        have HB2 : Hid (Below wr.heap.size wr W2) := Lib.hid (by rw [← hW2]; exact drewN_below_ HB1.out _)
        have t3 := (hb12.cell (p := ⟨wr.heap.size, 3, none⟩) HZ1.out).trans HJ3.out
        have t4 := (hb12.cell (p := ⟨wr.heap.size, 4, none⟩) HZ1.out).trans HJ4.out
        rw [hW2]
        clear hW2 hb12
        go_wp2_with fail
        refine (CB.out _).mono ?_
        rintro e w3 ⟨rfl, hb3⟩
        have HB3 := Lib.hid (HBR.out.trans ((HB2.out.trans (hb3.mono HB2.out.size)).mono HBR.out.size))
        clear hb3
        go_wp2
        go_roundw
        case rel => exact ⟨k + 1, o, by omega, by go_num, rfl, HS, by omega, HB3.out⟩
        case measure => simp [intOf]; omega
    case pos =>
    subst hka
    have hn2 : ((k : Int) != (k : Int)) = false := by simp
    cases hl
    case true =>
      have HGT : Hid ((decide (k ≠ k) || true) = true) := Lib.hid (by simp)
      by_cases hz9 : z = 0
      case pos =>
        have HS : Hid (u = lowK ds k true (k + 1)) := Lib.hid (by rw [HSK.out, decide_eq_false (by simp [hz9] : ¬ (z ≠ 0)), Bool.and_false, if_neg Bool.false_ne_true, Nat.or_zero])
        subst hz9
        go_quiet (first | (go_at_call 107; with_reducible exact Calls.quiet_of_same (HCX.out _ (by first | exact HB1.out | exact drewN_below_ HB1.out _))) | (go_at_call 107; with_reducible exact Calls.quiet_of_same (HCY.out _ (by first | exact HB1.out | exact drewN_below_ HB1.out _))))
        obtain ⟨W2, hW2⟩ : ∃ W2, W1.drewN nq = W2 := ⟨_, rfl⟩
        have HB2 : Hid (Below wr.heap.size wr W2) := Lib.hid (by rw [← hW2]; exact drewN_below_ HB1.out _)
        rw [hW2]
        clear hW2
        have HB3 := Lib.hid (HBR.out.trans (HB2.out.mono HBR.out.size))
        go_wp2
        go_roundw
        case rel => exact ⟨k + 1, u, by omega, by go_num, rfl, HS, hu, HB3.out⟩
        case measure => simp [intOf]; omega
      case neg =>
        have HS : Hid (u ||| b = lowK ds k true (k + 1)) := Lib.hid (by rw [HSK.out, decide_eq_true hz9, Bool.and_true, HGT.out, if_pos rfl])
        have hz8 : (z : Int) ≠ 0 := by omega
        have hz7 : ((z : Int) != 0) = true := bne_iff_ne.2 hz8
        obtain ⟨o, ho⟩ : ∃ o, u ||| b = o := ⟨_, rfl⟩
        rw [ho] at hor hol HS
        clear ho
        go_quiet (first | (go_at_call 107; with_reducible exact Calls.quiet_of_same (HCX.out _ (by first | exact HB1.out | exact drewN_below_ HB1.out _))) | (go_at_call 107; with_reducible exact Calls.quiet_of_same (HCY.out _ (by first | exact HB1.out | exact drewN_below_ HB1.out _))))
        obtain ⟨W2, hW2⟩ : ∃ W2, W1.drewN nq = W2 := ⟨_, rfl⟩
        have hb12 : Below W1.heap.size W1 W2 := by rw [← hW2]; exact drewN_below_ (Below.refl _ _) _
        have HB2 : Hid (Below wr.heap.size wr W2) := Lib.hid (by rw [← hW2]; exact drewN_below_ HB1.out _)
        have t3 := (hb12.cell (p := ⟨wr.heap.size, 3, none⟩) HZ1.out).trans HJ3.out
        have t4 := (hb12.cell (p := ⟨wr.heap.size, 4, none⟩) HZ1.out).trans HJ4.out
        rw [hW2]
        clear hW2 hb12
        go_wp2_with fail
        refine (CB.out _).mono ?_
        rintro e w3 ⟨rfl, hb3⟩
        have HB3 := Lib.hid (HBR.out.trans ((HB2.out.trans (hb3.mono HB2.out.size)).mono HBR.out.size))
        clear hb3
        go_wp2
        go_roundw
        case rel => exact ⟨k + 1, o, by omega, by go_num, rfl, HS, by omega, HB3.out⟩
        case measure => simp [intOf]; omega
    case false =>
      have HS : Hid (u = lowK ds k false (k + 1)) := Lib.hid (by rw [HSK.out]; simp)
      go_quiet (fail)
      obtain ⟨W2, hW2⟩ : ∃ W2, W1.drewN nq = W2 := ⟨_, rfl⟩
      have HB2 : Hid (Below wr.heap.size wr W2) := Lib.hid (by rw [← hW2]; exact drewN_below_ HB1.out _)
      rw [hW2]
      clear hW2
      have HB3 := Lib.hid (HBR.out.trans (HB2.out.mono HBR.out.size))
      go_wp2
      go_roundw
      case rel => exact ⟨k + 1, u, by omega, by go_num, rfl, HS, hu, HB3.out⟩
      case measure => simp [intOf]; omega

set_option maxRecDepth 100000 in
set_option maxHeartbeats 8000000 in
theorem l21LowG_ {g1 g2 g3 n1 n2 n3 c1 c2 c3 : Nat} {ss : List ByteArray} {fs : List Q4} {ys : List Lt} {ds : List LtD} {w : World} (h : NetAt g1 g2 n1 n2 c1 c2 ss fs w) (hT : LtR (some ⟨g3, 0, none⟩) n3 ys w) (hd : ys.map Lt.d = ds) (hs : n3 ≤ 12)
    (hblk : ∀ t, t < ds.length → blkP (dn ds t).q0 (dn ds t).q1) (hso : ∀ y ∈ ys, ∃ ad, y.A = some ad) (a : Nat) (ha : a < n3) (hl : Bool) :
    Calls Tryz.prog 52 #[.agg #[.slice (some ⟨g1, 0, none⟩) n1 c1, .slice (some ⟨g2, 0, none⟩) n2 c2, .slice (some ⟨g3, 0, none⟩) n3 c3], .int .i64 (a : Int), .bool hl] w (RetP (.int .i64 (lowV ds a hl : Int)) w) := by
  have HNT := Lib.hid h; have HSO := Lib.hid hso
  have HT := Lib.hid hT; have HD := Lib.hid hd
  have HLD : Hid (ds.length = n3) := Lib.hid (by rw [← hd, List.length_map]; exact hT.len)
  have HBLK := Lib.hid hblk
  have hal : a < ys.length := by rw [hT.len]; exact ha
  obtain ⟨x, hxe⟩ : ∃ y, ys[a]'hal = y := ⟨_, rfl⟩
  have HDX := Lib.hid (dn_at hd hal hxe)
  have HXA : Hid (LtAt w x) := Lib.hid (by rw [← hxe]; exact hT.at_ _ (List.getElem_mem hal))
  obtain ⟨f, c, hf0, hc0, hc1, hfc⟩ := blk_parts (hblk a (by rw [HLD.out]; exact ha))
  rw [HDX.out] at hf0 hc0
  have hqf : x.q0 = (f : Int) := hf0
  have hqc : x.q1 = (c : Int) := hc0
  have hft : (dn ds a).q0.toNat = f := by rw [HDX.out]; show x.q0.toNat = f; rw [hqf]; rfl
  have hct : (dn ds a).q1.toNat = c := by rw [HDX.out]; show x.q1.toNat = c; rw [hqc]; rfl
  have hzx : (dn ds a).zs = x.zs := by rw [HDX.out]; rfl
  have HOB : Hid (∀ t, t < (outD ds a).length → blkP (dn (outD ds a) t).q0 (dn (outD ds a) t).q1) := Lib.hid ((outD_all (p := fun d => blkP d.q0 d.q1) (by rw [HLD.out]; exact ha)).2 fun t ht _ => hblk t ht)
  obtain ⟨M, hM⟩ : ∃ M, alongK (outD ds a) x.zs x.zs.length = M := ⟨_, rfl⟩
  have hMl : M < 2 ^ 24 := by rw [← hM]; exact along_lt HOB.out
  have HM := Lib.hid hM
  have hlv : lowV ds a hl = lowF (lowQ M c f hl) f := by unfold lowV; rw [hft, hct, hzx, hM]
  obtain ⟨r, hr⟩ : ∃ r, lowV ds a hl = r := ⟨_, rfl⟩
  have his := lowF_is (lowQ M c f hl) f
  rw [← hlv, hr] at his
  obtain ⟨L, hL⟩ : ∃ L, (List.range (25 - c)).filter (fitB M c) = L := ⟨_, rfl⟩
  have HFK : Hid (fitK M c (25 - c) = L.map fun i : Nat => ((i : Nat) : Int)) := Lib.hid (by unfold fitK; rw [hL])
  have hLl : L.length ≤ 24 := by
    rw [← hL]
    exact Nat.le_trans (List.length_filter_le _ _) (by rw [List.length_range]; omega)
  have HLB : Hid (∀ j (h : j < L.length), L[j] < 25) := Lib.hid fun j h => by
    have hm : L[j] ∈ (List.range (25 - c)).filter (fitB M c) := by rw [hL]; exact List.getElem_mem h
    have := List.mem_range.1 (List.mem_filter.1 hm).1
    omega
  have HEND : Hid (∀ k, k ≤ L.length → (∀ j (h : j < L.length), j < k → L[j] < f ∧ (!hl || decide (L[j] + c ≤ f)) = false) → ((h : k < L.length) → L[k] < f → (!hl || decide (L[k] + c ≤ f)) = true → L[k] = r) ∧ (((h : k < L.length) → f ≤ L[k]) → f = r)) := Lib.hid fun k hk hall =>
    ⟨fun h h1 h2 => low_one ((fits_low (by omega) hL hall hk).1 h h1 h2) his, fun h => low_one ((fits_low (by omega) hL hall hk).2 h) his⟩
  rw [hr]
  obtain ⟨W0, hW0⟩ : ∃ W0, w.alloc (Obj.cells #[.slice (some ⟨g1, 0, none⟩) n1 c1, .slice (some ⟨g2, 0, none⟩) n2 c2, .slice (some ⟨g3, 0, none⟩) n3 c3] 35) = W0 := ⟨_, rfl⟩
  have hb0 : Below w.heap.size w W0 := by rw [← hW0]; exact (Below.refl _ _).alloc (Nat.le_refl _) _
  have hz0 : W0.heap.size = w.heap.size + 1 := by rw [← hW0]; simp
  have p0 : W0.cell? ⟨w.heap.size, 0, none⟩ = some (.slice (some ⟨g1, 0, none⟩) n1 c1) := by rw [← hW0]; simp [go_sem]
  have p1 : W0.cell? ⟨w.heap.size, 1, none⟩ = some (.slice (some ⟨g2, 0, none⟩) n2 c2) := by rw [← hW0]; simp [go_sem]
  have p2 : W0.cell? ⟨w.heap.size, 2, none⟩ = some (.slice (some ⟨g3, 0, none⟩) n3 c3) := by rw [← hW0]; simp [go_sem]
  obtain ⟨hg3, e0, e1, e2, e3, e4⟩ := (hT.moved hb0).rd.ltc hal
  rw [Nat.zero_add, hxe] at e0 e1 e2 e3 e4
  rw [hqf] at e3
  rw [hqc] at e4
  obtain ⟨W1, hW1⟩ : ∃ W1, W0.alloc (Obj.cells #[.int .i64 x.p0, .int .i64 x.p1, .slice x.A x.n x.c, .int .i64 (f : Int), .int .i64 (c : Int)] 62) = W1 := ⟨_, rfl⟩
  have hb1 : Below W0.heap.size W0 W1 := by rw [← hW1]; exact (Below.refl _ _).alloc (Nat.le_refl _) _
  have hbw1 : Below w.heap.size w W1 := hb0.trans (hb1.mono (by omega))
  obtain ⟨j0, j1, j2, j3, j4⟩ := new5 _ _ _ _ _ _ _ W1 hW1 hz0
  have hz1 : W1.heap.size = w.heap.size + 2 := by rw [← hW1]; simp [hz0]
  have hzb : w.heap.size + 1 < W1.heap.size := by omega
  have hza : w.heap.size < W1.heap.size := by omega
  have hza0 : w.heap.size < W0.heap.size := by omega
  have q0 := (hb1.cell (p := ⟨w.heap.size, 0, none⟩) hza0).trans p0
  have q1 := (hb1.cell (p := ⟨w.heap.size, 1, none⟩) hza0).trans p1
  have q2 := (hb1.cell (p := ⟨w.heap.size, 2, none⟩) hza0).trans p2
  have HK : Hid (∀ u, Below W1.heap.size W1 u → u.cell? ⟨w.heap.size, 0, none⟩ = some (.slice (some ⟨g1, 0, none⟩) n1 c1) ∧ u.cell? ⟨w.heap.size, 1, none⟩ = some (.slice (some ⟨g2, 0, none⟩) n2 c2) ∧ u.cell? ⟨w.heap.size, 2, none⟩ = some (.slice (some ⟨g3, 0, none⟩) n3 c3) ∧ u.cell? ⟨w.heap.size + 1, 1, none⟩ = some (.int .i64 x.p1) ∧ u.cell? ⟨w.heap.size + 1, 2, none⟩ = some (.slice x.A x.n x.c) ∧ u.cell? ⟨w.heap.size + 1, 3, none⟩ = some (.int .i64 (f : Int)) ∧ u.cell? ⟨w.heap.size + 1, 4, none⟩ = some (.int .i64 (c : Int))) := Lib.hid fun u hu =>
    ⟨(hu.cell (p := ⟨w.heap.size, 0, none⟩) hza).trans q0, (hu.cell (p := ⟨w.heap.size, 1, none⟩) hza).trans q1, (hu.cell (p := ⟨w.heap.size, 2, none⟩) hza).trans q2, (hu.cell (p := ⟨w.heap.size + 1, 1, none⟩) hzb).trans j1, (hu.cell (p := ⟨w.heap.size + 1, 2, none⟩) hzb).trans j2, (hu.cell (p := ⟨w.heap.size + 1, 3, none⟩) hzb).trans j3, (hu.cell (p := ⟨w.heap.size + 1, 4, none⟩) hzb).trans j4⟩
  have CW : Hid (∀ U, Below W1.heap.size W1 U → Calls Tryz.prog 74 #[.agg #[.slice (some ⟨g1, 0, none⟩) n1 c1, .slice (some ⟨g2, 0, none⟩) n2 c2, .slice (some ⟨g3, 0, none⟩) n3 c3], .int .i64 (a : Int)] U fun e w' => ∃ (A1 A2 A3 : Option Addr) (d1 d2 d3 N : Nat) (zs : List Lt), e = .returned (.agg #[.slice A1 n1 d1, .slice A2 n2 d2, .slice A3 N d3]) ∧ Hid (N ≤ 12) ∧ Hid (zs.map Lt.d = outD ds a) ∧ Hid (LtC 0 A3 N d3 zs w') ∧ Below U.heap.size U w') := Lib.hid (fun U hU =>
    (l9Without_ (HNT.out.moved (hbw1.trans (hU.mono hbw1.size))) HT.out.len ((HT.out.moved (hbw1.trans (hU.mono hbw1.size))).rd) ((HT.out.moved (hbw1.trans (hU.mono hbw1.size))).at_) HSO.out (by omega) a ha).mono (fun e w' ⟨A1, A2, A3, d1, d2, d3, N, zs, h1, h2, h3, h4, h5⟩ => ⟨A1, A2, A3, d1, d2, d3, N, zs, h1, Lib.hid (by omega), Lib.hid (by rw [h3]; unfold outD; rw [← HD.out, List.map_append, List.map_take, List.map_drop]), Lib.hid (h4.base (Nat.zero_le _)), h5⟩))
  have CA : Hid (∀ (U : World) (A1 A2 A3 : Option Addr) (d1 d2 d3 N : Nat) (zs : List Lt), Below W1.heap.size W1 U → N ≤ 12 → zs.map Lt.d = outD ds a → LtC 0 A3 N d3 zs U → Calls Tryz.prog 94 #[.agg #[.slice A1 n1 d1, .slice A2 n2 d2, .slice A3 N d3], .agg #[.int .i64 x.p1, .slice x.A x.n x.c]] U (RetP (.int .i64 (M : Int)) U)) := Lib.hid (fun U A1 A2 A3 d1 d2 d3 N zs hU hN hzd hC => by
    rw [← HM.out]
    exact l9AlongR_ hC hzd (by omega) HOB.out x.p1 HXA.out.1 (HXA.out.2.2.moved (hbw1.trans (hU.mono hbw1.size))) HXA.out.2.1)
  have HW1 := Lib.hid hbw1
  have HZ1 := Lib.hid hz1
  clear h hT hd hblk hso hf0 hc0 hft hct hzx hM hlv hr his hL hb1 hb0 hbw1 j0 j1 j2 j3 j4 hxe hqf hqc
  go_enter Tryz.func52, Tryz.ntmps52
  go_wp2_with fail
  clear hW0 hW1 p0 p1 p2 e0 e1 e2 e3 e4 hza0
  have hbd : Bel W1 W1.drew := Bel.of (Below.refl _ _).drew
  go_upto_region 2 with fail
  go_cut [8] (fun s8 wx => s8 = .int .i64 (M : Int) ∧ Bel W1 wx)
  case first =>
    obtain ⟨y0, y1, y2, y3, y4, y5, y6⟩ := HK.out W1 (Below.refl _ _)
    go_region_with (first
      | (go_at_call 74; refine (CW.out _ (by first | exact Below.refl _ _ | exact (Below.refl _ _).drew | exact drewN_below (Below.refl _ _) _)).mono ?_; rintro e u1 ⟨A1, A2, A3, d1, d2, d3, N, zs, rfl, HN9, HD9, HC9, hbA⟩; have hbu : Below W1.heap.size W1 u1 := Below.trans (by first | exact Below.refl _ _ | exact (Below.refl _ _).drew | exact drewN_below (Below.refl _ _) _) hbA; obtain ⟨z0, z1, z2, z3, z4, z5, z6⟩ := HK.out u1 hbu)
      | (go_at_call 94; refine (CA.out _ _ _ _ _ _ _ _ _ (by first | exact hbu | exact hbu.drew | exact drewN_below hbu _) HN9.out HD9.out (by first | exact HC9.out | exact HC9.out.heapW rfl)).mono ?_; rintro e u2 ⟨rfl, hbB⟩; have hbv : Below W1.heap.size W1 u2 := Below.trans (by first | exact hbu | exact hbu.drew | exact drewN_below hbu _) (hbB.mono (by first | exact hbu.size | exact hbu.drew.size | exact (drewN_below hbu _).size))))
    all_goals
      go_wp2_with fail
      go_meet
      exact ⟨rfl, Bel.of hbv⟩
  case rest =>
  clear hbd q0 q1 q2
  revert hcut; generalize wc = W2; intro hcut
  obtain ⟨h8_, hbl⟩ := hcut
  subst h8_
  have hb2 := Bel.out hbl
  have HB2 := Lib.hid hb2
  have HBW2 := Lib.hid (HW1.out.trans (hb2.mono HW1.out.size))
  obtain ⟨_, _, _, _, _, y5, y6⟩ := HK.out W2 hb2
  have CF := Lib.hid (specFits M c W2 (by omega) hc1 (by omega))
  rw [HFK.out] at CF
  clear hbl hb2
  go_wp2_with fail
  refine CF.out.mono ?_
  rintro e w3 ⟨A3, N3, c3', rfl, HNN, hown, hb3⟩
  clear y5 y6
  have hNL : N3 = L.length := by have := HNN.out; rwa [List.length_map] at this
  have HNL := Lib.hid hNL
  have hN24 : N3 ≤ 24 := by omega
  have HOW := Lib.hid hown
  have HB3 := Lib.hid (HB2.out.trans (hb3.mono HB2.out.size))
  have HBW3 := Lib.hid (HBW2.out.trans (hb3.mono HBW2.out.size))
  have HKC : Hid (∀ u, Below w3.heap.size w3 u → u.cell? ⟨w.heap.size + 1, 3, none⟩ = some (.int .i64 (f : Int)) ∧ u.cell? ⟨w.heap.size + 1, 4, none⟩ = some (.int .i64 (c : Int))) := Lib.hid fun u hu => by
    have h9 := HK.out u (HB3.out.trans (hu.mono HB3.out.size))
    exact h9.2.2.2.2.2
  clear hown hb3 hNL
  go_wp2
  go_loopw [10] (fun i wr => ∃ k : Nat, k ≤ N3 ∧ i = .int .i64 k ∧ Hid (∀ j (h : j < L.length), j < k → L[j] < f ∧ (!hl || decide (L[j] + c ≤ f)) = false) ∧ Below w3.heap.size w3 wr) (fun i _ => N3 - (intOf i).toNat)
  case atStart => exact ⟨0, Nat.zero_le _, rfl, Lib.hid (fun j h hj => absurd hj (by omega)), Below.refl _ _⟩
  case round =>
    obtain ⟨k, hk, rfl, HALL, hb⟩ := hrel
    have HBR := Lib.hid hb
    have HBRW := Lib.hid (HBW3.out.trans (hb.mono HBW3.out.size))
    obtain ⟨y5, y6⟩ := HKC.out wr hb
    have HEK := Lib.hid (HEND.out k (by have := HNL.out; omega) HALL.out)
    by_cases hlt : k < N3
    case neg =>
      have HE : Hid ((f : Int) = (r : Int)) := Lib.hid (by rw [HEK.out.2 (fun h => absurd h (by have := HNL.out; omega))])
      have hl1 : ¬ ((k : Int) < (N3 : Int)) := by omega
      have hl2 : decide ((k : Int) < (N3 : Int)) = false := decide_eq_false hl1
      have hl3 : decide (k < N3) = false := decide_eq_false hlt
      clear hb hlt
      go_wp2_with fail
      go_quiet (fail)
      obtain ⟨W5, hW5⟩ : ∃ W5, wr.drewN nq = W5 := ⟨_, rfl⟩
      have hb5 : Below wr.heap.size wr W5 := by rw [← hW5]; exact drewN_below_ (Below.refl _ _) _
      have z5 := (HKC.out W5 (HBR.out.trans (hb5.mono HBR.out.size))).1
      have HB5 := Lib.hid (HBRW.out.trans (hb5.mono HBRW.out.size))
      rw [hW5]
      clear hW5 hb5 y5 y6
      go_wp2
      go_ret
      exact ⟨reti HE.out, HB5.out⟩
    case pos =>
    obtain ⟨g9, rfl⟩ := own_some HOW.out (by omega)
    have hkL : k < L.length := by have := HNL.out; omega
    obtain ⟨v, hv⟩ : ∃ v, L[k]'hkL = v := ⟨_, rfl⟩
    have HV := Lib.hid hv
    have hv25 : v < 25 := by rw [← hv]; exact HLB.out k hkL
    have hc9 := HOW.out.cellAt k (by omega)
    rw [List.getElem?_map, List.getElem?_map, List.getElem?_eq_getElem hkL, hv] at hc9
    simp only [Option.map_some] at hc9
    have hlg := (HOW.out.lt g9 rfl).2
    have HCV : Hid (∀ u, Below w3.heap.size w3 u → u.cell? ⟨g9, k, none⟩ = some (.int .i64 (v : Int))) := Lib.hid fun u hu => (hu.cell (p := ⟨g9, k, none⟩) hlg).trans hc9
    have hcw := HCV.out wr hb
    have hl1 : (k : Int) < (N3 : Int) := by omega
    have hl2 : decide ((k : Int) < (N3 : Int)) = true := decide_eq_true hl1
    have hl3 : decide (k < N3) = true := decide_eq_true hlt
    by_cases hvf : v < f
    case neg =>
      have HE : Hid ((f : Int) = (r : Int)) := Lib.hid (by rw [HEK.out.2 (fun h => by rw [HV.out]; omega)])
      have hv1 : ¬ ((v : Int) < (f : Int)) := by omega
      have hv2 : decide ((v : Int) < (f : Int)) = false := decide_eq_false hv1
      have hv3 : decide (v < f) = false := decide_eq_false hvf
      clear hb hlt hv hc9 hlg
      go_wp2_with fail
      go_quiet (fail)
      obtain ⟨W5, hW5⟩ : ∃ W5, wr.drewN nq = W5 := ⟨_, rfl⟩
      have hb5 : Below wr.heap.size wr W5 := by rw [← hW5]; exact drewN_below_ (Below.refl _ _) _
      have z5 := (HKC.out W5 (HBR.out.trans (hb5.mono HBR.out.size))).1
      have HB5 := Lib.hid (HBRW.out.trans (hb5.mono HBRW.out.size))
      rw [hW5]
      clear hW5 hb5 y5 y6 hcw
      go_wp2
      go_ret
      exact ⟨reti HE.out, HB5.out⟩
    case pos =>
    have HEV : Hid ((!hl || decide (v + c ≤ f)) = true → (v : Int) = (r : Int)) := Lib.hid (fun h => by rw [← HEK.out.1 (by have := HNL.out; omega) (by rw [HV.out]; exact hvf) (by rw [HV.out]; exact h), HV.out])
    have HAN : Hid ((!hl || decide (v + c ≤ f)) = false → ∀ j (h : j < L.length), j < k + 1 → L[j] < f ∧ (!hl || decide (L[j] + c ≤ f)) = false) := Lib.hid (fun h9 j h hj => by
      by_cases hjk : j < k
      · exact HALL.out j h hjk
      · obtain rfl : j = k := by omega
        rw [HV.out]; exact ⟨hvf, h9⟩)
    have hv1 : (v : Int) < (f : Int) := by omega
    have hv2 : decide ((v : Int) < (f : Int)) = true := decide_eq_true hv1
    have hv3 : decide (v < f) = true := decide_eq_true hvf
    clear hb hlt hv hc9 hlg
    go_wp2_with fail
    go_quiet (fail)
    obtain ⟨W5, hW5⟩ : ∃ W5, wr.drewN nq = W5 := ⟨_, rfl⟩
    have hb5 : Below wr.heap.size wr W5 := by rw [← hW5]; exact drewN_below_ (Below.refl _ _) _
    have HB5 := Lib.hid (HBR.out.trans (hb5.mono HBR.out.size))
    have HB5W := Lib.hid (HBRW.out.trans (hb5.mono HBRW.out.size))
    rw [hW5]
    clear hW5 hb5 y5 y6 hcw
    obtain ⟨y5, y6⟩ := HKC.out W5 HB5.out
    have hcw := HCV.out W5 HB5.out
    have hlN : k < N3 := by omega
    go_wp2_with fail
    cases hl
    case false =>
      have HE := Lib.hid (HEV.out rfl)
      go_quiet (fail)
      obtain ⟨W6, hW6⟩ : ∃ W6, W5.drewN nq = W6 := ⟨_, rfl⟩
      have hb6 : Below w3.heap.size w3 W6 := by rw [← hW6]; exact drewN_below_ HB5.out _
      have HB6W : Hid (Below w.heap.size w W6) := Lib.hid (by rw [← hW6]; exact drewN_below_ HB5W.out _)
      have hcx := HCV.out W6 hb6
      rw [hW6]
      clear hW6 hb6
      go_wp2
      go_ret
      exact ⟨reti HE.out, HB6W.out⟩
    case true =>
      by_cases hvc : v + c ≤ f
      case pos =>
        have HE := Lib.hid (HEV.out (by simp [hvc]))
        have hs1 : (v : Int) + (c : Int) ≤ (f : Int) := by omega
        have hs2 : decide ((v : Int) + (c : Int) ≤ (f : Int)) = true := decide_eq_true hs1
        have hs3 : decide (v + c ≤ f) = true := decide_eq_true hvc
        go_quiet (fail)
        obtain ⟨W6, hW6⟩ : ∃ W6, W5.drewN nq = W6 := ⟨_, rfl⟩
        have hb6 : Below w3.heap.size w3 W6 := by rw [← hW6]; exact drewN_below_ HB5.out _
        have HB6W : Hid (Below w.heap.size w W6) := Lib.hid (by rw [← hW6]; exact drewN_below_ HB5W.out _)
        have hcx := HCV.out W6 hb6
        rw [hW6]
        clear hW6 hb6
        go_wp2
        go_ret
        exact ⟨reti HE.out, HB6W.out⟩
      case neg =>
        have HA2 := Lib.hid (HAN.out (by simp [hvc]))
        have hs1 : ¬ ((v : Int) + (c : Int) ≤ (f : Int)) := by omega
        have hs2 : decide ((v : Int) + (c : Int) ≤ (f : Int)) = false := decide_eq_false hs1
        have hs3 : decide (v + c ≤ f) = false := decide_eq_false hvc
        go_quiet (fail)
        obtain ⟨W6, hW6⟩ : ∃ W6, W5.drewN nq = W6 := ⟨_, rfl⟩
        have HB6 : Hid (Below w3.heap.size w3 W6) := Lib.hid (by rw [← hW6]; exact drewN_below_ HB5.out _)
        rw [hW6]
        clear hW6
        go_wp2
        go_roundw
        case rel => exact ⟨k + 1, by omega, by go_num, HA2, HB6.out⟩
        case measure => simp [intOf]; omega
end Go.Proofs.YtflniajjecfgeaaGreatDoor
