/- Proved: at every argument impl.PlaceAmplifiers answers as spec.PlaceAmplifiers does, in memory of its own, and leaves its arguments alone (the law FnExactPlaceAmplifiers returns true). No condition. -/
import Derived.Test.YtgaankdmppoghaaRows
import Derived.Test.YtgaankdmppoghaaPlcI
import Derived.Test.YtgaankdmppoghaaMkSpan
import Derived.Test.YtgaankdmppoghaaMkAmp
import Derived.Test.YtgaankdmppoghaaDrawU
import Derived.Test.YtgaankdmppoghaaArg
import Derived.WalkKit
import Derived.ProofKit
import Derived.OpenShut
import Derived.ShutString
import Derived.SizedLaws
import Derived.Carry
namespace Go.Proofs.Ytgaankdmppoghaa.fnExactPlaceAmplifiers
open Go.ChangeShapes Go.WideShapes Go.ChangeAt Go.RowKit
open Go.ChangeMaps (open_string shut_string)

set_option maxRecDepth 100000 in
set_option maxHeartbeats 8000000 in
theorem walk (A0 : Option Addr) (n0 c0 : Nat) (qs : List Q3) (a : Q4) (l : Int) (d : Int) (w : World) (hn0 : qs.length = n0) (hm0 : n0 ≤ maxLen) (hr0 : Rd w w.heap.size A0 (qs.flatMap Q3.cells)) (hwf0 : ∀ q ∈ qs, q.wf) (_w1 : a.wf) (_w2 : (Lit.int .i64 l).wf = true) (_w3 : (Lit.int .i64 d).wf = true) :
    Calls Try.prog 8 #[.slice A0 n0 c0, .agg #[.int .i64 a.a, .int .i64 a.b, .int .i64 a.c, .int .i64 a.d], .int .i64 l, .int .i64 d] w fun e w' => e = .returned (.bool true) ∧ Below w.heap.size w w' := by
  unfold maxLen at hm0
  have HWF0 := Lib.hid hwf0; clear hwf0
  have HN0 := Lib.hid hn0; clear hn0
  have HR0 := Lib.hid hr0; clear hr0
  have W1_ := Lib.hid _w1; clear _w1
  have W2_ := Lib.hid _w2; clear _w2
  have W3_ := Lib.hid _w3; clear _w3
  obtain ⟨r0_, hr0_⟩ : ∃ ans_, plL qs a l d = ans_ := ⟨_, rfl⟩
  have HE0 := Lib.hid hr0_; clear hr0_
  obtain ⟨r1_, hr1_⟩ : ∃ ans_, plB qs a l d = ans_ := ⟨_, rfl⟩
  have HE1 := Lib.hid hr1_; clear hr1_
  obtain ⟨m0_, hm0_⟩ : ∃ m, r0_.length = m := ⟨_, rfl⟩
  have HM0 := Lib.hid hm0_
  have hms0 : m0_ ≤ 1048576 := by rw [← hm0_, ← HE0.out]; exact Nat.le_trans (plL_len qs a l d) (by omega)
  clear hm0_
  go_enter Try.func8, Try.ntmps8
  go_wp2_with fail
  obtain ⟨W0, hW0⟩ : ∃ W0, (w.alloc (Obj.cells #[.int .i64 a.a, .int .i64 a.b, .int .i64 a.c, .int .i64 a.d] 54)) = W0 := ⟨_, rfl⟩
  have KQ1_0 : Hid (W0.cell? ⟨w.heap.size, 0, none⟩ = some (.int .i64 a.a)) := Lib.hid (by rw [← hW0]; simp [go_sem])
  have KQ1_1 : Hid (W0.cell? ⟨w.heap.size, 1, none⟩ = some (.int .i64 a.b)) := Lib.hid (by rw [← hW0]; simp [go_sem])
  have KQ1_2 : Hid (W0.cell? ⟨w.heap.size, 2, none⟩ = some (.int .i64 a.c)) := Lib.hid (by rw [← hW0]; simp [go_sem])
  have KQ1_3 : Hid (W0.cell? ⟨w.heap.size, 3, none⟩ = some (.int .i64 a.d)) := Lib.hid (by rw [← hW0]; simp [go_sem])
  have HZQ1 : Hid (w.heap.size < W0.heap.size) := Lib.hid (by rw [← hW0]; simp; try omega)
  have HW0_ : Hid (Below w.heap.size w W0) := Lib.hid (by rw [← hW0]; exact ((Below.refl w.heap.size w).alloc (by simp; try omega) _))
  rw [hW0]
  clear hW0
  go_wp2_with fail
  refine (szSpS A0 n0 c0 1048576 W0 (by unfold maxLen; omega) (by omega) (by omega)).mono ?_
  rintro e w' ⟨v0, rfl, rfl, hv00, hv10, hv20⟩
  by_cases hneg0 : v0 < 0
  · go_wp2
    go_ret
    exact ⟨rfl, HW0_.out⟩
  have hp0 : 0 ≤ v0 := by omega
  have hsm0 : n0 ≤ 1048576 := by have := hv20 hp0; omega
  clear hneg0 hv20
  clear hm0
  have hB0 := Lib.hid (Below.refl W0.heap.size W0)
  have HV0_ := Lib.hid (HR0.out.moved HW0_.out); clear HR0; have HR0 := HV0_; clear HV0_
  have kq0_ : W0.cell? ⟨w.heap.size, 0, none⟩ = some (.int .i64 a.a) := (hB0.out.cell (p := ⟨_, _, none⟩) HZQ1.out).trans KQ1_0.out
  have kq1_ : W0.cell? ⟨w.heap.size, 1, none⟩ = some (.int .i64 a.b) := (hB0.out.cell (p := ⟨_, _, none⟩) HZQ1.out).trans KQ1_1.out
  have kq2_ : W0.cell? ⟨w.heap.size, 2, none⟩ = some (.int .i64 a.c) := (hB0.out.cell (p := ⟨_, _, none⟩) HZQ1.out).trans KQ1_2.out
  have kq3_ : W0.cell? ⟨w.heap.size, 3, none⟩ = some (.int .i64 a.d) := (hB0.out.cell (p := ⟨_, _, none⟩) HZQ1.out).trans KQ1_3.out
  have hbd_ : Bel W0 W0.drew := Bel.of (Below.refl _ _).drew
  have hgw_ : w.heap.size < W0.heap.size := Nat.lt_of_lt_of_le HZQ1.out hB0.out.size
  go_upto_region 5 with fail
  go_cut [10, 11] (fun sa_ sb_ wx => CutL 57 4 (r0_.flatMap Q4.cells) m0_ (.bool r1_) W0 sa_ sb_ wx)
  case first =>
    go_region_held3 (fun U => U.cell? ⟨w.heap.size, 0, none⟩ = some (.int .i64 a.a) ∧ U.cell? ⟨w.heap.size, 1, none⟩ = some (.int .i64 a.b) ∧ U.cell? ⟨w.heap.size, 2, none⟩ = some (.int .i64 a.c) ∧ U.cell? ⟨w.heap.size, 3, none⟩ = some (.int .i64 a.d) ∧ Bel W0 U)
      (first | go_keep | (go_split_ands; (refine ⟨?_, ?_, ?_, ?_, ?_⟩ <;> first | assumption | exact Bel.step (by assumption) hbc1a | exact (Bel.at_ (by assumption) hbc1a (by assumption)).trans (by assumption) | exact Bel.step (by assumption) hbc1b | exact (Bel.at_ (by assumption) hbc1b (by assumption)).trans (by assumption) | exact Bel.step (by assumption) hbc1z | exact (Bel.at_ (by assumption) hbc1z (by assumption)).trans (by assumption))))
      (first
        | (go_at_call 23
           go_split_ands
           refine (toSpS A0 n0 c0 qs _ HN0.out (HR0.out.moved (Below.trans hB0.out ((Bel.out (by assumption)).mono hB0.out.size))) hsm0).mono ?_
           rintro e u1a ⟨rfl, hoc1a, hbc1a⟩
           have Rc1a := Lib.hid (fun (V : World) (hV : Below u1a.heap.size u1a V) => (Rd.ofOwnK hoc1a).moved hV)
           clear hoc1a)
        | (go_at_call 38
           go_split_ands
           refine (toAm _ _ _ _ _).mono ?_
           rintro e u1b ⟨rfl, hbc1b⟩)
        | (go_at_call 37
           go_split_ands
           refine (sPlcW _ n0 n0 qs a l d _ HN0.out hsm0 (Rc1a.out _ (by first | exact Below.refl _ _ | assumption))).mono ?_
           rw [HE0.out, HE1.out, HM0.out]
           rintro e u1z ⟨A1z, c1z, rfl, ho1z, hbc1z⟩))
    all_goals
      go_split_ands
      have hbl : Bel W0 u1z := by assumption
      have hbm : Bel W0 u1b := by assumption
      have hsz_ : W0.heap.size ≤ u1b.heap.size := (Bel.out hbm).size
      clear kq0_ kq1_ kq2_ kq3_
      go_wp2_with fail
      go_meet
      exact ⟨_, _, rfl, rfl, own_base_ ho1z hsz_, hbl⟩
  case rest =>
  clear hbd_ hgw_ kq0_ kq1_ kq2_ kq3_
  revert hcut; generalize wc = w1; intro hcut
  obtain ⟨Aw0, cw0, h0_, h1_, how0, hbl⟩ := hcut
  subst h0_ h1_
  have hb1 : Below W0.heap.size W0 w1 := Bel.out hbl
  clear hbl
  have hB1 := Lib.hid (hB0.out.trans (hb1.mono hB0.out.size))
  have Z1_ : Hid (W0.heap.size ≤ w1.heap.size) := Lib.hid hb1.size
  have M2_ := Lib.hid how0
  have B3_ : Hid (∀ g, Aw0 = some ⟨g, 0, none⟩ → W0.heap.size ≤ g ∧ g < w1.heap.size) := Lib.hid fun g hg => by subst hg; exact how0.lt _ rfl
  clear how0
  clear hb1
  go_wp2_with fail
  refine (toSpS A0 n0 c0 qs w1 HN0.out (HR0.out.moved hB1.out) hsm0).mono ?_
  rintro e w2 ⟨rfl, hox0, hb2⟩
  have hB2 := Lib.hid (hB1.out.trans (hb2.mono hB1.out.size))
  have Z4_ : Hid (w1.heap.size ≤ w2.heap.size) := Lib.hid hb2.size
  have M5_ := Lib.hid (ownB M2_.out hb2)
  clear M2_
  have M6_ := Lib.hid (Rd.ofOwnK hox0)
  have M7_ := Lib.hid hox0
  have B8_ : Hid (∀ g, (some ⟨w1.heap.size, 0, none⟩ : Option Addr) = some ⟨g, 0, none⟩ → w1.heap.size ≤ g ∧ g < w2.heap.size) := Lib.hid fun g hg => by injection hg with hg; injection hg with hg; subst hg; exact hox0.lt _ rfl
  clear hox0
  clear hb2
  have kq0_ : w2.cell? ⟨w.heap.size, 0, none⟩ = some (.int .i64 a.a) := (hB2.out.cell (p := ⟨_, _, none⟩) HZQ1.out).trans KQ1_0.out
  have kq1_ : w2.cell? ⟨w.heap.size, 1, none⟩ = some (.int .i64 a.b) := (hB2.out.cell (p := ⟨_, _, none⟩) HZQ1.out).trans KQ1_1.out
  have kq2_ : w2.cell? ⟨w.heap.size, 2, none⟩ = some (.int .i64 a.c) := (hB2.out.cell (p := ⟨_, _, none⟩) HZQ1.out).trans KQ1_2.out
  have kq3_ : w2.cell? ⟨w.heap.size, 3, none⟩ = some (.int .i64 a.d) := (hB2.out.cell (p := ⟨_, _, none⟩) HZQ1.out).trans KQ1_3.out
  go_wp2_with fail
  refine (toAm _ _ _ _ w2).mono ?_
  rintro e w3 ⟨rfl, hb3⟩
  have hB3 := Lib.hid (hB2.out.trans (hb3.mono hB2.out.size))
  have Z9_ : Hid (w2.heap.size ≤ w3.heap.size) := Lib.hid hb3.size
  have M10_ := Lib.hid (M6_.out.moved hb3)
  clear M6_
  have M11_ := Lib.hid (ownB M5_.out hb3)
  clear M5_
  have M12_ := Lib.hid (ownB M7_.out hb3)
  clear M7_
  clear hb3
  clear kq0_ kq1_ kq2_ kq3_
  go_wp2_with fail
  refine (iPlcW _ n0 n0 qs a l d w3 HN0.out hsm0 M10_.out).mono ?_
  rw [HE0.out, HE1.out, HM0.out]
  rintro e w4 ⟨Ag0, cg0, rfl, hog0, hb4⟩
  have hB4 := Lib.hid (hB3.out.trans (hb4.mono hB3.out.size))
  have Z13_ : Hid (w3.heap.size ≤ w4.heap.size) := Lib.hid hb4.size
  have M14_ := Lib.hid (M10_.out.moved hb4)
  clear M10_
  have M15_ := Lib.hid (ownB M11_.out hb4)
  clear M11_
  have M16_ := Lib.hid (ownB M12_.out hb4)
  clear M12_
  have M17_ := Lib.hid hog0
  have B18_ : Hid (∀ g, Ag0 = some ⟨g, 0, none⟩ → w3.heap.size ≤ g ∧ g < w4.heap.size) := Lib.hid fun g hg => by subst hg; exact hog0.lt _ rfl
  clear hog0
  clear hb4
  go_wp2_with fail
  refine (eqAmA r0_ w4 HM0.out M17_.out M15_.out hms0).mono ?_
  rintro e w5 ⟨rfl, hb5⟩
  have hB5 := Lib.hid (hB4.out.trans (hb5.mono hB4.out.size))
  have Z19_ : Hid (w4.heap.size ≤ w5.heap.size) := Lib.hid hb5.size
  have M20_ := Lib.hid (M14_.out.moved hb5)
  clear M14_
  have M21_ := Lib.hid (ownB M15_.out hb5)
  clear M15_
  have M22_ := Lib.hid (ownB M16_.out hb5)
  clear M16_
  have M23_ := Lib.hid (ownB M17_.out hb5)
  clear M17_
  clear hb5
  go_wp2_with fail
  refine (toSpS A0 n0 c0 qs w5 HN0.out (HR0.out.moved hB5.out) hsm0).mono ?_
  rintro e w6 ⟨rfl, hoe0, hb6⟩
  have hB6 := Lib.hid (hB5.out.trans (hb6.mono hB5.out.size))
  have Z24_ : Hid (w5.heap.size ≤ w6.heap.size) := Lib.hid hb6.size
  have M25_ := Lib.hid (M20_.out.moved hb6)
  clear M20_
  have M26_ := Lib.hid (ownB M21_.out hb6)
  clear M21_
  have M27_ := Lib.hid (ownB M22_.out hb6)
  clear M22_
  have M28_ := Lib.hid (ownB M23_.out hb6)
  clear M23_
  have M29_ := Lib.hid (Rd.ofOwnK hoe0)
  clear hoe0
  clear hb6
  go_wp2_with fail
  refine (eqSpS _ _ n0 n0 n0 qs w6 HN0.out M25_.out M29_.out hsm0).mono ?_
  rintro e w7 ⟨rfl, hb7⟩
  have hB7 := Lib.hid (hB6.out.trans (hb7.mono hB6.out.size))
  have Z30_ : Hid (w6.heap.size ≤ w7.heap.size) := Lib.hid hb7.size
  have M31_ := Lib.hid (M25_.out.moved hb7)
  clear M25_
  have M32_ := Lib.hid (M29_.out.moved hb7)
  clear M29_
  have M33_ := Lib.hid (ownB M26_.out hb7)
  clear M26_
  have M34_ := Lib.hid (ownB M27_.out hb7)
  clear M27_
  have M35_ := Lib.hid (ownB M28_.out hb7)
  clear M28_
  clear hb7
  obtain ⟨ys0_, hys0_⟩ := q3cells qs
  have HO0_ := M34_.out
  rw [hys0_] at HO0_
  have M34_i := Lib.hid HO0_; clear HO0_ hys0_
  go_wp2_with fail
  refine (mkSp 1 w7 M34_i.out (by omega) (by omega) (by omega)).mono ?_
  rintro e w8 ⟨z8, rfl, hz8, hoff8, ho8⟩
  have HZ8 := Lib.hid hz8
  have hz08 : 0 ≤ z8 := by omega
  have hz18 : z8 ≤ 3145729 := by omega
  have hzn8 : decide (z8 < 0) = false := decide_eq_false (by omega)
  clear hz8
  have hB8 := Lib.hid (hB7.out.trans (hoff8.below hB7.out.size (fun g hg => by have h1 := B8_.out g hg; have y0 := Z1_.out; have y1 := Z4_.out; have y2 := Z9_.out; have y3 := Z13_.out; have y4 := Z19_.out; have y5 := Z24_.out; have y6 := Z30_.out; omega)))
  have Z36_ : Hid (w7.heap.size ≤ w8.heap.size) := Lib.hid hoff8.size
  have M37_ := Lib.hid (hoff8.own M33_.out (fun g hg hg2 => by have h1 := B8_.out g hg2; have h2 := B3_.out g hg; have y0 := Z1_.out; have y1 := Z4_.out; have y2 := Z9_.out; have y3 := Z13_.out; have y4 := Z19_.out; have y5 := Z24_.out; have y6 := Z30_.out; omega))
  clear M33_
  have M38_ := Lib.hid (hoff8.own M35_.out (fun g hg hg2 => by have h1 := B8_.out g hg2; have h2 := B18_.out g hg; have y0 := Z1_.out; have y1 := Z4_.out; have y2 := Z9_.out; have y3 := Z13_.out; have y4 := Z19_.out; have y5 := Z24_.out; have y6 := Z30_.out; omega))
  clear M35_
  have M39_ := Lib.hid ho8
  clear hoff8 ho8
  go_wp2_with fail
  refine (eqAmA r0_ w8 HM0.out M38_.out M37_.out hms0).mono ?_
  rintro e w9 ⟨rfl, hb9⟩
  have hB9 := Lib.hid (hB8.out.trans (hb9.mono hB8.out.size))
  have Z40_ : Hid (w8.heap.size ≤ w9.heap.size) := Lib.hid hb9.size
  have M41_ := Lib.hid (ownB M37_.out hb9)
  clear M37_
  have M42_ := Lib.hid (ownB M38_.out hb9)
  clear M38_
  clear hb9
  obtain ⟨yr0_, hyr0_⟩ := q4cells r0_
  have HO0g_ := M42_.out
  rw [hyr0_] at HO0g_
  have M42_i := Lib.hid HO0g_; clear HO0g_ hyr0_
  go_wp2_with fail
  refine (mkAm 1 w9 M42_i.out (by omega) (by omega) (by omega)).mono ?_
  rintro e w10 ⟨z10, rfl, hz10, hoff10, ho10⟩
  have HZ10 := Lib.hid hz10
  have hz010 : 0 ≤ z10 := by omega
  have hz110 : z10 ≤ 4194305 := by omega
  have hzn10 : decide (z10 < 0) = false := decide_eq_false (by omega)
  clear hz10
  have hB10 := Lib.hid (hB9.out.trans (hoff10.below hB9.out.size (fun g hg => by have h1 := B18_.out g hg; have y0 := Z1_.out; have y1 := Z4_.out; have y2 := Z9_.out; have y3 := Z13_.out; have y4 := Z19_.out; have y5 := Z24_.out; have y6 := Z30_.out; have y7 := Z36_.out; have y8 := Z40_.out; omega)))
  have Z43_ : Hid (w9.heap.size ≤ w10.heap.size) := Lib.hid hoff10.size
  have M44_ := Lib.hid (hoff10.own M41_.out (fun g hg hg2 => by have h1 := B18_.out g hg2; have h2 := B3_.out g hg; have y0 := Z1_.out; have y1 := Z4_.out; have y2 := Z9_.out; have y3 := Z13_.out; have y4 := Z19_.out; have y5 := Z24_.out; have y6 := Z30_.out; have y7 := Z36_.out; have y8 := Z40_.out; omega))
  clear M41_
  have M45_ := Lib.hid ho10
  clear hoff10 ho10
  go_wp2_with fail
  refine (hdAm 1 w10 (Rd.ofOwnK M45_.out) (by omega) (by omega) (by omega)).mono ?_
  rintro e w' ⟨zq, rfl, hzq, rfl⟩
  obtain rfl : z10 = zq := HZ10.out.trans hzq.symm
  clear hzq
  have kq0_ : w10.cell? ⟨w.heap.size, 0, none⟩ = some (.int .i64 a.a) := (hB10.out.cell (p := ⟨_, _, none⟩) HZQ1.out).trans KQ1_0.out
  have kq1_ : w10.cell? ⟨w.heap.size, 1, none⟩ = some (.int .i64 a.b) := (hB10.out.cell (p := ⟨_, _, none⟩) HZQ1.out).trans KQ1_1.out
  have kq2_ : w10.cell? ⟨w.heap.size, 2, none⟩ = some (.int .i64 a.c) := (hB10.out.cell (p := ⟨_, _, none⟩) HZQ1.out).trans KQ1_2.out
  have kq3_ : w10.cell? ⟨w.heap.size, 3, none⟩ = some (.int .i64 a.d) := (hB10.out.cell (p := ⟨_, _, none⟩) HZQ1.out).trans KQ1_3.out
  have hbd_ : Bel w10 w10.drew := Bel.of (Below.refl _ _).drew
  have hgw_ : w.heap.size < w10.heap.size := Nat.lt_of_lt_of_le HZQ1.out hB10.out.size
  go_upto_region 24 with fail
  go_cut [18, 19] (fun sa_ sb_ wx => CutL 57 4 (r0_.flatMap Q4.cells) m0_ (.bool r1_) w10 sa_ sb_ wx)
  case first =>
    go_region_held3 (fun U => U.cell? ⟨w.heap.size, 0, none⟩ = some (.int .i64 a.a) ∧ U.cell? ⟨w.heap.size, 1, none⟩ = some (.int .i64 a.b) ∧ U.cell? ⟨w.heap.size, 2, none⟩ = some (.int .i64 a.c) ∧ U.cell? ⟨w.heap.size, 3, none⟩ = some (.int .i64 a.d) ∧ Bel w10 U)
      (first | go_keep | (go_split_ands; (refine ⟨?_, ?_, ?_, ?_, ?_⟩ <;> first | assumption | exact Bel.step (by assumption) hbc1a | exact (Bel.at_ (by assumption) hbc1a (by assumption)).trans (by assumption) | exact Bel.step (by assumption) hbc1b | exact (Bel.at_ (by assumption) hbc1b (by assumption)).trans (by assumption) | exact Bel.step (by assumption) hbc1z | exact (Bel.at_ (by assumption) hbc1z (by assumption)).trans (by assumption))))
      (first
        | (go_at_call 23
           go_split_ands
           refine (toSpS A0 n0 c0 qs _ HN0.out (HR0.out.moved (Below.trans hB10.out ((Bel.out (by assumption)).mono hB10.out.size))) hsm0).mono ?_
           rintro e u1a ⟨rfl, hoc1a, hbc1a⟩
           have Rc1a := Lib.hid (fun (V : World) (hV : Below u1a.heap.size u1a V) => (Rd.ofOwnK hoc1a).moved hV)
           clear hoc1a)
        | (go_at_call 38
           go_split_ands
           refine (toAm _ _ _ _ _).mono ?_
           rintro e u1b ⟨rfl, hbc1b⟩)
        | (go_at_call 39
           go_split_ands
           refine (iPlcW _ n0 n0 qs a l d _ HN0.out hsm0 (Rc1a.out _ (by first | exact Below.refl _ _ | assumption))).mono ?_
           rw [HE0.out, HE1.out, HM0.out]
           rintro e u1z ⟨A1z, c1z, rfl, ho1z, hbc1z⟩))
    all_goals
      go_split_ands
      have hbl : Bel w10 u1z := by assumption
      have hbm : Bel w10 u1b := by assumption
      have hsz_ : w10.heap.size ≤ u1b.heap.size := (Bel.out hbm).size
      clear kq0_ kq1_ kq2_ kq3_
      go_wp2_with fail
      go_meet
      exact ⟨_, _, rfl, rfl, own_base_ ho1z hsz_, hbl⟩
  case rest =>
  clear hbd_ hgw_ kq0_ kq1_ kq2_ kq3_
  revert hcut; generalize wc = w11; intro hcut
  obtain ⟨Ah0, ch0, h0_, h1_, hoh0, hbl⟩ := hcut
  subst h0_ h1_
  have hb11 : Below w10.heap.size w10 w11 := Bel.out hbl
  clear hbl
  have hB11 := Lib.hid (hB10.out.trans (hb11.mono hB10.out.size))
  have Z46_ : Hid (w10.heap.size ≤ w11.heap.size) := Lib.hid hb11.size
  have M47_ := Lib.hid (ownB M44_.out hb11)
  clear M44_
  have M48_ := Lib.hid (ownB M45_.out hb11)
  clear M45_
  have M49_ := Lib.hid hoh0
  have B50_ : Hid (∀ g, Ah0 = some ⟨g, 0, none⟩ → w10.heap.size ≤ g ∧ g < w11.heap.size) := Lib.hid fun g hg => by subst hg; exact hoh0.lt _ rfl
  clear hoh0
  clear hb11
  go_wp2_with fail
  refine (eqAmA r0_ w11 HM0.out M49_.out M47_.out hms0).mono ?_
  rintro e w12 ⟨rfl, hb12⟩
  have hB12 := Lib.hid (hB11.out.trans (hb12.mono hB11.out.size))
  have Z51_ : Hid (w11.heap.size ≤ w12.heap.size) := Lib.hid hb12.size
  have M52_ := Lib.hid (ownB M47_.out hb12)
  clear M47_
  have M53_ := Lib.hid (ownB M48_.out hb12)
  clear M48_
  have M54_ := Lib.hid (ownB M49_.out hb12)
  clear M49_
  clear hb12
  go_wp2_with fail
  refine (hdAm 1 w12 (Rd.ofOwnK M53_.out) (by omega) (by omega) (by omega)).mono ?_
  rintro e w' ⟨zq, rfl, hzq, rfl⟩
  obtain rfl : z10 = zq := HZ10.out.trans hzq.symm
  clear hzq
  go_wp2
  go_ret
  exact ⟨rfl, HW0_.out.trans (hB12.out.mono HW0_.out.size)⟩


theorem own : ownKnob Try.prog.godebug = none := by kernel_rfl
theorem laidOut : laidOutB Try.prog = true := by kernel_rfl
set_option maxRecDepth 100000 in
theorem lifted (os : Os) (started : os.Started) (H : Type) (enc : TypeId × Value → H) :
    ReturnsInHanded {} Try.checked os 8 .any (Rows.fnExactPlaceAmplifiersSpec.pre6 enc Try.prog Try.f8 Rows.fnExactPlaceAmplifiersRow.domain false) (Rows.fnExactPlaceAmplifiersSpec.post enc Try.prog Try.f8 false true false false) := by
  refine returnsInHanded_of_change_sized (C := Try.checked) own started (by kernel_rfl) Try.func8
    (ChangeSpec.witness6 (enc := enc) (C := Try.checked) false ⟨#[], #[.slice none 0 0, .agg #[.int .i64 0, .int .i64 0, .int .i64 0, .int .i64 0], .int .i64 0, .int .i64 0], []⟩ 8 (by kernel_rfl) (by kernel_rfl) (by kernel_rfl) (by kernel_rfl)) ?_
  intro W base args ds gs before hval0 hW _ hsz0 _
  clear hsz0
  have hval : ∀ (j : Nat) t v, Try.f8.params[j]? = some t → args[j]? = some v → Value.okWide Try.prog W .any base t v := hval0
  have hW' := hW
  obtain ⟨p, q, hA0, hV, rfl, _, _⟩ := hW
  have hA : DataW.TrodAll enc Try.prog W 0 (fun _ => true) true Try.f8.params.toList args.toList ds p := hA0
  rw [Try.params8] at hA hval
  obtain ⟨v0, vs0, d0, ds0, p0, q0, hargs, rfl, rfl, h0, r0⟩ := trodAll_cons hA
  obtain ⟨v1, vs1, d1, ds1, p1, q1, rfl, rfl, rfl, h1, r1⟩ := trodAll_cons r0
  obtain ⟨v2, vs2, d2, ds2, p2, q2, rfl, rfl, rfl, h2, r2⟩ := trodAll_cons r1
  obtain ⟨v3, vs3, d3, ds3, p3, q3, rfl, rfl, rfl, h3, r3⟩ := trodAll_cons r2
  obtain ⟨rfl, rfl, rfl⟩ := trodAll_nil r3
  obtain rfl : args = #[v0, v1, v2, v3] := by cases args; simp_all
  obtain ⟨rfl, rfl⟩ := trodVars_none hV
  simp only [List.append_nil] at hW'
  have hlt0 : ∀ x ∈ p0, x.block < W.heap.size := fun x hx => by simpa using hW'.lt x (by simp [hx])
  have hlt1 : ∀ x ∈ p1, x.block < W.heap.size := fun x hx => by simpa using hW'.lt x (by simp [hx])
  have hlt2 : ∀ x ∈ p2, x.block < W.heap.size := fun x hx => by simpa using hW'.lt x (by simp [hx])
  have hlt3 : ∀ x ∈ p3, x.block < W.heap.size := fun x hx => by simpa using hW'.lt x (by simp [hx])
  have fin : ∀ W' : World, Below W.heap.size W W' → Rows.fnExactPlaceAmplifiersSpec.post enc Try.checked.prog Try.f8 false true false false W #[v0, v1, v2, v3] (.bool true) W' := by
    intro W' hb
    refine ⟨_, _, _, [] ++ [], (p0 ++ (p1 ++ (p2 ++ (p3 ++ [])))), [], hW', ?_, ?_, rfl, hb.frame _, fun h => by cases h⟩
    · exact trodAll_mk1 (shut_bool Try.underlying4 true)
    · exact trodAll_cons_mk (Below.trod laidOut (by kernel_rfl) (of_decide_eq_true (by kernel_rfl)) h0 hb hlt0) (trodAll_cons_mk (Below.trod laidOut (by kernel_rfl) (of_decide_eq_true (by kernel_rfl)) h1 hb hlt1) (trodAll_cons_mk (Below.trod laidOut (by kernel_rfl) (of_decide_eq_true (by kernel_rfl)) h2 hb hlt2) (trodAll_cons_mk (Below.trod laidOut (by kernel_rfl) (of_decide_eq_true (by kernel_rfl)) h3 hb hlt3) (trodAll_mk0))))
  clear hW' hV hA0
  obtain ⟨b0, len0, cap0, rfl⟩ := okWide_slice Try.underlying31 (hval 0 31 v0 rfl rfl)
  obtain ⟨fuel0, hf0⟩ := h0
  obtain ⟨A0, n0, c0, z0, e0, ha0, hb0, hc0, hd0⟩ := rd_q3s Try.underlying31 Try.underlying23 (by kernel_rfl) (by kernel_rfl) rfl (hint_of Try.underlying3 (by decide +kernel)) hf0
  simp only [Value.cells, List.cons.injEq, Value.slice.injEq, and_true] at e0
  obtain ⟨rfl, rfl, rfl⟩ := e0
  obtain ⟨q1_, rfl, w1⟩ := open_q4 Try.underlying54 (by kernel_rfl) (by kernel_rfl) rfl (hint_of Try.underlying3 (by decide +kernel)) (hval 1 54 v1 rfl rfl) h1
  obtain ⟨a2, rfl, _, _, w2⟩ := open_int Try.underlying3 (hval 2 3 v2 rfl rfl) h2
  obtain ⟨a3, rfl, _, _, w3⟩ := open_int Try.underlying3 (hval 3 3 v3 rfl rfl) h3
  exact (walk b0 len0 cap0 z0 q1_ a2 a3 W ha0 hb0 hc0 hd0 w1 w2 w3).mono fun e W' ⟨he, hb⟩ => ⟨_, he, fin W' hb⟩

theorem over : Rows.fnExactPlaceAmplifiersRow.holds Try.pinned (OpenSpec.ofChange Rows.fnExactPlaceAmplifiersSpec) :=
  OpenClaim.holds_of_wide 8 Try.f8 rfl rfl rfl rfl rfl rfl rfl ⟨rfl, rfl, rfl, rfl, rfl⟩ rfl rfl rfl rfl rfl (by kernel_rfl) Try.func8 (by kernel_rfl)
    (of_decide_eq_true (by kernel_rfl)) (by unfold Func.isWrapper; first | (rw [if_pos (by decide +kernel)]; kernel_rfl) | (rw [if_neg (by decide +kernel)]; exact ⟨rfl, rfl⟩))
    (fun os started H enc _ => lifted os started H enc)

/-- THE STATEMENT -/
theorem proved : Rows.FnExactPlaceAmplifiersSaid :=
  over
end Go.Proofs.Ytgaankdmppoghaa.fnExactPlaceAmplifiers
