/- Proved: at every argument impl.PowerProfile answers as spec.PowerProfile does, in memory of its own, and leaves its arguments alone (the law FnExactPowerProfile returns true). No condition. -/
import Derived.Test.YtgaankdmppoghaaRows
import Derived.Test.YtgaankdmppoghaaLevF
import Derived.Test.YtgaankdmppoghaaMkInt
import Derived.Test.YtgaankdmppoghaaMkSpan
import Derived.Test.YtgaankdmppoghaaMkAmp
import Derived.Test.YtgaankdmppoghaaArg
import Derived.WalkKit
import Derived.ProofKit
import Derived.OpenShut
import Derived.ShutString
import Derived.SizedLaws
import Derived.Carry
namespace Go.Proofs.Ytgaankdmppoghaa.fnExactPowerProfile
open Go.ChangeShapes Go.WideShapes Go.ChangeAt Go.RowKit
open Go.ChangeMaps (open_string shut_string)

set_option maxRecDepth 100000 in
set_option maxHeartbeats 8000000 in
theorem walk (A0 : Option Addr) (n0 c0 : Nat) (qs : List Q3) (A1 : Option Addr) (n1 c1 : Nat) (am : List Q4) (l : Int) (w : World) (hn0 : qs.length = n0) (hm0 : n0 ≤ maxLen) (hr0 : Rd w w.heap.size A0 (qs.flatMap Q3.cells)) (hwf0 : ∀ q ∈ qs, q.wf) (hn1 : am.length = n1) (hm1 : n1 ≤ maxLen) (hr1 : Rd w w.heap.size A1 (am.flatMap Q4.cells)) (hwf1 : ∀ q ∈ am, q.wf) (_w2 : (Lit.int .i64 l).wf = true) :
    Calls Try.prog 5 #[.slice A0 n0 c0, .slice A1 n1 c1, .int .i64 l] w fun e w' => e = .returned (.bool true) ∧ Below w.heap.size w w' := by
  unfold maxLen at hm0
  unfold maxLen at hm1
  have HWF0 := Lib.hid hwf0; clear hwf0
  have HWF1 := Lib.hid hwf1; clear hwf1
  have HN0 := Lib.hid hn0; clear hn0
  have HR0 := Lib.hid hr0; clear hr0
  have HN1 := Lib.hid hn1; clear hn1
  have HR1 := Lib.hid hr1; clear hr1
  have W2_ := Lib.hid _w2; clear _w2
  obtain ⟨r0_, hr0_⟩ : ∃ r, aftA qs am l = r := ⟨_, rfl⟩
  have HE0 := Lib.hid hr0_; clear hr0_
  obtain ⟨r1_, hr1_⟩ : ∃ r, levOk qs am l = r := ⟨_, rfl⟩
  have HE1 := Lib.hid hr1_; clear hr1_
  obtain ⟨m0_, hm0_⟩ : ∃ m, r0_.length = m := ⟨_, rfl⟩
  have HM0 := Lib.hid hm0_
  have hms0 : m0_ ≤ 1048576 := by rw [← hm0_, ← HE0.out]; exact aft_bd qs am l
  clear hm0_
  go_enter Try.func5, Try.ntmps5
  go_wp2_with fail
  refine (szSpS A0 n0 c0 1048576 w (by unfold maxLen; omega) (by omega) (by omega)).mono ?_
  rintro e w' ⟨v0, rfl, rfl, hv00, hv10, hv20⟩
  by_cases hneg0 : v0 < 0
  · go_wp2
    go_ret
    exact ⟨rfl, Below.refl _ _⟩
  have hp0 : 0 ≤ v0 := by omega
  have hsm0 : n0 ≤ 1048576 := by have := hv20 hp0; omega
  clear hneg0 hv20
  go_wp2_with fail
  refine (szAmS A1 n1 c1 v0 w (by unfold maxLen; omega) (by omega) (by omega)).mono ?_
  rintro e w' ⟨v1, rfl, rfl, hv01, hv11, hv21⟩
  by_cases hneg1 : v1 < 0
  · go_wp2
    go_ret
    exact ⟨rfl, Below.refl _ _⟩
  have hp1 : 0 ≤ v1 := by omega
  have hsm1 : n1 ≤ 1048576 := by have := hv21 hp1; omega
  clear hneg1 hv21
  clear hm0
  clear hm1
  have hB0 := Lib.hid (Below.refl w.heap.size w)
  go_wp2_with fail
  refine (toSpS A0 n0 c0 qs w HN0.out (HR0.out.moved hB0.out) hsm0).mono ?_
  rintro e w1 ⟨rfl, hos0, hb1⟩
  have hB1 := Lib.hid (hB0.out.trans (hb1.mono hB0.out.size))
  have Z1_ : Hid (w.heap.size ≤ w1.heap.size) := Lib.hid hb1.size
  have M2_ := Lib.hid (Rd.ofOwnK hos0)
  clear hos0
  clear hb1
  go_wp2_with fail
  refine (toAmS A1 n1 c1 am w1 HN1.out (HR1.out.moved hB1.out) hsm1).mono ?_
  rintro e w2 ⟨rfl, hos1, hb2⟩
  have hB2 := Lib.hid (hB1.out.trans (hb2.mono hB1.out.size))
  have Z3_ : Hid (w1.heap.size ≤ w2.heap.size) := Lib.hid hb2.size
  have M4_ := Lib.hid (M2_.out.moved hb2)
  clear M2_
  have M5_ := Lib.hid (Rd.ofOwnK hos1)
  clear hos1
  clear hb2
  go_wp2_with fail
  refine (sProW _ n0 n0 _ n1 n1 qs am l w2 HN0.out hsm0 M4_.out HN1.out hsm1 M5_.out).mono ?_
  rw [HE0.out, HE1.out, HM0.out]
  rintro e w3 ⟨Aw0, cw0, rfl, how0, hb3⟩
  have hB3 := Lib.hid (hB2.out.trans (hb3.mono hB2.out.size))
  have Z6_ : Hid (w2.heap.size ≤ w3.heap.size) := Lib.hid hb3.size
  have M7_ := Lib.hid (M4_.out.moved hb3)
  clear M4_
  have M8_ := Lib.hid (M5_.out.moved hb3)
  clear M5_
  have M9_ := Lib.hid how0
  have B10_ : Hid (∀ g, Aw0 = some ⟨g, 0, none⟩ → w2.heap.size ≤ g ∧ g < w3.heap.size) := Lib.hid fun g hg => by subst hg; exact how0.lt _ rfl
  clear how0
  clear hb3
  go_wp2_with fail
  refine (toSpS A0 n0 c0 qs w3 HN0.out (HR0.out.moved hB3.out) hsm0).mono ?_
  rintro e w4 ⟨rfl, hox0, hb4⟩
  have hB4 := Lib.hid (hB3.out.trans (hb4.mono hB3.out.size))
  have Z11_ : Hid (w3.heap.size ≤ w4.heap.size) := Lib.hid hb4.size
  have M12_ := Lib.hid (ownB M9_.out hb4)
  clear M9_
  have M13_ := Lib.hid (Rd.ofOwnK hox0)
  have M14_ := Lib.hid hox0
  have B15_ : Hid (∀ g, (some ⟨w3.heap.size, 0, none⟩ : Option Addr) = some ⟨g, 0, none⟩ → w3.heap.size ≤ g ∧ g < w4.heap.size) := Lib.hid fun g hg => by injection hg with hg; injection hg with hg; subst hg; exact hox0.lt _ rfl
  clear hox0
  clear hb4
  go_wp2_with fail
  refine (toAmS A1 n1 c1 am w4 HN1.out (HR1.out.moved hB4.out) hsm1).mono ?_
  rintro e w5 ⟨rfl, hox1, hb5⟩
  have hB5 := Lib.hid (hB4.out.trans (hb5.mono hB4.out.size))
  have Z16_ : Hid (w4.heap.size ≤ w5.heap.size) := Lib.hid hb5.size
  have M17_ := Lib.hid (M13_.out.moved hb5)
  clear M13_
  have M18_ := Lib.hid (ownB M12_.out hb5)
  clear M12_
  have M19_ := Lib.hid (ownB M14_.out hb5)
  clear M14_
  have M20_ := Lib.hid (Rd.ofOwnK hox1)
  have M21_ := Lib.hid hox1
  have B22_ : Hid (∀ g, (some ⟨w4.heap.size, 0, none⟩ : Option Addr) = some ⟨g, 0, none⟩ → w4.heap.size ≤ g ∧ g < w5.heap.size) := Lib.hid fun g hg => by injection hg with hg; injection hg with hg; subst hg; exact hox1.lt _ rfl
  clear hox1
  clear hb5
  go_wp2_with fail
  refine (iProW _ n0 n0 _ n1 qs am l w5 HN0.out hsm0 M17_.out HN1.out hsm1 M20_.out).mono ?_
  rw [HE0.out, HE1.out, HM0.out]
  rintro e w6 ⟨Ag0, cg0, rfl, hog0, hb6⟩
  have hB6 := Lib.hid (hB5.out.trans (hb6.mono hB5.out.size))
  have Z23_ : Hid (w5.heap.size ≤ w6.heap.size) := Lib.hid hb6.size
  have M24_ := Lib.hid (M17_.out.moved hb6)
  clear M17_
  have M25_ := Lib.hid (M20_.out.moved hb6)
  clear M20_
  have M26_ := Lib.hid (ownB M18_.out hb6)
  clear M18_
  have M27_ := Lib.hid (ownB M19_.out hb6)
  clear M19_
  have M28_ := Lib.hid (ownB M21_.out hb6)
  clear M21_
  have M29_ := Lib.hid hog0
  have B30_ : Hid (∀ g, Ag0 = some ⟨g, 0, none⟩ → w5.heap.size ≤ g ∧ g < w6.heap.size) := Lib.hid fun g hg => by subst hg; exact hog0.lt _ rfl
  clear hog0
  clear hb6
  go_wp2_with fail
  refine (eqIntsA r0_ w6 HM0.out M29_.out M26_.out hms0).mono ?_
  rintro e w7 ⟨rfl, hb7⟩
  have hB7 := Lib.hid (hB6.out.trans (hb7.mono hB6.out.size))
  have Z31_ : Hid (w6.heap.size ≤ w7.heap.size) := Lib.hid hb7.size
  have M32_ := Lib.hid (M24_.out.moved hb7)
  clear M24_
  have M33_ := Lib.hid (M25_.out.moved hb7)
  clear M25_
  have M34_ := Lib.hid (ownB M26_.out hb7)
  clear M26_
  have M35_ := Lib.hid (ownB M27_.out hb7)
  clear M27_
  have M36_ := Lib.hid (ownB M28_.out hb7)
  clear M28_
  have M37_ := Lib.hid (ownB M29_.out hb7)
  clear M29_
  clear hb7
  go_wp2_with fail
  refine (toSpS A0 n0 c0 qs w7 HN0.out (HR0.out.moved hB7.out) hsm0).mono ?_
  rintro e w8 ⟨rfl, hoe0, hb8⟩
  have hB8 := Lib.hid (hB7.out.trans (hb8.mono hB7.out.size))
  have Z38_ : Hid (w7.heap.size ≤ w8.heap.size) := Lib.hid hb8.size
  have M39_ := Lib.hid (M32_.out.moved hb8)
  clear M32_
  have M40_ := Lib.hid (M33_.out.moved hb8)
  clear M33_
  have M41_ := Lib.hid (ownB M34_.out hb8)
  clear M34_
  have M42_ := Lib.hid (ownB M35_.out hb8)
  clear M35_
  have M43_ := Lib.hid (ownB M36_.out hb8)
  clear M36_
  have M44_ := Lib.hid (ownB M37_.out hb8)
  clear M37_
  have M45_ := Lib.hid (Rd.ofOwnK hoe0)
  clear hoe0
  clear hb8
  go_wp2_with fail
  refine (eqSpS _ _ n0 n0 n0 qs w8 HN0.out M39_.out M45_.out hsm0).mono ?_
  rintro e w9 ⟨rfl, hb9⟩
  have hB9 := Lib.hid (hB8.out.trans (hb9.mono hB8.out.size))
  have Z46_ : Hid (w8.heap.size ≤ w9.heap.size) := Lib.hid hb9.size
  have M47_ := Lib.hid (M39_.out.moved hb9)
  clear M39_
  have M48_ := Lib.hid (M40_.out.moved hb9)
  clear M40_
  have M49_ := Lib.hid (M45_.out.moved hb9)
  clear M45_
  have M50_ := Lib.hid (ownB M41_.out hb9)
  clear M41_
  have M51_ := Lib.hid (ownB M42_.out hb9)
  clear M42_
  have M52_ := Lib.hid (ownB M43_.out hb9)
  clear M43_
  have M53_ := Lib.hid (ownB M44_.out hb9)
  clear M44_
  clear hb9
  go_wp2_with fail
  refine (toAmS A1 n1 c1 am w9 HN1.out (HR1.out.moved hB9.out) hsm1).mono ?_
  rintro e w10 ⟨rfl, hoe1, hb10⟩
  have hB10 := Lib.hid (hB9.out.trans (hb10.mono hB9.out.size))
  have Z54_ : Hid (w9.heap.size ≤ w10.heap.size) := Lib.hid hb10.size
  have M55_ := Lib.hid (M47_.out.moved hb10)
  clear M47_
  have M56_ := Lib.hid (M48_.out.moved hb10)
  clear M48_
  have M57_ := Lib.hid (ownB M50_.out hb10)
  clear M50_
  have M58_ := Lib.hid (ownB M51_.out hb10)
  clear M51_
  have M59_ := Lib.hid (ownB M52_.out hb10)
  clear M52_
  have M60_ := Lib.hid (ownB M53_.out hb10)
  clear M53_
  have M61_ := Lib.hid (Rd.ofOwnK hoe1)
  clear hoe1
  clear hb10
  go_wp2_with fail
  refine (eqAmS _ _ n1 n1 n1 am w10 HN1.out M56_.out M61_.out hsm1).mono ?_
  rintro e w11 ⟨rfl, hb11⟩
  have hB11 := Lib.hid (hB10.out.trans (hb11.mono hB10.out.size))
  have Z62_ : Hid (w10.heap.size ≤ w11.heap.size) := Lib.hid hb11.size
  have M63_ := Lib.hid (M55_.out.moved hb11)
  clear M55_
  have M64_ := Lib.hid (M56_.out.moved hb11)
  clear M56_
  have M65_ := Lib.hid (M61_.out.moved hb11)
  clear M61_
  have M66_ := Lib.hid (ownB M57_.out hb11)
  clear M57_
  have M67_ := Lib.hid (ownB M58_.out hb11)
  clear M58_
  have M68_ := Lib.hid (ownB M59_.out hb11)
  clear M59_
  have M69_ := Lib.hid (ownB M60_.out hb11)
  clear M60_
  clear hb11
  obtain ⟨ys0_, hys0_⟩ := q3cells qs
  have HO0_ := M67_.out
  rw [hys0_] at HO0_
  have M67_i := Lib.hid HO0_; clear HO0_ hys0_
  go_wp2_with fail
  refine (mkSp 1 w11 M67_i.out (by omega) (by omega) (by omega)).mono ?_
  rintro e w12 ⟨z12, rfl, hz12, hoff12, ho12⟩
  have HZ12 := Lib.hid hz12
  have hz012 : 0 ≤ z12 := by omega
  have hz112 : z12 ≤ 3145729 := by omega
  have hzn12 : decide (z12 < 0) = false := decide_eq_false (by omega)
  clear hz12
  have hB12 := Lib.hid (hB11.out.trans (hoff12.below hB11.out.size (fun g hg => by have h1 := B15_.out g hg; have y0 := Z1_.out; have y1 := Z3_.out; have y2 := Z6_.out; have y3 := Z11_.out; have y4 := Z16_.out; have y5 := Z23_.out; have y6 := Z31_.out; have y7 := Z38_.out; have y8 := Z46_.out; have y9 := Z54_.out; have y10 := Z62_.out; omega)))
  have Z70_ : Hid (w11.heap.size ≤ w12.heap.size) := Lib.hid hoff12.size
  have M71_ := Lib.hid (hoff12.own M66_.out (fun g hg hg2 => by have h1 := B15_.out g hg2; have h2 := B10_.out g hg; have y0 := Z1_.out; have y1 := Z3_.out; have y2 := Z6_.out; have y3 := Z11_.out; have y4 := Z16_.out; have y5 := Z23_.out; have y6 := Z31_.out; have y7 := Z38_.out; have y8 := Z46_.out; have y9 := Z54_.out; have y10 := Z62_.out; omega))
  clear M66_
  have M72_ := Lib.hid (hoff12.own M68_.out (fun g hg hg2 => by have h1 := B15_.out g hg2; have h2 := B22_.out g hg; have y0 := Z1_.out; have y1 := Z3_.out; have y2 := Z6_.out; have y3 := Z11_.out; have y4 := Z16_.out; have y5 := Z23_.out; have y6 := Z31_.out; have y7 := Z38_.out; have y8 := Z46_.out; have y9 := Z54_.out; have y10 := Z62_.out; omega))
  clear M68_
  have M73_ := Lib.hid (hoff12.own M69_.out (fun g hg hg2 => by have h1 := B15_.out g hg2; have h2 := B30_.out g hg; have y0 := Z1_.out; have y1 := Z3_.out; have y2 := Z6_.out; have y3 := Z11_.out; have y4 := Z16_.out; have y5 := Z23_.out; have y6 := Z31_.out; have y7 := Z38_.out; have y8 := Z46_.out; have y9 := Z54_.out; have y10 := Z62_.out; omega))
  clear M69_
  have M74_ := Lib.hid ho12
  clear hoff12 ho12
  obtain ⟨ys1_, hys1_⟩ := q4cells am
  have HO1_ := M72_.out
  rw [hys1_] at HO1_
  have M72_i := Lib.hid HO1_; clear HO1_ hys1_
  go_wp2_with fail
  refine (mkAm z12 w12 M72_i.out (by omega) (by omega) (by omega)).mono ?_
  rintro e w13 ⟨z13, rfl, hz13, hoff13, ho13⟩
  have HZ13 := Lib.hid hz13
  have hz013 : 0 ≤ z13 := by omega
  have hz113 : z13 ≤ 7340033 := by omega
  have hzn13 : decide (z13 < 0) = false := decide_eq_false (by omega)
  clear hz13
  have hB13 := Lib.hid (hB12.out.trans (hoff13.below hB12.out.size (fun g hg => by have h1 := B22_.out g hg; have y0 := Z1_.out; have y1 := Z3_.out; have y2 := Z6_.out; have y3 := Z11_.out; have y4 := Z16_.out; have y5 := Z23_.out; have y6 := Z31_.out; have y7 := Z38_.out; have y8 := Z46_.out; have y9 := Z54_.out; have y10 := Z62_.out; have y11 := Z70_.out; omega)))
  have Z75_ : Hid (w12.heap.size ≤ w13.heap.size) := Lib.hid hoff13.size
  have M76_ := Lib.hid (hoff13.own M71_.out (fun g hg hg2 => by have h1 := B22_.out g hg2; have h2 := B10_.out g hg; have y0 := Z1_.out; have y1 := Z3_.out; have y2 := Z6_.out; have y3 := Z11_.out; have y4 := Z16_.out; have y5 := Z23_.out; have y6 := Z31_.out; have y7 := Z38_.out; have y8 := Z46_.out; have y9 := Z54_.out; have y10 := Z62_.out; have y11 := Z70_.out; omega))
  clear M71_
  have M77_ := Lib.hid (hoff13.own M73_.out (fun g hg hg2 => by have h1 := B22_.out g hg2; have h2 := B30_.out g hg; have y0 := Z1_.out; have y1 := Z3_.out; have y2 := Z6_.out; have y3 := Z11_.out; have y4 := Z16_.out; have y5 := Z23_.out; have y6 := Z31_.out; have y7 := Z38_.out; have y8 := Z46_.out; have y9 := Z54_.out; have y10 := Z62_.out; have y11 := Z70_.out; omega))
  clear M73_
  have M78_ := Lib.hid ho13
  clear hoff13 ho13
  go_wp2_with fail
  refine (eqIntsA r0_ w13 HM0.out M77_.out M76_.out hms0).mono ?_
  rintro e w14 ⟨rfl, hb14⟩
  have hB14 := Lib.hid (hB13.out.trans (hb14.mono hB13.out.size))
  have Z79_ : Hid (w13.heap.size ≤ w14.heap.size) := Lib.hid hb14.size
  have M80_ := Lib.hid (ownB M76_.out hb14)
  clear M76_
  have M81_ := Lib.hid (ownB M77_.out hb14)
  clear M77_
  clear hb14
  go_wp2_with fail
  refine (mkInt 1 w14 M81_.out (by omega) (by omega) (by omega)).mono ?_
  rintro e w15 ⟨z15, rfl, hz15, hoff15, ho15⟩
  have HZ15 := Lib.hid hz15
  have hz015 : 0 ≤ z15 := by omega
  have hz115 : z15 ≤ 1048577 := by omega
  have hzn15 : decide (z15 < 0) = false := decide_eq_false (by omega)
  clear hz15
  have hB15 := Lib.hid (hB14.out.trans (hoff15.below hB14.out.size (fun g hg => by have h1 := B30_.out g hg; have y0 := Z1_.out; have y1 := Z3_.out; have y2 := Z6_.out; have y3 := Z11_.out; have y4 := Z16_.out; have y5 := Z23_.out; have y6 := Z31_.out; have y7 := Z38_.out; have y8 := Z46_.out; have y9 := Z54_.out; have y10 := Z62_.out; have y11 := Z70_.out; have y12 := Z75_.out; have y13 := Z79_.out; omega)))
  have Z82_ : Hid (w14.heap.size ≤ w15.heap.size) := Lib.hid hoff15.size
  have M83_ := Lib.hid (hoff15.own M80_.out (fun g hg hg2 => by have h1 := B30_.out g hg2; have h2 := B10_.out g hg; have y0 := Z1_.out; have y1 := Z3_.out; have y2 := Z6_.out; have y3 := Z11_.out; have y4 := Z16_.out; have y5 := Z23_.out; have y6 := Z31_.out; have y7 := Z38_.out; have y8 := Z46_.out; have y9 := Z54_.out; have y10 := Z62_.out; have y11 := Z70_.out; have y12 := Z75_.out; have y13 := Z79_.out; omega))
  clear M80_
  have M84_ := Lib.hid ho15
  clear hoff15 ho15
  go_wp2_with fail
  refine (hdInt 1 w15 (Rd.ofOwnK M84_.out) (by omega) (by omega) (by omega)).mono ?_
  rintro e w' ⟨zq, rfl, hzq, rfl⟩
  obtain rfl : z15 = zq := HZ15.out.trans hzq.symm
  clear hzq
  go_wp2_with fail
  refine (toSpS A0 n0 c0 qs w15 HN0.out (HR0.out.moved hB15.out) hsm0).mono ?_
  rintro e w16 ⟨rfl, hoh0, hb16⟩
  have hB16 := Lib.hid (hB15.out.trans (hb16.mono hB15.out.size))
  have Z85_ : Hid (w15.heap.size ≤ w16.heap.size) := Lib.hid hb16.size
  have M86_ := Lib.hid (ownB M83_.out hb16)
  clear M83_
  have M87_ := Lib.hid (ownB M84_.out hb16)
  clear M84_
  have M88_ := Lib.hid (Rd.ofOwnK hoh0)
  clear hoh0
  clear hb16
  go_wp2_with fail
  refine (toAmS A1 n1 c1 am w16 HN1.out (HR1.out.moved hB16.out) hsm1).mono ?_
  rintro e w17 ⟨rfl, hoh1, hb17⟩
  have hB17 := Lib.hid (hB16.out.trans (hb17.mono hB16.out.size))
  have Z89_ : Hid (w16.heap.size ≤ w17.heap.size) := Lib.hid hb17.size
  have M90_ := Lib.hid (M88_.out.moved hb17)
  clear M88_
  have M91_ := Lib.hid (ownB M86_.out hb17)
  clear M86_
  have M92_ := Lib.hid (ownB M87_.out hb17)
  clear M87_
  have M93_ := Lib.hid (Rd.ofOwnK hoh1)
  clear hoh1
  clear hb17
  go_wp2_with fail
  refine (iProW _ n0 n0 _ n1 qs am l w17 HN0.out hsm0 M90_.out HN1.out hsm1 M93_.out).mono ?_
  rw [HE0.out, HE1.out, HM0.out]
  rintro e w18 ⟨Ah0, ch0, rfl, hoh0, hb18⟩
  have hB18 := Lib.hid (hB17.out.trans (hb18.mono hB17.out.size))
  have Z94_ : Hid (w17.heap.size ≤ w18.heap.size) := Lib.hid hb18.size
  have M95_ := Lib.hid (M90_.out.moved hb18)
  clear M90_
  have M96_ := Lib.hid (M93_.out.moved hb18)
  clear M93_
  have M97_ := Lib.hid (ownB M91_.out hb18)
  clear M91_
  have M98_ := Lib.hid (ownB M92_.out hb18)
  clear M92_
  have M99_ := Lib.hid hoh0
  have B100_ : Hid (∀ g, Ah0 = some ⟨g, 0, none⟩ → w17.heap.size ≤ g ∧ g < w18.heap.size) := Lib.hid fun g hg => by subst hg; exact hoh0.lt _ rfl
  clear hoh0
  clear hb18
  go_wp2_with fail
  refine (eqIntsA r0_ w18 HM0.out M99_.out M97_.out hms0).mono ?_
  rintro e w19 ⟨rfl, hb19⟩
  have hB19 := Lib.hid (hB18.out.trans (hb19.mono hB18.out.size))
  have Z101_ : Hid (w18.heap.size ≤ w19.heap.size) := Lib.hid hb19.size
  have M102_ := Lib.hid (ownB M97_.out hb19)
  clear M97_
  have M103_ := Lib.hid (ownB M98_.out hb19)
  clear M98_
  have M104_ := Lib.hid (ownB M99_.out hb19)
  clear M99_
  clear hb19
  go_wp2_with fail
  refine (hdInt 1 w19 (Rd.ofOwnK M103_.out) (by omega) (by omega) (by omega)).mono ?_
  rintro e w' ⟨zq, rfl, hzq, rfl⟩
  obtain rfl : z15 = zq := HZ15.out.trans hzq.symm
  clear hzq
  go_wp2
  go_ret
  exact ⟨rfl, hB19.out⟩


theorem own : ownKnob Try.prog.godebug = none := by kernel_rfl
theorem laidOut : laidOutB Try.prog = true := by kernel_rfl
set_option maxRecDepth 100000 in
theorem lifted (os : Os) (started : os.Started) (H : Type) (enc : TypeId × Value → H) :
    ReturnsInHanded {} Try.checked os 5 .any (Rows.fnExactPowerProfileSpec.pre6 enc Try.prog Try.f5 Rows.fnExactPowerProfileRow.domain false) (Rows.fnExactPowerProfileSpec.post enc Try.prog Try.f5 false true false false) := by
  refine returnsInHanded_of_change_sized (C := Try.checked) own started (by kernel_rfl) Try.func5
    (ChangeSpec.witness6 (enc := enc) (C := Try.checked) false ⟨#[], #[.slice none 0 0, .slice none 0 0, .int .i64 0], []⟩ 8 (by kernel_rfl) (by kernel_rfl) (by kernel_rfl) (by kernel_rfl)) ?_
  intro W base args ds gs before hval0 hW _ hsz0 _
  clear hsz0
  have hval : ∀ (j : Nat) t v, Try.f5.params[j]? = some t → args[j]? = some v → Value.okWide Try.prog W .any base t v := hval0
  have hW' := hW
  obtain ⟨p, q, hA0, hV, rfl, _, _⟩ := hW
  have hA : DataW.TrodAll enc Try.prog W 0 (fun _ => true) true Try.f5.params.toList args.toList ds p := hA0
  rw [Try.params5] at hA hval
  obtain ⟨v0, vs0, d0, ds0, p0, q0, hargs, rfl, rfl, h0, r0⟩ := trodAll_cons hA
  obtain ⟨v1, vs1, d1, ds1, p1, q1, rfl, rfl, rfl, h1, r1⟩ := trodAll_cons r0
  obtain ⟨v2, vs2, d2, ds2, p2, q2, rfl, rfl, rfl, h2, r2⟩ := trodAll_cons r1
  obtain ⟨rfl, rfl, rfl⟩ := trodAll_nil r2
  obtain rfl : args = #[v0, v1, v2] := by cases args; simp_all
  obtain ⟨rfl, rfl⟩ := trodVars_none hV
  simp only [List.append_nil] at hW'
  have hlt0 : ∀ x ∈ p0, x.block < W.heap.size := fun x hx => by simpa using hW'.lt x (by simp [hx])
  have hlt1 : ∀ x ∈ p1, x.block < W.heap.size := fun x hx => by simpa using hW'.lt x (by simp [hx])
  have hlt2 : ∀ x ∈ p2, x.block < W.heap.size := fun x hx => by simpa using hW'.lt x (by simp [hx])
  have fin : ∀ W' : World, Below W.heap.size W W' → Rows.fnExactPowerProfileSpec.post enc Try.checked.prog Try.f5 false true false false W #[v0, v1, v2] (.bool true) W' := by
    intro W' hb
    refine ⟨_, _, _, [] ++ [], (p0 ++ (p1 ++ (p2 ++ []))), [], hW', ?_, ?_, rfl, hb.frame _, fun h => by cases h⟩
    · exact trodAll_mk1 (shut_bool Try.underlying4 true)
    · exact trodAll_cons_mk (Below.trod laidOut (by kernel_rfl) (of_decide_eq_true (by kernel_rfl)) h0 hb hlt0) (trodAll_cons_mk (Below.trod laidOut (by kernel_rfl) (of_decide_eq_true (by kernel_rfl)) h1 hb hlt1) (trodAll_cons_mk (Below.trod laidOut (by kernel_rfl) (of_decide_eq_true (by kernel_rfl)) h2 hb hlt2) (trodAll_mk0)))
  clear hW' hV hA0
  obtain ⟨b0, len0, cap0, rfl⟩ := okWide_slice Try.underlying31 (hval 0 31 v0 rfl rfl)
  obtain ⟨fuel0, hf0⟩ := h0
  obtain ⟨A0, n0, c0, z0, e0, ha0, hb0, hc0, hd0⟩ := rd_q3s Try.underlying31 Try.underlying23 (by kernel_rfl) (by kernel_rfl) rfl (hint_of Try.underlying3 (by decide +kernel)) hf0
  simp only [Value.cells, List.cons.injEq, Value.slice.injEq, and_true] at e0
  obtain ⟨rfl, rfl, rfl⟩ := e0
  obtain ⟨b1, len1, cap1, rfl⟩ := okWide_slice Try.underlying32 (hval 1 32 v1 rfl rfl)
  obtain ⟨fuel1, hf1⟩ := h1
  obtain ⟨A1, n1, c1, z1, e1, ha1, hb1, hc1, hd1⟩ := rd_q4s Try.underlying32 Try.underlying54 (by kernel_rfl) (by kernel_rfl) rfl (hint_of Try.underlying3 (by decide +kernel)) hf1
  simp only [Value.cells, List.cons.injEq, Value.slice.injEq, and_true] at e1
  obtain ⟨rfl, rfl, rfl⟩ := e1
  obtain ⟨a2, rfl, _, _, w2⟩ := open_int Try.underlying3 (hval 2 3 v2 rfl rfl) h2
  exact (walk b0 len0 cap0 z0 b1 len1 cap1 z1 a2 W ha0 hb0 hc0 hd0 ha1 hb1 hc1 hd1 w2).mono fun e W' ⟨he, hb⟩ => ⟨_, he, fin W' hb⟩

theorem over : Rows.fnExactPowerProfileRow.holds Try.pinned (OpenSpec.ofChange Rows.fnExactPowerProfileSpec) :=
  OpenClaim.holds_of_wide 5 Try.f5 rfl rfl rfl rfl rfl rfl rfl ⟨rfl, rfl, rfl, rfl, rfl⟩ rfl rfl rfl rfl rfl (by kernel_rfl) Try.func5 (by kernel_rfl)
    (of_decide_eq_true (by kernel_rfl)) (by unfold Func.isWrapper; first | (rw [if_pos (by decide +kernel)]; kernel_rfl) | (rw [if_neg (by decide +kernel)]; exact ⟨rfl, rfl⟩))
    (fun os started H enc _ => lifted os started H enc)

/-- THE STATEMENT -/
theorem proved : Rows.FnExactPowerProfileSaid :=
  over
end Go.Proofs.Ytgaankdmppoghaa.fnExactPowerProfile
