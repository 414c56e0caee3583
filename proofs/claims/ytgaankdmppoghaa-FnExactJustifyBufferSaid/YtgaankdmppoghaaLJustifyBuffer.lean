/- Proved: at every argument impl.JustifyBuffer answers as spec.JustifyBuffer does, in memory of its own, and leaves its arguments alone (the law FnExactJustifyBuffer returns true). No condition. -/
import Derived.Test.YtgaankdmppoghaaRows
import Derived.Test.YtgaankdmppoghaaJusI
import Derived.Test.YtgaankdmppoghaaMkInt
import Derived.Test.YtgaankdmppoghaaArg
import Derived.WalkKit
import Derived.ProofKit
import Derived.OpenShut
import Derived.ShutString
import Derived.SizedLaws
import Derived.Carry
namespace Go.Proofs.Ytgaankdmppoghaa.fnExactJustifyBuffer
open Go.ChangeShapes Go.WideShapes Go.ChangeAt Go.RowKit
open Go.ChangeMaps (open_string shut_string)

set_option maxRecDepth 100000 in
set_option maxHeartbeats 8000000 in
theorem walk (f : Int) (A1 : Option Addr) (n1 c1 : Nat) (zs : List Int) (size : Int) (low : Int) (high : Int) (w : World) (_w0 : (Lit.int .i64 f).wf = true) (hn1 : zs.length = n1) (hm1 : n1 ≤ maxLen) (hr1 : Rd w w.heap.size A1 (zs.map (Value.int .i64))) (hwf1 : ∀ z ∈ zs, (Lit.int .i64 z).wf = true) (_w2 : (Lit.int .i64 size).wf = true) (_w3 : (Lit.int .i64 low).wf = true) (_w4 : (Lit.int .i64 high).wf = true) :
    Calls Try.prog 14 #[.int .i64 f, .slice A1 n1 c1, .int .i64 size, .int .i64 low, .int .i64 high] w fun e w' => e = .returned (.bool true) ∧ Below w.heap.size w w' := by
  unfold maxLen at hm1
  have HWF1 := Lib.hid hwf1; clear hwf1
  have HN1 := Lib.hid hn1; clear hn1
  have HR1 := Lib.hid hr1; clear hr1
  have W0_ := Lib.hid _w0; clear _w0
  have W2_ := Lib.hid _w2; clear _w2
  have W3_ := Lib.hid _w3; clear _w3
  have W4_ := Lib.hid _w4; clear _w4
  obtain ⟨r0_, hr0_⟩ : ∃ ans_, jMo f zs size low high = ans_ := ⟨_, rfl⟩
  have HE0 := Lib.hid hr0_; clear hr0_
  obtain ⟨r1_, hr1_⟩ : ∃ ans_, jFi f zs size low high = ans_ := ⟨_, rfl⟩
  have HE1 := Lib.hid hr1_; clear hr1_
  obtain ⟨r2_, hr2_⟩ : ∃ ans_, jB f zs size low high = ans_ := ⟨_, rfl⟩
  have HE2 := Lib.hid hr2_; clear hr2_
  obtain ⟨m0_, hm0_⟩ : ∃ m, r0_.length = m := ⟨_, rfl⟩
  have HM0 := Lib.hid hm0_
  have hms0 : m0_ ≤ 1048576 := by rw [← hm0_, ← HE0.out]; exact (jLen f zs size low high).1
  clear hm0_
  obtain ⟨m1_, hm1_⟩ : ∃ m, r1_.length = m := ⟨_, rfl⟩
  have HM1 := Lib.hid hm1_
  have hms1 : m1_ ≤ 1048576 := by rw [← hm1_, ← HE1.out]; exact (jLen f zs size low high).2
  clear hm1_
  by_cases hsm1 : n1 ≤ 1048576
  case neg =>
    have q1 : 1048576 < (n1 : Int) := by omega
    clear hsm1
    go_enter Try.func14, Try.ntmps14
    go_wp2
    go_ret
    exact ⟨rfl, Below.refl _ _⟩
  case pos =>
  have q1 : (n1 : Int) ≤ 1048576 := by omega
  go_enter Try.func14, Try.ntmps14
  clear hm1
  have hB0 := Lib.hid (Below.refl w.heap.size w)
  go_wp2_with fail
  refine (toIntS A1 n1 c1 zs w HN1.out (HR1.out.moved hB0.out) hsm1).mono ?_
  rintro e w1 ⟨gs1, hgs1, rfl, hos1, hb1⟩
  have hB1 := Lib.hid (hB0.out.trans (hb1.mono hB0.out.size))
  have Z1_ : Hid (w.heap.size ≤ w1.heap.size) := Lib.hid hb1.size
  have M2_ := Lib.hid (Rd.ofOwnK hos1)
  clear hos1 hgs1
  clear hb1
  go_wp2_with fail
  refine (sJusW _ n1 n1 zs f size low high w1 HN1.out hsm1 M2_.out).mono ?_
  rw [HE0.out, HE1.out, HE2.out, HM0.out, HM1.out]
  rintro e w2 ⟨Aw0, cw0, Aw1, cw1, rfl, how0, how1, hapw, hb2⟩
  have hB2 := Lib.hid (hB1.out.trans (hb2.mono hB1.out.size))
  have Z3_ : Hid (w1.heap.size ≤ w2.heap.size) := Lib.hid hb2.size
  have M4_ := Lib.hid (M2_.out.moved hb2)
  clear M2_
  have M5_ := Lib.hid how0
  have B6_ : Hid (∀ g, Aw0 = some ⟨g, 0, none⟩ → w1.heap.size ≤ g ∧ g < w2.heap.size) := Lib.hid fun g hg => by subst hg; exact how0.lt _ rfl
  clear how0
  have M7_ := Lib.hid how1
  have B8_ : Hid (∀ g, Aw1 = some ⟨g, 0, none⟩ → w1.heap.size ≤ g ∧ g < w2.heap.size) := Lib.hid fun g hg => by subst hg; exact how1.lt _ rfl
  clear how1
  have HAPw := Lib.hid hapw; clear hapw
  clear hb2
  go_wp2_with fail
  refine (toIntS A1 n1 c1 zs w2 HN1.out (HR1.out.moved hB2.out) hsm1).mono ?_
  rintro e w3 ⟨gx1, hgx1, rfl, hox1, hb3⟩
  have hB3 := Lib.hid (hB2.out.trans (hb3.mono hB2.out.size))
  have Z9_ : Hid (w2.heap.size ≤ w3.heap.size) := Lib.hid hb3.size
  have M10_ := Lib.hid (ownB M5_.out hb3)
  clear M5_
  have M11_ := Lib.hid (ownB M7_.out hb3)
  clear M7_
  have M12_ := Lib.hid (Rd.ofOwnK hox1)
  have M13_ := Lib.hid hox1
  have B14_ : Hid (∀ g, (some ⟨gx1, 0, none⟩ : Option Addr) = some ⟨g, 0, none⟩ → w2.heap.size ≤ g ∧ g < w3.heap.size) := Lib.hid fun g hg => by injection hg with hg; injection hg with hg; subst hg; exact hox1.lt _ rfl
  clear hox1 hgx1
  clear hb3
  go_wp2_with fail
  refine (iJusW _ n1 n1 zs f size low high w3 HN1.out hsm1 M12_.out).mono ?_
  rw [HE0.out, HE1.out, HE2.out, HM0.out, HM1.out]
  rintro e w4 ⟨Ag0, cg0, Ag1, cg1, rfl, hog0, hog1, hapg, hb4⟩
  have hB4 := Lib.hid (hB3.out.trans (hb4.mono hB3.out.size))
  have Z15_ : Hid (w3.heap.size ≤ w4.heap.size) := Lib.hid hb4.size
  have M16_ := Lib.hid (M12_.out.moved hb4)
  clear M12_
  have M17_ := Lib.hid (ownB M10_.out hb4)
  clear M10_
  have M18_ := Lib.hid (ownB M11_.out hb4)
  clear M11_
  have M19_ := Lib.hid (ownB M13_.out hb4)
  clear M13_
  have M20_ := Lib.hid hog0
  have B21_ : Hid (∀ g, Ag0 = some ⟨g, 0, none⟩ → w3.heap.size ≤ g ∧ g < w4.heap.size) := Lib.hid fun g hg => by subst hg; exact hog0.lt _ rfl
  clear hog0
  have M22_ := Lib.hid hog1
  have B23_ : Hid (∀ g, Ag1 = some ⟨g, 0, none⟩ → w3.heap.size ≤ g ∧ g < w4.heap.size) := Lib.hid fun g hg => by subst hg; exact hog1.lt _ rfl
  clear hog1
  have HAPg := Lib.hid hapg; clear hapg
  clear hb4
  go_wp2_with fail
  refine (eqIntsA r0_ w4 HM0.out M20_.out M17_.out hms0).mono ?_
  rintro e w5 ⟨rfl, hb5⟩
  have hB5 := Lib.hid (hB4.out.trans (hb5.mono hB4.out.size))
  have Z24_ : Hid (w4.heap.size ≤ w5.heap.size) := Lib.hid hb5.size
  have M25_ := Lib.hid (M16_.out.moved hb5)
  clear M16_
  have M26_ := Lib.hid (ownB M17_.out hb5)
  clear M17_
  have M27_ := Lib.hid (ownB M18_.out hb5)
  clear M18_
  have M28_ := Lib.hid (ownB M19_.out hb5)
  clear M19_
  have M29_ := Lib.hid (ownB M20_.out hb5)
  clear M20_
  have M30_ := Lib.hid (ownB M22_.out hb5)
  clear M22_
  clear hb5
  go_wp2_with fail
  refine (eqIntsA r1_ w5 HM1.out M30_.out M27_.out hms1).mono ?_
  rintro e w6 ⟨rfl, hb6⟩
  have hB6 := Lib.hid (hB5.out.trans (hb6.mono hB5.out.size))
  have Z31_ : Hid (w5.heap.size ≤ w6.heap.size) := Lib.hid hb6.size
  have M32_ := Lib.hid (M25_.out.moved hb6)
  clear M25_
  have M33_ := Lib.hid (ownB M26_.out hb6)
  clear M26_
  have M34_ := Lib.hid (ownB M27_.out hb6)
  clear M27_
  have M35_ := Lib.hid (ownB M28_.out hb6)
  clear M28_
  have M36_ := Lib.hid (ownB M29_.out hb6)
  clear M29_
  have M37_ := Lib.hid (ownB M30_.out hb6)
  clear M30_
  clear hb6
  go_wp2_with fail
  refine (toIntS A1 n1 c1 zs w6 HN1.out (HR1.out.moved hB6.out) hsm1).mono ?_
  rintro e w7 ⟨ge1, hge1, rfl, hoe1, hb7⟩
  have hB7 := Lib.hid (hB6.out.trans (hb7.mono hB6.out.size))
  have Z38_ : Hid (w6.heap.size ≤ w7.heap.size) := Lib.hid hb7.size
  have M39_ := Lib.hid (M32_.out.moved hb7)
  clear M32_
  have M40_ := Lib.hid (ownB M33_.out hb7)
  clear M33_
  have M41_ := Lib.hid (ownB M34_.out hb7)
  clear M34_
  have M42_ := Lib.hid (ownB M35_.out hb7)
  clear M35_
  have M43_ := Lib.hid (ownB M36_.out hb7)
  clear M36_
  have M44_ := Lib.hid (ownB M37_.out hb7)
  clear M37_
  have M45_ := Lib.hid (Rd.ofOwnK hoe1)
  clear hoe1 hge1
  clear hb7
  go_wp2_with fail
  refine (eqIntS _ _ n1 n1 n1 zs w7 HN1.out M39_.out M45_.out hsm1).mono ?_
  rintro e w8 ⟨rfl, hb8⟩
  have hB8 := Lib.hid (hB7.out.trans (hb8.mono hB7.out.size))
  have Z46_ : Hid (w7.heap.size ≤ w8.heap.size) := Lib.hid hb8.size
  have M47_ := Lib.hid (M39_.out.moved hb8)
  clear M39_
  have M48_ := Lib.hid (M45_.out.moved hb8)
  clear M45_
  have M49_ := Lib.hid (ownB M40_.out hb8)
  clear M40_
  have M50_ := Lib.hid (ownB M41_.out hb8)
  clear M41_
  have M51_ := Lib.hid (ownB M42_.out hb8)
  clear M42_
  have M52_ := Lib.hid (ownB M43_.out hb8)
  clear M43_
  have M53_ := Lib.hid (ownB M44_.out hb8)
  clear M44_
  clear hb8
  go_wp2_with fail
  refine (mkInt 1 w8 M51_.out (by omega) (by omega) (by omega)).mono ?_
  rintro e w9 ⟨z9, rfl, hz9, hoff9, ho9⟩
  have HZ9 := Lib.hid hz9
  have hz09 : 0 ≤ z9 := by omega
  have hz19 : z9 ≤ 1048577 := by omega
  have hzn9 : decide (z9 < 0) = false := decide_eq_false (by omega)
  clear hz9
  have hB9 := Lib.hid (hB8.out.trans (hoff9.below hB8.out.size (fun g hg => by have h1 := B14_.out g hg; have y0 := Z1_.out; have y1 := Z3_.out; have y2 := Z9_.out; have y3 := Z15_.out; have y4 := Z24_.out; have y5 := Z31_.out; have y6 := Z38_.out; have y7 := Z46_.out; omega)))
  have Z54_ : Hid (w8.heap.size ≤ w9.heap.size) := Lib.hid hoff9.size
  have M55_ := Lib.hid (hoff9.own M49_.out (fun g hg hg2 => by have h1 := B14_.out g hg2; have h2 := B6_.out g hg; have y0 := Z1_.out; have y1 := Z3_.out; have y2 := Z9_.out; have y3 := Z15_.out; have y4 := Z24_.out; have y5 := Z31_.out; have y6 := Z38_.out; have y7 := Z46_.out; omega))
  clear M49_
  have M56_ := Lib.hid (hoff9.own M50_.out (fun g hg hg2 => by have h1 := B14_.out g hg2; have h2 := B8_.out g hg; have y0 := Z1_.out; have y1 := Z3_.out; have y2 := Z9_.out; have y3 := Z15_.out; have y4 := Z24_.out; have y5 := Z31_.out; have y6 := Z38_.out; have y7 := Z46_.out; omega))
  clear M50_
  have M57_ := Lib.hid (hoff9.own M52_.out (fun g hg hg2 => by have h1 := B14_.out g hg2; have h2 := B21_.out g hg; have y0 := Z1_.out; have y1 := Z3_.out; have y2 := Z9_.out; have y3 := Z15_.out; have y4 := Z24_.out; have y5 := Z31_.out; have y6 := Z38_.out; have y7 := Z46_.out; omega))
  clear M52_
  have M58_ := Lib.hid (hoff9.own M53_.out (fun g hg hg2 => by have h1 := B14_.out g hg2; have h2 := B23_.out g hg; have y0 := Z1_.out; have y1 := Z3_.out; have y2 := Z9_.out; have y3 := Z15_.out; have y4 := Z24_.out; have y5 := Z31_.out; have y6 := Z38_.out; have y7 := Z46_.out; omega))
  clear M53_
  have M59_ := Lib.hid ho9
  clear hoff9 ho9
  go_wp2_with fail
  refine (eqIntsA r0_ w9 HM0.out M57_.out M55_.out hms0).mono ?_
  rintro e w10 ⟨rfl, hb10⟩
  have hB10 := Lib.hid (hB9.out.trans (hb10.mono hB9.out.size))
  have Z60_ : Hid (w9.heap.size ≤ w10.heap.size) := Lib.hid hb10.size
  have M61_ := Lib.hid (ownB M55_.out hb10)
  clear M55_
  have M62_ := Lib.hid (ownB M56_.out hb10)
  clear M56_
  have M63_ := Lib.hid (ownB M57_.out hb10)
  clear M57_
  have M64_ := Lib.hid (ownB M58_.out hb10)
  clear M58_
  clear hb10
  go_wp2_with fail
  refine (eqIntsA r1_ w10 HM1.out M64_.out M62_.out hms1).mono ?_
  rintro e w11 ⟨rfl, hb11⟩
  have hB11 := Lib.hid (hB10.out.trans (hb11.mono hB10.out.size))
  have Z65_ : Hid (w10.heap.size ≤ w11.heap.size) := Lib.hid hb11.size
  have M66_ := Lib.hid (ownB M61_.out hb11)
  clear M61_
  have M67_ := Lib.hid (ownB M62_.out hb11)
  clear M62_
  have M68_ := Lib.hid (ownB M63_.out hb11)
  clear M63_
  have M69_ := Lib.hid (ownB M64_.out hb11)
  clear M64_
  clear hb11
  go_wp2_with fail
  refine (mkInt 1 w11 M68_.out (by omega) (by omega) (by omega)).mono ?_
  rintro e w12 ⟨z12, rfl, hz12, hoff12, ho12⟩
  have HZ12 := Lib.hid hz12
  have hz012 : 0 ≤ z12 := by omega
  have hz112 : z12 ≤ 1048577 := by omega
  have hzn12 : decide (z12 < 0) = false := decide_eq_false (by omega)
  clear hz12
  have hB12 := Lib.hid (hB11.out.trans (hoff12.below hB11.out.size (fun g hg => by have h1 := B21_.out g hg; have y0 := Z1_.out; have y1 := Z3_.out; have y2 := Z9_.out; have y3 := Z15_.out; have y4 := Z24_.out; have y5 := Z31_.out; have y6 := Z38_.out; have y7 := Z46_.out; have y8 := Z54_.out; have y9 := Z60_.out; have y10 := Z65_.out; omega)))
  have Z70_ : Hid (w11.heap.size ≤ w12.heap.size) := Lib.hid hoff12.size
  have M71_ := Lib.hid (hoff12.own M66_.out (fun g hg hg2 => by have h1 := B21_.out g hg2; have h2 := B6_.out g hg; have y0 := Z1_.out; have y1 := Z3_.out; have y2 := Z9_.out; have y3 := Z15_.out; have y4 := Z24_.out; have y5 := Z31_.out; have y6 := Z38_.out; have y7 := Z46_.out; have y8 := Z54_.out; have y9 := Z60_.out; have y10 := Z65_.out; omega))
  clear M66_
  have M72_ := Lib.hid (hoff12.own M67_.out (fun g hg hg2 => by have h1 := B21_.out g hg2; have h2 := B8_.out g hg; have y0 := Z1_.out; have y1 := Z3_.out; have y2 := Z9_.out; have y3 := Z15_.out; have y4 := Z24_.out; have y5 := Z31_.out; have y6 := Z38_.out; have y7 := Z46_.out; have y8 := Z54_.out; have y9 := Z60_.out; have y10 := Z65_.out; omega))
  clear M67_
  have M73_ := Lib.hid (hoff12.own M69_.out (fun g hg hg2 => HAPg.out g hg2 hg))
  clear M69_
  have M74_ := Lib.hid ho12
  clear hoff12 ho12
  go_wp2_with fail
  refine (mkInt z12 w12 M73_.out (by omega) (by omega) (by omega)).mono ?_
  rintro e w13 ⟨z13, rfl, hz13, hoff13, ho13⟩
  have HZ13 := Lib.hid hz13
  have hz013 : 0 ≤ z13 := by omega
  have hz113 : z13 ≤ 2097153 := by omega
  have hzn13 : decide (z13 < 0) = false := decide_eq_false (by omega)
  clear hz13
  have hB13 := Lib.hid (hB12.out.trans (hoff13.below hB12.out.size (fun g hg => by have h1 := B23_.out g hg; have y0 := Z1_.out; have y1 := Z3_.out; have y2 := Z9_.out; have y3 := Z15_.out; have y4 := Z24_.out; have y5 := Z31_.out; have y6 := Z38_.out; have y7 := Z46_.out; have y8 := Z54_.out; have y9 := Z60_.out; have y10 := Z65_.out; have y11 := Z70_.out; omega)))
  have Z75_ : Hid (w12.heap.size ≤ w13.heap.size) := Lib.hid hoff13.size
  have M76_ := Lib.hid (hoff13.own M71_.out (fun g hg hg2 => by have h1 := B23_.out g hg2; have h2 := B6_.out g hg; have y0 := Z1_.out; have y1 := Z3_.out; have y2 := Z9_.out; have y3 := Z15_.out; have y4 := Z24_.out; have y5 := Z31_.out; have y6 := Z38_.out; have y7 := Z46_.out; have y8 := Z54_.out; have y9 := Z60_.out; have y10 := Z65_.out; have y11 := Z70_.out; omega))
  clear M71_
  have M77_ := Lib.hid (hoff13.own M72_.out (fun g hg hg2 => by have h1 := B23_.out g hg2; have h2 := B8_.out g hg; have y0 := Z1_.out; have y1 := Z3_.out; have y2 := Z9_.out; have y3 := Z15_.out; have y4 := Z24_.out; have y5 := Z31_.out; have y6 := Z38_.out; have y7 := Z46_.out; have y8 := Z54_.out; have y9 := Z60_.out; have y10 := Z65_.out; have y11 := Z70_.out; omega))
  clear M72_
  have M78_ := Lib.hid (hoff13.own M74_.out (fun g hg hg2 => HAPg.out g hg hg2))
  clear M74_
  have M79_ := Lib.hid ho13
  clear hoff13 ho13
  go_wp2_with fail
  refine (hdInt 1 w13 (Rd.ofOwnK M78_.out) (by omega) (by omega) (by omega)).mono ?_
  rintro e w' ⟨zq, rfl, hzq, rfl⟩
  obtain rfl : z12 = zq := HZ12.out.trans hzq.symm
  clear hzq
  go_wp2_with fail
  refine (hdInt z12 w13 (Rd.ofOwnK M79_.out) (by omega) (by omega) (by omega)).mono ?_
  rintro e w' ⟨zq, rfl, hzq, rfl⟩
  obtain rfl : z13 = zq := HZ13.out.trans hzq.symm
  clear hzq
  go_wp2_with fail
  refine (toIntS A1 n1 c1 zs w13 HN1.out (HR1.out.moved hB13.out) hsm1).mono ?_
  rintro e w14 ⟨gh1, hgh1, rfl, hoh1, hb14⟩
  have hB14 := Lib.hid (hB13.out.trans (hb14.mono hB13.out.size))
  have Z80_ : Hid (w13.heap.size ≤ w14.heap.size) := Lib.hid hb14.size
  have M81_ := Lib.hid (ownB M76_.out hb14)
  clear M76_
  have M82_ := Lib.hid (ownB M77_.out hb14)
  clear M77_
  have M83_ := Lib.hid (ownB M78_.out hb14)
  clear M78_
  have M84_ := Lib.hid (ownB M79_.out hb14)
  clear M79_
  have M85_ := Lib.hid (Rd.ofOwnK hoh1)
  clear hoh1 hgh1
  clear hb14
  go_wp2_with fail
  refine (iJusW _ n1 n1 zs f size low high w14 HN1.out hsm1 M85_.out).mono ?_
  rw [HE0.out, HE1.out, HE2.out, HM0.out, HM1.out]
  rintro e w15 ⟨Ah0, ch0, Ah1, ch1, rfl, hoh0, hoh1, haph, hb15⟩
  have hB15 := Lib.hid (hB14.out.trans (hb15.mono hB14.out.size))
  have Z86_ : Hid (w14.heap.size ≤ w15.heap.size) := Lib.hid hb15.size
  have M87_ := Lib.hid (M85_.out.moved hb15)
  clear M85_
  have M88_ := Lib.hid (ownB M81_.out hb15)
  clear M81_
  have M89_ := Lib.hid (ownB M82_.out hb15)
  clear M82_
  have M90_ := Lib.hid (ownB M83_.out hb15)
  clear M83_
  have M91_ := Lib.hid (ownB M84_.out hb15)
  clear M84_
  have M92_ := Lib.hid hoh0
  have B93_ : Hid (∀ g, Ah0 = some ⟨g, 0, none⟩ → w14.heap.size ≤ g ∧ g < w15.heap.size) := Lib.hid fun g hg => by subst hg; exact hoh0.lt _ rfl
  clear hoh0
  have M94_ := Lib.hid hoh1
  have B95_ : Hid (∀ g, Ah1 = some ⟨g, 0, none⟩ → w14.heap.size ≤ g ∧ g < w15.heap.size) := Lib.hid fun g hg => by subst hg; exact hoh1.lt _ rfl
  clear hoh1
  have HAPh := Lib.hid haph; clear haph
  clear hb15
  go_wp2_with fail
  refine (eqIntsA r0_ w15 HM0.out M92_.out M88_.out hms0).mono ?_
  rintro e w16 ⟨rfl, hb16⟩
  have hB16 := Lib.hid (hB15.out.trans (hb16.mono hB15.out.size))
  have Z96_ : Hid (w15.heap.size ≤ w16.heap.size) := Lib.hid hb16.size
  have M97_ := Lib.hid (ownB M88_.out hb16)
  clear M88_
  have M98_ := Lib.hid (ownB M89_.out hb16)
  clear M89_
  have M99_ := Lib.hid (ownB M90_.out hb16)
  clear M90_
  have M100_ := Lib.hid (ownB M91_.out hb16)
  clear M91_
  have M101_ := Lib.hid (ownB M92_.out hb16)
  clear M92_
  have M102_ := Lib.hid (ownB M94_.out hb16)
  clear M94_
  clear hb16
  go_wp2_with fail
  refine (eqIntsA r1_ w16 HM1.out M102_.out M98_.out hms1).mono ?_
  rintro e w17 ⟨rfl, hb17⟩
  have hB17 := Lib.hid (hB16.out.trans (hb17.mono hB16.out.size))
  have Z103_ : Hid (w16.heap.size ≤ w17.heap.size) := Lib.hid hb17.size
  have M104_ := Lib.hid (ownB M97_.out hb17)
  clear M97_
  have M105_ := Lib.hid (ownB M98_.out hb17)
  clear M98_
  have M106_ := Lib.hid (ownB M99_.out hb17)
  clear M99_
  have M107_ := Lib.hid (ownB M100_.out hb17)
  clear M100_
  have M108_ := Lib.hid (ownB M101_.out hb17)
  clear M101_
  have M109_ := Lib.hid (ownB M102_.out hb17)
  clear M102_
  clear hb17
  go_wp2_with fail
  refine (hdInt 1 w17 (Rd.ofOwnK M106_.out) (by omega) (by omega) (by omega)).mono ?_
  rintro e w' ⟨zq, rfl, hzq, rfl⟩
  obtain rfl : z12 = zq := HZ12.out.trans hzq.symm
  clear hzq
  go_wp2_with fail
  refine (hdInt z12 w17 (Rd.ofOwnK M107_.out) (by omega) (by omega) (by omega)).mono ?_
  rintro e w' ⟨zq, rfl, hzq, rfl⟩
  obtain rfl : z13 = zq := HZ13.out.trans hzq.symm
  clear hzq
  go_wp2
  go_ret
  exact ⟨rfl, hB17.out⟩


theorem own : ownKnob Try.prog.godebug = none := by kernel_rfl
theorem laidOut : laidOutB Try.prog = true := by kernel_rfl
set_option maxRecDepth 100000 in
theorem lifted (os : Os) (started : os.Started) (H : Type) (enc : TypeId × Value → H) :
    ReturnsInHanded {} Try.checked os 14 .any (Rows.fnExactJustifyBufferSpec.pre6 enc Try.prog Try.f14 Rows.fnExactJustifyBufferRow.domain false) (Rows.fnExactJustifyBufferSpec.post enc Try.prog Try.f14 false true false false) := by
  refine returnsInHanded_of_change_sized (C := Try.checked) own started (by kernel_rfl) Try.func14
    (ChangeSpec.witness6 (enc := enc) (C := Try.checked) false ⟨#[], #[.int .i64 0, .slice none 0 0, .int .i64 0, .int .i64 0, .int .i64 0], []⟩ 8 (by kernel_rfl) (by kernel_rfl) (by kernel_rfl) (by kernel_rfl)) ?_
  intro W base args ds gs before hval0 hW _ hsz0 _
  clear hsz0
  have hval : ∀ (j : Nat) t v, Try.f14.params[j]? = some t → args[j]? = some v → Value.okWide Try.prog W .any base t v := hval0
  have hW' := hW
  obtain ⟨p, q, hA0, hV, rfl, _, _⟩ := hW
  have hA : DataW.TrodAll enc Try.prog W 0 (fun _ => true) true Try.f14.params.toList args.toList ds p := hA0
  rw [Try.params14] at hA hval
  obtain ⟨v0, vs0, d0, ds0, p0, q0, hargs, rfl, rfl, h0, r0⟩ := trodAll_cons hA
  obtain ⟨v1, vs1, d1, ds1, p1, q1, rfl, rfl, rfl, h1, r1⟩ := trodAll_cons r0
  obtain ⟨v2, vs2, d2, ds2, p2, q2, rfl, rfl, rfl, h2, r2⟩ := trodAll_cons r1
  obtain ⟨v3, vs3, d3, ds3, p3, q3, rfl, rfl, rfl, h3, r3⟩ := trodAll_cons r2
  obtain ⟨v4, vs4, d4, ds4, p4, q4, rfl, rfl, rfl, h4, r4⟩ := trodAll_cons r3
  obtain ⟨rfl, rfl, rfl⟩ := trodAll_nil r4
  obtain rfl : args = #[v0, v1, v2, v3, v4] := by cases args; simp_all
  obtain ⟨rfl, rfl⟩ := trodVars_none hV
  simp only [List.append_nil] at hW'
  have hlt0 : ∀ x ∈ p0, x.block < W.heap.size := fun x hx => by simpa using hW'.lt x (by simp [hx])
  have hlt1 : ∀ x ∈ p1, x.block < W.heap.size := fun x hx => by simpa using hW'.lt x (by simp [hx])
  have hlt2 : ∀ x ∈ p2, x.block < W.heap.size := fun x hx => by simpa using hW'.lt x (by simp [hx])
  have hlt3 : ∀ x ∈ p3, x.block < W.heap.size := fun x hx => by simpa using hW'.lt x (by simp [hx])
  have hlt4 : ∀ x ∈ p4, x.block < W.heap.size := fun x hx => by simpa using hW'.lt x (by simp [hx])
  have fin : ∀ W' : World, Below W.heap.size W W' → Rows.fnExactJustifyBufferSpec.post enc Try.checked.prog Try.f14 false true false false W #[v0, v1, v2, v3, v4] (.bool true) W' := by
    intro W' hb
    refine ⟨_, _, _, [] ++ [], (p0 ++ (p1 ++ (p2 ++ (p3 ++ (p4 ++ []))))), [], hW', ?_, ?_, rfl, hb.frame _, fun h => by cases h⟩
    · exact trodAll_mk1 (shut_bool Try.underlying4 true)
    · exact trodAll_cons_mk (Below.trod laidOut (by kernel_rfl) (of_decide_eq_true (by kernel_rfl)) h0 hb hlt0) (trodAll_cons_mk (Below.trod laidOut (by kernel_rfl) (of_decide_eq_true (by kernel_rfl)) h1 hb hlt1) (trodAll_cons_mk (Below.trod laidOut (by kernel_rfl) (of_decide_eq_true (by kernel_rfl)) h2 hb hlt2) (trodAll_cons_mk (Below.trod laidOut (by kernel_rfl) (of_decide_eq_true (by kernel_rfl)) h3 hb hlt3) (trodAll_cons_mk (Below.trod laidOut (by kernel_rfl) (of_decide_eq_true (by kernel_rfl)) h4 hb hlt4) (trodAll_mk0)))))
  clear hW' hV hA0
  obtain ⟨a0, rfl, _, _, w0⟩ := open_int Try.underlying3 (hval 0 3 v0 rfl rfl) h0
  obtain ⟨b1, len1, cap1, rfl⟩ := okWide_slice Try.underlying35 (hval 1 35 v1 rfl rfl)
  obtain ⟨fuel1, hf1⟩ := h1
  obtain ⟨A1, n1, c1, z1, e1, ha1, hb1, hc1, hd1⟩ := rd_ints Try.underlying35 Try.underlying3 (by kernel_rfl) hf1
  simp only [Value.cells, List.cons.injEq, Value.slice.injEq, and_true] at e1
  obtain ⟨rfl, rfl, rfl⟩ := e1
  obtain ⟨a2, rfl, _, _, w2⟩ := open_int Try.underlying3 (hval 2 3 v2 rfl rfl) h2
  obtain ⟨a3, rfl, _, _, w3⟩ := open_int Try.underlying3 (hval 3 3 v3 rfl rfl) h3
  obtain ⟨a4, rfl, _, _, w4⟩ := open_int Try.underlying3 (hval 4 3 v4 rfl rfl) h4
  exact (walk a0 b1 len1 cap1 z1 a2 a3 a4 W w0 ha1 hb1 hc1 hd1 w2 w3 w4).mono fun e W' ⟨he, hb⟩ => ⟨_, he, fin W' hb⟩

theorem over : Rows.fnExactJustifyBufferRow.holds Try.pinned (OpenSpec.ofChange Rows.fnExactJustifyBufferSpec) :=
  OpenClaim.holds_of_wide 14 Try.f14 rfl rfl rfl rfl rfl rfl rfl ⟨rfl, rfl, rfl, rfl, rfl⟩ rfl rfl rfl rfl rfl (by kernel_rfl) Try.func14 (by kernel_rfl)
    (of_decide_eq_true (by kernel_rfl)) (by unfold Func.isWrapper; first | (rw [if_pos (by decide +kernel)]; kernel_rfl) | (rw [if_neg (by decide +kernel)]; exact ⟨rfl, rfl⟩))
    (fun os started H enc _ => lifted os started H enc)

/-- THE STATEMENT -/
theorem proved : Rows.FnExactJustifyBufferSaid :=
  over
end Go.Proofs.Ytgaankdmppoghaa.fnExactJustifyBuffer
