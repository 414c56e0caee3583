/- Proved: at every argument impl.InterleaveSymbols answers as spec.InterleaveSymbols does, in memory of its own, and leaves its arguments alone (the law FnExactInterleaveSymbols returns true). No condition. -/
import Derived.Test.YtgaankdmppoghaaRows
import Derived.Test.YtgaankdmppoghaaTab2
import Derived.Test.YtgaankdmppoghaaMkInt
import Derived.Test.YtgaankdmppoghaaArg
import Derived.WalkKit
import Derived.ProofKit
import Derived.OpenShut
import Derived.ShutString
import Derived.SizedLaws
import Derived.Carry
namespace Go.Proofs.Ytgaankdmppoghaa.fnExactInterleaveSymbols
open Go.ChangeShapes Go.WideShapes Go.ChangeAt Go.RowKit
open Go.ChangeMaps (open_string shut_string)

set_option maxRecDepth 100000 in
set_option maxHeartbeats 8000000 in
theorem walk (A0 : Option Addr) (n0 c0 : Nat) (zs : List Int) (r : Int) (w : World) (hn0 : zs.length = n0) (hm0 : n0 ≤ maxLen) (hr0 : Rd w w.heap.size A0 (zs.map (Value.int .i64))) (hwf0 : ∀ z ∈ zs, (Lit.int .i64 z).wf = true) (_w1 : (Lit.int .i64 r).wf = true) :
    Calls Try.prog 12 #[.slice A0 n0 c0, .int .i64 r] w fun e w' => e = .returned (.bool true) ∧ Below w.heap.size w w' := by
  unfold maxLen at hm0
  have HWF0 := Lib.hid hwf0; clear hwf0
  have HN0 := Lib.hid hn0; clear hn0
  have HR0 := Lib.hid hr0; clear hr0
  have W1_ := Lib.hid _w1; clear _w1
  obtain ⟨r0_, hr0_⟩ : ∃ ans_, ilvL zs r = ans_ := ⟨_, rfl⟩
  have HE0 := Lib.hid hr0_; clear hr0_
  obtain ⟨r1_, hr1_⟩ : ∃ ans_, tabB zs r = ans_ := ⟨_, rfl⟩
  have HE1 := Lib.hid hr1_; clear hr1_
  obtain ⟨m0_, hm0_⟩ : ∃ m, r0_.length = m := ⟨_, rfl⟩
  have HM0 := Lib.hid hm0_
  have hms0 : m0_ ≤ 1048576 := by rw [← hm0_, ← HE0.out]; exact Nat.le_trans (ilv_len zs r).1 (by omega)
  clear hm0_
  by_cases hsm0 : n0 ≤ 1048576
  case neg =>
    have q0 : 1048576 < (n0 : Int) := by omega
    clear hsm0
    go_enter Try.func12, Try.ntmps12
    go_wp2
    go_ret
    exact ⟨rfl, Below.refl _ _⟩
  case pos =>
  have q0 : (n0 : Int) ≤ 1048576 := by omega
  go_enter Try.func12, Try.ntmps12
  clear hm0
  have hB0 := Lib.hid (Below.refl w.heap.size w)
  go_wp2_with fail
  refine (toIntS A0 n0 c0 zs w HN0.out (HR0.out.moved hB0.out) hsm0).mono ?_
  rintro e w1 ⟨gs0, hgs0, rfl, hos0, hb1⟩
  have hB1 := Lib.hid (hB0.out.trans (hb1.mono hB0.out.size))
  have Z1_ : Hid (w.heap.size ≤ w1.heap.size) := Lib.hid hb1.size
  have M2_ := Lib.hid (Rd.ofOwnK hos0)
  clear hos0 hgs0
  clear hb1
  go_wp2_with fail
  refine (sIlv _ n0 n0 zs r w1 HN0.out hsm0 M2_.out).mono ?_
  rw [HE0.out, HE1.out, HM0.out]
  rintro e w2 ⟨Aw0, cw0, rfl, how0, hb2⟩
  have hB2 := Lib.hid (hB1.out.trans (hb2.mono hB1.out.size))
  have Z3_ : Hid (w1.heap.size ≤ w2.heap.size) := Lib.hid hb2.size
  have M4_ := Lib.hid (M2_.out.moved hb2)
  clear M2_
  have M5_ := Lib.hid how0
  have B6_ : Hid (∀ g, Aw0 = some ⟨g, 0, none⟩ → w1.heap.size ≤ g ∧ g < w2.heap.size) := Lib.hid fun g hg => by subst hg; exact how0.lt _ rfl
  clear how0
  clear hb2
  go_wp2_with fail
  refine (toIntS A0 n0 c0 zs w2 HN0.out (HR0.out.moved hB2.out) hsm0).mono ?_
  rintro e w3 ⟨gx0, hgx0, rfl, hox0, hb3⟩
  have hB3 := Lib.hid (hB2.out.trans (hb3.mono hB2.out.size))
  have Z7_ : Hid (w2.heap.size ≤ w3.heap.size) := Lib.hid hb3.size
  have M8_ := Lib.hid (ownB M5_.out hb3)
  clear M5_
  have M9_ := Lib.hid (Rd.ofOwnK hox0)
  have M10_ := Lib.hid hox0
  have B11_ : Hid (∀ g, (some ⟨gx0, 0, none⟩ : Option Addr) = some ⟨g, 0, none⟩ → w2.heap.size ≤ g ∧ g < w3.heap.size) := Lib.hid fun g hg => by injection hg with hg; injection hg with hg; subst hg; exact hox0.lt _ rfl
  clear hox0 hgx0
  clear hb3
  go_wp2_with fail
  refine (iIlv _ n0 n0 zs r w3 HN0.out hsm0 M9_.out).mono ?_
  rw [HE0.out, HE1.out, HM0.out]
  rintro e w4 ⟨Ag0, cg0, rfl, hog0, hb4⟩
  have hB4 := Lib.hid (hB3.out.trans (hb4.mono hB3.out.size))
  have Z12_ : Hid (w3.heap.size ≤ w4.heap.size) := Lib.hid hb4.size
  have M13_ := Lib.hid (M9_.out.moved hb4)
  clear M9_
  have M14_ := Lib.hid (ownB M8_.out hb4)
  clear M8_
  have M15_ := Lib.hid (ownB M10_.out hb4)
  clear M10_
  have M16_ := Lib.hid hog0
  have B17_ : Hid (∀ g, Ag0 = some ⟨g, 0, none⟩ → w3.heap.size ≤ g ∧ g < w4.heap.size) := Lib.hid fun g hg => by subst hg; exact hog0.lt _ rfl
  clear hog0
  clear hb4
  go_wp2_with fail
  refine (eqIntsA r0_ w4 HM0.out M16_.out M14_.out hms0).mono ?_
  rintro e w5 ⟨rfl, hb5⟩
  have hB5 := Lib.hid (hB4.out.trans (hb5.mono hB4.out.size))
  have Z18_ : Hid (w4.heap.size ≤ w5.heap.size) := Lib.hid hb5.size
  have M19_ := Lib.hid (M13_.out.moved hb5)
  clear M13_
  have M20_ := Lib.hid (ownB M14_.out hb5)
  clear M14_
  have M21_ := Lib.hid (ownB M15_.out hb5)
  clear M15_
  have M22_ := Lib.hid (ownB M16_.out hb5)
  clear M16_
  clear hb5
  go_wp2_with fail
  refine (toIntS A0 n0 c0 zs w5 HN0.out (HR0.out.moved hB5.out) hsm0).mono ?_
  rintro e w6 ⟨ge0, hge0, rfl, hoe0, hb6⟩
  have hB6 := Lib.hid (hB5.out.trans (hb6.mono hB5.out.size))
  have Z23_ : Hid (w5.heap.size ≤ w6.heap.size) := Lib.hid hb6.size
  have M24_ := Lib.hid (M19_.out.moved hb6)
  clear M19_
  have M25_ := Lib.hid (ownB M20_.out hb6)
  clear M20_
  have M26_ := Lib.hid (ownB M21_.out hb6)
  clear M21_
  have M27_ := Lib.hid (ownB M22_.out hb6)
  clear M22_
  have M28_ := Lib.hid (Rd.ofOwnK hoe0)
  clear hoe0 hge0
  clear hb6
  go_wp2_with fail
  refine (eqIntS _ _ n0 n0 n0 zs w6 HN0.out M24_.out M28_.out hsm0).mono ?_
  rintro e w7 ⟨rfl, hb7⟩
  have hB7 := Lib.hid (hB6.out.trans (hb7.mono hB6.out.size))
  have Z29_ : Hid (w6.heap.size ≤ w7.heap.size) := Lib.hid hb7.size
  have M30_ := Lib.hid (M24_.out.moved hb7)
  clear M24_
  have M31_ := Lib.hid (M28_.out.moved hb7)
  clear M28_
  have M32_ := Lib.hid (ownB M25_.out hb7)
  clear M25_
  have M33_ := Lib.hid (ownB M26_.out hb7)
  clear M26_
  have M34_ := Lib.hid (ownB M27_.out hb7)
  clear M27_
  clear hb7
  go_wp2_with fail
  refine (mkInt 1 w7 M33_.out (by omega) (by omega) (by omega)).mono ?_
  rintro e w8 ⟨z8, rfl, hz8, hoff8, ho8⟩
  have HZ8 := Lib.hid hz8
  have hz08 : 0 ≤ z8 := by omega
  have hz18 : z8 ≤ 1048577 := by omega
  have hzn8 : decide (z8 < 0) = false := decide_eq_false (by omega)
  clear hz8
  have hB8 := Lib.hid (hB7.out.trans (hoff8.below hB7.out.size (fun g hg => by have h1 := B11_.out g hg; have y0 := Z1_.out; have y1 := Z3_.out; have y2 := Z7_.out; have y3 := Z12_.out; have y4 := Z18_.out; have y5 := Z23_.out; have y6 := Z29_.out; omega)))
  have Z35_ : Hid (w7.heap.size ≤ w8.heap.size) := Lib.hid hoff8.size
  have M36_ := Lib.hid (hoff8.own M32_.out (fun g hg hg2 => by have h1 := B11_.out g hg2; have h2 := B6_.out g hg; have y0 := Z1_.out; have y1 := Z3_.out; have y2 := Z7_.out; have y3 := Z12_.out; have y4 := Z18_.out; have y5 := Z23_.out; have y6 := Z29_.out; omega))
  clear M32_
  have M37_ := Lib.hid (hoff8.own M34_.out (fun g hg hg2 => by have h1 := B11_.out g hg2; have h2 := B17_.out g hg; have y0 := Z1_.out; have y1 := Z3_.out; have y2 := Z7_.out; have y3 := Z12_.out; have y4 := Z18_.out; have y5 := Z23_.out; have y6 := Z29_.out; omega))
  clear M34_
  have M38_ := Lib.hid ho8
  clear hoff8 ho8
  go_wp2_with fail
  refine (eqIntsA r0_ w8 HM0.out M37_.out M36_.out hms0).mono ?_
  rintro e w9 ⟨rfl, hb9⟩
  have hB9 := Lib.hid (hB8.out.trans (hb9.mono hB8.out.size))
  have Z39_ : Hid (w8.heap.size ≤ w9.heap.size) := Lib.hid hb9.size
  have M40_ := Lib.hid (ownB M36_.out hb9)
  clear M36_
  have M41_ := Lib.hid (ownB M37_.out hb9)
  clear M37_
  clear hb9
  go_wp2_with fail
  refine (mkInt 1 w9 M41_.out (by omega) (by omega) (by omega)).mono ?_
  rintro e w10 ⟨z10, rfl, hz10, hoff10, ho10⟩
  have HZ10 := Lib.hid hz10
  have hz010 : 0 ≤ z10 := by omega
  have hz110 : z10 ≤ 1048577 := by omega
  have hzn10 : decide (z10 < 0) = false := decide_eq_false (by omega)
  clear hz10
  have hB10 := Lib.hid (hB9.out.trans (hoff10.below hB9.out.size (fun g hg => by have h1 := B17_.out g hg; have y0 := Z1_.out; have y1 := Z3_.out; have y2 := Z7_.out; have y3 := Z12_.out; have y4 := Z18_.out; have y5 := Z23_.out; have y6 := Z29_.out; have y7 := Z35_.out; have y8 := Z39_.out; omega)))
  have Z42_ : Hid (w9.heap.size ≤ w10.heap.size) := Lib.hid hoff10.size
  have M43_ := Lib.hid (hoff10.own M40_.out (fun g hg hg2 => by have h1 := B17_.out g hg2; have h2 := B6_.out g hg; have y0 := Z1_.out; have y1 := Z3_.out; have y2 := Z7_.out; have y3 := Z12_.out; have y4 := Z18_.out; have y5 := Z23_.out; have y6 := Z29_.out; have y7 := Z35_.out; have y8 := Z39_.out; omega))
  clear M40_
  have M44_ := Lib.hid ho10
  clear hoff10 ho10
  go_wp2_with fail
  refine (hdInt 1 w10 (Rd.ofOwnK M44_.out) (by omega) (by omega) (by omega)).mono ?_
  rintro e w' ⟨zq, rfl, hzq, rfl⟩
  obtain rfl : z10 = zq := HZ10.out.trans hzq.symm
  clear hzq
  go_wp2_with fail
  refine (toIntS A0 n0 c0 zs w10 HN0.out (HR0.out.moved hB10.out) hsm0).mono ?_
  rintro e w11 ⟨gh0, hgh0, rfl, hoh0, hb11⟩
  have hB11 := Lib.hid (hB10.out.trans (hb11.mono hB10.out.size))
  have Z45_ : Hid (w10.heap.size ≤ w11.heap.size) := Lib.hid hb11.size
  have M46_ := Lib.hid (ownB M43_.out hb11)
  clear M43_
  have M47_ := Lib.hid (ownB M44_.out hb11)
  clear M44_
  have M48_ := Lib.hid (Rd.ofOwnK hoh0)
  clear hoh0 hgh0
  clear hb11
  go_wp2_with fail
  refine (iIlv _ n0 n0 zs r w11 HN0.out hsm0 M48_.out).mono ?_
  rw [HE0.out, HE1.out, HM0.out]
  rintro e w12 ⟨Ah0, ch0, rfl, hoh0, hb12⟩
  have hB12 := Lib.hid (hB11.out.trans (hb12.mono hB11.out.size))
  have Z49_ : Hid (w11.heap.size ≤ w12.heap.size) := Lib.hid hb12.size
  have M50_ := Lib.hid (M48_.out.moved hb12)
  clear M48_
  have M51_ := Lib.hid (ownB M46_.out hb12)
  clear M46_
  have M52_ := Lib.hid (ownB M47_.out hb12)
  clear M47_
  have M53_ := Lib.hid hoh0
  have B54_ : Hid (∀ g, Ah0 = some ⟨g, 0, none⟩ → w11.heap.size ≤ g ∧ g < w12.heap.size) := Lib.hid fun g hg => by subst hg; exact hoh0.lt _ rfl
  clear hoh0
  clear hb12
  go_wp2_with fail
  refine (eqIntsA r0_ w12 HM0.out M53_.out M51_.out hms0).mono ?_
  rintro e w13 ⟨rfl, hb13⟩
  have hB13 := Lib.hid (hB12.out.trans (hb13.mono hB12.out.size))
  have Z55_ : Hid (w12.heap.size ≤ w13.heap.size) := Lib.hid hb13.size
  have M56_ := Lib.hid (ownB M51_.out hb13)
  clear M51_
  have M57_ := Lib.hid (ownB M52_.out hb13)
  clear M52_
  have M58_ := Lib.hid (ownB M53_.out hb13)
  clear M53_
  clear hb13
  go_wp2_with fail
  refine (hdInt 1 w13 (Rd.ofOwnK M57_.out) (by omega) (by omega) (by omega)).mono ?_
  rintro e w' ⟨zq, rfl, hzq, rfl⟩
  obtain rfl : z10 = zq := HZ10.out.trans hzq.symm
  clear hzq
  go_wp2
  go_ret
  exact ⟨rfl, hB13.out⟩


theorem own : ownKnob Try.prog.godebug = none := by kernel_rfl
theorem laidOut : laidOutB Try.prog = true := by kernel_rfl
set_option maxRecDepth 100000 in
theorem lifted (os : Os) (started : os.Started) (H : Type) (enc : TypeId × Value → H) :
    ReturnsInHanded {} Try.checked os 12 .any (Rows.fnExactInterleaveSymbolsSpec.pre6 enc Try.prog Try.f12 Rows.fnExactInterleaveSymbolsRow.domain false) (Rows.fnExactInterleaveSymbolsSpec.post enc Try.prog Try.f12 false true false false) := by
  refine returnsInHanded_of_change_sized (C := Try.checked) own started (by kernel_rfl) Try.func12
    (ChangeSpec.witness6 (enc := enc) (C := Try.checked) false ⟨#[], #[.slice none 0 0, .int .i64 0], []⟩ 8 (by kernel_rfl) (by kernel_rfl) (by kernel_rfl) (by kernel_rfl)) ?_
  intro W base args ds gs before hval0 hW _ hsz0 _
  clear hsz0
  have hval : ∀ (j : Nat) t v, Try.f12.params[j]? = some t → args[j]? = some v → Value.okWide Try.prog W .any base t v := hval0
  have hW' := hW
  obtain ⟨p, q, hA0, hV, rfl, _, _⟩ := hW
  have hA : DataW.TrodAll enc Try.prog W 0 (fun _ => true) true Try.f12.params.toList args.toList ds p := hA0
  rw [Try.params12] at hA hval
  obtain ⟨v0, vs0, d0, ds0, p0, q0, hargs, rfl, rfl, h0, r0⟩ := trodAll_cons hA
  obtain ⟨v1, vs1, d1, ds1, p1, q1, rfl, rfl, rfl, h1, r1⟩ := trodAll_cons r0
  obtain ⟨rfl, rfl, rfl⟩ := trodAll_nil r1
  obtain rfl : args = #[v0, v1] := by cases args; simp_all
  obtain ⟨rfl, rfl⟩ := trodVars_none hV
  simp only [List.append_nil] at hW'
  have hlt0 : ∀ x ∈ p0, x.block < W.heap.size := fun x hx => by simpa using hW'.lt x (by simp [hx])
  have hlt1 : ∀ x ∈ p1, x.block < W.heap.size := fun x hx => by simpa using hW'.lt x (by simp [hx])
  have fin : ∀ W' : World, Below W.heap.size W W' → Rows.fnExactInterleaveSymbolsSpec.post enc Try.checked.prog Try.f12 false true false false W #[v0, v1] (.bool true) W' := by
    intro W' hb
    refine ⟨_, _, _, [] ++ [], (p0 ++ (p1 ++ [])), [], hW', ?_, ?_, rfl, hb.frame _, fun h => by cases h⟩
    · exact trodAll_mk1 (shut_bool Try.underlying4 true)
    · exact trodAll_cons_mk (Below.trod laidOut (by kernel_rfl) (of_decide_eq_true (by kernel_rfl)) h0 hb hlt0) (trodAll_cons_mk (Below.trod laidOut (by kernel_rfl) (of_decide_eq_true (by kernel_rfl)) h1 hb hlt1) (trodAll_mk0))
  clear hW' hV hA0
  obtain ⟨b0, len0, cap0, rfl⟩ := okWide_slice Try.underlying35 (hval 0 35 v0 rfl rfl)
  obtain ⟨fuel0, hf0⟩ := h0
  obtain ⟨A0, n0, c0, z0, e0, ha0, hb0, hc0, hd0⟩ := rd_ints Try.underlying35 Try.underlying3 (by kernel_rfl) hf0
  simp only [Value.cells, List.cons.injEq, Value.slice.injEq, and_true] at e0
  obtain ⟨rfl, rfl, rfl⟩ := e0
  obtain ⟨a1, rfl, _, _, w1⟩ := open_int Try.underlying3 (hval 1 3 v1 rfl rfl) h1
  exact (walk b0 len0 cap0 z0 a1 W ha0 hb0 hc0 hd0 w1).mono fun e W' ⟨he, hb⟩ => ⟨_, he, fin W' hb⟩

theorem over : Rows.fnExactInterleaveSymbolsRow.holds Try.pinned (OpenSpec.ofChange Rows.fnExactInterleaveSymbolsSpec) :=
  OpenClaim.holds_of_wide 12 Try.f12 rfl rfl rfl rfl rfl rfl rfl ⟨rfl, rfl, rfl, rfl, rfl⟩ rfl rfl rfl rfl rfl (by kernel_rfl) Try.func12 (by kernel_rfl)
    (of_decide_eq_true (by kernel_rfl)) (by unfold Func.isWrapper; first | (rw [if_pos (by decide +kernel)]; kernel_rfl) | (rw [if_neg (by decide +kernel)]; exact ⟨rfl, rfl⟩))
    (fun os started H enc _ => lifted os started H enc)

/-- THE STATEMENT -/
theorem proved : Rows.FnExactInterleaveSymbolsSaid :=
  over
end Go.Proofs.Ytgaankdmppoghaa.fnExactInterleaveSymbols
