/- Proved: at every network and fiber number impl.FailingWith answers as spec.FailingWith does, leaves its arguments alone and answers in memory of its own (the law FnExactFailingWith returns true). No condition. -/
import Derived.Test.YthmmhhoaplbfgaaRows
import Derived.Test.YthmmhhoaplbfgaaFail
import Derived.Test.YthmmhhoaplbfgaaArg
import Derived.WalkKit
import Derived.ProofKit
import Derived.OpenShut
import Derived.ShutString
import Derived.SizedLaws
import Derived.Carry
namespace Go.Proofs.Ythmmhhoaplbfgaa.fnExactFailingWith
open Go.ChangeShapes Go.WideShapes Go.ChangeAt Go.RowKit
open Go.ChangeMaps (open_string shut_string)

set_option maxHeartbeats 2000000 in
theorem walk (A1 : Option Addr) (n1 c1 : Nat) (ss : List ByteArray) (A2 : Option Addr) (n2 c2 : Nat) (fs : List Q4) (i : Int) (w : World)
    (hn1 : ss.length = n1) (hm1 : n1 ≤ maxLen) (hr1 : Rd w w.heap.size A1 (ss.map Value.string)) (hws : ∀ s ∈ ss, s.size ≤ maxLen) (hn2 : fs.length = n2) (hm2 : n2 ≤ maxLen) (hr2 : Rd w w.heap.size A2 (fs.flatMap Q4.cells)) (_hwf : ∀ q ∈ fs, q.wf) (_w1 : (Lit.int .i64 i).wf = true) :
    Calls Try.prog 13 #[.agg #[.slice A1 n1 c1, .slice A2 n2 c2], .int .i64 i] w fun e w' => e = .returned (.bool true) ∧ Below w.heap.size w w' := by
  clear _hwf
  have HN1 := Lib.hid hn1; have HN2 := Lib.hid hn2; have HWS := Lib.hid hws; clear hn1 hn2 hws
  clear _w1
  have hLn : (failL ss fs i).length ≤ fs.length := failL_len ss fs i
  obtain ⟨L, hL⟩ : ∃ L, failL ss fs i = L := ⟨_, rfl⟩
  obtain ⟨b, hb⟩ : ∃ b, failB ss fs i = b := ⟨_, rfl⟩
  rw [hL] at hLn
  have HL := Lib.hid hL; have HB := Lib.hid hb; have HLN := Lib.hid hLn
  clear hL hb hLn
  go_enter Try.func13, Try.ntmps13
  go_wp2_with fail
  obtain ⟨W, hW⟩ : ∃ W, (w.alloc (Obj.cells #[.slice A1 n1 c1, .slice A2 n2 c2] 63)) = W := ⟨_, rfl⟩
  have hk0 : W.cell? ⟨w.heap.size, 0, none⟩ = some (.slice A1 n1 c1) := by rw [← hW]; simp [go_sem]
  have hk1 : W.cell? ⟨w.heap.size, 1, none⟩ = some (.slice A2 n2 c2) := by rw [← hW]; simp [go_sem]
  have hz : w.heap.size < W.heap.size := by rw [← hW]; simp
  have HBW := Lib.hid ((Below.refl w.heap.size w).alloc (Nat.le_refl _) (Obj.cells #[.slice A1 n1 c1, .slice A2 n2 c2] 63))
  rw [hW] at HBW ⊢
  clear hW
  have HR1 := Lib.hid (hr1.moved HBW.out); have HR2 := Lib.hid (hr2.moved HBW.out)
  have HK0 : Hid (∀ V, Below W.heap.size W V → V.cell? ⟨w.heap.size, 0, none⟩ = some (.slice A1 n1 c1)) := Lib.hid fun V hV => (hV.cell (p := ⟨_, _, none⟩) hz).trans hk0
  have HK1 : Hid (∀ V, Below W.heap.size W V → V.cell? ⟨w.heap.size, 1, none⟩ = some (.slice A2 n2 c2)) := Lib.hid fun V hV => (hV.cell (p := ⟨_, _, none⟩) hz).trans hk1
  have HZ := Lib.hid hz
  clear hr1 hr2 hk0 hk1 hz
  refine (szNet A1 A2 n1 c1 n2 c2 1048576 ss fs W HN1.out hm1 HR1.out HWS.out hm2 (by omega) (by omega)).mono ?_
  rintro e w0 ⟨v, rfl, hb0, hv0, hv1, hv2⟩
  by_cases hneg : v < 0
  · go_wp2
    go_ret
    exact ⟨rfl, HBW.out.trans (hb0.mono HBW.out.size)⟩
  have hneg' : 0 ≤ v := by omega
  have hsm1 : n1 ≤ 1048576 := by have := hv2 hneg'; omega
  have hsm2 : n2 ≤ 1048576 := by have := hv2 hneg'; omega
  clear hneg hv2 hm1 hm2
  have hB0 := Lib.hid hb0
  have ka := HK0.out _ hB0.out; have kb := HK1.out _ hB0.out
  go_wp2_with fail
  clear ka kb
  refine (toNet A1 A2 n1 c1 n2 c2 ss fs w0 HN1.out (HR1.out.moved hB0.out) hsm1 HN2.out (HR2.out.moved hB0.out) hsm2).mono ?_
  rintro e w1 ⟨g1, g2, rfl, ho1, ho2, hb1⟩
  have hB1 := Lib.hid (hB0.out.trans (hb1.mono hB0.out.size))
  have hS1 := Lib.hid (Rd.ofOwnK ho1); have hS2 := Lib.hid (Rd.ofOwnK ho2)
  clear ho1 ho2 hb1 hb0
  go_wp2_with fail
  refine (specFail ⟨HN1.out, hsm1, Nat.le_refl _, hS1.out, HWS.out, HN2.out, hsm2, hS2.out⟩ i).mono ?_
  rw [HL.out, HB.out]
  rintro e w2 ⟨A0, N0, c0, rfl, HNN0, ho0, hb2⟩
  have hB2 := Lib.hid (hB1.out.trans (hb2.mono hB1.out.size))
  have hN0 : N0 ≤ 1048576 := by have := HNN0.out; have := HLN.out; have := HN2.out; omega
  have HA0 := Lib.hid (Rd.ofOwn ho0)
  clear hb2 hS1 hS2 ho0
  have ka := HK0.out _ hB2.out; have kb := HK1.out _ hB2.out
  go_wp2_with fail
  clear ka kb
  refine (toNet A1 A2 n1 c1 n2 c2 ss fs w2 HN1.out (HR1.out.moved hB2.out) hsm1 HN2.out (HR2.out.moved hB2.out) hsm2).mono ?_
  rintro e w3 ⟨g3, g4, rfl, ho1, ho2, hb3⟩
  have HX1_ := Lib.hid ho1; have HX2_ := Lib.hid ho2; have HB23 := Lib.hid hb3
  have hg3 : w2.heap.size ≤ g3 ∧ g3 < w3.heap.size := by have h := ho1.lt g3 rfl; exact h
  have hg4 : w2.heap.size ≤ g4 ∧ g4 < w3.heap.size := by have h := ho2.lt g4 rfl; exact h
  have HNE := Lib.hid (rows_apart ho1 ho2 (by decide))
  have hB3 := Lib.hid (hB2.out.trans (hb3.mono hB2.out.size))
  have hS3 := Lib.hid (Rd.ofOwnK ho1); have hS4 := Lib.hid (Rd.ofOwnK ho2)
  clear ho1 ho2 hb3
  go_wp2_with fail
  obtain ⟨V, hV⟩ : ∃ V, (w3.alloc (Obj.cells #[.slice (some ⟨g3, 0, none⟩) n1 n1, .slice (some ⟨g4, 0, none⟩) n2 n2] 27)) = V := ⟨_, rfl⟩
  have hx0 : V.cell? ⟨w3.heap.size, 0, none⟩ = some (.slice (some ⟨g3, 0, none⟩) n1 n1) := by rw [← hV]; simp [go_sem]
  have hx1 : V.cell? ⟨w3.heap.size, 1, none⟩ = some (.slice (some ⟨g4, 0, none⟩) n2 n2) := by rw [← hV]; simp [go_sem]
  have hzx : w3.heap.size < V.heap.size := by rw [← hV]; simp
  have hbV := (Below.refl w3.heap.size w3).alloc (Nat.le_refl _) (Obj.cells #[.slice (some ⟨g3, 0, none⟩) n1 n1, .slice (some ⟨g4, 0, none⟩) n2 n2] 27)
  rw [hV] at hbV ⊢
  clear hV
  have HBV := Lib.hid (hB3.out.trans (hbV.mono hB3.out.size))
  have HY1 := Lib.hid (ownB HX1_.out hbV); have HY2 := Lib.hid (ownB HX2_.out hbV); have HB2V := Lib.hid (HB23.out.trans (hbV.mono HB23.out.size))
  have hg3V : g3 < V.heap.size := Nat.lt_of_lt_of_le hg3.2 hbV.size
  have hg4V : g4 < V.heap.size := Nat.lt_of_lt_of_le hg4.2 hbV.size
  have hV3 := Lib.hid (hS3.out.moved hbV); have hV4 := Lib.hid (hS4.out.moved hbV)
  have HX0 : Hid (∀ U, Below V.heap.size V U → U.cell? ⟨w3.heap.size, 0, none⟩ = some (.slice (some ⟨g3, 0, none⟩) n1 n1)) := Lib.hid fun U hU => (hU.cell (p := ⟨_, _, none⟩) hzx).trans hx0
  have HX1 : Hid (∀ U, Below V.heap.size V U → U.cell? ⟨w3.heap.size, 1, none⟩ = some (.slice (some ⟨g4, 0, none⟩) n2 n2)) := Lib.hid fun U hU => (hU.cell (p := ⟨_, _, none⟩) hzx).trans hx1
  have HZX := Lib.hid hzx
  clear hx0 hx1 hzx hbV hS3 hS4
  refine (implFail ⟨HN1.out, hsm1, Nat.le_refl _, hV3.out, HWS.out, HN2.out, hsm2, hV4.out⟩ i).mono ?_
  rw [HL.out, HB.out]
  rintro e w4 ⟨A4, N4, c4, rfl, HNN4, ho4, hb4⟩
  obtain rfl : N4 = N0 := HNN4.out.trans HNN0.out.symm
  have HA4 := Lib.hid ho4
  have HB24 := Lib.hid (HB2V.out.trans (hb4.mono HB2V.out.size))
  have HZ1 := Lib.hid (ownB HY1.out hb4); have HZ2 := Lib.hid (ownB HY2.out hb4)
  clear ho4 HY1 HY2 HX1_ HX2_
  have hB4 := Lib.hid (HBV.out.trans (hb4.mono HBV.out.size))
  have hT3 := Lib.hid (hV3.out.moved hb4); have hT4 := Lib.hid (hV4.out.moved hb4)
  have hVX := Lib.hid hb4
  clear hb4
  go_wp2_with fail
  refine (eqInts _ _ N4 _ _ L w4 HNN4.out.symm (Rd.ofOwn HA4.out) ((HA0.out.over HB24.out).wider HB24.out.size) hN0).mono ?_
  rintro e w4' ⟨rfl, hb4'⟩
  have HA4' := Lib.hid (ownB HA4.out hb4')
  have HB24' := Lib.hid (HB24.out.trans (hb4'.mono HB24.out.size))
  have HZ1' := Lib.hid (ownB HZ1.out hb4'); have HZ2' := Lib.hid (ownB HZ2.out hb4')
  have hB4' := Lib.hid (hB4.out.trans (hb4'.mono hB4.out.size))
  have hT3' := Lib.hid (hT3.out.moved hb4'); have hT4' := Lib.hid (hT4.out.moved hb4')
  have hVX' := Lib.hid (hVX.out.trans (hb4'.mono hVX.out.size))
  clear hB4 hT3 hT4 hVX HB24 HZ1 HZ2 HA4 hb4'
  have ka := HK0.out _ hB4'.out; have kb := HK1.out _ hB4'.out
  have kx := HX0.out _ hVX'.out; have ky := HX1.out _ hVX'.out
  have hgx : w3.heap.size < w4'.heap.size := Nat.lt_of_lt_of_le HZX.out hVX'.out.size
  have hgw : w.heap.size < w4'.heap.size := Nat.lt_of_lt_of_le HZ.out hB4'.out.size
  have hbd : Bel w4' w4'.drew := Bel.of (Below.refl _ _).drew
  go_wp2_with fail
  go_region_held3 (fun U => U.cell? ⟨w3.heap.size, 0, none⟩ = some (.slice (some ⟨g3, 0, none⟩) n1 n1) ∧ U.cell? ⟨w3.heap.size, 1, none⟩ = some (.slice (some ⟨g4, 0, none⟩) n2 n2) ∧
      U.cell? ⟨w.heap.size, 0, none⟩ = some (.slice A1 n1 c1) ∧ U.cell? ⟨w.heap.size, 1, none⟩ = some (.slice A2 n2 c2) ∧ Bel w4' U)
    (first | go_keep | (go_split_ands; (refine ⟨?_, ?_, ?_, ?_, ?_⟩ <;> first | assumption | exact Bel.step (by assumption) hb5 | exact Bel.step (by assumption) hb6 | exact (Bel.at_ (by assumption) hb5 (by assumption)).trans (by assumption) | exact (Bel.at_ (by assumption) hb6 (by assumption)).trans (by assumption))))
    (first
      | (go_at_call 40
         go_split_ands
         refine (toNet A1 A2 n1 c1 n2 c2 ss fs _ HN1.out (HR1.out.moved (Below.trans hB4'.out ((Bel.out (by assumption)).mono hB4'.out.size))) hsm1 HN2.out (HR2.out.moved (Below.trans hB4'.out ((Bel.out (by assumption)).mono hB4'.out.size))) hsm2).mono ?_
         rintro e w5 ⟨g5, g6, rfl, ho1, ho2, hb5⟩
         have hS5 := Lib.hid (Rd.ofOwnK ho1)
         have hS6 := Lib.hid (Rd.ofOwnK ho2)
         clear ho1 ho2)
      | (go_at_call 43
         go_split_ands
         refine (eqNet g3 g4 g5 g6 n1 n2 n1 n2 n1 n2 ss fs w5 HN1.out hsm1 HN2.out hsm2 (hT3'.out.moved (Bel.out (by assumption))) hS5.out (hT4'.out.moved (Bel.out (by assumption))) hS6.out).mono ?_
         rintro e w6 ⟨rfl, hb6⟩))
  all_goals
    go_split_ands
    have hB6 : Below W.heap.size W w6 := Below.trans hB4'.out (Below.mono (Bel.out (by assumption)) hB4'.out.size)
    have hB6 := Lib.hid hB6
    have hB46 : Below w4'.heap.size w4' w6 := Bel.out (by assumption)
    have HB26 := Lib.hid (HB24'.out.trans (hB46.mono HB24'.out.size))
    have HQ1 := Lib.hid (own_base (ownB HZ1'.out hB46) (Nat.zero_le _)); have HQ2 := Lib.hid (own_base (ownB HZ2'.out hB46) (Nat.zero_le _))
    have HA6 := Lib.hid (ownB HA4'.out hB46)
    have HVS : Hid (V.heap.size ≤ w6.heap.size ∧ w2.heap.size ≤ V.heap.size) := Lib.hid ⟨Nat.le_trans hVX'.out.size hB46.size, HB2V.out.size⟩
    clear hB46
    go_wp2_with fail
    refine (markNet g3 g4 n1 n2 n1 n2 _ _ w6 HQ1.out hsm1 HQ2.out hsm2 HNE.out).mono ?_
    rintro e w7 ⟨v7, rfl, hv7, hoff7⟩
    have HA7 := Lib.hid (own_off HA6.out hoff7 (fun b h => by rcases h with h | h <;> omega))
    have HB27 := Lib.hid (HB26.out.trans (hoff7.below HB26.out.size (fun b h => by rcases h with h | h <;> omega)))
    have hB7 := Lib.hid (hB6.out.trans (hoff7.below hB6.out.size (fun b h => by have := hB2.out.size; rcases h with h | h <;> omega)))
    have HV7 : Hid (V.heap.size ≤ w7.heap.size) := Lib.hid (Nat.le_trans HVS.out.1 hoff7.size)
    clear hoff7
    have hv7' : decide (v7 < 0) = false := decide_eq_false (by omega)
    go_wp2_with fail
    refine (eqInts _ _ N4 _ _ L w7 HNN4.out.symm (Rd.ofOwn HA7.out) ((HA0.out.over HB27.out).wider HB27.out.size) hN0).mono ?_
    rintro e w8 ⟨rfl, hb8⟩
    have HA8 := Lib.hid (ownB HA7.out hb8)
    have HB28 := Lib.hid (HB27.out.trans (hb8.mono HB27.out.size))
    have hB8 := Lib.hid (hB7.out.trans (hb8.mono hB7.out.size))
    have HV8 : Hid (V.heap.size ≤ w8.heap.size) := Lib.hid (Nat.le_trans HV7.out hb8.size)
    clear hb8
    go_wp2_with fail
    refine (markIntsA A4 N4 c4 L w8 HA8.out hN0).mono ?_
    rintro e w9 ⟨rfl, hoff9, ho9⟩
    have HB29 := Lib.hid (HB28.out.trans (hoff9.below HB28.out.size (fun b h => by have := HVS.out.2; omega)))
    have hB9 := Lib.hid (hB8.out.trans (hoff9.below hB8.out.size (fun b h => by have h1 := HVS.out.2; have h2 := hB2.out.size; omega)))
    have HA9 := Lib.hid ho9
    clear hoff9 ho9
    go_wp2_with fail
    refine (heldInts A4 N4 c4 w9 (Rd.ofOwn HA9.out) hN0).mono ?_
    rintro e w' ⟨rfl, rfl⟩
    have hN4 : 0 ≤ (N4 : Int) := Int.natCast_nonneg _
    have ka := HK0.out _ hB9.out; have kb := HK1.out _ hB9.out
    go_wp2_with fail
    clear ka kb
    refine (toNet A1 A2 n1 c1 n2 c2 ss fs w9 HN1.out (HR1.out.moved hB9.out) hsm1 HN2.out (HR2.out.moved hB9.out) hsm2).mono ?_
    rintro e w10 ⟨g7, g8, rfl, ho1, ho2, hb10⟩
    have hS7 := Lib.hid (Rd.ofOwnK ho1); have hS8 := Lib.hid (Rd.ofOwnK ho2)
    have hB10 := Lib.hid (hB9.out.trans (hb10.mono hB9.out.size))
    have HA10 := Lib.hid (ownB HA9.out hb10)
    have HB210 := Lib.hid (HB29.out.trans (hb10.mono HB29.out.size))
    clear ho1 ho2 hb10
    go_wp2_with fail
    refine (implFail ⟨HN1.out, hsm1, Nat.le_refl _, hS7.out, HWS.out, HN2.out, hsm2, hS8.out⟩ i).mono ?_
    rw [HL.out, HB.out]
    rintro e w11 ⟨A11, N11, c11, rfl, HNN11, ho11, hb11⟩
    obtain rfl : N11 = N4 := HNN11.out.trans HNN4.out.symm
    have HA11 := Lib.hid (Rd.ofOwn ho11)
    have HM11 := Lib.hid (ownB HA10.out hb11)
    have hB11 := Lib.hid (hB10.out.trans (hb11.mono hB10.out.size))
    have HB211 := Lib.hid (HB210.out.trans (hb11.mono HB210.out.size))
    clear ho11 hb11
    go_wp2_with fail
    refine (eqInts _ _ N11 _ _ L w11 HNN11.out.symm HA11.out ((HA0.out.over HB211.out).wider HB211.out.size) hN0).mono ?_
    rintro e w12 ⟨rfl, hb12⟩
    have HM12 := Lib.hid (ownB HM11.out hb12)
    have hB12 := Lib.hid (hB11.out.trans (hb12.mono hB11.out.size))
    clear hb12
    go_wp2_with fail
    refine (heldInts A4 N11 c4 w12 (Rd.ofOwn HM12.out) hN0).mono ?_
    rintro e w' ⟨rfl, rfl⟩
    go_wp2
    go_ret
    exact ⟨rfl, HBW.out.trans (hB12.out.mono HBW.out.size)⟩


theorem own : ownKnob Try.prog.godebug = none := by kernel_rfl
theorem laidOut : laidOutB Try.prog = true := by kernel_rfl
set_option maxRecDepth 100000 in
theorem lifted (os : Os) (started : os.Started) (H : Type) (enc : TypeId × Value → H) :
    ReturnsInHanded {} Try.checked os 13 .any (Rows.fnExactFailingWithSpec.pre6 enc Try.prog Try.f13 Rows.fnExactFailingWithRow.domain false) (Rows.fnExactFailingWithSpec.post enc Try.prog Try.f13 false true false false) := by
  refine returnsInHanded_of_change_sized (C := Try.checked) own started (by kernel_rfl) Try.func13
    (ChangeSpec.witness6 (enc := enc) (C := Try.checked) false ⟨#[], #[.agg #[.slice none 0 0, .slice none 0 0], .int .i64 0], []⟩ 8 (by kernel_rfl) (by kernel_rfl) (by kernel_rfl) (by kernel_rfl)) ?_
  intro W base args ds gs before hval0 hW _ hsz0 _
  clear hsz0
  have hval : ∀ (j : Nat) t v, Try.f13.params[j]? = some t → args[j]? = some v → Value.okWide Try.prog W .any base t v := hval0
  have hW' := hW
  obtain ⟨p, q, hA0, hV, rfl, _, _⟩ := hW
  have hA : DataW.TrodAll enc Try.prog W 0 (fun _ => true) true Try.f13.params.toList args.toList ds p := hA0
  rw [Try.params13] at hA hval
  obtain ⟨v0, vs0, d0, ds0, p0, q0, hargs, rfl, rfl, h0, r0⟩ := trodAll_cons hA
  obtain ⟨v1, vs1, d1, ds1, p1, q1, rfl, rfl, rfl, h1, r1⟩ := trodAll_cons r0
  obtain ⟨rfl, rfl, rfl⟩ := trodAll_nil r1
  obtain rfl : args = #[v0, v1] := by cases args; simp_all
  obtain ⟨rfl, rfl⟩ := trodVars_none hV
  simp only [List.append_nil] at hW'
  have hlt0 : ∀ x ∈ p0, x.block < W.heap.size := fun x hx => by simpa using hW'.lt x (by simp [hx])
  have hlt1 : ∀ x ∈ p1, x.block < W.heap.size := fun x hx => by simpa using hW'.lt x (by simp [hx])
  have fin : ∀ W' : World, Below W.heap.size W W' → Rows.fnExactFailingWithSpec.post enc Try.checked.prog Try.f13 false true false false W #[v0, v1] (.bool true) W' := by
    intro W' hb
    refine ⟨_, _, _, [] ++ [], (p0 ++ (p1 ++ [])), [], hW', ?_, ?_, rfl, hb.frame _, fun h => by cases h⟩
    · exact trodAll_mk1 (shut_bool Try.underlying4 true)
    · exact trodAll_cons_mk (Below.trod laidOut (by kernel_rfl) (of_decide_eq_true (by kernel_rfl)) h0 hb hlt0) (trodAll_cons_mk (Below.trod laidOut (by kernel_rfl) (of_decide_eq_true (by kernel_rfl)) h1 hb hlt1) (trodAll_mk0))
  clear hW' hV hA0
  obtain ⟨A0, n0, c0, s0, B0, m0, k0, z0, rfl, ⟨ha0, hb0, hc0, hd0⟩, ⟨he0, hf0, hg0, hh0⟩⟩ := open_net Try.underlying63 (by kernel_rfl) (by kernel_rfl) Try.underlying24 Try.underlying9 (by kernel_rfl) Try.underlying61 Try.underlying132 (by kernel_rfl) (by kernel_rfl) rfl (hint_of Try.underlying3 (by decide +kernel)) (hval 0 63 v0 rfl rfl) h0
  obtain ⟨a1, rfl, _, _, w1⟩ := open_int Try.underlying3 (hval 1 3 v1 rfl rfl) h1
  exact (walk A0 n0 c0 s0 B0 m0 k0 z0 a1 W ha0 hb0 hc0 hd0 he0 hf0 hg0 hh0 w1).mono fun e W' ⟨he, hb⟩ => ⟨_, he, fin W' hb⟩

theorem over : Rows.fnExactFailingWithRow.holds Try.pinned (OpenSpec.ofChange Rows.fnExactFailingWithSpec) :=
  OpenClaim.holds_of_wide 13 Try.f13 rfl rfl rfl rfl rfl rfl rfl ⟨rfl, rfl, rfl, rfl, rfl⟩ rfl rfl rfl rfl rfl (by kernel_rfl) Try.func13 (by kernel_rfl)
    (of_decide_eq_true (by kernel_rfl)) (by unfold Func.isWrapper; first | (rw [if_pos (by decide +kernel)]; kernel_rfl) | (rw [if_neg (by decide +kernel)]; exact ⟨rfl, rfl⟩))
    (fun os started H enc _ => lifted os started H enc)

/-- THE STATEMENT -/
theorem proved : Rows.FnExactFailingWithSaid :=
  over
end Go.Proofs.Ythmmhhoaplbfgaa.fnExactFailingWith
