/- Two routes disjoint of a kind: the specification. No condition but those typed. -/
import Derived.Test.YtkpendpjdemknaaAdP
import Derived.Test.YtkpendpjdemknaaWk10
import Derived.Test.YtkpendpjdemknaaPlt
import Derived.Deep.RegionHeld3
import Derived.BigRegion
import Derived.Test.YtkpendpjdemknaaGA
namespace Go.Proofs.Ytkpendpjdemknaa
open Go.ChangeShapes Go.WideShapes Go.ChangeAt Go.RowKit

theorem nodesRd {w : World} {B N c : Nat} {A : Option Addr} {zs : List Int} (h : w.ownsRow B 3 1 (.slice A N c) N (zs.map (Value.int .i64))) : Rd w w.heap.size A (zs.map (Value.int .i64)) := Rd.ofOwn h
theorem nodup_short : ∀ (n : Nat) (l : List Int), l.Nodup → (∀ x ∈ l, 0 ≤ x ∧ x < (n : Int)) → l.length ≤ n := nodup_bound
theorem nodes_short {g1 g2 n1 n2 c1 c2 : Nat} {ss : List ByteArray} {fs : List Q4} {w : World} (h : NetAt g1 g2 n1 n2 c1 c2 ss fs w) (hv : netP ss fs) {st : Int} {fl vs : List Int} (ha : routeN n1 fs st fl = some vs) : vs.length ≤ n1 := by
  have h1 := h.ln1
  obtain ⟨a, b, _⟩ := routeN_facts hv (by rw [h1]; exact ha)
  rw [h1] at b
  exact nodup_short n1 vs a b
set_option maxHeartbeats 400000 in
theorem l7Kind_ (k : Int) (w : World) : Calls Try.prog 98 #[.int .i64 k] w fun e w' => e = .returned (.bool (pb (1 ≤ k ∧ k ≤ 3))) ∧ w = w' := by
  obtain ⟨z, hz⟩ : ∃ z, pb (1 ≤ k ∧ k ≤ 3) = z := ⟨_, rfl⟩
  have HZ : Hid (inB k 1 3 = z) := Lib.hid (by
    rw [← hz]
    unfold inB
    by_cases h : 1 ≤ k ∧ k ≤ 3
    · rw [pb_true h]; simp [h.1, h.2]
    · rw [pb_false h]; simp; omega)
  rw [hz]
  clear hz
  have CI := Lib.hid (in_ k 1 3 w)
  rw [HZ.out] at CI
  go_enter Try.func98, Try.ntmps98
  go_wp2_with fail
  refine CI.out.mono ?_
  rintro e w' ⟨rfl, rfl⟩
  go_wp2
  go_ret
  exact ⟨rfl, rfl⟩

set_option maxRecDepth 100000 in
set_option maxHeartbeats 3000000 in
theorem l7Apart_ {g1 g2 n1 n2 c1 c2 : Nat} {ss : List ByteArray} {fs : List Q4} {w : World} (h : NetAt g1 g2 n1 n2 c1 c2 ss fs w) (hv : netP ss fs) (st : Int) {A : Option Addr} {n c : Nat} {xs : List Int} (hn : xs.length = n) (hr : Rd w w.heap.size A (xs.map (Value.int .i64))) (hx : n ≤ 1048576) (st2 : Int) {A2 : Option Addr} {m c3 : Nat} {ys : List Int} (hm : ys.length = m) (hr2 : Rd w w.heap.size A2 (ys.map (Value.int .i64))) (hx2 : m ≤ 1048576)
    {va vb : List Int} (ha : routeN n1 fs st xs = some va) (hb : routeN n1 fs st2 ys = some vb) (kind : Int) (hk : 1 ≤ kind ∧ kind ≤ 3) :
    Calls Try.prog 100 #[.agg #[.slice (some ⟨g1, 0, none⟩) n1 c1, .slice (some ⟨g2, 0, none⟩) n2 c2], .agg #[.int .i64 st, .slice A n c], .agg #[.int .i64 st2, .slice A2 m c3], .int .i64 kind] w (RetP (.bool (disB fs kind xs ys va vb)) w) := by
  have HNT := Lib.hid h; have HN := Lib.hid hn; have HR := Lib.hid hr; have HM := Lib.hid hm; have HR2 := Lib.hid hr2; have HV := Lib.hid hv; have HRA := Lib.hid ha; have HRB := Lib.hid hb
  have HLA : Hid (va.length ≤ n1) := Lib.hid (nodes_short h hv ha)
  have HLB : Hid (vb.length ≤ n1) := Lib.hid (nodes_short h hv hb)
  have HLX : Hid (n1 ≤ 8) := Lib.hid (by have := hv.1; have := h.ln1; omega)
  clear h hn hr hm hr2 hv ha hb
  obtain ⟨R, hRR⟩ : ∃ R, disB fs kind xs ys va vb = R := ⟨_, rfl⟩
  rw [hRR]
  have HE1 : Hid (kind = 1 → (!shB 0 xs ys) = R) := Lib.hid (fun e => by rw [← hRR]; unfold disB; rw [if_pos e])
  have HE2 : Hid (kind = 2 → pb (apP fs xs ys) = R) := Lib.hid (fun e => by rw [← hRR]; unfold disB; rw [if_neg (by omega), if_pos e])
  have HE3 : Hid (kind = 3 → (!shB 0 xs ys && !shB 1 va.reverse vb.reverse) = R) := Lib.hid (fun e => by rw [← hRR]; unfold disB; rw [if_neg (by omega), if_neg (by omega)])
  clear hRR
  obtain ⟨W0, hW0⟩ : ∃ W0, ((w.alloc (Obj.cells #[.slice (some ⟨g1, 0, none⟩) n1 c1, .slice (some ⟨g2, 0, none⟩) n2 c2] 31)).alloc (Obj.cells #[.int .i64 st, .slice A n c] 65)).alloc (Obj.cells #[.int .i64 st2, .slice A2 m c3] 65) = W0 := ⟨_, rfl⟩
  have hb0 : Below w.heap.size w W0 := by rw [← hW0]; exact (((Below.refl _ _).alloc (Nat.le_refl _) _).alloc (by simp) _).alloc (by simp; omega) _
  have k0 : W0.cell? ⟨w.heap.size, 0, none⟩ = some (.slice (some ⟨g1, 0, none⟩) n1 c1) := by rw [← hW0]; simp [go_sem]
  have k1 : W0.cell? ⟨w.heap.size, 1, none⟩ = some (.slice (some ⟨g2, 0, none⟩) n2 c2) := by rw [← hW0]; simp [go_sem]
  have k2 : W0.cell? ⟨w.heap.size + 1, 0, none⟩ = some (.int .i64 st) := by rw [← hW0]; simp [go_sem]
  have k3 : W0.cell? ⟨w.heap.size + 1, 1, none⟩ = some (.slice A n c) := by rw [← hW0]; simp [go_sem]
  have k4 : W0.cell? ⟨w.heap.size + 1 + 1, 0, none⟩ = some (.int .i64 st2) := by rw [← hW0]; simp [go_sem]
  have k5 : W0.cell? ⟨w.heap.size + 1 + 1, 1, none⟩ = some (.slice A2 m c3) := by rw [← hW0]; simp [go_sem]
  have hz0 : w.heap.size + 1 + 1 < W0.heap.size := by rw [← hW0]; simp
  have HB0 := Lib.hid hb0
  have HK : Hid (∀ U, Below W0.heap.size W0 U → U.cell? ⟨w.heap.size, 0, none⟩ = some (.slice (some ⟨g1, 0, none⟩) n1 c1) ∧ U.cell? ⟨w.heap.size, 1, none⟩ = some (.slice (some ⟨g2, 0, none⟩) n2 c2) ∧ U.cell? ⟨w.heap.size + 1, 0, none⟩ = some (.int .i64 st) ∧ U.cell? ⟨w.heap.size + 1, 1, none⟩ = some (.slice A n c) ∧ U.cell? ⟨w.heap.size + 1 + 1, 0, none⟩ = some (.int .i64 st2) ∧ U.cell? ⟨w.heap.size + 1 + 1, 1, none⟩ = some (.slice A2 m c3) ∧ Bel W0 U) := Lib.hid fun U hU =>
    ⟨(hU.cell (p := ⟨w.heap.size, 0, none⟩) (by show w.heap.size < _; omega)).trans k0, (hU.cell (p := ⟨w.heap.size, 1, none⟩) (by show w.heap.size < _; omega)).trans k1, (hU.cell (p := ⟨w.heap.size + 1, 0, none⟩) (by show w.heap.size + 1 < _; omega)).trans k2, (hU.cell (p := ⟨w.heap.size + 1, 1, none⟩) (by show w.heap.size + 1 < _; omega)).trans k3, (hU.cell (p := ⟨w.heap.size + 1 + 1, 0, none⟩) (by show w.heap.size + 1 + 1 < _; omega)).trans k4, (hU.cell (p := ⟨w.heap.size + 1 + 1, 1, none⟩) (by show w.heap.size + 1 + 1 < _; omega)).trans k5, Bel.of hU⟩
  have CS : Hid (∀ U, Below W0.heap.size W0 U → Calls Try.prog 143 #[.slice A n c, .slice A2 m c3, .int .i64 0] U fun e w' => e = .returned (.bool (shB 0 xs ys)) ∧ U = w') := Lib.hid fun U hU => share_ A n c xs A2 m c3 ys 0 (by decide) U HN.out (HR.out.moved (HB0.out.trans (hU.mono HB0.out.size))) hx HM.out (HR2.out.moved (HB0.out.trans (hU.mono HB0.out.size))) hx2
  have HZ0 := Lib.hid hz0
  clear k0 k1 k2 k3 k4 k5 hb0 hz0
  have hz0 := HZ0.out
  have hz1 : w.heap.size + 1 < W0.heap.size := by omega
  have hz2 : w.heap.size < W0.heap.size := by omega
  obtain ⟨q0, q1, q2, q3, q4, q5, _⟩ := HK.out W0 (Below.refl _ _)
  go_enter Try.func100, Try.ntmps100
  rcases (show kind = 1 ∨ kind = 2 ∨ kind = 3 by omega) with rfl | rfl | rfl
  · have HE := Lib.hid (HE1.out rfl)
    go_wp2_with fail
    try rw [hW0]
    refine (CS.out _ (Below.refl _ _)).mono ?_
    rintro e w1 ⟨rfl, rfl⟩
    obtain ⟨z, hz⟩ : ∃ z, shB 0 xs ys = z := ⟨_, rfl⟩
    rw [hz] at HE
    rw [hz]
    clear hz
    obtain rfl := HE.out
    go_wp2
    go_ret
    exact ⟨rfl, HB0.out⟩
  · have HE := Lib.hid (HE2.out rfl)
    have CA := Lib.hid (l4Apart_ (c := c) (c3 := c3) (HNT.out.moved HB0.out) HV.out st HN.out (HR.out.moved HB0.out) hx st2 HM.out (HR2.out.moved HB0.out) hx2 (routeN_mem HRA.out))
    rw [HE.out] at CA
    go_wp2_with fail
    try rw [hW0]
    refine CA.out.mono ?_
    rintro e w1 ⟨rfl, hb1⟩
    go_wp2
    go_ret
    exact ⟨rfl, HB0.out.trans (hb1.mono HB0.out.size)⟩
  · have HE := Lib.hid (HE3.out rfl)
    have CNA : Hid (∀ U, Below W0.heap.size W0 U → Calls Try.prog 142 #[.agg #[.slice (some ⟨g1, 0, none⟩) n1 c1, .slice (some ⟨g2, 0, none⟩) n2 c2], .agg #[.int .i64 st, .slice A n c]] U (IntsO va.reverse U)) := Lib.hid fun U hU => l4Nodes_ (c := c) (HNT.out.moved (HB0.out.trans (hU.mono HB0.out.size))) HV.out st HN.out (HR.out.moved (HB0.out.trans (hU.mono HB0.out.size))) hx HRA.out
    have CNB : Hid (∀ U, Below W0.heap.size W0 U → Calls Try.prog 142 #[.agg #[.slice (some ⟨g1, 0, none⟩) n1 c1, .slice (some ⟨g2, 0, none⟩) n2 c2], .agg #[.int .i64 st2, .slice A2 m c3]] U (IntsO vb.reverse U)) := Lib.hid fun U hU => l4Nodes_ (c := c3) (HNT.out.moved (HB0.out.trans (hU.mono HB0.out.size))) HV.out st2 HM.out (HR2.out.moved (HB0.out.trans (hU.mono HB0.out.size))) hx2 HRB.out
    obtain ⟨z0, hz0_⟩ : ∃ z, shB 0 xs ys = z := ⟨_, rfl⟩
    rw [hz0_] at CS HE
    clear hz0_
    have HU0 := Lib.hid (Below.refl W0.heap.size W0)
    cases z0
    case true =>
      obtain rfl : false = R := HE.out
      clear q0 q1 q2 q3 q4 q5
      obtain ⟨T, F, x0, hx0, hTT, HST⟩ := above W0
      haveI : Nonempty T := ⟨x0⟩
      have HXX := Lib.hid hx0
      have HTX : Hid (∀ x, Below W0.heap.size W0 (F x)) := Lib.hid hTT
      clear hTT hx0
      have s3 : ∀ x, (F x).cell? ⟨w.heap.size + 1, 1, none⟩ = some (.slice A n c) := fun x => (HK.out _ (HTX.out x)).2.2.2.1
      have s5 : ∀ x, (F x).cell? ⟨w.heap.size + 1 + 1, 1, none⟩ = some (.slice A2 m c3) := fun x => (HK.out _ (HTX.out x)).2.2.2.2.2.1
      have s6 : ∀ x, w.heap.size + 1 < (F x).heap.size := fun x => Nat.lt_of_lt_of_le hz1 (HTX.out x).size
      have s7 : ∀ x, w.heap.size + 1 + 1 < (F x).heap.size := fun x => Nat.lt_of_lt_of_le hz0 (HTX.out x).size
      have CL : Hid (∀ x, Calls Try.prog 143 #[.slice A n c, .slice A2 m c3, .int .i64 0] (F x) (RetP (.bool true) (F x))) := Lib.hid fun x => (CS.out _ (HTX.out x)).mono fun e w' ⟨h1, h2⟩ => by subst h2; exact ⟨h1, Below.refl _ _⟩
      go_wp2_with fail
      try rw [hW0]
      clear hW0
      refine wp_region_class F (by kernel_rfl) (by kernel_rfl) x0 HXX.out ?_
      repeat (go_big_quiet_step (first | (go_at_call 143; exact Calls.inClass HST (CL.out _))))
      refine wpQuiet_nil ?_
      rintro _ ⟨t, rfl⟩
      have HBT := Lib.hid (HTX.out t)
      clear s3 s5 s6 s7
      generalize F t = w3 at HBT ⊢
      go_wp2
      go_ret
      exact ⟨rfl, HB0.out.trans (HBT.out.mono HB0.out.size)⟩
    case false =>
      obtain ⟨z1, hz1_⟩ : ∃ z, shB 1 va.reverse vb.reverse = z := ⟨_, rfl⟩
      rw [hz1_] at HE
      have HZ1 := Lib.hid hz1_
      obtain rfl : (!z1) = R := HE.out
      clear hz1_
      go_wp2_with fail
      try rw [hW0]
      clear hW0
      go_region_held3 (fun U => U.cell? ⟨w.heap.size, 0, none⟩ = some (.slice (some ⟨g1, 0, none⟩) n1 c1) ∧ U.cell? ⟨w.heap.size, 1, none⟩ = some (.slice (some ⟨g2, 0, none⟩) n2 c2) ∧ U.cell? ⟨w.heap.size + 1, 0, none⟩ = some (.int .i64 st) ∧ U.cell? ⟨w.heap.size + 1, 1, none⟩ = some (.slice A n c) ∧ U.cell? ⟨w.heap.size + 1 + 1, 0, none⟩ = some (.int .i64 st2) ∧ U.cell? ⟨w.heap.size + 1 + 1, 1, none⟩ = some (.slice A2 m c3) ∧ Bel W0 U)
        (first | with_reducible exact HK.out _ HU2.out | with_reducible exact HK.out _ HU1.out | with_reducible exact HK.out _ HU0.out | with_reducible exact HK.out _ HU0.out.drew)
        (first
        | (go_at_call 143; (with_reducible refine (CS.out _ ?_).mono ?_); (first | with_reducible exact HU0.out | with_reducible exact HU0.out.drew); rintro e u9 ⟨rfl, rfl⟩)
        | (go_at_call 142; (with_reducible refine (CNA.out _ ?_).mono ?_); (first | with_reducible exact HU0.out | with_reducible exact HU0.out.drew); rintro e u1 ⟨Aa, Na, da, rfl, HNa, hoa, hb1⟩; have HU1 := Lib.hid (belT (by first | with_reducible exact HU0.out | with_reducible exact HU0.out.drew) hb1); have HOA := Lib.hid hoa; clear hoa)
        | (go_at_call 142; (with_reducible refine (CNB.out _ ?_).mono ?_); (with_reducible exact HU1.out); rintro e u2 ⟨Ab, Nb, db, rfl, HNb, hob, hb2⟩; have HU2 := Lib.hid (belT HU1.out hb2); have HOB := Lib.hid hob; have HOA2 := Lib.hid (ownB HOA.out hb2); have CS2 := Lib.hid (share_ Aa Na da va.reverse Ab Nb db vb.reverse 1 (by decide) u2 HNa.out.symm (nodesRd HOA2.out) (by rw [HNa.out, List.length_reverse]; have := HLA.out; have := HLX.out; omega) HNb.out.symm (nodesRd HOB.out) (by rw [HNb.out, List.length_reverse]; have := HLB.out; have := HLX.out; omega)); clear hob)
        | (go_at_call 143; (refine CS2.out.mono ?_); rw [HZ1.out]; rintro e u9 ⟨rfl, rfl⟩))
      all_goals
        go_wp2
        go_ret
        exact ⟨rfl, HB0.out.trans (HU2.out.mono HB0.out.size)⟩
end Go.Proofs.Ytkpendpjdemknaa
