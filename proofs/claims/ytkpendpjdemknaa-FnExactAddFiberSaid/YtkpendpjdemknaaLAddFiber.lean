/- Proved: at every argument impl.AddFiber answers as spec.AddFiber does, in memory of its own, and leaves its arguments alone (the law FnExactAddFiber returns true). No condition. -/
import Derived.Test.YtkpendpjdemknaaRows
import Derived.Test.YtkpendpjdemknaaJn
import Derived.JoinedOf
import Derived.Test.YtkpendpjdemknaaGC
import Derived.Test.YtkpendpjdemknaaGB
import Derived.Test.YtkpendpjdemknaaNfA
import Derived.Test.YtkpendpjdemknaaAfS
import Derived.Test.YtkpendpjdemknaaGA
import Derived.WalkKit
import Derived.ProofKit
import Derived.OpenShut
import Derived.ShutString
import Derived.SizedLaws
import Derived.Carry
namespace Go.Proofs.Ytkpendpjdemknaa.fnExactAddFiber
open Go.ChangeShapes Go.WideShapes Go.ChangeAt Go.RowKit
open Go.ChangeMaps (open_string shut_string)

set_option maxRecDepth 100000 in
set_option maxHeartbeats 8000000 in
theorem walk (A1 : Option Addr) (n1 c1 : Nat) (ss : List ByteArray) (A2 : Option Addr) (n2 c2 : Nat) (fs : List Q4) (f_ : Q4) (w : World) (hn1 : ss.length = n1) (hm1 : n1 ≤ maxLen) (hr1 : Rd w w.heap.size A1 (ss.map Value.string)) (hws : ∀ s ∈ ss, s.size ≤ maxLen) (hn2 : fs.length = n2) (hm2 : n2 ≤ maxLen) (hr2 : Rd w w.heap.size A2 (fs.flatMap Q4.cells)) (_hwf : ∀ q ∈ fs, q.wf) (_hwf_ : f_.wf) :
    Calls Try.prog 3 #[.agg #[.slice A1 n1 c1, .slice A2 n2 c2], .agg #[.int .i64 f_.a, .int .i64 f_.b, .int .i64 f_.c, .int .i64 f_.d]] w fun e w' => e = .returned (.bool true) ∧ Below w.heap.size w w' := by
  have HN1 := Lib.hid hn1; have HN2 := Lib.hid hn2; have HWS := Lib.hid hws; clear hn1 hn2 hws _hwf
  clear _hwf_
  go_enter Try.func3, Try.ntmps3
  go_wp2_with fail
  obtain ⟨W, hW⟩ : ∃ W, ((w.alloc (Obj.cells #[.slice A1 n1 c1, .slice A2 n2 c2] 25)).alloc (Obj.cells #[.int .i64 f_.a, .int .i64 f_.b, .int .i64 f_.c, .int .i64 f_.d] 27)) = W := ⟨_, rfl⟩
  have hk0_0 : W.cell? ⟨w.heap.size, 0, none⟩ = some (.slice A1 n1 c1) := by rw [← hW]; simp [go_sem]
  have hk0_1 : W.cell? ⟨w.heap.size, 1, none⟩ = some (.slice A2 n2 c2) := by rw [← hW]; simp [go_sem]
  have hk1_0 : W.cell? ⟨w.heap.size + 1, 0, none⟩ = some (.int .i64 f_.a) := by rw [← hW]; simp [go_sem]
  have hk1_1 : W.cell? ⟨w.heap.size + 1, 1, none⟩ = some (.int .i64 f_.b) := by rw [← hW]; simp [go_sem]
  have hk1_2 : W.cell? ⟨w.heap.size + 1, 2, none⟩ = some (.int .i64 f_.c) := by rw [← hW]; simp [go_sem]
  have hk1_3 : W.cell? ⟨w.heap.size + 1, 3, none⟩ = some (.int .i64 f_.d) := by rw [← hW]; simp [go_sem]
  have hz : w.heap.size + 1 < W.heap.size := by rw [← hW]; simp
  have hbw : Below w.heap.size w W := by rw [← hW]; exact (((Below.refl w.heap.size w).alloc (Nat.le_refl _) _).alloc (by simp) _)
  have HBW := Lib.hid hbw
  rw [hW]
  clear hW
  have HR1 : Hid (∀ V, Below W.heap.size W V → Rd V V.heap.size A1 (ss.map Value.string)) := Lib.hid fun V hV => (hr1.moved hbw).moved hV
  clear hr1
  have HR2 : Hid (∀ V, Below W.heap.size W V → Rd V V.heap.size A2 (fs.flatMap Q4.cells)) := Lib.hid fun V hV => (hr2.moved hbw).moved hV
  clear hr2
  have HK0_0 : Hid (∀ V, Below W.heap.size W V → V.cell? ⟨w.heap.size, 0, none⟩ = some (.slice A1 n1 c1)) := Lib.hid fun V hV => (hV.cell (p := ⟨_, _, none⟩) (by show w.heap.size < _; omega)).trans hk0_0
  have HK0_1 : Hid (∀ V, Below W.heap.size W V → V.cell? ⟨w.heap.size, 1, none⟩ = some (.slice A2 n2 c2)) := Lib.hid fun V hV => (hV.cell (p := ⟨_, _, none⟩) (by show w.heap.size < _; omega)).trans hk0_1
  have HK1_0 : Hid (∀ V, Below W.heap.size W V → V.cell? ⟨w.heap.size + 1, 0, none⟩ = some (.int .i64 f_.a)) := Lib.hid fun V hV => (hV.cell (p := ⟨_, _, none⟩) (by show w.heap.size + 1 < _; omega)).trans hk1_0
  have HK1_1 : Hid (∀ V, Below W.heap.size W V → V.cell? ⟨w.heap.size + 1, 1, none⟩ = some (.int .i64 f_.b)) := Lib.hid fun V hV => (hV.cell (p := ⟨_, _, none⟩) (by show w.heap.size + 1 < _; omega)).trans hk1_1
  have HK1_2 : Hid (∀ V, Below W.heap.size W V → V.cell? ⟨w.heap.size + 1, 2, none⟩ = some (.int .i64 f_.c)) := Lib.hid fun V hV => (hV.cell (p := ⟨_, _, none⟩) (by show w.heap.size + 1 < _; omega)).trans hk1_2
  have HK1_3 : Hid (∀ V, Below W.heap.size W V → V.cell? ⟨w.heap.size + 1, 3, none⟩ = some (.int .i64 f_.d)) := Lib.hid fun V hV => (hV.cell (p := ⟨_, _, none⟩) (by show w.heap.size + 1 < _; omega)).trans hk1_3
  clear hk0_0 hk0_1
  clear hk1_0 hk1_1 hk1_2 hk1_3
  have HZ := Lib.hid hz
  clear hz hbw
  have B0 := Lib.hid (Below.refl W.heap.size W)
  refine (szNet A1 A2 n1 c1 n2 c2 1048576 ss fs W HN1.out hm1 (HR1.out _ B0.out) HWS.out hm2 (by omega) (by omega)).mono ?_
  rintro e w1 ⟨v0, rfl, hb1, hv00, hv10, hv20⟩
  have B1_W := Lib.hid (B0.out.trans (hb1.mono B0.out.size))
  have HLAST1 := Lib.hid hb1
  clear hb1
  by_cases hneg0 : v0 < 0
  · go_wp2
    go_ret
    exact ⟨rfl, HBW.out.trans (B1_W.out.mono HBW.out.size)⟩
  have hp0 : 0 ≤ v0 := by omega
  have hsm1 : n1 ≤ 1048576 := by have := hv20 hp0; omega
  have hsm2 : n2 ≤ 1048576 := by have := hv20 hp0; omega
  have HSZ0 := Lib.hid (hv20 hp0)
  clear hneg0 hv20 hm1 hm2
  have hLn1 : (afLS ss fs f_).length ≤ 1048576 := Nat.le_trans (afL_len _ _ _).1 (by have := HN1.out; omega)
  obtain ⟨LS, hL1⟩ : ∃ L, afLS ss fs f_ = L := ⟨_, rfl⟩
  rw [hL1] at hLn1
  have HL1 := Lib.hid hL1; have HLN1 := Lib.hid hLn1; clear hL1 hLn1
  have hLn2 : (afLF ss fs f_).length ≤ 1048576 := Nat.le_trans (afLF_short _ _ _) (by decide)
  obtain ⟨LF, hL2⟩ : ∃ L, afLF ss fs f_ = L := ⟨_, rfl⟩
  rw [hL2] at hLn2
  have HL2 := Lib.hid hL2; have HLN2 := Lib.hid hLn2; clear hL2 hLn2
  obtain ⟨LV, hLV⟩ : ∃ b, afI ss fs f_ = b := ⟨_, rfl⟩
  have HLV := Lib.hid hLV; clear hLV
  obtain ⟨b, hb⟩ : ∃ b, pb (afP ss fs f_) = b := ⟨_, rfl⟩
  have HB := Lib.hid hb; clear hb
  have hVV : (LV == LV) = true := beq_self_eq_true LV
  have ka0_0 := HK0_0.out _ B1_W.out
  have ka0_1 := HK0_1.out _ B1_W.out
  have hgw0 : w.heap.size < w1.heap.size := Nat.lt_of_lt_of_le (by have := HZ.out; omega) B1_W.out.size
  have ka1_0 := HK1_0.out _ B1_W.out
  have ka1_1 := HK1_1.out _ B1_W.out
  have ka1_2 := HK1_2.out _ B1_W.out
  have ka1_3 := HK1_3.out _ B1_W.out
  have hgw1 : w.heap.size + 1 < w1.heap.size := Nat.lt_of_lt_of_le (by have := HZ.out; omega) B1_W.out.size
  have HKR : Hid (∀ U, Below w1.heap.size w1 U → U.cell? ⟨w.heap.size, 0, none⟩ = some (.slice A1 n1 c1) ∧ U.cell? ⟨w.heap.size, 1, none⟩ = some (.slice A2 n2 c2) ∧ w.heap.size < U.heap.size ∧ U.cell? ⟨w.heap.size + 1, 0, none⟩ = some (.int .i64 f_.a) ∧ U.cell? ⟨w.heap.size + 1, 1, none⟩ = some (.int .i64 f_.b) ∧ U.cell? ⟨w.heap.size + 1, 2, none⟩ = some (.int .i64 f_.c) ∧ U.cell? ⟨w.heap.size + 1, 3, none⟩ = some (.int .i64 f_.d) ∧ w.heap.size + 1 < U.heap.size) := Lib.hid fun U hU => ⟨(hU.cell (p := ⟨w.heap.size, 0, none⟩) hgw0).trans ka0_0, (hU.cell (p := ⟨w.heap.size, 1, none⟩) hgw0).trans ka0_1, Nat.lt_of_lt_of_le hgw0 hU.size, (hU.cell (p := ⟨w.heap.size + 1, 0, none⟩) hgw1).trans ka1_0, (hU.cell (p := ⟨w.heap.size + 1, 1, none⟩) hgw1).trans ka1_1, (hU.cell (p := ⟨w.heap.size + 1, 2, none⟩) hgw1).trans ka1_2, (hU.cell (p := ⟨w.heap.size + 1, 3, none⟩) hgw1).trans ka1_3, Nat.lt_of_lt_of_le hgw1 hU.size⟩
  have HU0 := Lib.hid (Below.refl w1.heap.size w1)
  have HKS : Hid (∀ U, Below w1.heap.size w1 U → (U.cell? ⟨w.heap.size, 0, none⟩ = some (.slice A1 n1 c1) ∧ U.cell? ⟨w.heap.size, 1, none⟩ = some (.slice A2 n2 c2) ∧ w.heap.size < U.heap.size ∧ U.cell? ⟨w.heap.size + 1, 0, none⟩ = some (.int .i64 f_.a) ∧ U.cell? ⟨w.heap.size + 1, 1, none⟩ = some (.int .i64 f_.b) ∧ U.cell? ⟨w.heap.size + 1, 2, none⟩ = some (.int .i64 f_.c) ∧ U.cell? ⟨w.heap.size + 1, 3, none⟩ = some (.int .i64 f_.d) ∧ w.heap.size + 1 < U.heap.size ∧ Bel w1 U)) := Lib.hid fun U hU => by obtain ⟨a0, a1, a2, a3, a4, a5, a6, a7⟩ := HKR.out U hU; exact ⟨a0, a1, a2, a3, a4, a5, a6, a7, Bel.of hU⟩
  have CT := Lib.hid (fun (U : World) (hU : Below w1.heap.size w1 U) => toNet A1 A2 n1 c1 n2 c2 ss fs U HN1.out (HR1.out _ (Below.trans B1_W.out (hU.mono B1_W.out.size))) hsm1 HN2.out (HR2.out _ (Below.trans B1_W.out (hU.mono B1_W.out.size))) hsm2)
  have CA := Lib.hid (fun (p1 p2 : Nat) (U : World) (hU : NetAt p1 p2 n1 n2 n1 n2 ss fs U) => specAF hU f_)
  have CF := Lib.hid (fun (U : World) => toFib f_.a f_.b f_.c f_.d U)
  go_upto_region 5 with fail
  go_cut [6, 7, 8] (fun s0 s1 s2 wx => NfR w1 LS LF LV b s0 s1 s2 wx)
  case first =>
    go_region_held3 (fun U => U.cell? ⟨w.heap.size, 0, none⟩ = some (.slice A1 n1 c1) ∧ U.cell? ⟨w.heap.size, 1, none⟩ = some (.slice A2 n2 c2) ∧ w.heap.size < U.heap.size ∧ U.cell? ⟨w.heap.size + 1, 0, none⟩ = some (.int .i64 f_.a) ∧ U.cell? ⟨w.heap.size + 1, 1, none⟩ = some (.int .i64 f_.b) ∧ U.cell? ⟨w.heap.size + 1, 2, none⟩ = some (.int .i64 f_.c) ∧ U.cell? ⟨w.heap.size + 1, 3, none⟩ = some (.int .i64 f_.d) ∧ w.heap.size + 1 < U.heap.size ∧ Bel w1 U)
      (first | with_reducible exact HKS.out _ (HU3.out) | with_reducible exact HKS.out _ (nfS _ _ HU3.out hbx3.out) | with_reducible exact HKS.out _ (nfS2 _ _ _ HU3.out) | with_reducible exact HKS.out _ (HU3.out) | with_reducible exact HKS.out _ (bA _ _ _ HU3.out) | with_reducible exact HKS.out _ (HU2.out) | with_reducible exact HKS.out _ (bA _ _ _ HU2.out) | with_reducible exact HKS.out _ (HU1.out) | with_reducible exact HKS.out _ (bA _ _ _ HU1.out) | with_reducible exact HKS.out _ (HU0.out) | with_reducible exact HKS.out _ (HU0.out.drew) | with_reducible exact HKS.out _ (bA _ _ _ HU0.out) | with_reducible exact HKS.out _ (bAD _ _ _ HU0.out))
      (first
      | (go_at_call 12; (with_reducible refine (CT.out _ ?_).mono ?_); (first | with_reducible exact HU3.out | with_reducible exact bA _ _ _ HU3.out | with_reducible exact HU2.out | with_reducible exact bA _ _ _ HU2.out | with_reducible exact HU1.out | with_reducible exact bA _ _ _ HU1.out | with_reducible exact HU0.out | with_reducible exact HU0.out.drew | with_reducible exact bA _ _ _ HU0.out | with_reducible exact bAD _ _ _ HU0.out); rintro e u1 ⟨p1, p2, rfl, ho1, ho2, hb1⟩; have HU1 := Lib.hid (belT (by first | with_reducible exact HU3.out | with_reducible exact bA _ _ _ HU3.out | with_reducible exact HU2.out | with_reducible exact bA _ _ _ HU2.out | with_reducible exact HU1.out | with_reducible exact bA _ _ _ HU1.out | with_reducible exact HU0.out | with_reducible exact HU0.out.drew | with_reducible exact bA _ _ _ HU0.out | with_reducible exact bAD _ _ _ HU0.out) hb1); have HN1U := Lib.hid (⟨HN1.out, hsm1, Nat.le_refl _, Rd.ofOwnK ho1, HWS.out, HN2.out, hsm2, Rd.ofOwnK ho2⟩ : NetAt p1 p2 n1 n2 n1 n2 ss fs u1); clear ho1 ho2; (first | (with_reducible have hbx1 := Lib.hid (ownB hbx3.out hb1); obtain ⟨_, _, _, _, _⟩ := nx_facts hbx1.out) | (with_reducible have hbx1 := Lib.hid (ownB hbx2.out hb1); obtain ⟨_, _, _, _, _⟩ := nx_facts hbx1.out) | (with_reducible have hbx1 := Lib.hid (ownB (nbx HU3.out) hb1); obtain ⟨_, _, _, _, _⟩ := nx_facts hbx1.out) | (with_reducible have hbx1 := Lib.hid (ownB (nbx HU2.out) hb1); obtain ⟨_, _, _, _, _⟩ := nx_facts hbx1.out) | (with_reducible have hbx1 := Lib.hid (ownB (nbx HU0.out) hb1); obtain ⟨_, _, _, _, _⟩ := nx_facts hbx1.out) | (with_reducible have hbx1 := Lib.hid (ownB (nbxD HU0.out) hb1); obtain ⟨_, _, _, _, _⟩ := nx_facts hbx1.out) | skip))
      | (go_at_call 13; (with_reducible refine (CF.out _).mono ?_); rintro e u2 ⟨rfl, hb2⟩; have HU2 := Lib.hid (belT (by first | with_reducible exact HU3.out | with_reducible exact bA _ _ _ HU3.out | with_reducible exact HU2.out | with_reducible exact bA _ _ _ HU2.out | with_reducible exact HU1.out | with_reducible exact bA _ _ _ HU1.out | with_reducible exact HU0.out | with_reducible exact HU0.out.drew | with_reducible exact bA _ _ _ HU0.out | with_reducible exact bAD _ _ _ HU0.out) hb2); (first | (with_reducible have HN2U := Lib.hid (HN1U.out.moved hb2)) | (with_reducible have HN2U := Lib.hid ((HN1U.out.moved ((Below.refl _ _).alloc (Nat.le_refl _) _)).moved hb2)) | skip); (first | (with_reducible have hbx2 := Lib.hid (ownB hbx3.out hb2); obtain ⟨_, _, _, _, _⟩ := nx_facts hbx2.out) | (with_reducible have hbx2 := Lib.hid (ownB hbx1.out hb2); obtain ⟨_, _, _, _, _⟩ := nx_facts hbx2.out) | (with_reducible have hbx2 := Lib.hid (ownB (nbx HU3.out) hb2); obtain ⟨_, _, _, _, _⟩ := nx_facts hbx2.out) | (with_reducible have hbx2 := Lib.hid (ownB (nbx HU1.out) hb2); obtain ⟨_, _, _, _, _⟩ := nx_facts hbx2.out) | (with_reducible have hbx2 := Lib.hid (ownB (nbx HU0.out) hb2); obtain ⟨_, _, _, _, _⟩ := nx_facts hbx2.out) | (with_reducible have hbx2 := Lib.hid (ownB (nbxD HU0.out) hb2); obtain ⟨_, _, _, _, _⟩ := nx_facts hbx2.out) | skip))
      | (go_at_call 11; (with_reducible refine (CA.out _ _ _ ?_).mono ?_); (first | with_reducible exact HN2U.out | with_reducible exact HN2U.out.moved ((Below.refl _ _).alloc (Nat.le_refl _) _) | with_reducible exact HN1U.out | with_reducible exact HN1U.out.moved ((Below.refl _ _).alloc (Nat.le_refl _) _)); rw [HL1.out, HL2.out, HLV.out, HB.out]; rintro e u3 ⟨B1, B2, M1, M2, e1, e2, rfl, HE1, HE2, ho3, ho4, hb3⟩; have HU3 := Lib.hid (belT (by first | with_reducible exact HU3.out | with_reducible exact bA _ _ _ HU3.out | with_reducible exact HU2.out | with_reducible exact bA _ _ _ HU2.out | with_reducible exact HU1.out | with_reducible exact bA _ _ _ HU1.out | with_reducible exact HU0.out | with_reducible exact HU0.out.drew | with_reducible exact bA _ _ _ HU0.out | with_reducible exact bAD _ _ _ HU0.out) hb3); have HO3 := Lib.hid (own_base ho3 (Below.size (by first | with_reducible exact HU3.out | with_reducible exact bA _ _ _ HU3.out | with_reducible exact HU2.out | with_reducible exact bA _ _ _ HU2.out | with_reducible exact HU1.out | with_reducible exact bA _ _ _ HU1.out | with_reducible exact HU0.out | with_reducible exact HU0.out.drew | with_reducible exact bA _ _ _ HU0.out | with_reducible exact bAD _ _ _ HU0.out))); have HO4 := Lib.hid (own_base ho4 (Below.size (by first | with_reducible exact HU3.out | with_reducible exact bA _ _ _ HU3.out | with_reducible exact HU2.out | with_reducible exact bA _ _ _ HU2.out | with_reducible exact HU1.out | with_reducible exact bA _ _ _ HU1.out | with_reducible exact HU0.out | with_reducible exact HU0.out.drew | with_reducible exact bA _ _ _ HU0.out | with_reducible exact bAD _ _ _ HU0.out))); clear ho3 ho4; (first | (with_reducible have hbx3 := Lib.hid (ownB hbx2.out hb3); obtain ⟨_, _, _, _, _⟩ := nx_facts hbx3.out) | (with_reducible have hbx3 := Lib.hid (ownB hbx1.out hb3); obtain ⟨_, _, _, _, _⟩ := nx_facts hbx3.out) | (with_reducible have hbx3 := Lib.hid (ownB (nbx HU2.out) hb3); obtain ⟨_, _, _, _, _⟩ := nx_facts hbx3.out) | (with_reducible have hbx3 := Lib.hid (ownB (nbx HU1.out) hb3); obtain ⟨_, _, _, _, _⟩ := nx_facts hbx3.out) | (with_reducible have hbx3 := Lib.hid (ownB (nbx HU0.out) hb3); obtain ⟨_, _, _, _, _⟩ := nx_facts hbx3.out) | (with_reducible have hbx3 := Lib.hid (ownB (nbxD HU0.out) hb3); obtain ⟨_, _, _, _, _⟩ := nx_facts hbx3.out) | skip)))
    all_goals
      go_wp2_with fail
      go_meet
      first | exact nf_fin hbx3.out HE1.out HE2.out HO3.out HO4.out HU3.out | exact nf_fin2 HE1.out HE2.out HO3.out HO4.out HU3.out
  case rest =>
  clear CA CF HKR HKS HU0 CT ka0_0 ka0_1 hgw0 ka1_0 ka1_1 ka1_2 ka1_3 hgw1
  revert hcut; generalize wc = wcs; intro hcut
  obtain ⟨A1s, A2s, N1s, N2s, d1s, d2s, gbs, h0_, h1_, h2_, HE1s, HE2s, HO1s, HO2s, HBXs, hbl⟩ := hcut
  subst h0_ h1_ h2_
  have hN1s : N1s ≤ 1048576 := by have := HE1s.out; have := HLN1.out; omega
  have hN2s : N2s ≤ 1048576 := by have := HE2s.out; have := HLN2.out; omega
  have Ewcs_W := Lib.hid (B1_W.out.trans ((Bel.out hbl).mono B1_W.out.size))
  clear hbl
  have Zwcs := Lib.hid (Below.refl wcs.heap.size wcs)
  have HKWs : Hid (∀ U, Below wcs.heap.size wcs U → U.cell? ⟨gbs, 0, none⟩ = some (.slice A1s N1s d1s) ∧ U.cell? ⟨gbs, 1, none⟩ = some (.slice A2s N2s d2s) ∧ gbs < U.heap.size) := Lib.hid fun U hU => by obtain ⟨x0, x1, _, _, x4⟩ := nx_facts (ownB HBXs.out hU); exact ⟨x0, x1, x4⟩
  have HRR1s : Hid (∀ U, Below wcs.heap.size wcs U → Rd U U.heap.size A1s (LS.map Value.string)) := Lib.hid fun U hU => (rdOwnA HO1s.out).moved hU
  have HRR2s : Hid (∀ U, Below wcs.heap.size wcs U → Rd U U.heap.size A2s (LF.flatMap Q4.cells)) := Lib.hid fun U hU => (rdOwnA HO2s.out).moved hU
  have WPW := Lib.hid Ewcs_W.out.size
  have ka0_0 := HK0_0.out _ Ewcs_W.out
  have ka0_1 := HK0_1.out _ Ewcs_W.out
  go_wp2_with fail
  clear ka0_0 ka0_1
  have ZPRE0 := Lib.hid (Zwcs.out.size)
  refine (toNet A1 A2 n1 c1 n2 c2 ss fs wcs HN1.out (HR1.out _ Ewcs_W.out) hsm1 HN2.out (HR2.out _ Ewcs_W.out) hsm2).mono ?_
  rintro e w2 ⟨x01, x02, rfl, hox01, hox02, hb2⟩
  have B2_W := Lib.hid (Ewcs_W.out.trans (hb2.mono Ewcs_W.out.size))
  have B2_wcs := Lib.hid (Zwcs.out.trans (hb2.mono Zwcs.out.size))
  have HLAST2 := Lib.hid hb2
  clear hb2
  have Ox01 := Lib.hid hox01
  have Rx01 : Hid (∀ V, Below w2.heap.size w2 V → Rd V V.heap.size (some ⟨x01, 0, none⟩) (ss.map Value.string)) := Lib.hid fun V hV => (Rd.ofOwnK hox01).moved hV
  have Ox02 := Lib.hid hox02
  have Rx02 : Hid (∀ V, Below w2.heap.size w2 V → Rd V V.heap.size (some ⟨x02, 0, none⟩) (fs.flatMap Q4.cells)) := Lib.hid fun V hV => (Rd.ofOwnK hox02).moved hV
  clear hox01 hox02
  have Zw2 := Lib.hid (Below.refl w2.heap.size w2)
  go_wp2_with fail
  obtain ⟨V0, hV0⟩ : ∃ V, (w2.alloc (Obj.cells #[.slice (some ⟨x01, 0, none⟩) n1 n1, .slice (some ⟨x02, 0, none⟩) n2 n2] 31)) = V := ⟨_, rfl⟩
  have hx0_0 : V0.cell? ⟨w2.heap.size, 0, none⟩ = some (.slice (some ⟨x01, 0, none⟩) n1 n1) := by rw [← hV0]; simp [go_sem]
  have hx0_1 : V0.cell? ⟨w2.heap.size, 1, none⟩ = some (.slice (some ⟨x02, 0, none⟩) n2 n2) := by rw [← hV0]; simp [go_sem]
  have hzV0 : w2.heap.size < V0.heap.size := by rw [← hV0]; simp
  have hbV0 : Below w2.heap.size w2 V0 := by rw [← hV0]; exact (Below.refl _ _).alloc (Nat.le_refl _) _
  rw [hV0]
  clear hV0
  have CV0_W := Lib.hid (B2_W.out.trans (hbV0.mono B2_W.out.size))
  have CV0_wcs := Lib.hid (B2_wcs.out.trans (hbV0.mono B2_wcs.out.size))
  have CV0_w2 := Lib.hid (Zw2.out.trans (hbV0.mono Zw2.out.size))
  have HX0_0 : Hid (∀ U, Below V0.heap.size V0 U → U.cell? ⟨w2.heap.size, 0, none⟩ = some (.slice (some ⟨x01, 0, none⟩) n1 n1)) := Lib.hid fun U hU => (hU.cell (p := ⟨_, _, none⟩) hzV0).trans hx0_0
  have HX0_1 : Hid (∀ U, Below V0.heap.size V0 U → U.cell? ⟨w2.heap.size, 1, none⟩ = some (.slice (some ⟨x02, 0, none⟩) n2 n2)) := Lib.hid fun U hU => (hU.cell (p := ⟨_, _, none⟩) hzV0).trans hx0_1
  have HZV0 := Lib.hid hzV0
  clear hzV0 hbV0 hx0_0 hx0_1
  have ZV0 := Lib.hid (Below.refl V0.heap.size V0)
  have PWV := Lib.hid CV0_wcs.out.size
  have HQx01 : Hid (wcs.heap.size ≤ x01 ∧ x01 < V0.heap.size) := Lib.hid ⟨Nat.le_trans ZPRE0.out (Ox01.out.lt x01 rfl).1, Nat.lt_of_lt_of_le (Ox01.out.lt x01 rfl).2 CV0_w2.out.size⟩
  have HQx02 : Hid (wcs.heap.size ≤ x02 ∧ x02 < V0.heap.size) := Lib.hid ⟨Nat.le_trans ZPRE0.out (Ox02.out.lt x02 rfl).1, Nat.lt_of_lt_of_le (Ox02.out.lt x02 rfl).2 CV0_w2.out.size⟩
  have kx0_0 := HX0_0.out _ ZV0.out
  have kx0_1 := HX0_1.out _ ZV0.out
  have hgx : w2.heap.size < V0.heap.size := Nat.lt_of_lt_of_le HZV0.out ZV0.out.size
  have ka1_0 := HK1_0.out _ CV0_W.out
  have ka1_1 := HK1_1.out _ CV0_W.out
  have ka1_2 := HK1_2.out _ CV0_W.out
  have ka1_3 := HK1_3.out _ CV0_W.out
  have hgw1 : w.heap.size + 1 < V0.heap.size := Nat.lt_of_lt_of_le (by have := HZ.out; omega) CV0_W.out.size
  have HKR : Hid (∀ U, Below V0.heap.size V0 U → U.cell? ⟨w2.heap.size, 0, none⟩ = some (.slice (some ⟨x01, 0, none⟩) n1 n1) ∧ U.cell? ⟨w2.heap.size, 1, none⟩ = some (.slice (some ⟨x02, 0, none⟩) n2 n2) ∧ w2.heap.size < U.heap.size ∧ U.cell? ⟨w.heap.size + 1, 0, none⟩ = some (.int .i64 f_.a) ∧ U.cell? ⟨w.heap.size + 1, 1, none⟩ = some (.int .i64 f_.b) ∧ U.cell? ⟨w.heap.size + 1, 2, none⟩ = some (.int .i64 f_.c) ∧ U.cell? ⟨w.heap.size + 1, 3, none⟩ = some (.int .i64 f_.d) ∧ w.heap.size + 1 < U.heap.size) := Lib.hid fun U hU => ⟨(hU.cell (p := ⟨w2.heap.size, 0, none⟩) hgx).trans kx0_0, (hU.cell (p := ⟨w2.heap.size, 1, none⟩) hgx).trans kx0_1, Nat.lt_of_lt_of_le hgx hU.size, (hU.cell (p := ⟨w.heap.size + 1, 0, none⟩) hgw1).trans ka1_0, (hU.cell (p := ⟨w.heap.size + 1, 1, none⟩) hgw1).trans ka1_1, (hU.cell (p := ⟨w.heap.size + 1, 2, none⟩) hgw1).trans ka1_2, (hU.cell (p := ⟨w.heap.size + 1, 3, none⟩) hgw1).trans ka1_3, Nat.lt_of_lt_of_le hgw1 hU.size⟩
  have HU0 := Lib.hid (Below.refl V0.heap.size V0)
  have HKS : Hid (∀ U, Below V0.heap.size V0 U → (U.cell? ⟨w2.heap.size, 0, none⟩ = some (.slice (some ⟨x01, 0, none⟩) n1 n1) ∧ U.cell? ⟨w2.heap.size, 1, none⟩ = some (.slice (some ⟨x02, 0, none⟩) n2 n2) ∧ w2.heap.size < U.heap.size ∧ U.cell? ⟨w.heap.size + 1, 0, none⟩ = some (.int .i64 f_.a) ∧ U.cell? ⟨w.heap.size + 1, 1, none⟩ = some (.int .i64 f_.b) ∧ U.cell? ⟨w.heap.size + 1, 2, none⟩ = some (.int .i64 f_.c) ∧ U.cell? ⟨w.heap.size + 1, 3, none⟩ = some (.int .i64 f_.d) ∧ w.heap.size + 1 < U.heap.size ∧ Bel V0 U)) := Lib.hid fun U hU => by obtain ⟨a0, a1, a2, a3, a4, a5, a6, a7⟩ := HKR.out U hU; exact ⟨a0, a1, a2, a3, a4, a5, a6, a7, Bel.of hU⟩
  have CA := Lib.hid (fun (U : World) (hU : Below V0.heap.size V0 U) => implAF (⟨HN1.out, hsm1, Nat.le_refl _, Rx01.out _ (Below.trans CV0_w2.out (hU.mono CV0_w2.out.size)), HWS.out, HN2.out, hsm2, Rx02.out _ (Below.trans CV0_w2.out (hU.mono CV0_w2.out.size))⟩ : NetAt x01 x02 n1 n2 n1 n2 ss fs U) (Nat.le_refl _) f_)
  have CF := Lib.hid (fun (U : World) => toFib f_.a f_.b f_.c f_.d U)
  go_upto_region 7 with fail
  go_cut [10, 11, 12] (fun s0 s1 s2 wx => NfR V0 LS LF LV b s0 s1 s2 wx)
  case first =>
    go_region_held3 (fun U => U.cell? ⟨w2.heap.size, 0, none⟩ = some (.slice (some ⟨x01, 0, none⟩) n1 n1) ∧ U.cell? ⟨w2.heap.size, 1, none⟩ = some (.slice (some ⟨x02, 0, none⟩) n2 n2) ∧ w2.heap.size < U.heap.size ∧ U.cell? ⟨w.heap.size + 1, 0, none⟩ = some (.int .i64 f_.a) ∧ U.cell? ⟨w.heap.size + 1, 1, none⟩ = some (.int .i64 f_.b) ∧ U.cell? ⟨w.heap.size + 1, 2, none⟩ = some (.int .i64 f_.c) ∧ U.cell? ⟨w.heap.size + 1, 3, none⟩ = some (.int .i64 f_.d) ∧ w.heap.size + 1 < U.heap.size ∧ Bel V0 U)
      (first | with_reducible exact HKS.out _ (HU3.out) | with_reducible exact HKS.out _ (nfS _ _ HU3.out hbx3.out) | with_reducible exact HKS.out _ (nfS2 _ _ _ HU3.out) | with_reducible exact HKS.out _ (HU3.out) | with_reducible exact HKS.out _ (bA _ _ _ HU3.out) | with_reducible exact HKS.out _ (HU2.out) | with_reducible exact HKS.out _ (bA _ _ _ HU2.out) | with_reducible exact HKS.out _ (HU1.out) | with_reducible exact HKS.out _ (bA _ _ _ HU1.out) | with_reducible exact HKS.out _ (HU0.out) | with_reducible exact HKS.out _ (HU0.out.drew) | with_reducible exact HKS.out _ (bA _ _ _ HU0.out) | with_reducible exact HKS.out _ (bAD _ _ _ HU0.out))
      (first
      | (go_at_call 13; (with_reducible refine (CF.out _).mono ?_); rintro e u2 ⟨rfl, hb2⟩; have HU2 := Lib.hid (belT (by first | with_reducible exact HU3.out | with_reducible exact bA _ _ _ HU3.out | with_reducible exact HU2.out | with_reducible exact bA _ _ _ HU2.out | with_reducible exact HU1.out | with_reducible exact bA _ _ _ HU1.out | with_reducible exact HU0.out | with_reducible exact HU0.out.drew | with_reducible exact bA _ _ _ HU0.out | with_reducible exact bAD _ _ _ HU0.out) hb2); skip; (first | (with_reducible have hbx2 := Lib.hid (ownB hbx3.out hb2); obtain ⟨_, _, _, _, _⟩ := nx_facts hbx2.out) | (with_reducible have hbx2 := Lib.hid (ownB hbx1.out hb2); obtain ⟨_, _, _, _, _⟩ := nx_facts hbx2.out) | (with_reducible have hbx2 := Lib.hid (ownB (nbx HU3.out) hb2); obtain ⟨_, _, _, _, _⟩ := nx_facts hbx2.out) | (with_reducible have hbx2 := Lib.hid (ownB (nbx HU1.out) hb2); obtain ⟨_, _, _, _, _⟩ := nx_facts hbx2.out) | (with_reducible have hbx2 := Lib.hid (ownB (nbx HU0.out) hb2); obtain ⟨_, _, _, _, _⟩ := nx_facts hbx2.out) | (with_reducible have hbx2 := Lib.hid (ownB (nbxD HU0.out) hb2); obtain ⟨_, _, _, _, _⟩ := nx_facts hbx2.out) | skip))
      | (go_at_call 14; (with_reducible refine (CA.out _ ?_).mono ?_); (first | with_reducible exact HU3.out | with_reducible exact bA _ _ _ HU3.out | with_reducible exact HU2.out | with_reducible exact bA _ _ _ HU2.out | with_reducible exact HU1.out | with_reducible exact bA _ _ _ HU1.out | with_reducible exact HU0.out | with_reducible exact HU0.out.drew | with_reducible exact bA _ _ _ HU0.out | with_reducible exact bAD _ _ _ HU0.out); rw [HL1.out, HL2.out, HLV.out, HB.out]; rintro e u3 ⟨B1, B2, M1, M2, e1, e2, rfl, HE1, HE2, ho3, ho4, hb3⟩; have HU3 := Lib.hid (belT (by first | with_reducible exact HU3.out | with_reducible exact bA _ _ _ HU3.out | with_reducible exact HU2.out | with_reducible exact bA _ _ _ HU2.out | with_reducible exact HU1.out | with_reducible exact bA _ _ _ HU1.out | with_reducible exact HU0.out | with_reducible exact HU0.out.drew | with_reducible exact bA _ _ _ HU0.out | with_reducible exact bAD _ _ _ HU0.out) hb3); have HO3 := Lib.hid (own_base ho3 (Below.size (by first | with_reducible exact HU3.out | with_reducible exact bA _ _ _ HU3.out | with_reducible exact HU2.out | with_reducible exact bA _ _ _ HU2.out | with_reducible exact HU1.out | with_reducible exact bA _ _ _ HU1.out | with_reducible exact HU0.out | with_reducible exact HU0.out.drew | with_reducible exact bA _ _ _ HU0.out | with_reducible exact bAD _ _ _ HU0.out))); have HO4 := Lib.hid (own_base ho4 (Below.size (by first | with_reducible exact HU3.out | with_reducible exact bA _ _ _ HU3.out | with_reducible exact HU2.out | with_reducible exact bA _ _ _ HU2.out | with_reducible exact HU1.out | with_reducible exact bA _ _ _ HU1.out | with_reducible exact HU0.out | with_reducible exact HU0.out.drew | with_reducible exact bA _ _ _ HU0.out | with_reducible exact bAD _ _ _ HU0.out))); clear ho3 ho4; (first | (with_reducible have hbx3 := Lib.hid (ownB hbx2.out hb3); obtain ⟨_, _, _, _, _⟩ := nx_facts hbx3.out) | (with_reducible have hbx3 := Lib.hid (ownB hbx1.out hb3); obtain ⟨_, _, _, _, _⟩ := nx_facts hbx3.out) | (with_reducible have hbx3 := Lib.hid (ownB (nbx HU2.out) hb3); obtain ⟨_, _, _, _, _⟩ := nx_facts hbx3.out) | (with_reducible have hbx3 := Lib.hid (ownB (nbx HU1.out) hb3); obtain ⟨_, _, _, _, _⟩ := nx_facts hbx3.out) | (with_reducible have hbx3 := Lib.hid (ownB (nbx HU0.out) hb3); obtain ⟨_, _, _, _, _⟩ := nx_facts hbx3.out) | (with_reducible have hbx3 := Lib.hid (ownB (nbxD HU0.out) hb3); obtain ⟨_, _, _, _, _⟩ := nx_facts hbx3.out) | skip)))
    all_goals
      go_wp2_with fail
      go_meet
      first | exact nf_fin hbx3.out HE1.out HE2.out HO3.out HO4.out HU3.out | exact nf_fin2 HE1.out HE2.out HO3.out HO4.out HU3.out
  case rest =>
  clear CA CF HKR HKS HU0  kx0_0 kx0_1 hgx ka1_0 ka1_1 ka1_2 ka1_3 hgw1
  revert hcut; generalize wc = wcx; intro hcut
  obtain ⟨A1x, A2x, N1x, N2x, d1x, d2x, gbx, h0_, h1_, h2_, HE1x, HE2x, HO1x, HO2x, HBXx, hbl⟩ := hcut
  subst h0_ h1_ h2_
  have hN1x : N1x ≤ 1048576 := by have := HE1x.out; have := HLN1.out; omega
  have hN2x : N2x ≤ 1048576 := by have := HE2x.out; have := HLN2.out; omega
  have Ewcx_W := Lib.hid (CV0_W.out.trans ((Bel.out hbl).mono CV0_W.out.size))
  have Ewcx_wcs := Lib.hid (CV0_wcs.out.trans ((Bel.out hbl).mono CV0_wcs.out.size))
  have Ewcx_w2 := Lib.hid (CV0_w2.out.trans ((Bel.out hbl).mono CV0_w2.out.size))
  have Ewcx_V0 := Lib.hid (ZV0.out.trans ((Bel.out hbl).mono ZV0.out.size))
  clear hbl
  have Zwcx := Lib.hid (Below.refl wcx.heap.size wcx)
  have HKWx : Hid (∀ U, Below wcx.heap.size wcx U → U.cell? ⟨gbx, 0, none⟩ = some (.slice A1x N1x d1x) ∧ U.cell? ⟨gbx, 1, none⟩ = some (.slice A2x N2x d2x) ∧ gbx < U.heap.size) := Lib.hid fun U hU => by obtain ⟨x0, x1, _, _, x4⟩ := nx_facts (ownB HBXx.out hU); exact ⟨x0, x1, x4⟩
  have HRR1x : Hid (∀ U, Below wcx.heap.size wcx U → Rd U U.heap.size A1x (LS.map Value.string)) := Lib.hid fun U hU => (rdOwnA HO1x.out).moved hU
  have HRR2x : Hid (∀ U, Below wcx.heap.size wcx U → Rd U U.heap.size A2x (LF.flatMap Q4.cells)) := Lib.hid fun U hU => (rdOwnA HO2x.out).moved hU
  obtain rfl : N1x = N1s := HE1x.out.trans HE1s.out.symm
  obtain rfl : N2x = N2s := HE2x.out.trans HE2s.out.symm
  obtain ⟨sx0, sx1, sx2⟩ := HKWs.out _ Ewcx_wcs.out
  obtain ⟨gx0, gx1, _, _, gx2⟩ := nx_facts (HBXx.out)
  go_wp2_with fail
  clear sx0 sx1 sx2 gx0 gx1 gx2
  refine (eqNetR _ _ _ _ N1x N2x _ _ _ _ LS LF wcx HE1x.out.symm hN1x HE2x.out.symm hN2x (HRR1x.out _ Zwcx.out) (HRR1s.out _ Ewcx_wcs.out) (HRR2x.out _ Zwcx.out) (HRR2s.out _ Ewcx_wcs.out)).mono ?_
  rintro e w3 ⟨rfl, hb3⟩
  have B3_W := Lib.hid (Ewcx_W.out.trans (hb3.mono Ewcx_W.out.size))
  have B3_wcs := Lib.hid (Ewcx_wcs.out.trans (hb3.mono Ewcx_wcs.out.size))
  have B3_w2 := Lib.hid (Ewcx_w2.out.trans (hb3.mono Ewcx_w2.out.size))
  have B3_V0 := Lib.hid (Ewcx_V0.out.trans (hb3.mono Ewcx_V0.out.size))
  have B3_wcx := Lib.hid (Zwcx.out.trans (hb3.mono Zwcx.out.size))
  have HLAST3 := Lib.hid hb3
  clear hb3
  have ka0_0 := HK0_0.out _ B3_W.out
  have ka0_1 := HK0_1.out _ B3_W.out
  have kx0_0 := HX0_0.out _ B3_V0.out
  have kx0_1 := HX0_1.out _ B3_V0.out
  have hgx : w2.heap.size < w3.heap.size := Nat.lt_of_lt_of_le HZV0.out B3_V0.out.size
  have hgw : w.heap.size < w3.heap.size := Nat.lt_of_lt_of_le (by have := HZ.out; omega) B3_W.out.size
  have hbd : Bel w3 w3.drew := Bel.of (Below.refl _ _).drew
  go_upto_region 10 with fail
  go_cut [61] (fun s61 wx => s61 = .bool false ∧ Bel w3 wx)
  case first =>
    go_region_held3 (fun U => U.cell? ⟨w2.heap.size, 0, none⟩ = some (.slice (some ⟨x01, 0, none⟩) n1 n1) ∧ U.cell? ⟨w2.heap.size, 1, none⟩ = some (.slice (some ⟨x02, 0, none⟩) n2 n2) ∧ U.cell? ⟨w.heap.size, 0, none⟩ = some (.slice A1 n1 c1) ∧ U.cell? ⟨w.heap.size, 1, none⟩ = some (.slice A2 n2 c2) ∧ Bel w3 U)
      (first | go_keep | (go_split_ands; (refine ⟨?_, ?_, ?_, ?_, ?_⟩ <;> first | assumption | exact Bel.step (by assumption) hbt4 | exact Bel.step (by assumption) hbt5 | exact (Bel.at_ (by assumption) hbt4 (by assumption)).trans (by assumption) | exact (Bel.at_ (by assumption) hbt5 (by assumption)).trans (by assumption))))
      (first
        | (go_at_call 12
           go_split_ands
           refine (toNet A1 A2 n1 c1 n2 c2 ss fs _ HN1.out (HR1.out _ (Below.trans B3_W.out ((Bel.out (by assumption)).mono B3_W.out.size))) hsm1 HN2.out (HR2.out _ (Below.trans B3_W.out ((Bel.out (by assumption)).mono B3_W.out.size))) hsm2).mono ?_
           rintro e t4 ⟨y51, y52, rfl, hoy51, hoy52, hbt4⟩
           have Sy51 := Lib.hid (Rd.ofOwnK hoy51)
           have Sy52 := Lib.hid (Rd.ofOwnK hoy52)
           clear hoy51 hoy52)
        | (go_at_call 15
           go_split_ands
           refine (eqNet x01 x02 y51 y52 n1 n2 n1 n2 n1 n2 ss fs t4 HN1.out hsm1 HN2.out hsm2 (Rx01.out _ (Below.trans B3_w2.out ((Bel.out (by assumption)).mono B3_w2.out.size))) (Sy51.out) (Rx02.out _ (Below.trans B3_w2.out ((Bel.out (by assumption)).mono B3_w2.out.size))) (Sy52.out)).mono ?_
           rintro e t5 ⟨rfl, hbt5⟩))
    all_goals
      go_split_ands
      have hbl : Bel w3 t5 := by assumption
      go_wp2_with fail
      go_meet
      exact ⟨rfl, hbl⟩
  case rest =>
  clear hbd hgx hgw ka0_0 ka0_1 kx0_0 kx0_1
  revert hcut; generalize wc = wc1; intro hcut
  obtain ⟨hs_, hbl⟩ := hcut
  subst hs_
  have Ewc1_W := Lib.hid (B3_W.out.trans ((Bel.out hbl).mono B3_W.out.size))
  have Ewc1_wcs := Lib.hid (B3_wcs.out.trans ((Bel.out hbl).mono B3_wcs.out.size))
  have Ewc1_w2 := Lib.hid (B3_w2.out.trans ((Bel.out hbl).mono B3_w2.out.size))
  have Ewc1_V0 := Lib.hid (B3_V0.out.trans ((Bel.out hbl).mono B3_V0.out.size))
  have Ewc1_wcx := Lib.hid (B3_wcx.out.trans ((Bel.out hbl).mono B3_wcx.out.size))
  clear hbl
  have HG1_0 := Lib.hid (ownB HO1x.out Ewc1_wcx.out)
  have HG2_0 := Lib.hid (ownB HO2x.out Ewc1_wcx.out)
  have HGB_0 := Lib.hid (ownB HBXx.out Ewc1_wcx.out)
  have kx0_0 := HX0_0.out _ Ewc1_V0.out
  have kx0_1 := HX0_1.out _ Ewc1_V0.out
  go_wp2_with fail
  clear kx0_0 kx0_1
  refine (markNetB x01 x02 n1 n2 n1 n2 _ _ wc1 (own_base (ownB Ox01.out Ewc1_w2.out) (Nat.zero_le _)) hsm1 (own_base (ownB Ox02.out Ewc1_w2.out) (Nat.zero_le _)) hsm2 (rows_apart Ox01.out Ox02.out (by decide))).mono ?_
  rintro e w6 ⟨k0, rfl, hk0a, hk0b, hoff⟩
  have Fw6_W := Lib.hid (Ewc1_W.out.trans (hoff.below (B := W.heap.size) Ewc1_W.out.size (fun b h => by have hpw := WPW.out; have := HQx01.out; have := HQx02.out; rcases h with h | h <;> omega)))
  have Fw6_wcs := Lib.hid (Ewc1_wcs.out.trans (hoff.below (B := wcs.heap.size) Ewc1_wcs.out.size (fun b h => by have hpw := Nat.le_refl wcs.heap.size; have := HQx01.out; have := HQx02.out; rcases h with h | h <;> omega)))
  have HG1_1 := Lib.hid (own_off HG1_0.out hoff (fun b h => by have := HQx01.out; have := HQx02.out; rcases h with h | h <;> omega))
  have HG2_1 := Lib.hid (own_off HG2_0.out hoff (fun b h => by have := HQx01.out; have := HQx02.out; rcases h with h | h <;> omega))
  have HGB_1 := Lib.hid (own_off HGB_0.out hoff (fun b h => by have := HQx01.out; have := HQx02.out; rcases h with h | h <;> omega))
  have Zw6 := Lib.hid (Below.refl w6.heap.size w6)
  clear hoff
  have hkn : decide (k0 < 0) = false := decide_eq_false (by omega)
  obtain ⟨sx0, sx1, sx2⟩ := HKWs.out _ Fw6_wcs.out
  obtain ⟨gx0, gx1, _, _, gx2⟩ := nx_facts (HGB_1.out)
  go_wp2_with fail
  clear sx0 sx1 sx2 gx0 gx1 gx2
  refine (eqNetR _ _ _ _ N1x N2x _ _ _ _ LS LF w6 HE1x.out.symm hN1x HE2x.out.symm hN2x (rdOwnA HG1_1.out) (HRR1s.out _ Fw6_wcs.out) (rdOwnA HG2_1.out) (HRR2s.out _ Fw6_wcs.out)).mono ?_
  rintro e w7 ⟨rfl, hb7⟩
  have B7_W := Lib.hid (Fw6_W.out.trans (hb7.mono Fw6_W.out.size))
  have B7_wcs := Lib.hid (Fw6_wcs.out.trans (hb7.mono Fw6_wcs.out.size))
  have B7_w6 := Lib.hid (Zw6.out.trans (hb7.mono Zw6.out.size))
  have HLAST7 := Lib.hid hb7
  clear hb7
  have HGA1 := Lib.hid (ownB HG1_1.out B7_w6.out)
  have HGA2 := Lib.hid (ownB HG2_1.out B7_w6.out)
  have HGAB := Lib.hid (ownB HGB_1.out B7_w6.out)
  obtain ⟨K1, hK1⟩ : ∃ K, 1 + N1x + 4 * N2x = K := ⟨_, rfl⟩
  have HK1 := Lib.hid hK1
  have hK1b : 1 ≤ K1 ∧ K1 ≤ 10000000 := by omega
  clear hK1
  have hK1n : ¬ ((K1 : Int) < 0) := by omega
  have hK1d : decide ((K1 : Int) < 0) = false := decide_eq_false hK1n
  obtain ⟨gx0, gx1, _, _, gx2⟩ := nx_facts (HGAB.out)
  go_wp2_with fail
  clear gx0 gx1 gx2
  refine (markNetV A1x A2x N1x N2x d1x d2x LS LF w7 HGA1.out hN1x HGA2.out hN2x).mono ?_
  rw [HK1.out]
  rintro e w8 ⟨rfl, hoff9, ho91, ho92⟩
  have Gw8_W := Lib.hid (B7_W.out.trans (hoff9.below (B := W.heap.size) B7_W.out.size (fun b h => by have := WPW.out; have := PWV.out; have h2 : V0.heap.size ≤ b := (by rcases h with h | h; exact (HGA1.out.lt b h).1; exact (HGA2.out.lt b h).1); omega)))
  have Gw8_wcs := Lib.hid (B7_wcs.out.trans (hoff9.below (B := wcs.heap.size) B7_wcs.out.size (fun b h => by have := WPW.out; have := PWV.out; have h2 : V0.heap.size ≤ b := (by rcases h with h | h; exact (HGA1.out.lt b h).1; exact (HGA2.out.lt b h).1); omega)))
  have HP1 := Lib.hid ho91; have HP2 := Lib.hid ho92
  have HPB := Lib.hid (own_offV HGAB.out hoff9 (fun g h1 h2 => by rcases h2 with h2 | h2; exact own_type_apart HGAB.out HGA1.out (by decide) g h1 h2; exact own_type_apart HGAB.out HGA2.out (by decide) g h1 h2))
  clear hoff9 ho91 ho92
  have Zw8 := Lib.hid (Below.refl w8.heap.size w8)
  obtain ⟨gx0, gx1, _, _, gx2⟩ := nx_facts (HPB.out)
  go_wp2_with fail
  clear gx0 gx1 gx2
  refine (heldNetV A1x A2x N1x N2x d1x d2x w8 (rdOwnA (HP1.out)) hN1x (rdOwnA (HP2.out)) hN2x).mono ?_
  rw [HK1.out]
  rintro e w9 ⟨rfl, hb9⟩
  have B9_W := Lib.hid (Gw8_W.out.trans (hb9.mono Gw8_W.out.size))
  have B9_wcs := Lib.hid (Gw8_wcs.out.trans (hb9.mono Gw8_wcs.out.size))
  have B9_w8 := Lib.hid (Zw8.out.trans (hb9.mono Zw8.out.size))
  have HLAST9 := Lib.hid hb9
  clear hb9
  have ka0_0 := HK0_0.out _ B9_W.out
  have ka0_1 := HK0_1.out _ B9_W.out
  have hgw0 : w.heap.size < w9.heap.size := Nat.lt_of_lt_of_le (by have := HZ.out; omega) B9_W.out.size
  have ka1_0 := HK1_0.out _ B9_W.out
  have ka1_1 := HK1_1.out _ B9_W.out
  have ka1_2 := HK1_2.out _ B9_W.out
  have ka1_3 := HK1_3.out _ B9_W.out
  have hgw1 : w.heap.size + 1 < w9.heap.size := Nat.lt_of_lt_of_le (by have := HZ.out; omega) B9_W.out.size
  have HKR : Hid (∀ U, Below w9.heap.size w9 U → U.cell? ⟨w.heap.size, 0, none⟩ = some (.slice A1 n1 c1) ∧ U.cell? ⟨w.heap.size, 1, none⟩ = some (.slice A2 n2 c2) ∧ w.heap.size < U.heap.size ∧ U.cell? ⟨w.heap.size + 1, 0, none⟩ = some (.int .i64 f_.a) ∧ U.cell? ⟨w.heap.size + 1, 1, none⟩ = some (.int .i64 f_.b) ∧ U.cell? ⟨w.heap.size + 1, 2, none⟩ = some (.int .i64 f_.c) ∧ U.cell? ⟨w.heap.size + 1, 3, none⟩ = some (.int .i64 f_.d) ∧ w.heap.size + 1 < U.heap.size) := Lib.hid fun U hU => ⟨(hU.cell (p := ⟨w.heap.size, 0, none⟩) hgw0).trans ka0_0, (hU.cell (p := ⟨w.heap.size, 1, none⟩) hgw0).trans ka0_1, Nat.lt_of_lt_of_le hgw0 hU.size, (hU.cell (p := ⟨w.heap.size + 1, 0, none⟩) hgw1).trans ka1_0, (hU.cell (p := ⟨w.heap.size + 1, 1, none⟩) hgw1).trans ka1_1, (hU.cell (p := ⟨w.heap.size + 1, 2, none⟩) hgw1).trans ka1_2, (hU.cell (p := ⟨w.heap.size + 1, 3, none⟩) hgw1).trans ka1_3, Nat.lt_of_lt_of_le hgw1 hU.size⟩
  have HU0 := Lib.hid (Below.refl w9.heap.size w9)
  have HKS : Hid (∀ U, Below w9.heap.size w9 U → (U.cell? ⟨w.heap.size, 0, none⟩ = some (.slice A1 n1 c1) ∧ U.cell? ⟨w.heap.size, 1, none⟩ = some (.slice A2 n2 c2) ∧ w.heap.size < U.heap.size ∧ U.cell? ⟨w.heap.size + 1, 0, none⟩ = some (.int .i64 f_.a) ∧ U.cell? ⟨w.heap.size + 1, 1, none⟩ = some (.int .i64 f_.b) ∧ U.cell? ⟨w.heap.size + 1, 2, none⟩ = some (.int .i64 f_.c) ∧ U.cell? ⟨w.heap.size + 1, 3, none⟩ = some (.int .i64 f_.d) ∧ w.heap.size + 1 < U.heap.size ∧ Bel w9 U)) := Lib.hid fun U hU => by obtain ⟨a0, a1, a2, a3, a4, a5, a6, a7⟩ := HKR.out U hU; exact ⟨a0, a1, a2, a3, a4, a5, a6, a7, Bel.of hU⟩
  have CT := Lib.hid (fun (U : World) (hU : Below w9.heap.size w9 U) => toNet A1 A2 n1 c1 n2 c2 ss fs U HN1.out (HR1.out _ (Below.trans B9_W.out (hU.mono B9_W.out.size))) hsm1 HN2.out (HR2.out _ (Below.trans B9_W.out (hU.mono B9_W.out.size))) hsm2)
  have CA := Lib.hid (fun (p1 p2 : Nat) (U : World) (hU : NetAt p1 p2 n1 n2 n1 n2 ss fs U) => implAF hU (Nat.le_refl _) f_)
  have CF := Lib.hid (fun (U : World) => toFib f_.a f_.b f_.c f_.d U)
  go_upto_region 24 with fail
  go_cut [16, 17, 18] (fun s0 s1 s2 wx => NfR w9 LS LF LV b s0 s1 s2 wx)
  case first =>
    go_region_held3 (fun U => U.cell? ⟨w.heap.size, 0, none⟩ = some (.slice A1 n1 c1) ∧ U.cell? ⟨w.heap.size, 1, none⟩ = some (.slice A2 n2 c2) ∧ w.heap.size < U.heap.size ∧ U.cell? ⟨w.heap.size + 1, 0, none⟩ = some (.int .i64 f_.a) ∧ U.cell? ⟨w.heap.size + 1, 1, none⟩ = some (.int .i64 f_.b) ∧ U.cell? ⟨w.heap.size + 1, 2, none⟩ = some (.int .i64 f_.c) ∧ U.cell? ⟨w.heap.size + 1, 3, none⟩ = some (.int .i64 f_.d) ∧ w.heap.size + 1 < U.heap.size ∧ Bel w9 U)
      (first | with_reducible exact HKS.out _ (HU3.out) | with_reducible exact HKS.out _ (nfS _ _ HU3.out hbx3.out) | with_reducible exact HKS.out _ (nfS2 _ _ _ HU3.out) | with_reducible exact HKS.out _ (HU3.out) | with_reducible exact HKS.out _ (bA _ _ _ HU3.out) | with_reducible exact HKS.out _ (HU2.out) | with_reducible exact HKS.out _ (bA _ _ _ HU2.out) | with_reducible exact HKS.out _ (HU1.out) | with_reducible exact HKS.out _ (bA _ _ _ HU1.out) | with_reducible exact HKS.out _ (HU0.out) | with_reducible exact HKS.out _ (HU0.out.drew) | with_reducible exact HKS.out _ (bA _ _ _ HU0.out) | with_reducible exact HKS.out _ (bAD _ _ _ HU0.out))
      (first
      | (go_at_call 12; (with_reducible refine (CT.out _ ?_).mono ?_); (first | with_reducible exact HU3.out | with_reducible exact bA _ _ _ HU3.out | with_reducible exact HU2.out | with_reducible exact bA _ _ _ HU2.out | with_reducible exact HU1.out | with_reducible exact bA _ _ _ HU1.out | with_reducible exact HU0.out | with_reducible exact HU0.out.drew | with_reducible exact bA _ _ _ HU0.out | with_reducible exact bAD _ _ _ HU0.out); rintro e u1 ⟨p1, p2, rfl, ho1, ho2, hb1⟩; have HU1 := Lib.hid (belT (by first | with_reducible exact HU3.out | with_reducible exact bA _ _ _ HU3.out | with_reducible exact HU2.out | with_reducible exact bA _ _ _ HU2.out | with_reducible exact HU1.out | with_reducible exact bA _ _ _ HU1.out | with_reducible exact HU0.out | with_reducible exact HU0.out.drew | with_reducible exact bA _ _ _ HU0.out | with_reducible exact bAD _ _ _ HU0.out) hb1); have HN1U := Lib.hid (⟨HN1.out, hsm1, Nat.le_refl _, Rd.ofOwnK ho1, HWS.out, HN2.out, hsm2, Rd.ofOwnK ho2⟩ : NetAt p1 p2 n1 n2 n1 n2 ss fs u1); clear ho1 ho2; (first | (with_reducible have hbx1 := Lib.hid (ownB hbx3.out hb1); obtain ⟨_, _, _, _, _⟩ := nx_facts hbx1.out) | (with_reducible have hbx1 := Lib.hid (ownB hbx2.out hb1); obtain ⟨_, _, _, _, _⟩ := nx_facts hbx1.out) | (with_reducible have hbx1 := Lib.hid (ownB (nbx HU3.out) hb1); obtain ⟨_, _, _, _, _⟩ := nx_facts hbx1.out) | (with_reducible have hbx1 := Lib.hid (ownB (nbx HU2.out) hb1); obtain ⟨_, _, _, _, _⟩ := nx_facts hbx1.out) | (with_reducible have hbx1 := Lib.hid (ownB (nbx HU0.out) hb1); obtain ⟨_, _, _, _, _⟩ := nx_facts hbx1.out) | (with_reducible have hbx1 := Lib.hid (ownB (nbxD HU0.out) hb1); obtain ⟨_, _, _, _, _⟩ := nx_facts hbx1.out) | skip))
      | (go_at_call 13; (with_reducible refine (CF.out _).mono ?_); rintro e u2 ⟨rfl, hb2⟩; have HU2 := Lib.hid (belT (by first | with_reducible exact HU3.out | with_reducible exact bA _ _ _ HU3.out | with_reducible exact HU2.out | with_reducible exact bA _ _ _ HU2.out | with_reducible exact HU1.out | with_reducible exact bA _ _ _ HU1.out | with_reducible exact HU0.out | with_reducible exact HU0.out.drew | with_reducible exact bA _ _ _ HU0.out | with_reducible exact bAD _ _ _ HU0.out) hb2); (first | (with_reducible have HN2U := Lib.hid (HN1U.out.moved hb2)) | (with_reducible have HN2U := Lib.hid ((HN1U.out.moved ((Below.refl _ _).alloc (Nat.le_refl _) _)).moved hb2)) | skip); (first | (with_reducible have hbx2 := Lib.hid (ownB hbx3.out hb2); obtain ⟨_, _, _, _, _⟩ := nx_facts hbx2.out) | (with_reducible have hbx2 := Lib.hid (ownB hbx1.out hb2); obtain ⟨_, _, _, _, _⟩ := nx_facts hbx2.out) | (with_reducible have hbx2 := Lib.hid (ownB (nbx HU3.out) hb2); obtain ⟨_, _, _, _, _⟩ := nx_facts hbx2.out) | (with_reducible have hbx2 := Lib.hid (ownB (nbx HU1.out) hb2); obtain ⟨_, _, _, _, _⟩ := nx_facts hbx2.out) | (with_reducible have hbx2 := Lib.hid (ownB (nbx HU0.out) hb2); obtain ⟨_, _, _, _, _⟩ := nx_facts hbx2.out) | (with_reducible have hbx2 := Lib.hid (ownB (nbxD HU0.out) hb2); obtain ⟨_, _, _, _, _⟩ := nx_facts hbx2.out) | skip))
      | (go_at_call 14; (with_reducible refine (CA.out _ _ _ ?_).mono ?_); (first | with_reducible exact HN2U.out | with_reducible exact HN2U.out.moved ((Below.refl _ _).alloc (Nat.le_refl _) _) | with_reducible exact HN1U.out | with_reducible exact HN1U.out.moved ((Below.refl _ _).alloc (Nat.le_refl _) _)); rw [HL1.out, HL2.out, HLV.out, HB.out]; rintro e u3 ⟨B1, B2, M1, M2, e1, e2, rfl, HE1, HE2, ho3, ho4, hb3⟩; have HU3 := Lib.hid (belT (by first | with_reducible exact HU3.out | with_reducible exact bA _ _ _ HU3.out | with_reducible exact HU2.out | with_reducible exact bA _ _ _ HU2.out | with_reducible exact HU1.out | with_reducible exact bA _ _ _ HU1.out | with_reducible exact HU0.out | with_reducible exact HU0.out.drew | with_reducible exact bA _ _ _ HU0.out | with_reducible exact bAD _ _ _ HU0.out) hb3); have HO3 := Lib.hid (own_base ho3 (Below.size (by first | with_reducible exact HU3.out | with_reducible exact bA _ _ _ HU3.out | with_reducible exact HU2.out | with_reducible exact bA _ _ _ HU2.out | with_reducible exact HU1.out | with_reducible exact bA _ _ _ HU1.out | with_reducible exact HU0.out | with_reducible exact HU0.out.drew | with_reducible exact bA _ _ _ HU0.out | with_reducible exact bAD _ _ _ HU0.out))); have HO4 := Lib.hid (own_base ho4 (Below.size (by first | with_reducible exact HU3.out | with_reducible exact bA _ _ _ HU3.out | with_reducible exact HU2.out | with_reducible exact bA _ _ _ HU2.out | with_reducible exact HU1.out | with_reducible exact bA _ _ _ HU1.out | with_reducible exact HU0.out | with_reducible exact HU0.out.drew | with_reducible exact bA _ _ _ HU0.out | with_reducible exact bAD _ _ _ HU0.out))); clear ho3 ho4; (first | (with_reducible have hbx3 := Lib.hid (ownB hbx2.out hb3); obtain ⟨_, _, _, _, _⟩ := nx_facts hbx3.out) | (with_reducible have hbx3 := Lib.hid (ownB hbx1.out hb3); obtain ⟨_, _, _, _, _⟩ := nx_facts hbx3.out) | (with_reducible have hbx3 := Lib.hid (ownB (nbx HU2.out) hb3); obtain ⟨_, _, _, _, _⟩ := nx_facts hbx3.out) | (with_reducible have hbx3 := Lib.hid (ownB (nbx HU1.out) hb3); obtain ⟨_, _, _, _, _⟩ := nx_facts hbx3.out) | (with_reducible have hbx3 := Lib.hid (ownB (nbx HU0.out) hb3); obtain ⟨_, _, _, _, _⟩ := nx_facts hbx3.out) | (with_reducible have hbx3 := Lib.hid (ownB (nbxD HU0.out) hb3); obtain ⟨_, _, _, _, _⟩ := nx_facts hbx3.out) | skip)))
    all_goals
      go_wp2_with fail
      go_meet
      first | exact nf_fin hbx3.out HE1.out HE2.out HO3.out HO4.out HU3.out | exact nf_fin2 HE1.out HE2.out HO3.out HO4.out HU3.out
  case rest =>
  clear CA CF HKR HKS HU0 CT ka0_0 ka0_1 hgw0 ka1_0 ka1_1 ka1_2 ka1_3 hgw1
  revert hcut; generalize wc = wch; intro hcut
  obtain ⟨A1h, A2h, N1h, N2h, d1h, d2h, gbh, h0_, h1_, h2_, HE1h, HE2h, HO1h, HO2h, HBXh, hbl⟩ := hcut
  subst h0_ h1_ h2_
  have hN1h : N1h ≤ 1048576 := by have := HE1h.out; have := HLN1.out; omega
  have hN2h : N2h ≤ 1048576 := by have := HE2h.out; have := HLN2.out; omega
  have Ewch_W := Lib.hid (B9_W.out.trans ((Bel.out hbl).mono B9_W.out.size))
  have Ewch_wcs := Lib.hid (B9_wcs.out.trans ((Bel.out hbl).mono B9_wcs.out.size))
  have Ewch_w8 := Lib.hid (B9_w8.out.trans ((Bel.out hbl).mono B9_w8.out.size))
  clear hbl
  have Zwch := Lib.hid (Below.refl wch.heap.size wch)
  have HKWh : Hid (∀ U, Below wch.heap.size wch U → U.cell? ⟨gbh, 0, none⟩ = some (.slice A1h N1h d1h) ∧ U.cell? ⟨gbh, 1, none⟩ = some (.slice A2h N2h d2h) ∧ gbh < U.heap.size) := Lib.hid fun U hU => by obtain ⟨x0, x1, _, _, x4⟩ := nx_facts (ownB HBXh.out hU); exact ⟨x0, x1, x4⟩
  have HRR1h : Hid (∀ U, Below wch.heap.size wch U → Rd U U.heap.size A1h (LS.map Value.string)) := Lib.hid fun U hU => (rdOwnA HO1h.out).moved hU
  have HRR2h : Hid (∀ U, Below wch.heap.size wch U → Rd U U.heap.size A2h (LF.flatMap Q4.cells)) := Lib.hid fun U hU => (rdOwnA HO2h.out).moved hU
  obtain rfl : N1h = N1x := HE1h.out.trans HE1x.out.symm
  obtain rfl : N2h = N2x := HE2h.out.trans HE2x.out.symm
  obtain ⟨sx0, sx1, sx2⟩ := HKWs.out _ Ewch_wcs.out
  obtain ⟨gx0, gx1, _, _, gx2⟩ := nx_facts (HBXh.out)
  go_wp2_with fail
  clear sx0 sx1 sx2 gx0 gx1 gx2
  refine (eqNetR _ _ _ _ N1h N2h _ _ _ _ LS LF wch HE1h.out.symm hN1h HE2h.out.symm hN2h (HRR1h.out _ Zwch.out) (HRR1s.out _ Ewch_wcs.out) (HRR2h.out _ Zwch.out) (HRR2s.out _ Ewch_wcs.out)).mono ?_
  rintro e w10 ⟨rfl, hb10⟩
  have B10_W := Lib.hid (Ewch_W.out.trans (hb10.mono Ewch_W.out.size))
  have B10_wcs := Lib.hid (Ewch_wcs.out.trans (hb10.mono Ewch_wcs.out.size))
  have B10_w8 := Lib.hid (Ewch_w8.out.trans (hb10.mono Ewch_w8.out.size))
  have B10_wch := Lib.hid (Zwch.out.trans (hb10.mono Zwch.out.size))
  have HLAST10 := Lib.hid hb10
  clear hb10
  obtain ⟨gx0, gx1, _, _, gx2⟩ := nx_facts (ownB HPB.out B10_w8.out)
  go_wp2_with fail
  clear gx0 gx1 gx2
  refine (heldNetV A1x A2x N1h N2h d1x d2x w10 (rdOwnA (ownB HP1.out B10_w8.out)) hN1x (rdOwnA (ownB HP2.out B10_w8.out)) hN2x).mono ?_
  rw [HK1.out]
  rintro e w11 ⟨rfl, hb11⟩
  have B11_W := Lib.hid (B10_W.out.trans (hb11.mono B10_W.out.size))
  have B11_wcs := Lib.hid (B10_wcs.out.trans (hb11.mono B10_wcs.out.size))
  have B11_w8 := Lib.hid (B10_w8.out.trans (hb11.mono B10_w8.out.size))
  have B11_wch := Lib.hid (B10_wch.out.trans (hb11.mono B10_wch.out.size))
  have HLAST11 := Lib.hid hb11
  clear hb11
  go_wp2
  go_ret
  exact ⟨rfl, HBW.out.trans (B11_W.out.mono HBW.out.size)⟩


theorem own : ownKnob Try.prog.godebug = none := by kernel_rfl
theorem laidOut : laidOutB Try.prog = true := by kernel_rfl
set_option maxRecDepth 100000 in
theorem lifted (os : Os) (started : os.Started) (H : Type) (enc : TypeId × Value → H) :
    ReturnsInHanded {} Try.checked os 3 .any (Rows.fnExactAddFiberSpec.pre6 enc Try.prog Try.f3 Rows.fnExactAddFiberRow.domain false) (Rows.fnExactAddFiberSpec.post enc Try.prog Try.f3 false true false false) := by
  refine returnsInHanded_of_change_sized (C := Try.checked) own started (by kernel_rfl) Try.func3
    (ChangeSpec.witness6 (enc := enc) (C := Try.checked) false ⟨#[], #[.agg #[.slice none 0 0, .slice none 0 0], .agg #[.int .i64 0, .int .i64 0, .int .i64 0, .int .i64 0]], []⟩ 8 (by kernel_rfl) (by kernel_rfl) (by kernel_rfl) (by kernel_rfl)) ?_
  intro W base args ds gs before hval0 hW _ hsz0 _
  clear hsz0
  have hval : ∀ (j : Nat) t v, Try.f3.params[j]? = some t → args[j]? = some v → Value.okWide Try.prog W .any base t v := hval0
  have hW' := hW
  obtain ⟨p, q, hA0, hV, rfl, _, _⟩ := hW
  have hA : DataW.TrodAll enc Try.prog W 0 (fun _ => true) true Try.f3.params.toList args.toList ds p := hA0
  rw [Try.params3] at hA hval
  obtain ⟨v0, vs0, d0, ds0, p0, q0, hargs, rfl, rfl, h0, r0⟩ := trodAll_cons hA
  obtain ⟨v1, vs1, d1, ds1, p1, q1, rfl, rfl, rfl, h1, r1⟩ := trodAll_cons r0
  obtain ⟨rfl, rfl, rfl⟩ := trodAll_nil r1
  obtain rfl : args = #[v0, v1] := by cases args; simp_all
  obtain ⟨rfl, rfl⟩ := trodVars_none hV
  simp only [List.append_nil] at hW'
  have hlt0 : ∀ x ∈ p0, x.block < W.heap.size := fun x hx => by simpa using hW'.lt x (by simp [hx])
  have hlt1 : ∀ x ∈ p1, x.block < W.heap.size := fun x hx => by simpa using hW'.lt x (by simp [hx])
  have fin : ∀ W' : World, Below W.heap.size W W' → Rows.fnExactAddFiberSpec.post enc Try.checked.prog Try.f3 false true false false W #[v0, v1] (.bool true) W' := by
    intro W' hb
    refine ⟨_, _, _, [] ++ [], (p0 ++ (p1 ++ [])), [], hW', ?_, ?_, rfl, hb.frame _, fun h => by cases h⟩
    · exact trodAll_mk1 (shut_bool Try.underlying4 true)
    · exact trodAll_cons_mk (Below.trod laidOut (by kernel_rfl) (of_decide_eq_true (by kernel_rfl)) h0 hb hlt0) (trodAll_cons_mk (Below.trod laidOut (by kernel_rfl) (of_decide_eq_true (by kernel_rfl)) h1 hb hlt1) (trodAll_mk0))
  clear hW' hV hA0
  obtain ⟨A0, n0, c0, s0, B0, m0, k0, z0, rfl, ⟨ha0, hb0, hc0, hd0⟩, ⟨he0, hf0, hg0, hh0⟩⟩ := open_net Try.underlying25 (by kernel_rfl) (by kernel_rfl) Try.underlying22 Try.underlying9 (by kernel_rfl) Try.underlying23 Try.underlying27 (by kernel_rfl) (by kernel_rfl) rfl (hint_of Try.underlying3 (by decide +kernel)) (hval 0 25 v0 rfl rfl) h0
  obtain ⟨q1_, rfl, w1⟩ := open_q4 Try.underlying27 (by kernel_rfl) (by kernel_rfl) rfl (hint_of Try.underlying3 (by decide +kernel)) (hval 1 27 v1 rfl rfl) h1
  exact (walk A0 n0 c0 s0 B0 m0 k0 z0 q1_ W ha0 hb0 hc0 hd0 he0 hf0 hg0 hh0 w1).mono fun e W' ⟨he, hb⟩ => ⟨_, he, fin W' hb⟩

theorem closed : joinedFacts Try.prog 3 Try.f3 Rows.fnExactAddFiberSpec Rows.fnExactAddFiberRow = true := by
  unfold joinedFacts
  rw [jn_mk, jn_li, jn_en]
  kernel_rfl
theorem over : Rows.fnExactAddFiberRow.holds Try.pinned (OpenSpec.ofChange Rows.fnExactAddFiberSpec) :=
  OpenClaim.holds_of_wide 3 Try.f3 rfl rfl rfl rfl rfl rfl rfl ⟨rfl, rfl, rfl, rfl, rfl⟩ rfl rfl rfl rfl rfl (by kernel_rfl) Try.func3 closed
    (of_decide_eq_true (by kernel_rfl)) (by unfold Func.isWrapper; first | (rw [if_pos (by decide +kernel)]; kernel_rfl) | (rw [if_neg (by decide +kernel)]; exact ⟨rfl, rfl⟩))
    (fun os started H enc _ => lifted os started H enc)

/-- THE STATEMENT -/
theorem proved : Rows.FnExactAddFiberSaid :=
  over
end Go.Proofs.Ytkpendpjdemknaa.fnExactAddFiber
