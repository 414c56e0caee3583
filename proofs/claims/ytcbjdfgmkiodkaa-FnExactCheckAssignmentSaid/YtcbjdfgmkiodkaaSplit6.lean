/- Parts of a network that a set of fibers splits: contracts of spec.l6Mask, spec.l6Splits. No condition but those typed. -/
import Derived.Test.YtcbjdfgmkiodkaaLab
import Derived.Test.YtcbjdfgmkiodkaaGrpP
import Derived.Test.YtcbjdfgmkiodkaaCmp3
import Derived.Deep.DeepCutAuto
namespace Go.Proofs.Ytcbjdfgmkiodkaa
open Go.ChangeShapes Go.WideShapes Go.ChangeAt Go.RowKit

set_option maxHeartbeats 1000000 in
theorem l6Mask_ (A : Option Addr) (n c : Nat) (zs : List Int) (w : World) (hn : zs.length = n) (hs : n ≤ 1048576) (hr : Rd w w.heap.size A (zs.map (Value.int .i64))) (hz : ∀ k, k < n → 0 ≤ nth zs k ∧ nth zs k < 20) :
    Calls Try.prog 136 #[.slice A n c] w fun e w' => e = .returned (.int .i64 (maskN zs n : Nat)) ∧ w = w' := by
  have HN := Lib.hid hn; clear hn
  have HZ := Lib.hid hz; clear hz
  go_enter Try.func136, Try.ntmps136
  go_wp2
  go_loop [3, 4] (fun l i => ∃ (k m : Nat), k ≤ n ∧ i = .int .i64 k ∧ l = .int .i64 m ∧ Hid (maskN zs k = m ∧ m < 2 ^ 20)) (fun _ i => n - (intOf i).toNat)
  case atStart => exact ⟨0, 0, Nat.zero_le _, rfl, rfl, Lib.hid ⟨rfl, by decide⟩⟩
  case round =>
    obtain ⟨k, m, hk, rfl, rfl, HA⟩ := hrel
    by_cases hlt : k < n
    case neg =>
      obtain rfl : k = n := by omega
      obtain rfl : maskN zs k = m := HA.out.1
      clear hlt
      go_wp2
      go_ret
      exact ⟨rfl, rfl⟩
    case pos =>
    have hks : k < zs.length := by have := HN.out; omega
    obtain ⟨ad, rfl, _, f0⟩ := hr.got (k := k) (by simpa using hks)
    simp only [List.getElem_map] at f0
    rw [nth_eq hks] at f0
    obtain ⟨y, hy⟩ : ∃ y : Nat, nth zs k = (y : Int) := ⟨(nth zs k).toNat, by have := HZ.out k hlt; omega⟩
    have hy20 : y < 20 := by have := HZ.out k hlt; omega
    rw [hy] at f0
    have hp : 2 ^ y < 2 ^ 20 := Nat.pow_lt_pow_right (by decide) hy20
    have HX : Hid (bits .or .i64 (m : Int) ((2 : Int) ^ y) = ((m ||| 2 ^ y : Nat) : Int)) := Lib.hid (by
      have := or_i64_ m (2 ^ y) (by have := HA.out.2; omega) (by omega)
      rw [show ((2 ^ y : Nat) : Int) = (2 : Int) ^ y by simp] at this
      exact this)
    have HS : Hid (maskN zs (k + 1) = m ||| 2 ^ y ∧ m ||| 2 ^ y < 2 ^ 20) := Lib.hid ⟨by unfold maskN; rw [HA.out.1, hy, Int.toNat_natCast], Nat.or_lt_two_pow HA.out.2 hp⟩
    have hw1 : (2 : Int) ^ y ≤ 1048575 := by
      have : ((2 ^ y : Nat) : Int) ≤ 1048575 := by omega
      simpa using this
    have hw0 : 0 ≤ (2 : Int) ^ y := Int.pow_nonneg (by omega)
    clear hy HA hp
    go_wp2
    go_round
    case rel => exact ⟨k + 1, m ||| 2 ^ y, by omega, by go_num, congrArg _ HX.out, HS⟩
    case measure => simp [intOf]; omega
def splQ (n1 : Nat) (fs : List Q4) (gone : Nat) (skip : Int) (a b : Nat) : Prop := (a : Int) ≠ skip ∧ (b : Int) ≠ skip ∧ Cn fs 0 (a : Int) (b : Int) ∧ ¬ Cn fs gone (a : Int) (b : Int)
def splP (n1 : Nat) (fs : List Q4) (gone : Nat) (skip : Int) : Prop := ∃ a b : Nat, a < b ∧ b < n1 ∧ splQ n1 fs gone skip a b
theorem spl_any {n1 : Nat} {fs : List Q4} {gone : Nat} {skip : Int} {a b : Nat} (ha : a < n1) (hb : b < n1) (h : splQ n1 fs gone skip a b) : splP n1 fs gone skip := by
  obtain ⟨h1, h2, h3, h4⟩ := h
  rcases Nat.lt_trichotomy a b with h | h | h
  · exact ⟨a, b, h, hb, h1, h2, h3, h4⟩
  · subst h; exact absurd (Cn.refl _) h4
  · exact ⟨b, a, h, ha, h2, h1, h3.symm, fun hc => h4 hc.symm⟩

set_option maxRecDepth 100000 in
set_option maxHeartbeats 8000000 in
theorem splits_ {g1 g2 n1 n2 c1 c2 : Nat} {ss : List ByteArray} {fs : List Q4} {w : World} (h : NetAt g1 g2 n1 n2 c1 c2 ss fs w) (hv : netP ss fs) (gone : Nat) (skip : Int) (hgo : gone < 2 ^ 20) :
    Calls Try.prog 143 #[.agg #[.slice (some ⟨g1, 0, none⟩) n1 c1, .slice (some ⟨g2, 0, none⟩) n2 c2], .int .i64 (gone : Int), .int .i64 skip] w (RetP (.bool (pb (splP n1 fs gone skip))) w) := by
  have HNT := Lib.hid h; have HV := Lib.hid hv
  have hn8 : n1 ≤ 8 := by have := hv.1; have := h.ln1; omega
  clear h hv
  obtain ⟨R, hR⟩ : ∃ R, pb (splP n1 fs gone skip) = R := ⟨_, rfl⟩
  have HYES : Hid (∀ a b, a < b → b < n1 → splQ n1 fs gone skip a b → R = true) := Lib.hid (fun a b h1 h2 h3 => by rw [← hR]; exact pb_true ⟨a, b, h1, h2, h3⟩)
  have HNO : Hid ((∀ a b, a < b → b < n1 → ¬ splQ n1 fs gone skip a b) → R = false) := Lib.hid (fun h => by
    rw [← hR]; refine pb_false ?_
    rintro ⟨a, b, h1, h2, h3⟩
    exact h a b h1 h2 h3)
  rw [hR]
  clear hR
  go_enter Try.func143, Try.ntmps143
  go_wp2
  obtain ⟨W0, hW0⟩ : ∃ W0, (w.alloc (Obj.cells #[.slice (some ⟨g1, 0, none⟩) n1 c1, .slice (some ⟨g2, 0, none⟩) n2 c2] 32)) = W0 := ⟨_, rfl⟩
  have hb0 : Below w.heap.size w W0 := by rw [← hW0]; exact (Below.refl _ _).alloc (Nat.le_refl _) _
  have k0 : W0.cell? ⟨w.heap.size, 0, none⟩ = some (.slice (some ⟨g1, 0, none⟩) n1 c1) := by rw [← hW0]; simp [go_sem]
  have k1 : W0.cell? ⟨w.heap.size, 1, none⟩ = some (.slice (some ⟨g2, 0, none⟩) n2 c2) := by rw [← hW0]; simp [go_sem]
  have hg0 : w.heap.size < W0.heap.size := by rw [← hW0]; simp
  have HB0 := Lib.hid hb0
  rw [hW0]
  clear hW0 hb0
  have CL0 : Hid (∀ W, Bel W0 W → Calls Try.prog 145 #[.agg #[.slice (some ⟨g1, 0, none⟩) n1 c1, .slice (some ⟨g2, 0, none⟩) n2 c2], .int .i64 0] W (LabO n1 fs 0 W)) := Lib.hid (fun W hb => labels_ (HNT.out.moved (HB0.out.trans ((Bel.out hb).mono HB0.out.size))) HV.out 0 (by omega))
  have CL1 : Hid (∀ W, Bel W0 W → Calls Try.prog 145 #[.agg #[.slice (some ⟨g1, 0, none⟩) n1 c1, .slice (some ⟨g2, 0, none⟩) n2 c2], .int .i64 (gone : Int)] W (LabO n1 fs gone W)) := Lib.hid (fun W hb => labels_ (HNT.out.moved (HB0.out.trans ((Bel.out hb).mono HB0.out.size))) HV.out gone hgo)
  have hbd : Bel W0 W0.drew := Bel.of (Below.refl _ _).drew
  go_upto_region 1 with fail
  go_cut [7, 8] (fun s7 s8 wx => ∃ (L1 L2 : List Int) (A1 A2 : Option Addr) (N1 N2 d1 d2 : Nat), s7 = .slice A1 N1 d1 ∧ s8 = .slice A2 N2 d2 ∧ Hid (N1 = n1) ∧ Hid (N2 = n1) ∧ Hid (LabP n1 fs 0 L1) ∧ Hid (LabP n1 fs gone L2) ∧ Hid (Rd wx wx.heap.size A1 (L1.map (Value.int .i64))) ∧ Hid (Rd wx wx.heap.size A2 (L2.map (Value.int .i64))) ∧ Bel W0 wx)
  case first =>
    go_region_held3 (fun U => U.cell? ⟨w.heap.size, 0, none⟩ = some (.slice (some ⟨g1, 0, none⟩) n1 c1) ∧ U.cell? ⟨w.heap.size, 1, none⟩ = some (.slice (some ⟨g2, 0, none⟩) n2 c2) ∧ Bel W0 U)
      (first | (go_keep; done) | (go_split_ands; (refine ⟨?_, ?_, ?_⟩ <;> first | assumption | exact Bel.step (by assumption) hbA | exact Bel.step (by assumption) hbB | exact (Bel.at_ (by assumption) hbA (by assumption)).trans (by assumption) | exact (Bel.at_ (by assumption) hbB (by assumption)).trans (by assumption))))
      (first
        | (go_at_call 145; go_split_ands; (with_reducible refine (CL0.out _ (by assumption)).mono ?_); rintro e u1 ⟨LA, AA, NA, dA, rfl, hNA, hLA, hoA, hbA⟩
           have RA : Hid (∀ V, Below u1.heap.size u1 V → Rd V V.heap.size AA (LA.map (Value.int .i64))) := Lib.hid fun V hV => (Rd.ofOwn hoA).moved hV)
        | (go_at_call 145; go_split_ands; (with_reducible refine (CL1.out _ (by assumption)).mono ?_); rintro e u2 ⟨LB, AB, NB, dB, rfl, hNB, hLB, hoB, hbB⟩
           have RB : Hid (∀ V, Below u2.heap.size u2 V → Rd V V.heap.size AB (LB.map (Value.int .i64))) := Lib.hid fun V hV => (Rd.ofOwn hoB).moved hV))
    all_goals
      go_split_ands
      go_wp2_with fail
      go_meet
      exact ⟨LA, LB, AA, AB, NA, NB, dA, dB, rfl, rfl, hNA, hNB, hLA, hLB, Lib.hid (RA.out _ (by first | exact Below.refl _ _ | assumption)), Lib.hid (RB.out _ (by first | exact Below.refl _ _ | assumption)), by assumption⟩
  case rest =>
  clear hbd k0 k1 hg0
  revert hcut; generalize wc = w1; intro hcut
  obtain ⟨L1, L2, A1, A2, N1, N2, d1, d2, h0_, h1_, HN1, HN2, HLA, HLB, HR1, HR2, hb1⟩ := hcut
  subst h0_ h1_
  have HB1 := Lib.hid (HB0.out.trans ((Bel.out hb1).mono HB0.out.size))
  have hN1 : N1 ≤ 8 := by have := HN1.out; omega
  have hN2e : N2 = N1 := by have := HN1.out; have := HN2.out; omega
  subst hN2e
  have HLN : Hid (L1.length = N2 ∧ L2.length = N2) := Lib.hid ⟨by rw [HLA.out.len]; exact HN1.out.symm, by rw [HLB.out.len]; exact HN1.out.symm⟩
  clear hb1
  go_wp2
  go_loopw [9] (fun i wr => ∃ a : Nat, a ≤ N2 ∧ i = .int .i64 a ∧ Hid (∀ a' b, a' < a → a' < b → b < n1 → ¬ splQ n1 fs gone skip a' b) ∧ Below w1.heap.size w1 wr) (fun i _ => N2 - (intOf i).toNat)
  case atStart => exact ⟨0, Nat.zero_le _, rfl, Lib.hid (fun a' b h => by omega), Below.refl _ _⟩
  case round =>
    obtain ⟨a, ha, rfl, HA, hb⟩ := hrel
    have HBR := Lib.hid hb
    clear hb
    by_cases hlt : a < N2
    case neg =>
      have HE : Hid (R = false) := Lib.hid (HNO.out (fun a' b h1 h2 => HA.out a' b (by have := HN1.out; omega) h1 h2))
      go_wp2
      go_ret
      exact ⟨retb HE.out.symm, HB1.out.trans (HBR.out.mono HB1.out.size)⟩
    case pos =>
    have e1 : IntKind.i64.wrap ((a : Int) + 1) = ((a + 1 : Nat) : Int) := by rw [IntWalk.i64_in _ (by omega)]; omega
    have HSA : Hid (a < n1) := Lib.hid (by have := HN1.out; omega)
    go_wp2
    obtain ⟨wo, rfl⟩ : ∃ wo, wo = wr := ⟨wr, rfl⟩
    go_loopw [10] (fun i wr => ∃ b : Nat, a < b ∧ b ≤ N2 ∧ i = .int .i64 b ∧ Hid (∀ b', a < b' → b' < b → ¬ splQ n1 fs gone skip a b') ∧ Below w1.heap.size w1 wr) (fun i _ => N2 - (intOf i).toNat)
    case atStart => exact ⟨a + 1, Nat.lt_succ_self _, by omega, by go_num, Lib.hid (fun b' h1 h2 => by omega), HBR.out⟩
    case round =>
      obtain ⟨b, hab, hbN, rfl, HBQ, hb⟩ := hrel
      have HBV := Lib.hid hb
      clear hb
      by_cases hlt2 : b < N2
      case neg =>
        have HA2 : Hid (∀ a' b, a' < a + 1 → a' < b → b < n1 → ¬ splQ n1 fs gone skip a' b) := Lib.hid (fun a' b' h1 h2 h3 => by
          by_cases e : a' = a
          · subst e; exact HBQ.out b' h2 (by have := HN1.out; omega)
          · exact HA.out a' b' (by omega) h2 h3)
        go_wp2
        go_roundw
        case rel => exact ⟨a + 1, by omega, by go_num, HA2, HBV.out⟩
        case measure => simp [intOf]; omega
      case pos =>
      have ha1 : a < L1.length := by have := HLN.out.1; omega
      have hb1 : b < L1.length := by have := HLN.out.1; omega
      have ha2 : a < L2.length := by have := HLN.out.2; omega
      have hb2 : b < L2.length := by have := HLN.out.2; omega
      obtain ⟨ad1, hA1, _, x1c⟩ := ints_at (HR1.out.moved HBV.out) ha1
      obtain ⟨ad1', hA1', _, y1c⟩ := ints_at (HR1.out.moved HBV.out) hb1
      obtain ⟨ad2, hA2, _, x2c⟩ := ints_at (HR2.out.moved HBV.out) ha2
      obtain ⟨ad2', hA2', _, y2c⟩ := ints_at (HR2.out.moved HBV.out) hb2
      have HBN : Hid (b < n1) := Lib.hid (by have := HN1.out; omega)
      have HS1 : Hid (L1[a] = L1[b] ↔ Cn fs 0 (a : Int) (b : Int)) := Lib.hid (by
        have h9 := HLA.out.same HSA.out HBN.out
        rw [List.getD_eq_getElem?_getD, List.getD_eq_getElem?_getD, List.getElem?_eq_getElem ha1, List.getElem?_eq_getElem hb1] at h9
        exact h9)
      have HS2 : Hid (L2[a] = L2[b] ↔ Cn fs gone (a : Int) (b : Int)) := Lib.hid (by
        have h9 := HLB.out.same HSA.out HBN.out
        rw [List.getD_eq_getElem?_getD, List.getD_eq_getElem?_getD, List.getElem?_eq_getElem ha2, List.getElem?_eq_getElem hb2] at h9
        exact h9)
      obtain ⟨x1, hx1⟩ : ∃ x, L1[a] = x := ⟨_, rfl⟩
      obtain ⟨y1, hy1⟩ : ∃ x, L1[b] = x := ⟨_, rfl⟩
      obtain ⟨x2, hx2⟩ : ∃ x, L2[a] = x := ⟨_, rfl⟩
      obtain ⟨y2, hy2⟩ : ∃ x, L2[b] = x := ⟨_, rfl⟩
      rw [hx1, hy1] at HS1
      rw [hx2, hy2] at HS2
      rw [hx1] at x1c; rw [hy1] at y1c; rw [hx2] at x2c; rw [hy2] at y2c
      have e1' : ad1' = ad1 := by rw [hA1] at hA1'; injection hA1' with h; exact h.symm
      have e2' : ad2' = ad2 := by rw [hA2] at hA2'; injection hA2' with h; exact h.symm
      subst e1' e2' hA1 hA2
      clear hA1' hA2' hx1 hy1 hx2 hy2 ha1 hb1 ha2 hb2
      have GO : Hid (¬ splQ n1 fs gone skip a b → ∀ b', a < b' → b' < b + 1 → ¬ splQ n1 fs gone skip a b') := Lib.hid (fun hn b' h1 h2 => by
        by_cases e : b' = b
        · subst e; exact hn
        · exact HBQ.out b' h1 (by omega))
      by_cases q1 : (a : Int) = skip
      case pos =>
        have HG := Lib.hid (GO.out (fun hq => hq.1 q1))
        have p1 : ((a : Int) != skip) = false := by simpa using q1
        clear q1
        go_wp2_with fail
        go_quiet (fail)
        go_wp2
        go_roundw
        case rel => exact ⟨b + 1, by omega, by omega, by go_num, HG, drewN_below_ HBV.out _⟩
        case measure => simp [intOf]; omega
      case neg =>
      have p1 : ((a : Int) != skip) = true := by simpa using q1
      by_cases q2 : (b : Int) = skip
      case pos =>
        have HG := Lib.hid (GO.out (fun hq => hq.2.1 q2))
        have p2 : ((b : Int) != skip) = false := by simpa using q2
        clear q1 q2
        go_wp2_with fail
        go_quiet (fail)
        go_wp2
        go_roundw
        case rel => exact ⟨b + 1, by omega, by omega, by go_num, HG, drewN_below_ HBV.out _⟩
        case measure => simp [intOf]; omega
      case neg =>
      have p2 : ((b : Int) != skip) = true := by simpa using q2
      by_cases q3 : x1 = y1
      case neg =>
        have HG := Lib.hid (GO.out (fun hq => q3 (HS1.out.2 hq.2.2.1)))
        have p3 : (x1 == y1) = false := by simpa using q3
        clear q1 q2 q3
        go_wp2_with fail
        go_quiet (fail)
        go_wp2
        go_roundw
        case rel => exact ⟨b + 1, by omega, by omega, by go_num, HG, drewN_below_ HBV.out _⟩
        case measure => simp [intOf]; omega
      case pos =>
      by_cases q4 : x2 = y2
      case pos =>
        have HG := Lib.hid (GO.out (fun hq => hq.2.2.2 (HS2.out.1 q4)))
        have p4 : (x2 != y2) = false := by simpa using q4
        subst q3
        clear q1 q2 q4
        go_wp2_with fail
        go_quiet (fail)
        go_wp2
        go_roundw
        case rel => exact ⟨b + 1, by omega, by omega, by go_num, HG, drewN_below_ HBV.out _⟩
        case measure => simp [intOf]; omega
      case neg =>
        have HE : Hid (R = true) := Lib.hid (HYES.out a b hab HBN.out ⟨q1, q2, HS1.out.1 q3, fun hc => q4 (HS2.out.2 hc)⟩)
        have p4 : (x2 != y2) = true := by simpa using q4
        subst q3
        clear q1 q2 q4
        go_wp2_with fail
        go_quiet (fail)
        go_wp2
        go_ret
        exact ⟨retb HE.out.symm, HB1.out.trans ((drewN_below_ HBV.out _).mono HB1.out.size)⟩
end Go.Proofs.Ytcbjdfgmkiodkaa
