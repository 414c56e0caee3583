/- Targets of availability: contracts of MeetsTarget, both sides, and of spec.l16Part. No condition but those typed. -/
import Derived.Test.YtcbjdfgmkiodkaaSw
import Derived.Test.YtcbjdfgmkiodkaaShelf
namespace Go.Proofs.Ytcbjdfgmkiodkaa
open Go.ChangeShapes Go.WideShapes Go.ChangeAt Go.RowKit

def mtP (ss : List ByteArray) (fs : List Q4) (u : Int) (ds : List Int) (va nu de : Int) : Prop := ouP ss fs u ds ∧ (1 ≤ de ∧ de ≤ 1000) ∧ (0 ≤ nu ∧ nu ≤ de) ∧ (0 ≤ va ∧ va ≤ u ^ ds.length)
noncomputable def mtB (ss : List ByteArray) (fs : List Q4) (u : Int) (ds : List Int) (va nu de : Int) : Bool := pb (mtP ss fs u ds va nu de)
noncomputable def mtY (ss : List ByteArray) (fs : List Q4) (u : Int) (ds : List Int) (va nu de : Int) : Bool := pb (mtP ss fs u ds va nu de ∧ nu * u ^ ds.length ≤ va * de)
noncomputable def mtR (ss : List ByteArray) (fs : List Q4) (u : Int) (ds : List Int) (va nu de : Int) : Value := .tuple #[.bool (mtY ss fs u ds va nu de), .bool (mtB ss fs u ds va nu de)]
theorem mt_no {ss : List ByteArray} {fs : List Q4} {u : Int} {ds : List Int} {va nu de : Int} (h : ¬ mtP ss fs u ds va nu de) : (.tuple #[.bool false, .bool false] : Value) = mtR ss fs u ds va nu de := by
  unfold mtR; rw [show mtB ss fs u ds va nu de = false from pb_false h, show mtY ss fs u ds va nu de = false from pb_false (fun e => h e.1)]
theorem mt_yes {ss : List ByteArray} {fs : List Q4} {u : Int} {ds : List Int} {va nu de : Int} {b : Bool} (h : mtP ss fs u ds va nu de) (hb : b = true ↔ nu * u ^ ds.length ≤ va * de) : (.tuple #[.bool b, .bool true] : Value) = mtR ss fs u ds va nu de := by
  unfold mtR; rw [show mtB ss fs u ds va nu de = true from pb_true h]
  have : mtY ss fs u ds va nu de = b := by
    cases b
    · exact pb_false (fun e => by have := hb.2 e.2; cases this)
    · exact pb_true ⟨h, hb.1 rfl⟩
  rw [this]
theorem pow_in {u : Int} (h0 : 2 ≤ u) (h1 : u ≤ 20) : ∀ {k : Nat}, 1 ≤ u ^ k ∧ u ^ k ≤ 20 ^ k
  | 0 => ⟨by simp, by simp⟩
  | k + 1 => by
    have ih := pow_in h0 h1 (k := k)
    rw [Int.pow_succ, Int.pow_succ]
    refine ⟨?_, Int.mul_le_mul ih.2 h1 (by omega) (Int.pow_nonneg (by decide))⟩
    have : 1 * 1 ≤ u ^ k * u := Int.mul_le_mul ih.1 (by omega) (by omega) (by omega)
    omega
theorem pow_lt {u : Int} (h0 : 2 ≤ u) (h1 : u ≤ 20) {k : Nat} (hk : k ≤ 14) : 1 ≤ u ^ k ∧ u ^ k ≤ 1638400000000000000 := by
  have h := pow_in h0 h1 (k := k)
  have h2 : (20 : Int) ^ k ≤ 1638400000000000000 := by
    have : (20 : Nat) ^ k ≤ 20 ^ 14 := Nat.pow_le_pow_right (by decide) hk
    have h3 : ((20 ^ k : Nat) : Int) ≤ ((20 ^ 14 : Nat) : Int) := Int.ofNat_le.2 this
    have h4 : ((20 ^ 14 : Nat) : Int) = 1638400000000000000 := by decide
    have h5 : ((20 ^ k : Nat) : Int) = (20 : Int) ^ k := by simp
    omega
  exact ⟨h.1, Int.le_trans h.2 h2⟩
theorem pow_wrap {u m p : Int} {k : Nat} (hm : u ^ k = m) (hp : u ^ (k + 1) = p) (h0 : 1 ≤ p) (h1 : p ≤ 1638400000000000000) : IntKind.i64.wrap (m * u) = p := by
  rw [← hm, ← Int.pow_succ, hp]; exact IntWalk.i64_in _ (by omega)
theorem part_step {x all i o r : Int} (h : x * i = o * all + r) : x * (i + 1) = o * all + (r + x) ∧ x * (i + 1) = (o + 1) * all + (r - (all - x)) := by
  rw [Int.mul_add, Int.mul_one, Int.add_mul, Int.one_mul, h]; omega
theorem part_end {x all d o r : Int} (h : x * d = o * all + r) (h0 : 0 ≤ r) (h1 : r < all) : o = x * d / all := by
  rw [h, Int.add_comm, Int.add_mul_ediv_right _ _ (by omega), Int.ediv_eq_zero_of_lt h0 h1]; omega
theorem meets_iff {va de nu all : Int} (ha : 1 ≤ all) : nu ≤ va / all * de + va % all * de / all ↔ nu * all ≤ va * de := by
  have h1 : va * de / all = va / all * de + va % all * de / all := by
    have h2 : va * de = va % all * de + (va / all * de) * all := by
      have h3 := Int.emod_add_mul_ediv va all
      calc va * de = (va % all + all * (va / all)) * de := by rw [h3]
        _ = va % all * de + (va / all * de) * all := by rw [Int.add_mul]; congr 1; rw [Int.mul_comm all, Int.mul_assoc, Int.mul_assoc, Int.mul_comm all de]
    rw [h2, Int.add_mul_ediv_right _ _ (by omega)]; omega
  rw [← h1]
  exact Int.le_ediv_iff_mul_le (by omega)

set_option maxRecDepth 100000 in
set_option maxHeartbeats 4000000 in
theorem l16Part_ (x de all : Int) (w : World) (hx0 : 0 ≤ x) (hx1 : x < all) (hd0 : 0 ≤ de) (hd1 : de ≤ 1000) (ha : all ≤ 1638400000000000000) :
    Calls Try.prog 141 #[.int .i64 x, .int .i64 de, .int .i64 all] w fun e w' => e = .returned (.int .i64 (x * de / all)) ∧ w' = w := by
  obtain ⟨d, rfl⟩ : ∃ d : Nat, de = (d : Int) := ⟨de.toNat, by omega⟩
  obtain ⟨R, hR⟩ : ∃ R, x * (d : Int) / all = R := ⟨_, rfl⟩
  have HRR := Lib.hid hR
  rw [hR]
  clear hR
  go_enter Try.func141, Try.ntmps141
  go_wp2
  go_loop [7, 8, 9] (fun o r i => ∃ (k : Nat) (ov rv : Int), k ≤ d ∧ i = .int .i64 k ∧ o = .int .i64 ov ∧ r = .int .i64 rv ∧ Hid (x * (k : Int) = ov * all + rv) ∧ (0 ≤ rv ∧ rv < all) ∧ (0 ≤ ov ∧ ov ≤ k)) (fun _ _ i => d - (intOf i).toNat)
  case atStart => exact ⟨0, 0, 0, Nat.zero_le _, rfl, rfl, rfl, Lib.hid (by simp), ⟨by omega, by omega⟩, ⟨by omega, by omega⟩⟩
  case round =>
    obtain ⟨k, ov, rv, hk, rfl, rfl, rfl, HX, ⟨hr0, hr1⟩, ho0, ho1⟩ := hrel
    by_cases hlt : k < d
    case neg =>
      obtain rfl : k = d := by omega
      obtain rfl : ov = R := by rw [← HRR.out]; exact part_end HX.out hr0 hr1
      clear hlt
      go_wp2
      go_ret
      exact ⟨rfl, rfl⟩
    case pos =>
    have HS := Lib.hid (part_step HX.out)
    by_cases hge : all - x ≤ rv
    case pos =>
      go_wp2
      go_round
      case rel => exact ⟨k + 1, ov + 1, rv - (all - x), by omega, by go_num, rfl, rfl, Lib.hid (by have := HS.out.2; simpa using this), ⟨by omega, by omega⟩, ⟨by omega, by omega⟩⟩
      case measure => simp [intOf]; omega
    case neg =>
      go_wp2
      go_round
      case rel => exact ⟨k + 1, ov, rv + x, by omega, by go_num, rfl, rfl, Lib.hid (by have := HS.out.1; simpa using this), ⟨by omega, by omega⟩, ⟨by omega, by omega⟩⟩
      case measure => simp [intOf]; omega
set_option maxRecDepth 100000 in
set_option maxHeartbeats 8000000 in
theorem implMT {g1 g2 n1 n2 c1 c2 : Nat} {ss : List ByteArray} {fs : List Q4} {w : World} (h : NetAt g1 g2 n1 n2 c1 c2 ss fs w) (u : Int) {A : Option Addr} {n c : Nat} {ds : List Int} (hn : ds.length = n) (hr : Rd w w.heap.size A (ds.map (Value.int .i64))) (hx : n ≤ 1048576) (va nu de : Int) :
    Calls Try.prog 54 #[.agg #[.slice (some ⟨g1, 0, none⟩) n1 c1, .slice (some ⟨g2, 0, none⟩) n2 c2], .agg #[.int .i64 u, .slice A n c], .int .i64 va, .int .i64 nu, .int .i64 de] w (RetP (mtR ss fs u ds va nu de) w) := by
  have HNT := Lib.hid h; have HN := Lib.hid hn; have HR := Lib.hid hr
  clear h hn hr
  obtain ⟨R, hR⟩ : ∃ r, mtR ss fs u ds va nu de = r := ⟨_, rfl⟩
  have HNO : Hid (¬ mtP ss fs u ds va nu de → (.tuple #[.bool false, .bool false] : Value) = R) := Lib.hid (fun e => by rw [← hR]; exact mt_no e)
  have HYES : Hid (∀ b : Bool, mtP ss fs u ds va nu de → (b = true ↔ nu * u ^ ds.length ≤ va * de) → (.tuple #[.bool b, .bool true] : Value) = R) := Lib.hid (fun b e hb => by rw [← hR]; exact mt_yes e hb)
  rw [hR]
  clear hR
  go_enter Try.func54, Try.ntmps54
  go_wp2_with fail
  obtain ⟨W0, hW0⟩ : ∃ W0, (w.alloc (Obj.cells #[.slice (some ⟨g1, 0, none⟩) n1 c1, .slice (some ⟨g2, 0, none⟩) n2 c2] 32)).alloc (Obj.cells #[.int .i64 u, .slice A n c] 58) = W0 := ⟨_, rfl⟩
  have hb0 : Below w.heap.size w W0 := by rw [← hW0]; exact ((Below.refl _ _).alloc (Nat.le_refl _) _).alloc (by simp) _
  have k0 : W0.cell? ⟨w.heap.size, 0, none⟩ = some (.slice (some ⟨g1, 0, none⟩) n1 c1) := by rw [← hW0]; simp [go_sem]
  have k1 : W0.cell? ⟨w.heap.size, 1, none⟩ = some (.slice (some ⟨g2, 0, none⟩) n2 c2) := by rw [← hW0]; simp [go_sem]
  have k2 : W0.cell? ⟨w.heap.size + 1, 0, none⟩ = some (.int .i64 u) := by rw [← hW0]; simp [go_sem]
  have k3 : W0.cell? ⟨w.heap.size + 1, 1, none⟩ = some (.slice A n c) := by rw [← hW0]; simp [go_sem]
  have hz0 : w.heap.size + 1 < W0.heap.size := by rw [← hW0]; simp
  have HB0 := Lib.hid hb0; have HK0 := Lib.hid k0; have HK1 := Lib.hid k1; have HK2 := Lib.hid k2; have HK3 := Lib.hid k3; have HZ0 := Lib.hid hz0
  rw [hW0]
  clear hW0 hb0 k0 k1 k2 k3 hz0
  have CV := Lib.hid (implVO (c := c) (HNT.out.moved HB0.out) u HN.out (HR.out.moved HB0.out) hx)
  obtain ⟨v, hv⟩ : ∃ v, ouB ss fs u ds = v := ⟨_, rfl⟩
  rw [hv] at CV
  have HVB := Lib.hid hv
  clear hv
  refine CV.out.mono ?_
  rintro e w1 ⟨rfl, hb1⟩
  have HB1 := Lib.hid (HB0.out.trans (hb1.mono HB0.out.size))
  have k0 := (hb1.cell (p := ⟨w.heap.size, 0, none⟩) (by show w.heap.size < _; have := HZ0.out; omega)).trans HK0.out
  have k1 := (hb1.cell (p := ⟨w.heap.size, 1, none⟩) (by show w.heap.size < _; have := HZ0.out; omega)).trans HK1.out
  have k2 := (hb1.cell (p := ⟨w.heap.size + 1, 0, none⟩) (by show w.heap.size + 1 < _; have := HZ0.out; omega)).trans HK2.out
  have k3 := (hb1.cell (p := ⟨w.heap.size + 1, 1, none⟩) (by show w.heap.size + 1 < _; have := HZ0.out; omega)).trans HK3.out
  have hg1 : w.heap.size + 1 < w1.heap.size := by have := HZ0.out; have := hb1.size; omega
  clear hb1 k0 k1
  cases v
  case false =>
    have HE := Lib.hid (HNO.out (fun hp => by have h1 := HVB.out; unfold ouB at h1; rw [pb_true hp.1] at h1; cases h1))
    clear k2 k3 hg1
    go_wp2
    go_ret2
    exact ⟨ret_tupC HE.out, HB1.out⟩
  case true =>
  have HOU : Hid (ouP ss fs u ds) := Lib.hid (of_pb HVB.out)
  have hn14 : n ≤ 14 := by have h1 := HOU.out; have := rgp_len fs; have := h1.1.2.1; have := h1.2.2.1; have := HN.out; omega
  obtain ⟨hu2, hu20⟩ := HOU.out.2.1
  by_cases hd0 : 1 ≤ de
  case neg =>
    have HE := Lib.hid (HNO.out (fun hp => hd0 hp.2.1.1))
    have hno : ¬ (1 ≤ de) := hd0
    clear k2 k3 hg1 hd0
    go_wp2
    go_ret2
    exact ⟨ret_tupC HE.out, HB1.out⟩
  case pos =>
  by_cases hd1 : de ≤ 1000
  case neg =>
    have HE := Lib.hid (HNO.out (fun hp => hd1 hp.2.1.2))
    have hno : ¬ (de ≤ 1000) := hd1
    clear k2 k3 hg1 hd1
    go_wp2
    go_ret2
    exact ⟨ret_tupC HE.out, HB1.out⟩
  case pos =>
  by_cases hu0_ : 0 ≤ nu
  case neg =>
    have HE := Lib.hid (HNO.out (fun hp => hu0_ hp.2.2.1.1))
    have hno : ¬ (0 ≤ nu) := hu0_
    clear k2 k3 hg1 hu0_
    go_wp2
    go_ret2
    exact ⟨ret_tupC HE.out, HB1.out⟩
  case pos =>
  by_cases hu1_ : nu ≤ de
  case neg =>
    have HE := Lib.hid (HNO.out (fun hp => hu1_ hp.2.2.1.2))
    have hno : ¬ (nu ≤ de) := hu1_
    clear k2 k3 hg1 hu1_
    go_wp2
    go_ret2
    exact ⟨ret_tupC HE.out, HB1.out⟩
  case pos =>
  have HPW : Hid (∀ k, k ≤ n → 1 ≤ u ^ k ∧ u ^ k ≤ 1638400000000000000) := Lib.hid (fun k hk => pow_lt hu2 hu20 (by omega))
  go_wp2
  go_loop [12, 41] (fun l i => ∃ (k : Nat) (m : Int), k ≤ n ∧ i = .int .i64 k ∧ l = .int .i64 m ∧ Hid (u ^ k = m)) (fun _ i => n - (intOf i).toNat)
  case atStart => exact ⟨0, 1, Nat.zero_le _, rfl, rfl, Lib.hid (by simp)⟩
  case round =>
    obtain ⟨k, m, hk, rfl, rfl, HM⟩ := hrel
    by_cases hlt : k < n
    case pos =>
      obtain ⟨hm0, hm1⟩ := HPW.out k (by omega)
      rw [HM.out] at hm0 hm1
      obtain ⟨p, hp⟩ : ∃ p, u ^ (k + 1) = p := ⟨_, rfl⟩
      obtain ⟨hp0, hp1⟩ := HPW.out (k + 1) (by omega)
      rw [hp] at hp0 hp1
      have hmul := pow_wrap HM.out hp hp0 hp1
      have HP := Lib.hid hp
      clear hp
      go_wp2
      go_round
      case rel => exact ⟨k + 1, p, by omega, by go_num, rfl, HP⟩
      case measure => simp [intOf]; omega
    case neg =>
    obtain rfl : k = n := by omega
    obtain ⟨hm0, hm1⟩ := HPW.out k (by omega)
    rw [HM.out] at hm0 hm1
    clear hlt
    have HNK := Lib.hid hn14
    by_cases hv0 : 0 ≤ va
    case neg =>
      have HE := Lib.hid (HNO.out (fun hp => hv0 hp.2.2.2.1))
      have hno : ¬ (0 ≤ va) := hv0
      clear k2 k3 hg1 hv0
      go_wp2
      go_ret2
      exact ⟨ret_tupC HE.out, HB1.out⟩
    case pos =>
    by_cases hv1 : va ≤ m
    case neg =>
      have HE := Lib.hid (HNO.out (fun hp => hv1 (by have h1 := hp.2.2.2.2; rw [HN.out, HM.out] at h1; exact h1)))
      have hno : ¬ (va ≤ m) := hv1
      clear k2 k3 hg1 hv1
      go_wp2
      go_ret2
      exact ⟨ret_tupC HE.out, HB1.out⟩
    case pos =>
    have HMT : Hid (mtP ss fs u ds va nu de) := Lib.hid ⟨HOU.out, ⟨hd0, hd1⟩, ⟨hu0_, hu1_⟩, ⟨hv0, by rw [HN.out, HM.out]; exact hv1⟩⟩
    have HFIN : Hid (∀ b : Bool, (b = true ↔ nu * m ≤ va * de) → (.tuple #[.bool b, .bool true] : Value) = R) := Lib.hid (fun b hb => HYES.out b HMT.out (by rw [HN.out, HM.out]; exact hb))
    clear HYES HNO
    clear k2 k3 hg1
    obtain ⟨v, rfl⟩ : ∃ v : Nat, va = (v : Int) := ⟨va.toNat, by omega⟩
    obtain ⟨e, rfl⟩ : ∃ v : Nat, de = (v : Int) := ⟨de.toNat, by omega⟩
    obtain ⟨q, rfl⟩ : ∃ v : Nat, nu = (v : Int) := ⟨nu.toNat, by omega⟩
    obtain ⟨M, hM⟩ : ∃ v : Nat, m = (v : Int) := ⟨m.toNat, by omega⟩
    have C1 := Lib.hid (Try.bits_Mul64 v e (by omega) (by omega) w1)
    have C2 := Lib.hid (Try.bits_Mul64 M q (by omega) (by omega) w1)
    obtain ⟨a, ha⟩ : ∃ a, v * e = a := ⟨_, rfl⟩
    obtain ⟨b, hb⟩ : ∃ a, M * q = a := ⟨_, rfl⟩
    rw [ha] at C1; rw [hb] at C2
    have HIF : Hid ((q : Int) * m ≤ (v : Int) * (e : Int) ↔ b ≤ a) := Lib.hid (by
      rw [← ha, ← hb, hM, Nat.mul_comm M q]
      constructor
      · intro h; exact_mod_cast h
      · intro h; exact_mod_cast h)
    obtain ⟨ah, hah⟩ : ∃ x, a / 18446744073709551616 = x := ⟨_, rfl⟩
    obtain ⟨al, hal⟩ : ∃ x, a % 18446744073709551616 = x := ⟨_, rfl⟩
    obtain ⟨bh, hbh⟩ : ∃ x, b / 18446744073709551616 = x := ⟨_, rfl⟩
    obtain ⟨bl, hbl⟩ : ∃ x, b % 18446744073709551616 = x := ⟨_, rfl⟩
    rw [hah, hal] at C1; rw [hbh, hbl] at C2
    have HLE : Hid (b ≤ a ↔ (bh < ah ∨ (ah = bh ∧ bl ≤ al))) := Lib.hid (by omega)
    clear ha hb hah hal hbh hbl
    have e1 : IntKind.u64.wrap (v : Int) = v := IntWalk.u64_in _ (by omega)
    have e2 : IntKind.u64.wrap (e : Int) = e := IntWalk.u64_in _ (by omega)
    have e3 : IntKind.u64.wrap (q : Int) = q := IntWalk.u64_in _ (by omega)
    have e4 : IntKind.u64.wrap m = (M : Int) := by rw [hM]; exact IntWalk.u64_in _ (by omega)
    clear hM
    go_wp2_with fail
    refine C1.out.mono ?_
    rintro _ _ ⟨rfl, rfl⟩
    go_wp2_with fail
    refine C2.out.mono ?_
    rintro _ _ ⟨rfl, rfl⟩
    clear C1 C2 e1 e2 e3 e4 CV
    rcases Nat.lt_trichotomy bh ah with hh | hh | hh
    · have HE := Lib.hid (HFIN.out true ⟨fun _ => HIF.out.2 (HLE.out.2 (.inl hh)), fun _ => rfl⟩)
      have h2 : (bh : Int) < (ah : Int) := by omega
      clear hh
      go_wp2
      go_ret2
      exact ⟨ret_tupC HE.out, HB1.out⟩
    · have HE := Lib.hid (HFIN.out (decide (bl ≤ al)) ⟨fun h => HIF.out.2 (HLE.out.2 (.inr ⟨hh.symm, of_decide_eq_true h⟩)), fun h => decide_eq_true (by have := HLE.out.1 (HIF.out.1 h); omega)⟩)
      subst hh
      have h2 : ¬ ((bh : Int) < (bh : Int)) := by omega
      go_wp2
      go_ret2
      exact ⟨ret_tupC HE.out, HB1.out⟩
    · have HE := Lib.hid (HFIN.out (decide (bh < ah)) ⟨fun h => absurd (of_decide_eq_true h) (by omega), fun h => by have := HLE.out.1 (HIF.out.1 h); omega⟩)
      have h2 : ¬ ((bh : Int) < (ah : Int)) := by omega
      have h3 : (ah : Int) ≠ (bh : Int) := by omega
      clear hh
      go_wp2
      go_ret2
      exact ⟨ret_tupC HE.out, HB1.out⟩
set_option maxRecDepth 100000 in
set_option maxHeartbeats 8000000 in
theorem specMT {g1 g2 n1 n2 c1 c2 : Nat} {ss : List ByteArray} {fs : List Q4} {w : World} (h : NetAt g1 g2 n1 n2 c1 c2 ss fs w) (u : Int) {A : Option Addr} {n c : Nat} {ds : List Int} (hn : ds.length = n) (hr : Rd w w.heap.size A (ds.map (Value.int .i64))) (hx : n ≤ 1048576) (va nu de : Int) :
    Calls Try.prog 53 #[.agg #[.slice (some ⟨g1, 0, none⟩) n1 c1, .slice (some ⟨g2, 0, none⟩) n2 c2], .agg #[.int .i64 u, .slice A n c], .int .i64 va, .int .i64 nu, .int .i64 de] w (RetP (mtR ss fs u ds va nu de) w) := by
  have HNT := Lib.hid h; have HN := Lib.hid hn; have HR := Lib.hid hr
  clear h hn hr
  obtain ⟨R, hR⟩ : ∃ r, mtR ss fs u ds va nu de = r := ⟨_, rfl⟩
  have HNO : Hid (¬ mtP ss fs u ds va nu de → (.tuple #[.bool false, .bool false] : Value) = R) := Lib.hid (fun e => by rw [← hR]; exact mt_no e)
  have HYES : Hid (∀ b : Bool, mtP ss fs u ds va nu de → (b = true ↔ nu * u ^ ds.length ≤ va * de) → (.tuple #[.bool b, .bool true] : Value) = R) := Lib.hid (fun b e hb => by rw [← hR]; exact mt_yes e hb)
  rw [hR]
  clear hR
  go_enter Try.func53, Try.ntmps53
  go_wp2_with fail
  obtain ⟨W0, hW0⟩ : ∃ W0, (w.alloc (Obj.cells #[.slice (some ⟨g1, 0, none⟩) n1 c1, .slice (some ⟨g2, 0, none⟩) n2 c2] 32)).alloc (Obj.cells #[.int .i64 u, .slice A n c] 58) = W0 := ⟨_, rfl⟩
  have hb0 : Below w.heap.size w W0 := by rw [← hW0]; exact ((Below.refl _ _).alloc (Nat.le_refl _) _).alloc (by simp) _
  have k0 : W0.cell? ⟨w.heap.size, 0, none⟩ = some (.slice (some ⟨g1, 0, none⟩) n1 c1) := by rw [← hW0]; simp [go_sem]
  have k1 : W0.cell? ⟨w.heap.size, 1, none⟩ = some (.slice (some ⟨g2, 0, none⟩) n2 c2) := by rw [← hW0]; simp [go_sem]
  have k2 : W0.cell? ⟨w.heap.size + 1, 0, none⟩ = some (.int .i64 u) := by rw [← hW0]; simp [go_sem]
  have k3 : W0.cell? ⟨w.heap.size + 1, 1, none⟩ = some (.slice A n c) := by rw [← hW0]; simp [go_sem]
  have hz0 : w.heap.size + 1 < W0.heap.size := by rw [← hW0]; simp
  have HB0 := Lib.hid hb0; have HK0 := Lib.hid k0; have HK1 := Lib.hid k1; have HK2 := Lib.hid k2; have HK3 := Lib.hid k3; have HZ0 := Lib.hid hz0
  rw [hW0]
  clear hW0 hb0 k0 k1 k2 k3 hz0
  have CV := Lib.hid (l16Good_ (c := c) (HNT.out.moved HB0.out) u HN.out (HR.out.moved HB0.out) hx)
  obtain ⟨v, hv⟩ : ∃ v, ouB ss fs u ds = v := ⟨_, rfl⟩
  rw [hv] at CV
  have HVB := Lib.hid hv
  clear hv
  refine CV.out.mono ?_
  rintro e w1 ⟨rfl, hb1⟩
  have HB1 := Lib.hid (HB0.out.trans (hb1.mono HB0.out.size))
  have k0 := (hb1.cell (p := ⟨w.heap.size, 0, none⟩) (by show w.heap.size < _; have := HZ0.out; omega)).trans HK0.out
  have k1 := (hb1.cell (p := ⟨w.heap.size, 1, none⟩) (by show w.heap.size < _; have := HZ0.out; omega)).trans HK1.out
  have k2 := (hb1.cell (p := ⟨w.heap.size + 1, 0, none⟩) (by show w.heap.size + 1 < _; have := HZ0.out; omega)).trans HK2.out
  have k3 := (hb1.cell (p := ⟨w.heap.size + 1, 1, none⟩) (by show w.heap.size + 1 < _; have := HZ0.out; omega)).trans HK3.out
  have hg1 : w.heap.size + 1 < w1.heap.size := by have := HZ0.out; have := hb1.size; omega
  clear hb1 k0 k1
  cases v
  case false =>
    have HE := Lib.hid (HNO.out (fun hp => by have h1 := HVB.out; unfold ouB at h1; rw [pb_true hp.1] at h1; cases h1))
    clear k2 k3 hg1
    go_wp2
    go_ret2
    exact ⟨ret_tupC HE.out, HB1.out⟩
  case true =>
  have HOU : Hid (ouP ss fs u ds) := Lib.hid (of_pb HVB.out)
  have hn14 : n ≤ 14 := by have h1 := HOU.out; have := rgp_len fs; have := h1.1.2.1; have := h1.2.2.1; have := HN.out; omega
  obtain ⟨hu2, hu20⟩ := HOU.out.2.1
  by_cases hd : 1 ≤ de ∧ de ≤ 1000
  case neg =>
    have HE := Lib.hid (HNO.out (fun hp => hd hp.2.1))
    have CI9 := Lib.hid (in_noR de 1 1000 w1 (by omega))
    clear k2 k3 hg1 hd
    go_wp2_with fail
    refine CI9.out.mono ?_
    rintro _ _ ⟨rfl, rfl⟩
    go_wp2
    go_ret2
    exact ⟨ret_tupC HE.out, HB1.out⟩
  case pos =>
  go_wp2_with fail
  refine (in_yesR de 1 1000 w1 hd.1 hd.2).mono ?_
  rintro _ _ ⟨rfl, rfl⟩
  by_cases hu : 0 ≤ nu ∧ nu ≤ de
  case neg =>
    have HE := Lib.hid (HNO.out (fun hp => hu hp.2.2.1))
    have CI9 := Lib.hid (in_noR nu 0 de w1 (by omega))
    clear k2 k3 hg1 hu
    go_wp2_with fail
    refine CI9.out.mono ?_
    rintro _ _ ⟨rfl, rfl⟩
    go_wp2
    go_ret2
    exact ⟨ret_tupC HE.out, HB1.out⟩
  case pos =>
  go_wp2_with fail
  refine (in_yesR nu 0 de w1 hu.1 hu.2).mono ?_
  rintro _ _ ⟨rfl, rfl⟩
  have HPW : Hid (∀ k, k ≤ n → 1 ≤ u ^ k ∧ u ^ k ≤ 1638400000000000000) := Lib.hid (fun k hk => pow_lt hu2 hu20 (by omega))
  go_wp2
  go_loop [12, 13] (fun l i => ∃ (k : Nat) (m : Int), k ≤ n ∧ i = .int .i64 k ∧ l = .int .i64 m ∧ Hid (u ^ k = m)) (fun _ i => n - (intOf i).toNat)
  case atStart => exact ⟨0, 1, Nat.zero_le _, rfl, rfl, Lib.hid (by simp)⟩
  case round =>
    obtain ⟨k, m, hk, rfl, rfl, HM⟩ := hrel
    by_cases hlt : k < n
    case pos =>
      obtain ⟨hm0, hm1⟩ := HPW.out k (by omega)
      rw [HM.out] at hm0 hm1
      obtain ⟨p, hp⟩ : ∃ p, u ^ (k + 1) = p := ⟨_, rfl⟩
      obtain ⟨hp0, hp1⟩ := HPW.out (k + 1) (by omega)
      rw [hp] at hp0 hp1
      have hmul := pow_wrap HM.out hp hp0 hp1
      have HP := Lib.hid hp
      clear hp
      go_wp2
      go_round
      case rel => exact ⟨k + 1, p, by omega, by go_num, rfl, HP⟩
      case measure => simp [intOf]; omega
    case neg =>
    obtain rfl : k = n := by omega
    obtain ⟨hm0, hm1⟩ := HPW.out k (by omega)
    rw [HM.out] at hm0 hm1
    clear hlt
    have HNK := Lib.hid hn14
    by_cases hv : 0 ≤ va ∧ va ≤ m
    case neg =>
      have HE := Lib.hid (HNO.out (fun hp => hv (by have h1 := hp.2.2.2; rw [HN.out, HM.out] at h1; exact h1)))
      have CI9 := Lib.hid (in_noR va 0 m w1 (by omega))
      clear hv
      go_wp2_with fail
      refine CI9.out.mono ?_
      rintro _ _ ⟨rfl, rfl⟩
      go_wp2
      go_ret2
      exact ⟨ret_tupC HE.out, HB1.out⟩
    case pos =>
    go_wp2_with fail
    refine (in_yesR va 0 m w1 hv.1 hv.2).mono ?_
    rintro _ _ ⟨rfl, rfl⟩
    have HMT : Hid (mtP ss fs u ds va nu de) := Lib.hid ⟨HOU.out, hd, hu, ⟨hv.1, by rw [HN.out, HM.out]; exact hv.2⟩⟩
    have HFIN : Hid (∀ b : Bool, (b = true ↔ nu ≤ va / m * de + va % m * de / m) → (.tuple #[.bool b, .bool true] : Value) = R) := Lib.hid (fun b hb => HYES.out b HMT.out (by rw [HN.out, HM.out, ← meets_iff hm0]; exact hb))
    obtain ⟨hv0, hv1⟩ := hv
    obtain ⟨hd0, hd1⟩ := hd
    obtain ⟨hu0, hu1⟩ := hu
    have hq : va / m = 0 ∨ va / m = 1 := by
      have h1 := Int.ediv_nonneg hv0 (by omega : 0 ≤ m)
      have h2 : va / m ≤ 1 := Int.ediv_le_of_le_mul (by omega) (by omega)
      omega
    have hr0 := Int.emod_nonneg va (by omega : m ≠ 0)
    have hr1 := Int.emod_lt_of_pos va (by omega : 0 < m)
    have e1 : va.tdiv m = va / m := Int.tdiv_eq_ediv_of_nonneg hv0
    have e2 : va.tmod m = va % m := Int.tmod_eq_emod_of_nonneg hv0
    have CP := Lib.hid (fun W : World => l16Part_ (va % m) de m W hr0 hr1 (by omega) hd1 hm1)
    have hp0 : 0 ≤ va % m * de / m := Int.ediv_nonneg (Int.mul_nonneg hr0 (by omega)) (by omega)
    have hp1 : va % m * de / m ≤ 1000 := by
      refine Int.ediv_le_of_le_mul (by omega) ?_
      have : va % m * de ≤ m * 1000 := Int.mul_le_mul (by omega) hd1 (by omega) (by omega)
      rw [Int.mul_comm 1000 m]; exact this
    have hz0 : 0 ≤ va / m * de ∧ va / m * de ≤ 1000 := by rcases hq with h | h <;> rw [h] <;> omega
    obtain ⟨pt, hpt⟩ : ∃ p, va % m * de / m = p := ⟨_, rfl⟩
    rw [hpt] at CP hp0 hp1 HFIN
    obtain ⟨rr, hrr⟩ : ∃ p, va % m = p := ⟨_, rfl⟩
    rw [hrr] at CP e2 hr0 hr1
    obtain ⟨z, hz⟩ : ∃ p, va / m * de = p := ⟨_, rfl⟩
    rw [hz] at hz0 HFIN
    obtain ⟨qq, hqq⟩ : ∃ p, va / m = p := ⟨_, rfl⟩
    rw [hqq] at e1 hz hq
    have e3 : IntKind.i64.wrap (qq * de) = z := by rw [hz]; exact IntWalk.i64_in _ (by omega)
    obtain ⟨hz0, hz1⟩ := hz0
    have hq0 : 0 ≤ qq := by omega
    have hq1 : qq ≤ 1 := by omega
    clear hpt hrr hqq hz HYES HNO k2 k3 hg1 hq
    have HE := Lib.hid (HFIN.out (decide (nu ≤ z + pt)) ⟨of_decide_eq_true, decide_eq_true⟩)
    go_wp2_with fail
    go_quiet ((go_at_call 141; with_reducible exact Calls.quiet_of_same (CP.out _)))
    go_wp2
    go_ret2
    exact ⟨ret_tupC HE.out, drewN_below_ HB1.out _⟩
end Go.Proofs.Ytcbjdfgmkiodkaa
