/- Contract: spec.CostOf. No condition but those typed. -/
import Derived.Test.YteihdnjdpiejmaaBillI
import Derived.Test.YteihdnjdpiejmaaInts
namespace Go.Proofs.Yteihdnjdpiejmaa
open Go.ChangeShapes Go.WideShapes Go.ChangeAt Go.RowKit

def costN (qs : List Q3) (ps : List Int) : Nat → Int
  | 0 => 0
  | k + 1 => costN qs ps k + (qs.getD k z3).c * ps.getD ((qs.getD k z3).a - 1).toNat 0
def priP (ps : List Int) : Prop := ∀ j, j < 4 → 0 ≤ ps.getD j 0 ∧ ps.getD j 0 ≤ 100000
def cosP (qs : List Q3) (ps : List Int) : Prop := bilP qs ∧ ps.length = 4 ∧ priP ps
open Classical in
noncomputable def cosI (qs : List Q3) (ps : List Int) : Int := if cosP qs ps then costN qs ps qs.length else 0
noncomputable def cosR (qs : List Q3) (ps : List Int) : Value := .tuple #[.int .i64 (cosI qs ps), .bool (pq (cosP qs ps))]
theorem cos_no {qs : List Q3} {ps : List Int} (h : ¬ cosP qs ps) : (.tuple #[.int .i64 0, .bool false] : Value) = cosR qs ps := by
  unfold cosR cosI; rw [if_neg h, pq_false h]
theorem cos_yes {qs : List Q3} {ps : List Int} (h : cosP qs ps) : (.tuple #[.int .i64 (costN qs ps qs.length), .bool true] : Value) = cosR qs ps := by
  unfold cosR cosI; rw [if_pos h, pq_true h]
theorem mul_bd {c p : Int} (h0 : 0 ≤ c) (h1 : c ≤ 1000) (h2 : 0 ≤ p) (h3 : p ≤ 100000) : 0 ≤ c * p ∧ c * p ≤ 100000000 :=
  ⟨Int.mul_nonneg h0 h2, by have := Int.mul_le_mul h1 h3 h2 (by omega : (0 : Int) ≤ 1000); omega⟩
theorem cost_bd {qs : List Q3} {ps : List Int} (hb : bilP qs) (hp : priP ps) : ∀ k, k ≤ qs.length → 0 ≤ costN qs ps k ∧ costN qs ps k ≤ 100000000 * (k : Int)
  | 0, _ => ⟨Int.le_refl _, by simp [costN]⟩
  | k + 1, h => by
    have ih := cost_bd hb hp k (by omega)
    have h1 := (itB_iff _).1 (hb.2 k (by omega)).1
    have h2 := hp ((qs.getD k z3).a - 1).toNat (by omega)
    have h3 := mul_bd (by omega) h1.2.2.2 h2.1 h2.2
    unfold costN
    omega
theorem getI_at {ps : List Int} {k : Nat} {p : Int} (h : k < ps.length) (e : ps[k]'h = p) : ps.getD k 0 = p := by
  rw [List.getD_eq_getElem?_getD, List.getElem?_eq_getElem h, e]; rfl

set_option maxRecDepth 100000 in
set_option maxHeartbeats 4000000 in
theorem specCost (g n c : Nat) (qs : List Q3) (g2 n2 c2 : Nat) (ps : List Int) (w : World) (hn : qs.length = n) (hs : n ≤ 1048576) (hr : Rd w w.heap.size (some ⟨g, 0, none⟩) (qs.flatMap Q3.cells))
    (hn2 : ps.length = n2) (hs2 : n2 ≤ 1048576) (hr2 : Rd w w.heap.size (some ⟨g2, 0, none⟩) (ps.map (Value.int .i64))) :
    Calls Try.prog 21 #[.slice (some ⟨g, 0, none⟩) n c, .slice (some ⟨g2, 0, none⟩) n2 c2] w (RetV (cosR qs ps) w) := by
  have HN := Lib.hid hn; have HN2 := Lib.hid hn2; clear hn hn2
  have CB := Lib.hid (specBill g n c qs w HN.out hs hr)
  have HNO := Lib.hid (fun h => cos_no (qs := qs) (ps := ps) h)
  have HYES := Lib.hid (fun h => cos_yes (qs := qs) (ps := ps) h)
  obtain ⟨R, hR⟩ : ∃ R, cosR qs ps = R := ⟨_, rfl⟩
  rw [hR] at HNO HYES ⊢
  clear hR
  by_cases hb : bilP qs
  case neg =>
    have HQ := Lib.hid (HNO.out fun h => hb h.1)
    rw [pq_false hb] at CB
    clear hb HNO HYES
    go_enter Try.func21, Try.ntmps21
    go_wp2_with fail
    refine CB.out.mono ?_
    rintro e w1 ⟨rfl, hbw⟩
    go_wp2
    exact bodyPost_ret (v := .tuple #[.int .i64 0, .bool false]) (by simp [results, Try.results21, go_sem]) rfl (retV HQ.out hbw)
  case pos =>
  rw [pq_true hb] at CB
  by_cases h4 : n2 = 4
  case neg =>
    have HQ := Lib.hid (HNO.out fun h => h4 (by have := h.2.1; have := HN2.out; omega))
    have q4 : ((n2 : Int) != 4) = true := by simp; omega
    clear hb h4 HNO HYES
    go_enter Try.func21, Try.ntmps21
    go_wp2_with fail
    refine CB.out.mono ?_
    rintro e w1 ⟨rfl, hbw⟩
    go_wp2
    exact bodyPost_ret (v := .tuple #[.int .i64 0, .bool false]) (by simp [results, Try.results21, go_sem]) rfl (retV HQ.out hbw)
  case pos =>
  subst h4
  have HBP := Lib.hid hb; clear hb
  go_enter Try.func21, Try.ntmps21
  go_wp2_with fail
  refine CB.out.mono ?_
  rintro e w1 ⟨rfl, hbw⟩
  have HBW := Lib.hid hbw
  clear hbw
  go_wp2
  go_loopw [6] (fun i wr => ∃ k : Nat, k ≤ 4 ∧ i = .int .i64 k ∧ Hid (∀ j, j < k → 0 ≤ ps.getD j 0 ∧ ps.getD j 0 ≤ 100000) ∧ Below w.heap.size w wr) (fun i _ => 4 - (intOf i).toNat)
  case atStart => exact ⟨0, Nat.zero_le _, rfl, Lib.hid (fun j h => absurd h (by omega)), HBW.out⟩
  case round =>
    obtain ⟨k, hk, rfl, HA, hb⟩ := hrel
    by_cases hlt : k < 4
    case pos =>
      have hks : k < ps.length := by have := HN2.out; omega
      obtain ⟨_, f0⟩ := (hr2.over hb).intc hks
      rw [Nat.zero_add] at f0
      obtain ⟨p, hp⟩ : ∃ p, ps[k]'hks = p := ⟨_, rfl⟩
      rw [hp] at f0
      have HG := Lib.hid (getI_at hks hp)
      clear hp
      have C1 := Lib.hid (fun W => in_ p 0 100000 W)
      have hk4 : (k : Int) < 4 := by omega
      cases hin : inB p 0 100000
      case false =>
        have HQ := Lib.hid (HNO.out fun h => by have h2 := h.2.2 k hlt; rw [HG.out] at h2; rw [inB_mk h2.1 h2.2] at hin; exact absurd hin (by decide))
        rw [hin] at C1
        clear hin HNO HYES
        go_wp2_with fail
        refine (C1.out _).mono ?_
        rintro e w' ⟨rfl, rfl⟩
        go_wp2
        exact bodyPost_ret (v := .tuple #[.int .i64 0, .bool false]) (by simp [results, Try.results21, go_sem]) rfl (retV HQ.out hb)
      case true =>
        have HS : Hid (∀ j, j < k + 1 → 0 ≤ ps.getD j 0 ∧ ps.getD j 0 ≤ 100000) := Lib.hid fun j hj => by
          by_cases hjk : j < k
          · exact HA.out j hjk
          · obtain rfl : j = k := by omega
            rw [HG.out]; exact inB_true hin
        rw [hin] at C1
        clear hin
        go_wp2_with fail
        refine (C1.out _).mono ?_
        rintro e w' ⟨rfl, rfl⟩
        go_wp2
        go_roundw
        case rel => exact ⟨k + 1, by omega, by go_num, HS, hb⟩
        case measure => simp [intOf]; omega
    case neg =>
      obtain rfl : k = 4 := by omega
      clear hlt hk
      have HP : Hid (priP ps) := Lib.hid HA.out
      have HQ := Lib.hid (HYES.out ⟨HBP.out, HN2.out, HP.out⟩)
      have HBD := Lib.hid (cost_bd HBP.out HP.out)
      have HBB := Lib.hid hb
      clear HA HNO HYES hb
      go_wp2
      go_loopw [7, 8] (fun v i wr => ∃ (k : Nat) (y : Int), k ≤ n ∧ i = .int .i64 k ∧ v = .int .i64 y ∧ Hid (y = costN qs ps k) ∧ Below w.heap.size w wr) (fun _ i _ => n - (intOf i).toNat)
      case atStart => exact ⟨0, 0, Nat.zero_le _, rfl, rfl, Lib.hid rfl, HBB.out⟩
      case round =>
        obtain ⟨k, y, hk, rfl, rfl, HY, hb⟩ := hrel
        have hn32 : n ≤ 32 := by have := HBP.out.1; have := HN.out; omega
        have hbd := HBD.out k (by have := HN.out; omega)
        rw [← HY.out] at hbd
        obtain ⟨hy0, hy1⟩ := hbd
        have hy2 : y ≤ 3200000000 := by omega
        clear hy1
        by_cases hlt : k < n
        case neg =>
          have hkn : ¬ (k : Int) < n := by omega
          have HE : Hid (y = costN qs ps qs.length) := Lib.hid (by rw [HY.out]; congr 1; have := HN.out; omega)
          clear hlt
          go_wp2
          exact bodyPost_ret (v := .tuple #[.int .i64 y, .bool true]) (by simp [results, Try.results21, go_sem]) rfl (retV (by rw [HE.out]; exact HQ.out) hb)
        case pos =>
          have hks : k < qs.length := by have := HN.out; omega
          have hrc := (hr.over hb).q3c hks
          rw [Nat.zero_add] at hrc
          have hit := (itB_iff _).1 (HBP.out.2 k hks).1
          have HST : Hid (costN qs ps (k + 1) = costN qs ps k + (qs.getD k z3).c * ps.getD ((qs.getD k z3).a - 1).toNat 0) := Lib.hid rfl
          obtain ⟨⟨a, b, c3⟩, hq⟩ : ∃ q, qs[k]'hks = q := ⟨_, rfl⟩
          rw [hq] at hrc
          rw [getD_at hks hq] at hit HST
          obtain ⟨hg, f0, f1, f2⟩ := hrc
          simp only at f0 f1 f2 hit HST
          obtain ⟨⟨i1, i2⟩, _, i3, i4⟩ := hit
          obtain ⟨j, hj⟩ : ∃ j, (a - 1).toNat = j := ⟨_, rfl⟩
          have hj4 : j < 4 := by omega
          have haj : a = (j : Int) + 1 := by omega
          subst haj
          have hwj : IntKind.i64.wrap ((j : Int) + 1 - 1) = (j : Int) := by rw [IntWalk.i64_in _ (by omega)]; omega
          have hjs : j < ps.length := by have := HN2.out; omega
          obtain ⟨_, f3⟩ := (hr2.over hb).intc hjs
          rw [Nat.zero_add] at f3
          rw [hj] at HST
          have hpr := HP.out j hj4
          obtain ⟨p, hp⟩ : ∃ p, ps[j]'hjs = p := ⟨_, rfl⟩
          rw [hp] at f3
          rw [getI_at hjs hp] at HST hpr
          have hm := mul_bd (by omega : 0 ≤ c3) i4 hpr.1 hpr.2
          obtain ⟨z, hz⟩ : ∃ z, c3 * p = z := ⟨_, rfl⟩
          rw [hz] at hm HST
          obtain ⟨hm0, hm1⟩ := hm
          have hj4' : (j : Int) < 4 := by omega
          have HN1 : Hid (y + z = costN qs ps (k + 1)) := Lib.hid (by rw [HST.out, HY.out])
          clear hq hp hj hpr i1 i2 i3 i4 hj4 HST
          go_wp2
          go_quiet (fail)
          go_wp2
          go_roundw
          case rel => exact ⟨k + 1, y + z, by omega, by go_num, by go_num, HN1, drewN_below hb _⟩
          case measure => simp [intOf]; omega
end Go.Proofs.Yteihdnjdpiejmaa
