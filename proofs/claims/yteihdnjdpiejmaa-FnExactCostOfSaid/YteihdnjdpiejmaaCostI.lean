/- Contract: impl.CostOf answers as spec.CostOf. No condition but those typed. -/
import Derived.Test.YteihdnjdpiejmaaCost
namespace Go.Proofs.Yteihdnjdpiejmaa
open Go.ChangeShapes Go.WideShapes Go.ChangeAt Go.RowKit

set_option maxHeartbeats 1000000 in
theorem clos_ (j : Nat) (b c3 p z : Int) (Bp g2 c2 : Nat) (w : World) (hj : j < 4) (hB : w.cell? ⟨Bp, 0, none⟩ = some (.slice (some ⟨g2, 0, none⟩) 4 c2)) (hBs : Bp < w.heap.size) (hg : g2 < w.heap.size) (hp : w.cell? ⟨g2, j, none⟩ = some (.int .i64 p))
    (hz : c3 * p = z) (h0 : 0 ≤ z) (h1 : z ≤ 100000000) : Calls Try.prog 85 #[.agg #[.int .i64 ((j : Int) + 1), .int .i64 b, .int .i64 c3], .pointer (some ⟨Bp, 0, none⟩)] w (RetV (.int .i64 z) w) := by
  have hwj : IntKind.i64.wrap ((j : Int) + 1 - 1) = (j : Int) := by rw [IntWalk.i64_in _ (by omega)]; omega
  have hj4' : (j : Int) < 4 := by omega
  have HB := Lib.hid ((Below.refl w.heap.size w).alloc (Nat.le_refl _) (Obj.cells #[.int .i64 ((j : Int) + 1), .int .i64 b, .int .i64 c3] 111))
  clear hj
  go_enter Try.func85, Try.ntmps85
  go_wp2
  go_quiet (fail)
  go_wp2
  go_ret
  exact ⟨rfl, drewN_below HB.out _⟩

set_option maxRecDepth 100000 in
set_option maxHeartbeats 4000000 in
theorem sum_ (g n c : Nat) (qs : List Q3) (Bp g2 c2 : Nat) (ps : List Int) (w : World) (hn : qs.length = n) (hr : Rd w w.heap.size (some ⟨g, 0, none⟩) (qs.flatMap Q3.cells))
    (hn2 : ps.length = 4) (hr2 : Rd w w.heap.size (some ⟨g2, 0, none⟩) (ps.map (Value.int .i64))) (hB : w.cell? ⟨Bp, 0, none⟩ = some (.slice (some ⟨g2, 0, none⟩) 4 c2)) (hBs : Bp < w.heap.size) (hbp : bilP qs) (hpp : priP ps) :
    Calls Try.prog 84 #[.slice (some ⟨g, 0, none⟩) n c, .func (.func 85) #[] #[.pointer (some ⟨Bp, 0, none⟩)]] w (RetV (.int .i64 (costN qs ps qs.length)) w) := by
  have HN := Lib.hid hn; have HN2 := Lib.hid hn2; have HBP := Lib.hid hbp; have HP := Lib.hid hpp; have HCB := Lib.hid hB
  have HBD := Lib.hid (cost_bd hbp hpp)
  clear hn hn2 hbp hpp hB
  go_enter Try.func84, Try.ntmps84
  go_wp2
  go_loopw [5, 10] (fun v i wr => ∃ (k : Nat) (y : Int), k ≤ n ∧ i = .int .i64 k ∧ v = .int .i64 y ∧ Hid (y = costN qs ps k) ∧ Below w.heap.size w wr) (fun _ i _ => n - (intOf i).toNat)
  case atStart => exact ⟨0, 0, Nat.zero_le _, rfl, rfl, Lib.hid rfl, Below.refl _ _⟩
  case round =>
    obtain ⟨k, y, hk, rfl, rfl, HY, hb⟩ := hrel
    have hn32 : n ≤ 32 := by have := HBP.out.1; have := HN.out; omega
    have hbd := HBD.out k (by have := HN.out; omega)
    rw [← HY.out] at hbd
    obtain ⟨hy0, hy1⟩ := hbd
    have hy2 : y ≤ 3200000000 := by omega
    clear hy1
    by_cases hlt : k < n
    case neg =>
      have hkn : ¬ (k : Int) < n := by omega
      have HE : Hid (y = costN qs ps qs.length) := Lib.hid (by rw [HY.out]; congr 1; have := HN.out; omega)
      clear hlt
      go_wp2
      go_ret
      exact retV (by rw [HE.out]; rfl) hb
    case pos =>
      have hks : k < qs.length := by have := HN.out; omega
      have hrc := (hr.over hb).q3c hks
      rw [Nat.zero_add] at hrc
      have hit := (itB_iff _).1 (HBP.out.2 k hks).1
      have HST : Hid (costN qs ps (k + 1) = costN qs ps k + (qs.getD k z3).c * ps.getD ((qs.getD k z3).a - 1).toNat 0) := Lib.hid rfl
      obtain ⟨⟨a, b, c3⟩, hq⟩ : ∃ q, qs[k]'hks = q := ⟨_, rfl⟩
      rw [hq] at hrc
      rw [getD_at hks hq] at hit HST
      obtain ⟨hg, f0, f1, f2⟩ := hrc
      simp only at f0 f1 f2 hit HST
      obtain ⟨⟨i1, i2⟩, _, i3, i4⟩ := hit
      obtain ⟨j, hj⟩ : ∃ j, (a - 1).toNat = j := ⟨_, rfl⟩
      have hj4 : j < 4 := by omega
      have haj : a = (j : Int) + 1 := by omega
      subst haj
      have hjs : j < ps.length := by have := HN2.out; omega
      obtain ⟨hg2, f3⟩ := (hr2.over hb).intc hjs
      rw [Nat.zero_add] at f3
      rw [hj] at HST
      have hpr := HP.out j hj4
      obtain ⟨p, hp⟩ : ∃ p, ps[j]'hjs = p := ⟨_, rfl⟩
      rw [hp] at f3
      rw [getI_at hjs hp] at HST hpr
      have hm := mul_bd (by omega : 0 ≤ c3) i4 hpr.1 hpr.2
      obtain ⟨z, hz⟩ : ∃ z, c3 * p = z := ⟨_, rfl⟩
      rw [hz] at hm HST
      obtain ⟨hm0, hm1⟩ := hm
      have hzw : w.heap.size ≤ wr.heap.size := hb.size
      have CC : Hid (∀ W, Below wr.heap.size wr W → Calls Try.prog 85 #[.agg #[.int .i64 ((j : Int) + 1), .int .i64 b, .int .i64 c3], .pointer (some ⟨Bp, 0, none⟩)] W (RetV (.int .i64 z) W)) := Lib.hid fun W hW =>
        clos_ j b c3 p z Bp g2 c2 W hj4 ((hW.cell (p := ⟨_, _, none⟩) (by show Bp < _; omega)).trans ((hb.cell (p := ⟨_, _, none⟩) hBs).trans HCB.out)) (by have := hW.size; omega) (by have := hW.size; omega)
          ((hW.cell (p := ⟨_, _, none⟩) (by show g2 < _; omega)).trans f3) hz hm0 hm1
      have HN1 : Hid (y + z = costN qs ps (k + 1)) := Lib.hid (by rw [HST.out, HY.out])
      clear hq hp hj hpr i1 i2 i3 i4 hj4 HST f3 hz
      go_wp2_with fail
      have HB1 := Lib.hid ((Below.refl wr.heap.size wr).alloc (Nat.le_refl _) (Obj.cells #[.int .i64 ((j : Int) + 1), .int .i64 b, .int .i64 c3] 111))
      go_at_call 85
      refine (CC.out _ HB1.out).mono ?_
      rintro e w2 ⟨rfl, hb2⟩
      have HB2 := Lib.hid (hb.trans ((HB1.out.trans (hb2.mono HB1.out.size)).mono hb.size))
      clear hb2
      go_wp2
      go_roundw
      case rel => exact ⟨k + 1, y + z, by omega, by go_num, by go_num, HN1, HB2.out⟩
      case measure => simp [intOf]; omega

set_option maxRecDepth 100000 in
set_option maxHeartbeats 4000000 in
theorem implCost (g n c : Nat) (qs : List Q3) (g2 n2 c2 : Nat) (ps : List Int) (w : World) (hn : qs.length = n) (hs : n ≤ 1048576) (hr : Rd w w.heap.size (some ⟨g, 0, none⟩) (qs.flatMap Q3.cells))
    (hn2 : ps.length = n2) (hs2 : n2 ≤ 1048576) (hr2 : Rd w w.heap.size (some ⟨g2, 0, none⟩) (ps.map (Value.int .i64))) :
    Calls Try.prog 24 #[.slice (some ⟨g, 0, none⟩) n c, .slice (some ⟨g2, 0, none⟩) n2 c2] w (RetV (cosR qs ps) w) := by
  have HN := Lib.hid hn; have HN2 := Lib.hid hn2; clear hn hn2
  have HB0 := Lib.hid ((Below.refl w.heap.size w).alloc (Nat.le_refl _) (Obj.cells #[.slice (some ⟨g2, 0, none⟩) n2 c2] 30))
  obtain ⟨W0, hW0⟩ : ∃ W0, (w.alloc (Obj.cells #[.slice (some ⟨g2, 0, none⟩) n2 c2] 30)) = W0 := ⟨_, rfl⟩
  have hk0 : W0.cell? ⟨w.heap.size, 0, none⟩ = some (.slice (some ⟨g2, 0, none⟩) n2 c2) := by rw [← hW0]; simp [go_sem]
  have hz0 : w.heap.size < W0.heap.size := by rw [← hW0]; simp
  rw [hW0] at HB0
  have HK0 := Lib.hid hk0; clear hk0
  have HR := Lib.hid (hr.moved HB0.out); have HR2 := Lib.hid (hr2.moved HB0.out)
  clear hr hr2
  have CB := Lib.hid (implBill g n c qs W0 HN.out hs HR.out)
  have HNO := Lib.hid (fun h => cos_no (qs := qs) (ps := ps) h)
  have HYES := Lib.hid (fun h => cos_yes (qs := qs) (ps := ps) h)
  obtain ⟨R, hR⟩ : ∃ R, cosR qs ps = R := ⟨_, rfl⟩
  rw [hR] at HNO HYES ⊢
  clear hR
  have HW0 := Lib.hid hW0
  clear hW0
  by_cases hb : bilP qs
  case neg =>
    have HQ := Lib.hid (HNO.out fun h => hb h.1)
    rw [pq_false hb] at CB
    clear hb HNO HYES
    go_enter Try.func24, Try.ntmps24
    go_wp2_with fail
    rw [HW0.out]
    refine CB.out.mono ?_
    rintro e w1 ⟨rfl, hbw⟩
    have hk0 := (hbw.cell (p := ⟨w.heap.size, 0, none⟩) hz0).trans HK0.out
    go_wp2
    exact bodyPost_ret (v := .tuple #[.int .i64 0, .bool false]) (by simp [results, Try.results24, go_sem]) rfl (retV HQ.out (HB0.out.trans (hbw.mono HB0.out.size)))
  case pos =>
  rw [pq_true hb] at CB
  by_cases h4 : n2 = 4
  case neg =>
    have HQ := Lib.hid (HNO.out fun h => h4 (by have := h.2.1; have := HN2.out; omega))
    have q4 : ((n2 : Int) != 4) = true := by simp; omega
    clear hb h4 HNO HYES
    go_enter Try.func24, Try.ntmps24
    go_wp2_with fail
    rw [HW0.out]
    refine CB.out.mono ?_
    rintro e w1 ⟨rfl, hbw⟩
    have hk0 := (hbw.cell (p := ⟨w.heap.size, 0, none⟩) hz0).trans HK0.out
    go_wp2
    exact bodyPost_ret (v := .tuple #[.int .i64 0, .bool false]) (by simp [results, Try.results24, go_sem]) rfl (retV HQ.out (HB0.out.trans (hbw.mono HB0.out.size)))
  case pos =>
  subst h4
  have HBP := Lib.hid hb; clear hb
  go_enter Try.func24, Try.ntmps24
  go_wp2_with fail
  rw [HW0.out]
  refine CB.out.mono ?_
  rintro e w1 ⟨rfl, hbw⟩
  have hk0 := (hbw.cell (p := ⟨w.heap.size, 0, none⟩) hz0).trans HK0.out
  have HBW := Lib.hid hbw
  clear hbw
  go_wp2
  clear hk0
  go_loopw [18] (fun i wr => ∃ k : Nat, k ≤ 4 ∧ i = .int .i64 k ∧ Hid (∀ j, j < k → 0 ≤ ps.getD j 0 ∧ ps.getD j 0 ≤ 100000) ∧ Below W0.heap.size W0 wr) (fun i _ => 4 - (intOf i).toNat)
  case atStart => exact ⟨0, Nat.zero_le _, rfl, Lib.hid (fun j h => absurd h (by omega)), HBW.out⟩
  case round =>
    obtain ⟨k, hk, rfl, HA, hb⟩ := hrel
    by_cases hlt : k < 4
    case pos =>
      have hks : k < ps.length := by have := HN2.out; omega
      obtain ⟨_, f0⟩ := (HR2.out.over hb).intc hks
      rw [Nat.zero_add] at f0
      obtain ⟨p, hp⟩ : ∃ p, ps[k]'hks = p := ⟨_, rfl⟩
      rw [hp] at f0
      have HG := Lib.hid (getI_at hks hp)
      clear hp
      have hk4 : (k : Int) < 4 := by omega
      have HBN := Lib.hid (HB0.out.trans (hb.mono HB0.out.size))
      by_cases p0 : p < 0
      case pos =>
        have HQ := Lib.hid (HNO.out fun h => by have h2 := h.2.2 k hlt; rw [HG.out] at h2; omega)
        clear HNO HYES
        go_wp2
        exact bodyPost_ret (v := .tuple #[.int .i64 0, .bool false]) (by simp [results, Try.results24, go_sem]) rfl (retV HQ.out HBN.out)
      case neg =>
      have p0' : decide (p < 0) = false := decide_eq_false p0
      by_cases p1 : 100000 < p
      case pos =>
        have HQ := Lib.hid (HNO.out fun h => by have h2 := h.2.2 k hlt; rw [HG.out] at h2; omega)
        clear HNO HYES p0
        go_wp2
        exact bodyPost_ret (v := .tuple #[.int .i64 0, .bool false]) (by simp [results, Try.results24, go_sem]) rfl (retV HQ.out HBN.out)
      case neg =>
        have p1' : decide (100000 < p) = false := decide_eq_false p1
        have HS : Hid (∀ j, j < k + 1 → 0 ≤ ps.getD j 0 ∧ ps.getD j 0 ≤ 100000) := Lib.hid fun j hj => by
          by_cases hjk : j < k
          · exact HA.out j hjk
          · obtain rfl : j = k := by omega
            rw [HG.out]; omega
        clear p0 p1
        go_wp2
        go_roundw
        case rel => exact ⟨k + 1, by omega, by go_num, HS, hb⟩
        case measure => simp [intOf]; omega
    case neg =>
      obtain rfl : k = 4 := by omega
      clear hlt hk
      have HP : Hid (priP ps) := Lib.hid HA.out
      have HQ := Lib.hid (HYES.out ⟨HBP.out, HN2.out, HP.out⟩)
      have HZ1 : Hid (w.heap.size < wr.heap.size) := Lib.hid (Nat.lt_of_lt_of_le hz0 hb.size)
      have CS := Lib.hid (sum_ g n c qs w.heap.size g2 c2 ps wr HN.out (HR.out.moved hb) HN2.out (HR2.out.moved hb) ((hb.cell (p := ⟨_, _, none⟩) hz0).trans HK0.out) HZ1.out HBP.out HP.out)
      have HBN := Lib.hid (HB0.out.trans (hb.mono HB0.out.size))
      have HBB := Lib.hid hb
      obtain ⟨y, hy⟩ : ∃ y, costN qs ps qs.length = y := ⟨_, rfl⟩
      rw [hy] at CS HQ
      clear HA HNO HYES hb hy
      have hmf : ∀ (fn : Fn) (first cap : Array Value) (w : World), (Instr.makeFunc fn first cap).run Try.prog w = .ok (.func fn first cap) w := fun _ _ _ _ => rfl
      go_wp2_with fail
      refine CS.out.mono ?_
      rintro e w2 ⟨rfl, hb2⟩
      have HB2 := Lib.hid (HBN.out.trans (hb2.mono HBN.out.size))
      clear hb2
      go_wp2
      exact bodyPost_ret (v := .tuple #[.int .i64 y, .bool true]) (by simp [results, Try.results24, go_sem]) rfl (retV HQ.out HB2.out)
end Go.Proofs.Yteihdnjdpiejmaa
