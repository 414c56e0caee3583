/- Rings: the capacity of a ring: contracts of RingCapacity, both sides. Condition: the table of math/bits holds what Go's text lays (on impl's side). -/
import Derived.Test.YtkpendpjdemknaaDoorPfQ
namespace Go.Proofs.YtkpendpjdemknaaDoor
open Go.ChangeShapes Go.WideShapes Go.ChangeAt Go.RowKit

theorem mx_r {a b : Int} (h : a ≤ b) : max a b = b := by omega
theorem mx_l {a b : Int} (h : b ≤ a) : max a b = a := by omega
theorem mx_bd {a b : Int} (h0 : 0 ≤ a) (h1 : a ≤ 1000) (h2 : 0 ≤ b) (h3 : b ≤ 1000) : 0 ≤ max a b ∧ max a b ≤ 1000 := by omega
def mxL (f : Int → Int) (L : List Int) (s : Int) : Nat → Int
  | 0 => s
  | k + 1 => max (mxL f L s k) (f (nth L k))
def wkP (ws : List Int) : Prop := ∀ k, k < ws.length → 0 ≤ nth ws k ∧ nth ws k ≤ 1000
def capP (ss : List ByteArray) (fs : List Q4) (fl ws : List Int) : Prop := irB ss fs fl = true ∧ ws.length = fs.length ∧ wkP ws
def f1W (ws : List Int) (x : Int) : Int := nth ws x.toNat
def f2W (ws : List Int) (x : Int) : Int := (nth ws x.toNat + 1) / 2
noncomputable def capV (ss : List ByteArray) (fs : List Q4) (fl ws : List Int) : Int := if pb (capP ss fs fl ws) then mxL (f2W ws) (prC ss fs fl) (mxL (f1W ws) (prO ss fs fl) 0 (prO ss fs fl).length) (prC ss fs fl).length else 0
noncomputable def capB (ss : List ByteArray) (fs : List Q4) (fl ws : List Int) : Bool := pb (capP ss fs fl ws)
noncomputable def capR (ss : List ByteArray) (fs : List Q4) (fl ws : List Int) : Value := .tuple #[.int .i64 (capV ss fs fl ws), .bool (capB ss fs fl ws)]
theorem cap_no {ss : List ByteArray} {fs : List Q4} {fl ws : List Int} (h : ¬ capP ss fs fl ws) : capV ss fs fl ws = 0 ∧ capB ss fs fl ws = false := by
  have e : pb (capP ss fs fl ws) = false := pb_false h
  exact ⟨by unfold capV; rw [e]; rfl, e⟩
theorem cap_yes {ss : List ByteArray} {fs : List Q4} {fl ws : List Int} (h : capP ss fs fl ws) : capV ss fs fl ws = mxL (f2W ws) (prC ss fs fl) (mxL (f1W ws) (prO ss fs fl) 0 (prO ss fs fl).length) (prC ss fs fl).length ∧ capB ss fs fl ws = true := by
  have e : pb (capP ss fs fl ws) = true := pb_true h
  exact ⟨by unfold capV; rw [e]; rfl, e⟩
theorem most9 (a b : Int) (w : World) : Calls Tryd.prog 42 #[.int .i64 a, .int .i64 b] w fun e w' => e = .returned (.int .i64 (max a b)) ∧ w = w' := by
  by_cases h : b < a
  · have e : max a b = a := by omega
    rw [e]; clear e
    go_enter Tryd.func42, Tryd.ntmps42
    go_wp2
    go_ret
    exact ⟨rfl, rfl⟩
  · have e : max a b = b := by omega
    have h2 : a ≤ b := by omega
    rw [e]; clear e h
    go_enter Tryd.func42, Tryd.ntmps42
    go_wp2
    go_ret
    exact ⟨rfl, rfl⟩
theorem pr_in {ss : List ByteArray} {fs : List Q4} {fl : List Int} : (∀ x ∈ prO ss fs fl, ∃ i : Nat, x = (i : Int) ∧ i < fs.length) ∧ ∀ x ∈ prC ss fs fl, ∃ i : Nat, x = (i : Int) ∧ i < fs.length := by
  cases h : irB ss fs fl with
  | false => obtain ⟨e1, e2⟩ := pr_no h; rw [e1, e2]; exact ⟨fun x hx => (by simp at hx), fun x hx => (by simp at hx)⟩
  | true =>
    obtain ⟨e1, e2⟩ := pr_yes h
    rw [e1, e2]
    exact ⟨fun x hx => by obtain ⟨k, e, hk, _⟩ := sel_mem.1 hx; exact ⟨k, e, hk⟩, fun x hx => by obtain ⟨k, e, hk, _⟩ := sel_mem.1 hx; exact ⟨k, e, hk⟩⟩
set_option maxRecDepth 100000 in
set_option maxHeartbeats 4000000 in
theorem implRC {g1 g2 n1 n2 c1 c2 : Nat} {ss : List ByteArray} {fs : List Q4} {w : World} (h : NetAt g1 g2 n1 n2 c1 c2 ss fs w)
    {A : Option Addr} {n c : Nat} {fl : List Int} (hn : fl.length = n) (hr : Rd w w.heap.size A (fl.map (Value.int .i64))) (hx : n ≤ 1048576) (hcp : n ≤ c)
    {W3 : Option Addr} {m c3 : Nat} {ws : List Int} (hm : ws.length = m) (hr3 : Rd w w.heap.size W3 (ws.map (Value.int .i64))) (hm9 : m ≤ 1048576) (hTab : Tab w) :
    Calls Tryd.prog 20 #[.agg #[.slice (some ⟨g1, 0, none⟩) n1 c1, .slice (some ⟨g2, 0, none⟩) n2 c2], .slice A n c, .slice W3 m c3] w (RetP (capR ss fs fl ws) w) := by
  have hs2 := h.sm2
  have HLB : Hid ((prO ss fs fl).length ≤ n2 ∧ (prC ss fs fl).length ≤ n2) := Lib.hid (by rw [← h.ln2]; exact pr_len ss fs fl)
  have HL2 := Lib.hid h.ln2; have HRW := Lib.hid hr3; have HM := Lib.hid hm
  obtain ⟨L1, hL1⟩ : ∃ r, prO ss fs fl = r := ⟨_, rfl⟩
  obtain ⟨L2, hL2⟩ : ∃ r, prC ss fs fl = r := ⟨_, rfl⟩
  rw [hL1, hL2] at HLB
  obtain ⟨rb, hrb⟩ : ∃ r, irB ss fs fl = r := ⟨_, rfl⟩
  obtain ⟨cv, hcv⟩ : ∃ r, capV ss fs fl ws = r := ⟨_, rfl⟩
  obtain ⟨cb, hcb⟩ : ∃ r, capB ss fs fl ws = r := ⟨_, rfl⟩
  have HNO : Hid (¬ (rb = true ∧ m = n2 ∧ wkP ws) → cv = 0 ∧ cb = false) := Lib.hid (fun e => by
    rw [← hcv, ← hcb]; exact cap_no (fun hp => e ⟨hrb.symm.trans hp.1, by have := hp.2.1; have := HL2.out; omega, hp.2.2⟩))
  have HYES : Hid ((rb = true ∧ m = n2 ∧ wkP ws) → cv = mxL (f2W ws) L2 (mxL (f1W ws) L1 0 L1.length) L2.length ∧ cb = true) := Lib.hid (fun e => by
    rw [← hcv, ← hcb, ← hL1, ← hL2]; exact cap_yes ⟨hrb.trans e.1, by have := e.2.1; have := HL2.out; omega, e.2.2⟩)
  have HIN : Hid ((∀ x ∈ L1, ∃ i : Nat, x = (i : Int) ∧ i < n2) ∧ ∀ x ∈ L2, ∃ i : Nat, x = (i : Int) ∧ i < n2) := Lib.hid (by rw [← hL1, ← hL2, ← HL2.out]; exact pr_in)
  have CP := Lib.hid (fun (W : World) (hb : Below w.heap.size w W) => implPF (h.moved hb) hn (hr.moved hb) hx hcp (hTab.over hb))
  rw [hL1, hL2, hrb] at CP
  unfold capR
  rw [hcv, hcb]
  clear h hn hr hL1 hL2 hrb hcv hcb hTab hm hr3
  go_enter Tryd.func20, Tryd.ntmps20
  go_wp2_with fail
  obtain ⟨W0, hW0⟩ : ∃ W0, w.alloc (Obj.cells #[.slice (some ⟨g1, 0, none⟩) n1 c1, .slice (some ⟨g2, 0, none⟩) n2 c2] 32) = W0 := ⟨_, rfl⟩
  have hb0 : Below w.heap.size w W0 := by rw [← hW0]; exact (Below.refl _ _).alloc (Nat.le_refl _) _
  have k0 : W0.cell? ⟨w.heap.size, 0, none⟩ = some (.slice (some ⟨g1, 0, none⟩) n1 c1) := by rw [← hW0]; simp [go_sem]
  have k1 : W0.cell? ⟨w.heap.size, 1, none⟩ = some (.slice (some ⟨g2, 0, none⟩) n2 c2) := by rw [← hW0]; simp [go_sem]
  have hz0 : w.heap.size < W0.heap.size := by rw [← hW0]; simp
  have HB0 := Lib.hid hb0
  have HK : Hid (∀ u, Below W0.heap.size W0 u → u.cell? ⟨w.heap.size, 0, none⟩ = some (.slice (some ⟨g1, 0, none⟩) n1 c1) ∧ u.cell? ⟨w.heap.size, 1, none⟩ = some (.slice (some ⟨g2, 0, none⟩) n2 c2) ∧ w.heap.size < u.heap.size) := Lib.hid fun u hu => ⟨(hu.cell (p := ⟨w.heap.size, 0, none⟩) hz0).trans k0, (hu.cell (p := ⟨w.heap.size, 1, none⟩) hz0).trans k1, Nat.lt_of_lt_of_le hz0 hu.size⟩
  rw [hW0]
  clear hW0 hb0 k0 k1 hz0
  refine (CP.out _ HB0.out).mono ?_
  rintro e w1 ⟨A1, A2, N1, N2, d1, d2, rfl, HN1, HN2, ho1, ho2, _, hb1⟩
  have HBX := Lib.hid (HB0.out.trans (hb1.mono HB0.out.size))
  have HR1 := Lib.hid ho1; have HR2 := Lib.hid ho2
  have hNb1 : N1 ≤ 1048576 := by have := HN1.out; have := HLB.out.1; omega
  have hNb2 : N2 ≤ 1048576 := by have := HN2.out; have := HLB.out.2; omega
  obtain ⟨q0, q1, q2⟩ := HK.out w1 hb1
  clear hb1 ho1 ho2
  cases rb
  case false =>
    have HE0 := Lib.hid (HNO.out (fun hp => by cases hp.1))
    clear q0 q1 q2
    go_wp2
    go_ret2
    obtain ⟨rfl, rfl⟩ := HE0.out
    exact ⟨rfl, HBX.out⟩
  case true =>
  by_cases hmn : m = n2
  case neg =>
    have HE0 := Lib.hid (HNO.out (fun hp => hmn hp.2.1))
    have hmB : (((m : Int) != (n2 : Int))) = true := bne_iff_ne.2 (by omega)
    go_wp2
    go_ret2
    obtain ⟨rfl, rfl⟩ := HE0.out
    exact ⟨rfl, HBX.out⟩
  case pos =>
  subst hmn
  go_wp2
  clear q0 q1 q2
  go_loop [37] (fun i => ∃ k : Nat, k ≤ m ∧ i = .int .i64 k ∧ Hid (∀ j, j < k → 0 ≤ nth ws j ∧ nth ws j ≤ 1000)) (fun i => m - (intOf i).toNat)
  case atStart => exact ⟨0, Nat.zero_le _, rfl, Lib.hid (fun j hj => by omega)⟩
  case round =>
    obtain ⟨k, hk, rfl, HALL⟩ := hrel
    by_cases hlt : k < m
    case neg =>
      obtain rfl : m = k := by omega
      have HWK : Hid (wkP ws) := Lib.hid (fun j hj => HALL.out j (by have := HM.out; omega))
      have HE := Lib.hid (HYES.out ⟨by first | rfl | trivial, by first | rfl | trivial, HWK.out⟩)
      clear hlt HALL
      go_wp2
      go_loop [13, 50] (fun v i => ∃ (k : Nat) (z : Int), k ≤ N1 ∧ i = .int .i64 k ∧ v = .int .i64 z ∧ 0 ≤ z ∧ z ≤ 1000 ∧ Hid (mxL (f1W ws) L1 0 k = z)) (fun _ i => N1 - (intOf i).toNat)
      case atStart => exact ⟨0, 0, Nat.zero_le _, rfl, rfl, by omega, by omega, Lib.hid rfl⟩
      case round =>
        obtain ⟨k, z, hk, rfl, rfl, hz0, hz1, HZ⟩ := hrel
        by_cases hlt : k < N1
        case neg =>
          obtain rfl : k = N1 := by omega
          have HZ1 : Hid (mxL (f1W ws) L1 0 L1.length = z) := Lib.hid (by rw [← HN1.out]; exact HZ.out)
          obtain ⟨z1, hz1e⟩ : ∃ z1, z = z1 := ⟨_, rfl⟩
          rw [hz1e] at HZ1 hz0 hz1 ⊢
          have h10 := hz0; have h11 := hz1
          clear hlt HZ hz0 hz1 hz1e
          go_wp2
          go_loop [13, 63] (fun v i => ∃ (k : Nat) (z : Int), k ≤ N2 ∧ i = .int .i64 k ∧ v = .int .i64 z ∧ 0 ≤ z ∧ z ≤ 1000 ∧ Hid (mxL (f2W ws) L2 z1 k = z)) (fun _ i => N2 - (intOf i).toNat)
          case atStart => exact ⟨0, z1, Nat.zero_le _, rfl, rfl, h10, h11, Lib.hid rfl⟩
          case round =>
            obtain ⟨k, z, hk, rfl, rfl, hz0, hz1, HZ⟩ := hrel
            by_cases hlt : k < N2
            case neg =>
              obtain rfl : k = N2 := by omega
              have HF : Hid (cv = z ∧ cb = true) := Lib.hid ⟨by rw [HE.out.1, HZ1.out, ← HN2.out]; exact HZ.out, HE.out.2⟩
              clear hlt HZ
              go_wp2
              go_ret2
              obtain ⟨rfl, rfl⟩ := HF.out
              exact ⟨rfl, HBX.out⟩
            case pos =>
            obtain ⟨gO, rfl⟩ := own_some HR2.out (by omega)
            have hkL : k < L2.length := by have := HN2.out; omega
            obtain ⟨i, hi, hin⟩ := HIN.out.2 L2[k] (List.getElem_mem hkL)
            have hnk : nth L2 k = (i : Int) := by rw [← nth_eq hkL]; exact hi
            have hck := own_int (k := k) HR2.out HN2.out hlt (v := (i : Int)) hnk
            have hil : i < ws.length := by have := HM.out; omega
            obtain ⟨ad, hA, hbl, hcell⟩ := ints_at HRW.out hil
            subst hA
            rw [← HBX.out.cell (by rw [addBlock]; exact hbl)] at hcell
            obtain ⟨u, hu⟩ : ∃ u, ws[i]'hil = u := ⟨_, rfl⟩
            rw [hu] at hcell
            have huw : nth ws i = u := by rw [← nth_eq hil]; exact hu
            have hub : 0 ≤ u ∧ u ≤ 1000 := by rw [← huw]; exact HWK.out i hil
            have HFX : Hid (f2W ws (nth L2 k) = (u + 1) / 2) := Lib.hid (by rw [hnk]; show (nth ws ((i : Int)).toNat + 1) / 2 = _; rw [show ((i : Int)).toNat = i by omega, huw])
            have hiI : (i : Int) < (m : Int) := by have := HM.out; omega
            have hkI : (k : Int) < (N2 : Int) := by omega
            have hub0 := hub.1; have hub1 := hub.2
            clear hi hin hnk hbl hil hkL hu huw hub
            obtain ⟨t, ht⟩ : ∃ t, (u + 1) / 2 = t := ⟨_, rfl⟩
            have ht0 : 0 ≤ t ∧ t ≤ 1000 := by omega
            have ht1 := ht0.1; have ht2 := ht0.2
            clear ht0
            rw [ht] at HFX
            by_cases hm : z ≤ t
            case pos =>
              have HZ2 : Hid (mxL (f2W ws) L2 z1 (k + 1) = t) := Lib.hid (by rw [mxL, HZ.out, HFX.out]; exact mx_r hm)
              have e2 : max z t = t := mx_r hm
              have e3 : (if z ≤ t then t else z) = t := if_pos hm
              go_wp2
              go_round
              case rel => exact ⟨k + 1, t, by omega, by go_num, rfl, by omega, by omega, HZ2⟩
              case measure => simp [intOf]; omega
            case neg =>
              have HZ2 : Hid (mxL (f2W ws) L2 z1 (k + 1) = z) := Lib.hid (by rw [mxL, HZ.out, HFX.out]; exact mx_l (by omega))
              have e2 : max z t = z := mx_l (by omega)
              have e3 : (if z ≤ t then t else z) = z := if_neg hm
              have hm2 : t ≤ z := by omega
              go_wp2
              go_round
              case rel => exact ⟨k + 1, z, by omega, by go_num, rfl, hz0, hz1, HZ2⟩
              case measure => simp [intOf]; omega
        case pos =>
        obtain ⟨gO, rfl⟩ := own_some HR1.out (by omega)
        have hkL : k < L1.length := by have := HN1.out; omega
        obtain ⟨i, hi, hin⟩ := HIN.out.1 L1[k] (List.getElem_mem hkL)
        have hnk : nth L1 k = (i : Int) := by rw [← nth_eq hkL]; exact hi
        have hck := own_int (k := k) HR1.out HN1.out hlt (v := (i : Int)) hnk
        have hil : i < ws.length := by have := HM.out; omega
        obtain ⟨ad, hA, hbl, hcell⟩ := ints_at HRW.out hil
        subst hA
        rw [← HBX.out.cell (by rw [addBlock]; exact hbl)] at hcell
        obtain ⟨u, hu⟩ : ∃ u, ws[i]'hil = u := ⟨_, rfl⟩
        rw [hu] at hcell
        have huw : nth ws i = u := by rw [← nth_eq hil]; exact hu
        have hub : 0 ≤ u ∧ u ≤ 1000 := by rw [← huw]; exact HWK.out i hil
        have HFX : Hid (f1W ws (nth L1 k) = u) := Lib.hid (by rw [hnk]; show nth ws ((i : Int)).toNat = _; rw [show ((i : Int)).toNat = i by omega, huw])
        have hiI : (i : Int) < (m : Int) := by have := HM.out; omega
        have hkI : (k : Int) < (N1 : Int) := by omega
        have hub0 := hub.1; have hub1 := hub.2
        clear hi hin hnk hbl hil hkL hu huw hub
        by_cases hm : z ≤ u
        case pos =>
          have HZ2 : Hid (mxL (f1W ws) L1 0 (k + 1) = u) := Lib.hid (by rw [mxL, HZ.out, HFX.out]; exact mx_r hm)
          have e2 : max z u = u := mx_r hm
          have e3 : (if z ≤ u then u else z) = u := if_pos hm
          go_wp2
          go_round
          case rel => exact ⟨k + 1, u, by omega, by go_num, rfl, by omega, by omega, HZ2⟩
          case measure => simp [intOf]; omega
        case neg =>
          have HZ2 : Hid (mxL (f1W ws) L1 0 (k + 1) = z) := Lib.hid (by rw [mxL, HZ.out, HFX.out]; exact mx_l (by omega))
          have e2 : max z u = z := mx_l (by omega)
          have e3 : (if z ≤ u then u else z) = z := if_neg hm
          have hm2 : u ≤ z := by omega
          go_wp2
          go_round
          case rel => exact ⟨k + 1, z, by omega, by go_num, rfl, hz0, hz1, HZ2⟩
          case measure => simp [intOf]; omega
    case pos =>
    have hil : k < ws.length := by have := HM.out; omega
    obtain ⟨ad, hA, hbl, hcell⟩ := ints_at HRW.out hil
    subst hA
    rw [← HBX.out.cell (by rw [addBlock]; exact hbl)] at hcell
    obtain ⟨u, hu⟩ : ∃ u, ws[k]'hil = u := ⟨_, rfl⟩
    rw [hu] at hcell
    have huw : nth ws k = u := by rw [← nth_eq hil]; exact hu
    have hkI : (k : Int) < (m : Int) := by omega
    have HNV : Hid (¬ (0 ≤ u ∧ u ≤ 1000) → cv = 0 ∧ cb = false) := Lib.hid (fun e => HNO.out (fun hp => e (by rw [← huw]; exact hp.2.2 k hil)))
    have HYV : Hid ((0 ≤ u ∧ u ≤ 1000) → ∀ j, j < k + 1 → 0 ≤ nth ws j ∧ nth ws j ≤ 1000) := Lib.hid (fun e j hj => by
      by_cases hjk : j = k
      · rw [hjk, huw]; exact e
      · exact HALL.out j (by omega))
    clear hil hbl hu huw hlt
    by_cases hu0 : u < 0
    case pos =>
      have HE0 := Lib.hid (HNV.out (by omega))
      go_wp2
      go_ret2
      obtain ⟨rfl, rfl⟩ := HE0.out
      exact ⟨rfl, HBX.out⟩
    case neg =>
    have hu0d : decide (u < 0) = false := decide_eq_false hu0
    by_cases hu1 : 1000 < u
    case pos =>
      have HE0 := Lib.hid (HNV.out (by omega))
      have hu1d : decide (u > 1000) = true := decide_eq_true hu1
      go_wp2
      go_ret2
      obtain ⟨rfl, rfl⟩ := HE0.out
      exact ⟨rfl, HBX.out⟩
    case neg =>
      have hu1d : decide (u > 1000) = false := decide_eq_false (by omega)
      have HA2 := Lib.hid (HYV.out (by omega))
      have hu2 : u ≤ 1000 := by omega
      have hu3 : 0 ≤ u := by omega
      go_wp2
      go_round
      case rel => exact ⟨k + 1, by omega, by go_num, HA2⟩
      case measure => simp [intOf]; omega
set_option maxRecDepth 100000 in
set_option maxHeartbeats 4000000 in
theorem specRC {g1 g2 n1 n2 c1 c2 : Nat} {ss : List ByteArray} {fs : List Q4} {w : World} (h : NetAt g1 g2 n1 n2 c1 c2 ss fs w)
    {A : Option Addr} {n c : Nat} {fl : List Int} (hn : fl.length = n) (hr : Rd w w.heap.size A (fl.map (Value.int .i64))) (hx : n ≤ 1048576) (hcp : n ≤ c)
    {W3 : Option Addr} {m c3 : Nat} {ws : List Int} (hm : ws.length = m) (hr3 : Rd w w.heap.size W3 (ws.map (Value.int .i64))) (hm9 : m ≤ 1048576) :
    Calls Tryd.prog 19 #[.agg #[.slice (some ⟨g1, 0, none⟩) n1 c1, .slice (some ⟨g2, 0, none⟩) n2 c2], .slice A n c, .slice W3 m c3] w (RetP (capR ss fs fl ws) w) := by
  have hs2 := h.sm2
  have HLB : Hid ((prO ss fs fl).length ≤ n2 ∧ (prC ss fs fl).length ≤ n2) := Lib.hid (by rw [← h.ln2]; exact pr_len ss fs fl)
  have HL2 := Lib.hid h.ln2; have HRW := Lib.hid hr3; have HM := Lib.hid hm
  obtain ⟨L1, hL1⟩ : ∃ r, prO ss fs fl = r := ⟨_, rfl⟩
  obtain ⟨L2, hL2⟩ : ∃ r, prC ss fs fl = r := ⟨_, rfl⟩
  rw [hL1, hL2] at HLB
  obtain ⟨rb, hrb⟩ : ∃ r, irB ss fs fl = r := ⟨_, rfl⟩
  obtain ⟨cv, hcv⟩ : ∃ r, capV ss fs fl ws = r := ⟨_, rfl⟩
  obtain ⟨cb, hcb⟩ : ∃ r, capB ss fs fl ws = r := ⟨_, rfl⟩
  have HNO : Hid (¬ (rb = true ∧ m = n2 ∧ wkP ws) → cv = 0 ∧ cb = false) := Lib.hid (fun e => by
    rw [← hcv, ← hcb]; exact cap_no (fun hp => e ⟨hrb.symm.trans hp.1, by have := hp.2.1; have := HL2.out; omega, hp.2.2⟩))
  have HYES : Hid ((rb = true ∧ m = n2 ∧ wkP ws) → cv = mxL (f2W ws) L2 (mxL (f1W ws) L1 0 L1.length) L2.length ∧ cb = true) := Lib.hid (fun e => by
    rw [← hcv, ← hcb, ← hL1, ← hL2]; exact cap_yes ⟨hrb.trans e.1, by have := e.2.1; have := HL2.out; omega, e.2.2⟩)
  have HIN : Hid ((∀ x ∈ L1, ∃ i : Nat, x = (i : Int) ∧ i < n2) ∧ ∀ x ∈ L2, ∃ i : Nat, x = (i : Int) ∧ i < n2) := Lib.hid (by rw [← hL1, ← hL2, ← HL2.out]; exact pr_in)
  have HYS : Hid (rb = true → irB ss fs fl = true ∧ L1 = selK (ownQ fl) n2 ∧ L2 = selK (crsQ fs fl (rgnL ss fs fl)) n2) := Lib.hid (fun e => by rw [← hL1, ← hL2, ← HL2.out]; exact ⟨hrb.trans e, pr_yes (hrb.trans e)⟩)
  have CI := Lib.hid (fun (W : World) (hb : Below w.heap.size w W) => specIR (h.moved hb) hn (hr.moved hb) hx hcp)
  have CP : Hid (rb = true → ∀ W, Below w.heap.size w W → Calls Tryd.prog 30 #[.agg #[.slice (some ⟨g1, 0, none⟩) n1 c1, .slice (some ⟨g2, 0, none⟩) n2 c2], .slice A n c] W (TwoP L1 L2 W)) := Lib.hid (fun e W hb => by
    obtain ⟨h1, h2, h3⟩ := HYS.out e
    obtain ⟨hv, _, _, ⟨vs, hvs, hev⟩, _⟩ := ring_facts h1
    rw [h2, h3, hev]
    exact l17Prot_ (h.moved hb) hv hn (hr.moved hb) hx hcp hvs)
  rw [hrb] at CI
  unfold capR
  rw [hcv, hcb]
  clear h hn hr hL1 hL2 hrb hcv hcb hm hr3 HYS
  go_enter Tryd.func19, Tryd.ntmps19
  go_wp2_with fail
  obtain ⟨W0, hW0⟩ : ∃ W0, w.alloc (Obj.cells #[.slice (some ⟨g1, 0, none⟩) n1 c1, .slice (some ⟨g2, 0, none⟩) n2 c2] 32) = W0 := ⟨_, rfl⟩
  have hb0 : Below w.heap.size w W0 := by rw [← hW0]; exact (Below.refl _ _).alloc (Nat.le_refl _) _
  have k0 : W0.cell? ⟨w.heap.size, 0, none⟩ = some (.slice (some ⟨g1, 0, none⟩) n1 c1) := by rw [← hW0]; simp [go_sem]
  have k1 : W0.cell? ⟨w.heap.size, 1, none⟩ = some (.slice (some ⟨g2, 0, none⟩) n2 c2) := by rw [← hW0]; simp [go_sem]
  have hz0 : w.heap.size < W0.heap.size := by rw [← hW0]; simp
  have HB0 := Lib.hid hb0
  have HK : Hid (∀ u, Below W0.heap.size W0 u → u.cell? ⟨w.heap.size, 0, none⟩ = some (.slice (some ⟨g1, 0, none⟩) n1 c1) ∧ u.cell? ⟨w.heap.size, 1, none⟩ = some (.slice (some ⟨g2, 0, none⟩) n2 c2) ∧ w.heap.size < u.heap.size) := Lib.hid fun u hu => ⟨(hu.cell (p := ⟨w.heap.size, 0, none⟩) hz0).trans k0, (hu.cell (p := ⟨w.heap.size, 1, none⟩) hz0).trans k1, Nat.lt_of_lt_of_le hz0 hu.size⟩
  rw [hW0]
  clear hW0 hb0 k0 k1 hz0
  refine (CI.out _ HB0.out).mono ?_
  rintro e w1 ⟨rfl, hb1⟩
  have HBX := Lib.hid (HB0.out.trans (hb1.mono HB0.out.size))
  obtain ⟨q0, q1, q2⟩ := HK.out w1 hb1
  have HB1 := Lib.hid hb1
  clear hb1
  cases rb
  case false =>
    have HE0 := Lib.hid (HNO.out (fun hp => by cases hp.1))
    clear q0 q1 q2
    go_wp2
    go_ret2
    obtain ⟨rfl, rfl⟩ := HE0.out
    exact ⟨rfl, HBX.out⟩
  case true =>
  by_cases hmn : m = n2
  case neg =>
    have HE0 := Lib.hid (HNO.out (fun hp => hmn hp.2.1))
    have hmB : (((m : Int) != (n2 : Int))) = true := bne_iff_ne.2 (by omega)
    go_wp2
    go_ret2
    obtain ⟨rfl, rfl⟩ := HE0.out
    exact ⟨rfl, HBX.out⟩
  case pos =>
  subst hmn
  go_wp2
  clear q0 q1 q2
  go_loop [8] (fun i => ∃ k : Nat, k ≤ m ∧ i = .int .i64 k ∧ Hid (∀ j, j < k → 0 ≤ nth ws j ∧ nth ws j ≤ 1000)) (fun i => m - (intOf i).toNat)
  case atStart => exact ⟨0, Nat.zero_le _, rfl, Lib.hid (fun j hj => by omega)⟩
  case round =>
    obtain ⟨k, hk, rfl, HALL⟩ := hrel
    by_cases hlt : k < m
    case neg =>
      obtain rfl : m = k := by omega
      have HWK : Hid (wkP ws) := Lib.hid (fun j hj => HALL.out j (by have := HM.out; omega))
      have HE := Lib.hid (HYES.out ⟨by first | rfl | trivial, by first | rfl | trivial, HWK.out⟩)
      clear hlt HALL
      obtain ⟨q0, q1, q2⟩ := HK.out w1 HB1.out
      go_wp2_with fail
      refine (CP.out (by first | rfl | trivial) _ HBX.out).mono ?_
      rintro e w2 ⟨A1, A2, N1, N2, d1, d2, rfl, HN1, HN2, ho1, ho2, _, hb2⟩
      have HBX := Lib.hid (HBX.out.trans (hb2.mono HBX.out.size))
      have HR1 := Lib.hid ho1; have HR2 := Lib.hid ho2
      have hNb1 : N1 ≤ 1048576 := by have := HN1.out; have := HLB.out.1; omega
      have hNb2 : N2 ≤ 1048576 := by have := HN2.out; have := HLB.out.2; omega
      clear ho1 ho2 hb2 q0 q1 q2
      go_wp2
      go_loop [9, 12] (fun v i => ∃ (k : Nat) (z : Int), k ≤ N1 ∧ i = .int .i64 k ∧ v = .int .i64 z ∧ 0 ≤ z ∧ z ≤ 1000 ∧ Hid (mxL (f1W ws) L1 0 k = z)) (fun _ i => N1 - (intOf i).toNat)
      case atStart => exact ⟨0, 0, Nat.zero_le _, rfl, rfl, by omega, by omega, Lib.hid rfl⟩
      case round =>
        obtain ⟨k, z, hk, rfl, rfl, hz0, hz1, HZ⟩ := hrel
        by_cases hlt : k < N1
        case neg =>
          obtain rfl : k = N1 := by omega
          have HZ1 : Hid (mxL (f1W ws) L1 0 L1.length = z) := Lib.hid (by rw [← HN1.out]; exact HZ.out)
          obtain ⟨z1, hz1e⟩ : ∃ z1, z = z1 := ⟨_, rfl⟩
          rw [hz1e] at HZ1 hz0 hz1 ⊢
          have h10 := hz0; have h11 := hz1
          clear hlt HZ hz0 hz1 hz1e
          go_wp2
          go_loop [9, 13] (fun v i => ∃ (k : Nat) (z : Int), k ≤ N2 ∧ i = .int .i64 k ∧ v = .int .i64 z ∧ 0 ≤ z ∧ z ≤ 1000 ∧ Hid (mxL (f2W ws) L2 z1 k = z)) (fun _ i => N2 - (intOf i).toNat)
          case atStart => exact ⟨0, z1, Nat.zero_le _, rfl, rfl, h10, h11, Lib.hid rfl⟩
          case round =>
            obtain ⟨k, z, hk, rfl, rfl, hz0, hz1, HZ⟩ := hrel
            by_cases hlt : k < N2
            case neg =>
              obtain rfl : k = N2 := by omega
              have HF : Hid (cv = z ∧ cb = true) := Lib.hid ⟨by rw [HE.out.1, HZ1.out, ← HN2.out]; exact HZ.out, HE.out.2⟩
              clear hlt HZ
              go_wp2
              go_ret2
              obtain ⟨rfl, rfl⟩ := HF.out
              exact ⟨rfl, HBX.out⟩
            case pos =>
            obtain ⟨gO, rfl⟩ := own_some HR2.out (by omega)
            have hkL : k < L2.length := by have := HN2.out; omega
            obtain ⟨i, hi, hin⟩ := HIN.out.2 L2[k] (List.getElem_mem hkL)
            have hnk : nth L2 k = (i : Int) := by rw [← nth_eq hkL]; exact hi
            have hck := own_int (k := k) HR2.out HN2.out hlt (v := (i : Int)) hnk
            have hil : i < ws.length := by have := HM.out; omega
            obtain ⟨ad, hA, hbl, hcell⟩ := ints_at HRW.out hil
            subst hA
            rw [← HBX.out.cell (by rw [addBlock]; exact hbl)] at hcell
            obtain ⟨u, hu⟩ : ∃ u, ws[i]'hil = u := ⟨_, rfl⟩
            rw [hu] at hcell
            have huw : nth ws i = u := by rw [← nth_eq hil]; exact hu
            have hub : 0 ≤ u ∧ u ≤ 1000 := by rw [← huw]; exact HWK.out i hil
            have HFX : Hid (f2W ws (nth L2 k) = (u + 1) / 2) := Lib.hid (by rw [hnk]; show (nth ws ((i : Int)).toNat + 1) / 2 = _; rw [show ((i : Int)).toNat = i by omega, huw])
            have hiI : (i : Int) < (m : Int) := by have := HM.out; omega
            have hkI : (k : Int) < (N2 : Int) := by omega
            have hub0 := hub.1; have hub1 := hub.2
            clear hi hin hnk hbl hil hkL hu huw hub
            obtain ⟨t, ht⟩ : ∃ t, (u + 1) / 2 = t := ⟨_, rfl⟩
            have ht0 : 0 ≤ t ∧ t ≤ 1000 := by omega
            have ht1 := ht0.1; have ht2 := ht0.2
            clear ht0
            rw [ht] at HFX
            have HZ2 : Hid (mxL (f2W ws) L2 z1 (k + 1) = max z t) := Lib.hid (by rw [mxL, HZ.out, HFX.out])
            have CM := Lib.hid (most9 z t w2)
            obtain ⟨y, hy⟩ : ∃ y, max z t = y := ⟨_, rfl⟩
            rw [hy] at HZ2 CM
            have hy0 : 0 ≤ y ∧ y ≤ 1000 := by rw [← hy]; exact mx_bd hz0 hz1 (by omega) (by omega)
            clear hy
            go_wp2_with fail
            try rw [ht]
            refine CM.out.mono ?_
            rintro e w' ⟨rfl, rfl⟩
            go_wp2
            go_round
            case rel => exact ⟨k + 1, y, by omega, by go_num, rfl, hy0.1, hy0.2, HZ2⟩
            case measure => simp [intOf]; omega
        case pos =>
        obtain ⟨gO, rfl⟩ := own_some HR1.out (by omega)
        have hkL : k < L1.length := by have := HN1.out; omega
        obtain ⟨i, hi, hin⟩ := HIN.out.1 L1[k] (List.getElem_mem hkL)
        have hnk : nth L1 k = (i : Int) := by rw [← nth_eq hkL]; exact hi
        have hck := own_int (k := k) HR1.out HN1.out hlt (v := (i : Int)) hnk
        have hil : i < ws.length := by have := HM.out; omega
        obtain ⟨ad, hA, hbl, hcell⟩ := ints_at HRW.out hil
        subst hA
        rw [← HBX.out.cell (by rw [addBlock]; exact hbl)] at hcell
        obtain ⟨u, hu⟩ : ∃ u, ws[i]'hil = u := ⟨_, rfl⟩
        rw [hu] at hcell
        have huw : nth ws i = u := by rw [← nth_eq hil]; exact hu
        have hub : 0 ≤ u ∧ u ≤ 1000 := by rw [← huw]; exact HWK.out i hil
        have HFX : Hid (f1W ws (nth L1 k) = u) := Lib.hid (by rw [hnk]; show nth ws ((i : Int)).toNat = _; rw [show ((i : Int)).toNat = i by omega, huw])
        have hiI : (i : Int) < (m : Int) := by have := HM.out; omega
        have hkI : (k : Int) < (N1 : Int) := by omega
        have hub0 := hub.1; have hub1 := hub.2
        clear hi hin hnk hbl hil hkL hu huw hub
        have HZ2 : Hid (mxL (f1W ws) L1 0 (k + 1) = max z u) := Lib.hid (by rw [mxL, HZ.out, HFX.out])
        have CM := Lib.hid (most9 z u w2)
        obtain ⟨y, hy⟩ : ∃ y, max z u = y := ⟨_, rfl⟩
        rw [hy] at HZ2 CM
        have hy0 : 0 ≤ y ∧ y ≤ 1000 := by rw [← hy]; exact mx_bd hz0 hz1 (by omega) (by omega)
        clear hy
        go_wp2_with fail
        refine CM.out.mono ?_
        rintro e w' ⟨rfl, rfl⟩
        go_wp2
        go_round
        case rel => exact ⟨k + 1, y, by omega, by go_num, rfl, hy0.1, hy0.2, HZ2⟩
        case measure => simp [intOf]; omega
    case pos =>
    have hil : k < ws.length := by have := HM.out; omega
    obtain ⟨ad, hA, hbl, hcell⟩ := ints_at HRW.out hil
    subst hA
    rw [← HBX.out.cell (by rw [addBlock]; exact hbl)] at hcell
    obtain ⟨u, hu⟩ : ∃ u, ws[k]'hil = u := ⟨_, rfl⟩
    rw [hu] at hcell
    have huw : nth ws k = u := by rw [← nth_eq hil]; exact hu
    have hkI : (k : Int) < (m : Int) := by omega
    have HNV : Hid (¬ (0 ≤ u ∧ u ≤ 1000) → cv = 0 ∧ cb = false) := Lib.hid (fun e => HNO.out (fun hp => e (by rw [← huw]; exact hp.2.2 k hil)))
    have HYV : Hid ((0 ≤ u ∧ u ≤ 1000) → ∀ j, j < k + 1 → 0 ≤ nth ws j ∧ nth ws j ≤ 1000) := Lib.hid (fun e j hj => by
      by_cases hjk : j = k
      · rw [hjk, huw]; exact e
      · exact HALL.out j (by omega))
    clear hil hbl hu huw hlt
    have CI := Lib.hid (in_ u 0 1000 w1)
    obtain ⟨b, hb9⟩ : ∃ b, inB u 0 1000 = b := ⟨_, rfl⟩
    rw [hb9] at CI
    have HB9 := Lib.hid hb9
    clear hb9
    go_wp2_with fail
    refine CI.out.mono ?_
    rintro e w' ⟨rfl, rfl⟩
    cases b
    case false =>
      have HE0 := Lib.hid (HNV.out (by have := inB_false HB9.out; omega))
      go_wp2
      go_ret2
      obtain ⟨rfl, rfl⟩ := HE0.out
      exact ⟨rfl, HBX.out⟩
    case true =>
      have HA2 := Lib.hid (HYV.out (by have := inB_true HB9.out; omega))
      go_wp2
      go_round
      case rel => exact ⟨k + 1, by omega, by go_num, HA2⟩
      case measure => simp [intOf]; omega
end Go.Proofs.YtkpendpjdemknaaDoor
