/- Two routes disjoint of a kind: contract of impl.AreDisjoint. No condition but those typed. -/
import Derived.Test.YtkpendpjdemknaaAdT
import Derived.Test.YtkpendpjdemknaaTwo
namespace Go.Proofs.Ytkpendpjdemknaa
open Go.ChangeShapes Go.WideShapes Go.ChangeAt Go.RowKit

theorem bDr7 {w X : World} (h : Below w.heap.size w X) : Below w.heap.size w X.drew := h.drew
theorem bSe7 {w X : World} {b j : Nat} {v : Value} (hb : w.heap.size ≤ b) (h : Below w.heap.size w X) : Below w.heap.size w (X.setCell ⟨b, j, none⟩ v) := h.setCell (p := ⟨b, j, none⟩) hb _
theorem five7 {X u : World} {b : Nat} (h : Below X.heap.size X u) (hb : b < X.heap.size) :
    (u.cell? ⟨b, 0, none⟩ = X.cell? ⟨b, 0, none⟩ ∧ u.cell? ⟨b, 1, none⟩ = X.cell? ⟨b, 1, none⟩ ∧ u.cell? ⟨b, 2, none⟩ = X.cell? ⟨b, 2, none⟩ ∧ u.cell? ⟨b, 3, none⟩ = X.cell? ⟨b, 3, none⟩ ∧ u.cell? ⟨b, 4, none⟩ = X.cell? ⟨b, 4, none⟩) ∧
    (u.frozen? ⟨b, 0, none⟩ = X.frozen? ⟨b, 0, none⟩ ∧ u.frozen? ⟨b, 1, none⟩ = X.frozen? ⟨b, 1, none⟩ ∧ u.frozen? ⟨b, 2, none⟩ = X.frozen? ⟨b, 2, none⟩ ∧ u.frozen? ⟨b, 3, none⟩ = X.frozen? ⟨b, 3, none⟩ ∧ u.frozen? ⟨b, 4, none⟩ = X.frozen? ⟨b, 4, none⟩) ∧
    b < u.heap.size ∧ ¬ b = u.heap.size ∧ ¬ u.heap.size = b ∧ ¬ b = u.heap.size + 1 ∧ ¬ u.heap.size + 1 = b := by
  have hs := h.size
  exact ⟨⟨h.cell (p := ⟨b, 0, none⟩) hb, h.cell (p := ⟨b, 1, none⟩) hb, h.cell (p := ⟨b, 2, none⟩) hb, h.cell (p := ⟨b, 3, none⟩) hb, h.cell (p := ⟨b, 4, none⟩) hb⟩, ⟨h.frozen (p := ⟨b, 0, none⟩) hb, h.frozen (p := ⟨b, 1, none⟩) hb, h.frozen (p := ⟨b, 2, none⟩) hb, h.frozen (p := ⟨b, 3, none⟩) hb, h.frozen (p := ⟨b, 4, none⟩) hb⟩, by omega, by omega, by omega, by omega, by omega⟩

theorem five7c {P : Prop} {X u : World} {b : Nat} (h : Below X.heap.size X u) (hb : b < X.heap.size) (k : ((u.cell? ⟨b, 0, none⟩ = X.cell? ⟨b, 0, none⟩ ∧ u.cell? ⟨b, 1, none⟩ = X.cell? ⟨b, 1, none⟩ ∧ u.cell? ⟨b, 2, none⟩ = X.cell? ⟨b, 2, none⟩ ∧ u.cell? ⟨b, 3, none⟩ = X.cell? ⟨b, 3, none⟩ ∧ u.cell? ⟨b, 4, none⟩ = X.cell? ⟨b, 4, none⟩) ∧
    (u.frozen? ⟨b, 0, none⟩ = X.frozen? ⟨b, 0, none⟩ ∧ u.frozen? ⟨b, 1, none⟩ = X.frozen? ⟨b, 1, none⟩ ∧ u.frozen? ⟨b, 2, none⟩ = X.frozen? ⟨b, 2, none⟩ ∧ u.frozen? ⟨b, 3, none⟩ = X.frozen? ⟨b, 3, none⟩ ∧ u.frozen? ⟨b, 4, none⟩ = X.frozen? ⟨b, 4, none⟩) ∧
    b < u.heap.size ∧ ¬ b = u.heap.size ∧ ¬ u.heap.size = b ∧ ¬ b = u.heap.size + 1 ∧ ¬ u.heap.size + 1 = b) → P) : P := k (five7 h hb)
theorem trP {a b : Nat} {P : Prop} (h : (a &&& b = 0) ↔ P) : ((((a &&& b : Nat) : Int)) == 0) = pb P := by
  by_cases hp : P
  · rw [pb_true hp, h.2 hp]; rfl
  · rw [pb_false hp]
    have : ¬ (a &&& b = 0) := fun e => hp (h.1 e)
    simp; omega
set_option maxHeartbeats 1000000 in
theorem dj_ (k : Int) (w : World) : Calls Try.prog 101 #[.int .i64 k] w fun e w' => ∃ v, e = .returned (.tuple #[v, .bool (pb (1 ≤ k ∧ k ≤ 3))]) ∧ w = w' ∧ Hid ((k = 1 → v = .func (.func 144) #[] #[]) ∧ (k = 2 → v = .func (.func 145) #[] #[]) ∧ (k = 3 → v = .func (.func 146) #[] #[])) := by
  by_cases h1 : k = 1
  · subst h1
    rw [pb_true (show (1 : Int) ≤ 1 ∧ (1 : Int) ≤ 3 by omega)]
    go_enter Try.func101, Try.ntmps101
    go_wp2
    go_ret2
    exact ⟨_, rfl, rfl, Lib.hid ⟨fun _ => rfl, fun e => by omega, fun e => by omega⟩⟩
  by_cases h2 : k = 2
  · subst h2
    rw [pb_true (show (1 : Int) ≤ 2 ∧ (2 : Int) ≤ 3 by omega)]
    go_enter Try.func101, Try.ntmps101
    go_wp2
    go_ret2
    exact ⟨_, rfl, rfl, Lib.hid ⟨fun e => by omega, fun _ => rfl, fun e => by omega⟩⟩
  by_cases h3 : k = 3
  · subst h3
    rw [pb_true (show (1 : Int) ≤ 3 ∧ (3 : Int) ≤ 3 by omega)]
    go_enter Try.func101, Try.ntmps101
    go_wp2
    go_ret2
    exact ⟨_, rfl, rfl, Lib.hid ⟨fun e => by omega, fun e => by omega, fun _ => rfl⟩⟩
  rw [pb_false (show ¬ ((1 : Int) ≤ k ∧ k ≤ 3) by omega)]
  have HK := Lib.hid (show ¬ k = 1 ∧ ¬ k = 2 ∧ ¬ k = 3 from ⟨h1, h2, h3⟩)
  have e1 : (k == 1) = false := beq_eq_false_iff_ne.2 h1
  have e2 : (k == 2) = false := beq_eq_false_iff_ne.2 h2
  have e3 : (k == 3) = false := beq_eq_false_iff_ne.2 h3
  go_enter Try.func101, Try.ntmps101
  go_wp2
  go_ret2
  exact ⟨_, rfl, rfl, Lib.hid ⟨fun e => absurd e HK.out.1, fun e => absurd e HK.out.2.1, fun e => absurd e HK.out.2.2⟩⟩

set_option maxRecDepth 100000 in
set_option maxHeartbeats 4000000 in
theorem implAD {g1 g2 n1 n2 c1 c2 : Nat} {ss : List ByteArray} {fs : List Q4} {w : World} (h : NetAt g1 g2 n1 n2 c1 c2 ss fs w) (st : Int) {A : Option Addr} {n c : Nat} {xs : List Int} (hn : xs.length = n) (hr : Rd w w.heap.size A (xs.map (Value.int .i64))) (hx : n ≤ 1048576) (st2 : Int) {A2 : Option Addr} {m c3 : Nat} {ys : List Int} (hm : ys.length = m) (hr2 : Rd w w.heap.size A2 (ys.map (Value.int .i64))) (hx2 : m ≤ 1048576) (kind : Int) :
    Calls Try.prog 46 #[.agg #[.slice (some ⟨g1, 0, none⟩) n1 c1, .slice (some ⟨g2, 0, none⟩) n2 c2], .agg #[.int .i64 st, .slice A n c], .agg #[.int .i64 st2, .slice A2 m c3], .int .i64 kind] w (RetP (adR ss fs st xs st2 ys kind) w) := by
  obtain ⟨R, hR⟩ : ∃ r, adR ss fs st xs st2 ys kind = r := ⟨_, rfl⟩
  have HNO : Hid (¬ adP ss fs st xs st2 ys kind → (.tuple #[.bool false, .bool false] : Value) = R) := Lib.hid (fun e => by rw [← hR]; exact ad_no e)
  have HYES : Hid (adP ss fs st xs st2 ys kind → ∀ va vb, routeN ss.length fs st xs = some va → routeN ss.length fs st2 ys = some vb → (.tuple #[.bool (disB fs kind xs ys va vb), .bool true] : Value) = R) := Lib.hid (fun e va vb h1 h2 => by rw [← hR]; exact ad_yes e h1 h2)
  rw [hR]
  clear hR
  have HLN := Lib.hid h.ln1
  have hxs := hn; have hys := hm
  have HLX : Hid (xs.length ≤ 1048576 ∧ ys.length ≤ 1048576) := Lib.hid ⟨by omega, by omega⟩
  clear hxs hys
  obtain ⟨W0, hW0⟩ : ∃ W0, ((w.alloc (Obj.cells #[.slice (some ⟨g1, 0, none⟩) n1 c1, .slice (some ⟨g2, 0, none⟩) n2 c2] 31)).alloc (Obj.cells #[.int .i64 st, .slice A n c] 65)).alloc (Obj.cells #[.int .i64 st2, .slice A2 m c3] 65) = W0 := ⟨_, rfl⟩
  have hb0 : Below w.heap.size w W0 := by rw [← hW0]; exact (((Below.refl _ _).alloc (Nat.le_refl _) _).alloc (by simp) _).alloc (by simp; omega) _
  have k0 : W0.cell? ⟨w.heap.size, 0, none⟩ = some (.slice (some ⟨g1, 0, none⟩) n1 c1) := by rw [← hW0]; simp [go_sem]
  have k1 : W0.cell? ⟨w.heap.size, 1, none⟩ = some (.slice (some ⟨g2, 0, none⟩) n2 c2) := by rw [← hW0]; simp [go_sem]
  have k2 : W0.cell? ⟨w.heap.size + 1, 0, none⟩ = some (.int .i64 st) := by rw [← hW0]; simp [go_sem]
  have k3 : W0.cell? ⟨w.heap.size + 1, 1, none⟩ = some (.slice A n c) := by rw [← hW0]; simp [go_sem]
  have k4 : W0.cell? ⟨w.heap.size + 1 + 1, 0, none⟩ = some (.int .i64 st2) := by rw [← hW0]; simp [go_sem]
  have k5 : W0.cell? ⟨w.heap.size + 1 + 1, 1, none⟩ = some (.slice A2 m c3) := by rw [← hW0]; simp [go_sem]
  have hsz : W0.heap.size = w.heap.size + 1 + 1 + 1 := by rw [← hW0]; simp
  have hbl := (Below.refl W0.heap.size W0).alloc (Nat.le_refl _) (Obj.cells #[.int .i64 st, .slice A n c, .int .i64 st2, .slice A2 m c3] 65)
  have hb1 := hb0.alloc hb0.size (Obj.cells #[.int .i64 st, .slice A n c, .int .i64 st2, .slice A2 m c3] 65)
  have CW := Lib.hid (walks_two (cr := 2) (h.moved hb1) st hn (hr.moved hb1) hx st2 hm (hr2.moved hb1) hx2 (rd_four hsz _ _ _ _ _))
  have HNT := Lib.hid (h.moved hb1); have HN := Lib.hid hn; have HR := Lib.hid (hr.moved hb1); have HM := Lib.hid hm; have HR2 := Lib.hid (hr2.moved hb1)
  obtain ⟨W1, hW1⟩ : ∃ W1, W0.alloc (Obj.cells #[.int .i64 st, .slice A n c, .int .i64 st2, .slice A2 m c3] 65) = W1 := ⟨_, rfl⟩
  rw [hW1] at CW HNT HR HR2 hb1 hbl
  have HB1 := Lib.hid hb1
  have HK0 := Lib.hid ((hbl.cell (p := ⟨w.heap.size, 0, none⟩) (by show w.heap.size < _; omega)).trans k0)
  have HK1 := Lib.hid ((hbl.cell (p := ⟨w.heap.size, 1, none⟩) (by show w.heap.size < _; omega)).trans k1)
  have HK2 := Lib.hid ((hbl.cell (p := ⟨w.heap.size + 1, 0, none⟩) (by show w.heap.size + 1 < _; omega)).trans k2)
  have HK3 := Lib.hid ((hbl.cell (p := ⟨w.heap.size + 1, 1, none⟩) (by show w.heap.size + 1 < _; omega)).trans k3)
  have HK4 := Lib.hid ((hbl.cell (p := ⟨w.heap.size + 1 + 1, 0, none⟩) (by show w.heap.size + 1 + 1 < _; omega)).trans k4)
  have HK5 := Lib.hid ((hbl.cell (p := ⟨w.heap.size + 1 + 1, 1, none⟩) (by show w.heap.size + 1 + 1 < _; omega)).trans k5)
  have HSL : Hid (w.heap.size + 3 < W1.heap.size) := Lib.hid (by rw [← hW1]; simp; omega)
  have HW0 := Lib.hid hW0; have HW1 := Lib.hid hW1
  clear h hn hr hm hr2 hb0 hb1 hbl hW0 hW1 hsz k0 k1 k2 k3 k4 k5
  obtain ⟨kb, hkb⟩ : ∃ b, pb (1 ≤ kind ∧ kind ≤ 3) = b := ⟨_, rfl⟩
  have HKB := Lib.hid hkb
  have CD := Lib.hid (dj_ kind W0)
  rw [hkb] at CD
  clear hkb
  go_enter Try.func46, Try.ntmps46
  go_wp2_with fail
  try rw [HW0.out]
  refine CD.out.mono ?_
  rintro e w0 ⟨fv, rfl, rfl, HFV⟩
  have z0 : W0.cell? ⟨w.heap.size, 0, none⟩ = some (.slice (some ⟨g1, 0, none⟩) n1 c1) := by rw [← HW0.out]; simp [go_sem]
  have z1 : W0.cell? ⟨w.heap.size, 1, none⟩ = some (.slice (some ⟨g2, 0, none⟩) n2 c2) := by rw [← HW0.out]; simp [go_sem]
  have z2 : W0.cell? ⟨w.heap.size + 1, 0, none⟩ = some (.int .i64 st) := by rw [← HW0.out]; simp [go_sem]
  have z3 : W0.cell? ⟨w.heap.size + 1, 1, none⟩ = some (.slice A n c) := by rw [← HW0.out]; simp [go_sem]
  have z4 : W0.cell? ⟨w.heap.size + 1 + 1, 0, none⟩ = some (.int .i64 st2) := by rw [← HW0.out]; simp [go_sem]
  have z5 : W0.cell? ⟨w.heap.size + 1 + 1, 1, none⟩ = some (.slice A2 m c3) := by rw [← HW0.out]; simp [go_sem]
  have z6 : W0.heap.size = w.heap.size + 1 + 1 + 1 := by rw [← HW0.out]; simp
  go_wp2_with fail
  clear z0 z1 z2 z3 z4 z5
  try rw [HW1.out]
  refine CW.out.mono ?_
  rintro e w1 ⟨hb2, h2⟩
  have HB2 := Lib.hid (HB1.out.trans (hb2.mono HB1.out.size))
  clear z6
  have l0 := (hb2.cell (p := ⟨w.heap.size, 0, none⟩) (by show w.heap.size < _; have := HSL.out; omega)).trans HK0.out
  have l1 := (hb2.cell (p := ⟨w.heap.size, 1, none⟩) (by show w.heap.size < _; have := HSL.out; omega)).trans HK1.out
  have hg0 : w.heap.size < w1.heap.size := by have := HSL.out; have := hb2.size; omega
  have HNT2 := Lib.hid (HNT.out.moved hb2)
  clear hb2
  rcases h2 with ⟨hcr, rfl⟩ | ⟨gw, ga, gb, va, vb, hcr, hva, hvb, rfl, hgw1, hgw2, hc0, hc1, hla, hlb⟩
  · have HE := Lib.hid (HNO.out (fun hp => by rw [hp.1] at hcr; cases hcr))
    clear hcr l0 l1 hg0
    cases kb <;>
    · go_wp2
      go_ret2
      exact ⟨ret_tupC HE.out, HB2.out⟩
  cases kb
  case false =>
    have HE := Lib.hid (HNO.out (fun hp => of_npb HKB.out hp.2.1))
    clear hcr l0 l1 hg0 hc0 hc1
    go_wp2
    go_ret2
    exact ⟨ret_tupC HE.out, HB2.out⟩
  case true =>
  obtain ⟨hv, hmx, hmy⟩ := cr_mem hcr
  have HCR := Lib.hid hcr; have HV := Lib.hid hv; have HMX := Lib.hid hmx; have HMY := Lib.hid hmy; have HVA := Lib.hid hva; have HVB := Lib.hid hvb; have HLA := Lib.hid hla; have HLB := Lib.hid hlb; have HC0 := Lib.hid hc0; have HC1 := Lib.hid hc1; have HGW := Lib.hid hgw2
  have CG := Lib.hid (groupMasks_ HNT2.out)
  rw [gmV_yes hv, pb_true hv] at CG
  clear hcr hv hmx hmy hva hvb hla hlb hc0 hc1 hgw1 hgw2
  go_wp2_with fail
  clear l0 l1 hg0
  refine CG.out.mono ?_
  rintro e w3 ⟨A9, N9, d9, rfl, HN9, ho9, hb3⟩
  have HB3 := Lib.hid (HB2.out.trans (hb3.mono HB2.out.size))
  have HO9 := Lib.hid (Rd.ofOwn ho9)
  have HK3 : Hid (∀ U, Below w3.heap.size w3 U → (U.cell? ⟨gw, 0, none⟩ = some (.pointer (some ⟨ga, 0, none⟩)) ∧ U.cell? ⟨gw, 1, none⟩ = some (.pointer (some ⟨gb, 0, none⟩)) ∧ gw < U.heap.size ∧ Bel w3 U)) := Lib.hid fun U hU => by
    have hb9 : Below w1.heap.size w1 U := hb3.trans (hU.mono hb3.size)
    exact ⟨(hb9.cell (p := ⟨gw, 0, none⟩) HGW.out).trans HC0.out, (hb9.cell (p := ⟨gw, 1, none⟩) HGW.out).trans HC1.out, Nat.lt_of_lt_of_le HGW.out hb9.size, Bel.of hU⟩
  have HLA3 : Hid (∀ U, Below w3.heap.size w3 U → Lk fs U ga xs.reverse va) := Lib.hid fun U hU => Lk.over (hb3.trans (hU.mono hb3.size)) HLA.out
  have HLB3 : Hid (∀ U, Below w3.heap.size w3 U → Lk fs U gb ys.reverse vb) := Lib.hid fun U hU => Lk.over (hb3.trans (hU.mono hb3.size)) HLB.out
  clear ho9 hb3
  have HVA2 : Hid (routeN ss.length fs st xs = some va) := Lib.hid (by rw [HLN.out]; exact HVA.out)
  have HVB2 : Hid (routeN ss.length fs st2 ys = some vb) := Lib.hid (by rw [HLN.out]; exact HVB.out)
  have FA := Lib.hid (routeN_facts HV.out HVA2.out)
  have FB := Lib.hid (routeN_facts HV.out HVB2.out)
  have HN8 : Hid (ss.length ≤ 8) := Lib.hid HV.out.1.2
  have HF14 : Hid (fs.length ≤ 14) := Lib.hid HV.out.2.1
  have HG14 : Hid ((rgL fs).length ≤ 14) := Lib.hid (by have := rgp_len fs; have := HF14.out; omega)
  have HGMB : Hid (∀ z ∈ rgL fs, mkN z < 2 ^ 20) := Lib.hid fun z hz => maskT_lt (rgp_bd HV.out hz)
  have HNG : Hid ((rgL fs).length = N9) := Lib.hid (by rw [HN9.out]; unfold gmL; rw [List.length_map])
  have MX : Hid (mkN xs < 2 ^ 20) := Lib.hid (maskT_lt (mem_bd HV.out rfl HMX.out))
  have MY : Hid (mkN ys < 2 ^ 20) := Lib.hid (maskT_lt (mem_bd HV.out rfl HMY.out))
  have MI : Hid (mkN (inn va) < 2 ^ 20) := Lib.hid (maskT_lt (fun k hk => by have h9 := FA.out.2.1 _ (mem_inn (List.getElem_mem hk)); rw [nth_eq hk] at h9; have := HN8.out; omega))
  have MJ : Hid (mkN (inn vb) < 2 ^ 20) := Lib.hid (maskT_lt (fun k hk => by have h9 := FB.out.2.1 _ (mem_inn (List.getElem_mem hk)); rw [nth_eq hk] at h9; have := HN8.out; omega))
  have GL : Hid (∀ m, grM (rgL fs) m (rgL fs).length < 2 ^ 20) := Lib.hid fun m => Nat.lt_of_lt_of_le (grM_lt _ _ _) (Nat.pow_le_pow_right (by decide) (by have := HG14.out; omega))
  have AF := Lib.hid (ad_F HV.out HMX.out HMY.out)
  have AG := Lib.hid (ad_G HV.out HMX.out HMY.out)
  have AI : Hid (st = st2 → va.headD 0 = vb.headD 0 → ((mkN (inn va) &&& mkN (inn vb) = 0) ↔ shB 1 va.reverse vb.reverse = false)) := Lib.hid fun h1 h2 => ad_I HV.out HVA2.out HVB2.out h1 h2
  have HADP : Hid (adP ss fs st xs st2 ys kind ↔ (st = st2 ∧ va.headD 0 = vb.headD 0)) := Lib.hid ⟨fun hp => ⟨hp.2.2.1, by have h9 := hp.2.2.2; rw [rtV_eq HVA2.out, rtV_eq HVB2.out] at h9; exact h9⟩, fun e => ⟨HCR.out, of_pb HKB.out, e.1, by rw [rtV_eq HVA2.out, rtV_eq HVB2.out]; exact e.2⟩⟩
  have HYES2 : Hid (st = st2 → va.headD 0 = vb.headD 0 → (.tuple #[.bool (disB fs kind xs ys va vb), .bool true] : Value) = R) := Lib.hid fun h1 h2 => HYES.out (HADP.out.2 ⟨h1, h2⟩) va vb HVA2.out HVB2.out
  have HNO2 : Hid (¬ (st = st2 ∧ va.headD 0 = vb.headD 0) → (.tuple #[.bool false, .bool false] : Value) = R) := Lib.hid fun e => HNO.out (fun hp => e (HADP.out.1 hp))
  have CT1 := Lib.hid (fun (U : World) (hU : Below w3.heap.size w3 U) => trace_ (cg := d9) U (HLA3.out U hU) (by rw [List.length_reverse]; exact FA.out.2.2.2.1) (by rw [List.length_reverse]; exact HLX.out.1) (fun x hx => by have := HMX.out x (List.mem_reverse.1 hx); have := HF14.out; omega) (fun v hv => by have := FA.out.2.1 v hv; have := HN8.out; omega) HG14.out HGMB.out HNG.out (HO9.out.moved hU))
  have CT2 := Lib.hid (fun (U : World) (hU : Below w3.heap.size w3 U) => trace_ (cg := d9) U (HLB3.out U hU) (by rw [List.length_reverse]; exact FB.out.2.2.2.1) (by rw [List.length_reverse]; exact HLX.out.2) (fun x hx => by have := HMY.out x (List.mem_reverse.1 hx); have := HF14.out; omega) (fun v hv => by have := FB.out.2.1 v hv; have := HN8.out; omega) HG14.out HGMB.out HNG.out (HO9.out.moved hU))
  rw [List.reverse_reverse, FA.out.2.2.2.2.1] at CT1
  rw [List.reverse_reverse, FB.out.2.2.2.2.1] at CT2
  obtain ⟨xb, hxb⟩ : ∃ v, va.headD 0 = v := ⟨_, rfl⟩
  obtain ⟨yb, hyb⟩ : ∃ v, vb.headD 0 = v := ⟨_, rfl⟩
  have GLX := Lib.hid (GL.out (mkN xs)); have GLY := Lib.hid (GL.out (mkN ys))
  rw [hxb] at CT1 AI HYES2 HNO2
  rw [hyb] at CT2 AI HYES2 HNO2
  obtain ⟨xF, hxF⟩ : ∃ v, mkN xs = v := ⟨_, rfl⟩
  obtain ⟨yF, hyF⟩ : ∃ v, mkN ys = v := ⟨_, rfl⟩
  rw [hxF] at CT1 MX AF AG GLX
  rw [hyF] at CT2 MY AF AG GLY
  obtain ⟨xG, hxG⟩ : ∃ v, grM (rgL fs) xF (rgL fs).length = v := ⟨_, rfl⟩
  obtain ⟨yG, hyG⟩ : ∃ v, grM (rgL fs) yF (rgL fs).length = v := ⟨_, rfl⟩
  rw [hxG] at CT1 AG GLX
  rw [hyG] at CT2 AG GLY
  obtain ⟨xI, hxI⟩ : ∃ v, mkN (inn va) = v := ⟨_, rfl⟩
  obtain ⟨yI, hyI⟩ : ∃ v, mkN (inn vb) = v := ⟨_, rfl⟩
  rw [hxI] at CT1 MI AI
  rw [hyI] at CT2 MJ AI
  clear hxb hyb hxF hyF hxG hyG hxI hyI
  obtain ⟨xa, hxa⟩ : ∃ v, st = v := ⟨_, rfl⟩
  obtain ⟨ya, hya⟩ : ∃ v, st2 = v := ⟨_, rfl⟩
  rw [hxa] at CT1 HYES2 HNO2 AI
  rw [hya] at CT2 HYES2 HNO2 AI
  clear hxa hya
  have CA : Hid (∀ U, Below w3.heap.size w3 U → Calls Try.prog 104 #[.slice A9 N9 d9, .pointer (some ⟨ga, 0, none⟩)] U fun e w' => e = .returned (.agg #[.int .i64 xa, .int .i64 xb, .int .i64 (xF : Int), .int .i64 (xG : Int), .int .i64 (xI : Int)]) ∧ Below U.heap.size U w') := CT1
  have CB : Hid (∀ U, Below w3.heap.size w3 U → Calls Try.prog 104 #[.slice A9 N9 d9, .pointer (some ⟨gb, 0, none⟩)] U fun e w' => e = .returned (.agg #[.int .i64 ya, .int .i64 yb, .int .i64 (yF : Int), .int .i64 (yG : Int), .int .i64 (yI : Int)]) ∧ Below U.heap.size U w') := CT2
  obtain ⟨q0, q1, q2, _⟩ := HK3.out w3 (Below.refl _ _)
  have HU0 := Lib.hid (Below.refl w3.heap.size w3)
  clear CT1 CT2
  go_upto_region 6 with fail
  go_cut [16, 17] (fun s16 s17 wx => ∃ b1 b2 : Nat, s16 = .pointer (some ⟨b1, 0, none⟩) ∧ s17 = .pointer (some ⟨b2, 0, none⟩) ∧ Hid (wx.cell? ⟨b1, 0, none⟩ = some (.int .i64 xa) ∧ wx.cell? ⟨b1, 1, none⟩ = some (.int .i64 xb) ∧ wx.cell? ⟨b1, 2, none⟩ = some (.int .i64 (xF : Int)) ∧ wx.cell? ⟨b1, 3, none⟩ = some (.int .i64 (xG : Int)) ∧ wx.cell? ⟨b1, 4, none⟩ = some (.int .i64 (xI : Int)) ∧ b1 < wx.heap.size) ∧ Hid (wx.cell? ⟨b2, 0, none⟩ = some (.int .i64 ya) ∧ wx.cell? ⟨b2, 1, none⟩ = some (.int .i64 yb) ∧ wx.cell? ⟨b2, 2, none⟩ = some (.int .i64 (yF : Int)) ∧ wx.cell? ⟨b2, 3, none⟩ = some (.int .i64 (yG : Int)) ∧ wx.cell? ⟨b2, 4, none⟩ = some (.int .i64 (yI : Int)) ∧ b2 < wx.heap.size) ∧ Bel w3 wx)
  case first =>
    go_region_held3 (fun U => U.cell? ⟨gw, 0, none⟩ = some (.pointer (some ⟨ga, 0, none⟩)) ∧ U.cell? ⟨gw, 1, none⟩ = some (.pointer (some ⟨gb, 0, none⟩)) ∧ gw < U.heap.size ∧ Bel w3 U)
      (with_reducible refine HK3.out _ ?_; (repeat (first | with_reducible exact HU2.out | with_reducible exact HU1.out | with_reducible exact HU0.out | with_reducible refine bB7 ?_ | with_reducible refine bDr7 ?_ | (with_reducible refine bSe7 ?_ ?_; (first | exact Nat.le_refl _ | omega)))))
      (first
      | (go_at_call 104; (with_reducible refine (CA.out _ ?_).mono ?_); (focus ((repeat (first | with_reducible exact HU2.out | with_reducible exact HU1.out | with_reducible exact HU0.out | with_reducible refine bB7 ?_ | with_reducible refine bDr7 ?_ | (with_reducible refine bSe7 ?_ ?_; (first | exact Nat.le_refl _ | omega)))); done)); rintro e u1 ⟨rfl, hb1⟩; have HU1 : Hid (Below w3.heap.size w3 u1) := Lib.hid (by refine belT ?_ hb1; (repeat (first | with_reducible exact HU2.out | with_reducible exact HU1.out | with_reducible exact HU0.out | with_reducible refine bB7 ?_ | with_reducible refine bDr7 ?_ | (with_reducible refine bSe7 ?_ ?_; (first | exact Nat.le_refl _ | omega))))); have sz1 := HU1.out.size; (first | (refine five7c (b := w3.heap.size) hb1 ?_ ?_; (first | (focus omega) | (focus (simp; done)) | (focus (simp; omega))); rintro ⟨⟨_, _, _, _, _⟩, ⟨_, _, _, _, _⟩, _, _, _, _, _⟩) | skip); (first | (refine five7c (b := w3.heap.size + 1) hb1 ?_ ?_; (first | (focus omega) | (focus (simp; done)) | (focus (simp; omega))); rintro ⟨⟨_, _, _, _, _⟩, ⟨_, _, _, _, _⟩, _, _, _, _, _⟩) | skip))
      | (go_at_call 104; (with_reducible refine (CB.out _ ?_).mono ?_); (focus ((repeat (first | with_reducible exact HU2.out | with_reducible exact HU1.out | with_reducible exact HU0.out | with_reducible refine bB7 ?_ | with_reducible refine bDr7 ?_ | (with_reducible refine bSe7 ?_ ?_; (first | exact Nat.le_refl _ | omega)))); done)); rintro e u2 ⟨rfl, hb2⟩; have HU2 : Hid (Below w3.heap.size w3 u2) := Lib.hid (by refine belT ?_ hb2; (repeat (first | with_reducible exact HU2.out | with_reducible exact HU1.out | with_reducible exact HU0.out | with_reducible refine bB7 ?_ | with_reducible refine bDr7 ?_ | (with_reducible refine bSe7 ?_ ?_; (first | exact Nat.le_refl _ | omega))))); have sz2 := HU2.out.size; (first | (refine five7c (b := w3.heap.size) hb2 ?_ ?_; (first | (focus omega) | (focus (simp; done)) | (focus (simp; omega))); rintro ⟨⟨_, _, _, _, _⟩, ⟨_, _, _, _, _⟩, _, _, _, _, _⟩) | skip); (first | (refine five7c (b := w3.heap.size + 1) hb2 ?_ ?_; (first | (focus omega) | (focus (simp; done)) | (focus (simp; omega))); rintro ⟨⟨_, _, _, _, _⟩, ⟨_, _, _, _, _⟩, _, _, _, _, _⟩) | skip); (first | (refine five7c (b := u1.heap.size) hb2 ?_ ?_; (first | (focus omega) | (focus (simp; done)) | (focus (simp; omega))); rintro ⟨⟨_, _, _, _, _⟩, ⟨_, _, _, _, _⟩, _, _, _, _, _⟩) | skip); (first | (refine five7c (b := u1.heap.size + 1) hb2 ?_ ?_; (first | (focus omega) | (focus (simp; done)) | (focus (simp; omega))); rintro ⟨⟨_, _, _, _, _⟩, ⟨_, _, _, _, _⟩, _, _, _, _, _⟩) | skip)))
    all_goals
      go_wp2_with fail
      go_meet
      refine ⟨_, _, rfl, rfl, Lib.hid ⟨?_, ?_, ?_, ?_, ?_, ?_⟩, Lib.hid ⟨?_, ?_, ?_, ?_, ?_, ?_⟩, Bel.of ?_⟩
      all_goals (first | (go_simp; done) | (repeat (first | with_reducible exact HU2.out | with_reducible exact HU1.out | with_reducible exact HU0.out | with_reducible refine bB7 ?_ | with_reducible refine bDr7 ?_ | (with_reducible refine bSe7 ?_ ?_; (first | exact Nat.le_refl _ | omega)))) | (simp; omega) | omega)
  case rest =>
  clear CA CB q0 q1 q2 HU0
  revert hcut; generalize wc = w4; intro hcut
  obtain ⟨b1, b2, h16_, h17_, HP1, HP2, hbl⟩ := hcut
  subst h16_ h17_
  have HB4 := Lib.hid (HB3.out.trans ((Bel.out hbl).mono HB3.out.size))
  obtain ⟨p0, p1, p2, p3, p4, p5⟩ := HP1.out
  obtain ⟨r0, r1, r2, r3, r4, r5⟩ := HP2.out
  clear hbl
  by_cases h1 : xa = ya
  case neg =>
    have HE := Lib.hid (HNO2.out (fun e => h1 e.1))
    have e1 : (xa == ya) = false := beq_eq_false_iff_ne.2 h1
    go_wp2
    go_ret2
    exact ⟨ret_tupC HE.out, HB4.out⟩
  case pos =>
  subst h1
  by_cases h2 : xb = yb
  case neg =>
    have HE := Lib.hid (HNO2.out (fun e => h2 e.2))
    have e2 : (xb == yb) = false := beq_eq_false_iff_ne.2 h2
    go_wp2
    go_ret2
    exact ⟨ret_tupC HE.out, HB4.out⟩
  case pos =>
  subst h2
  have HE := Lib.hid (HYES2.out rfl rfl)
  obtain ⟨z, hz⟩ : ∃ z, disB fs kind xs ys va vb = z := ⟨_, rfl⟩
  have HZ := Lib.hid hz
  rw [hz] at HE
  clear hz
  have hkk := of_pb HKB.out
  rcases (show kind = 1 ∨ kind = 2 ∨ kind = 3 by omega) with rfl | rfl | rfl
  · obtain rfl := HFV.out.1 rfl
    have CD1 := Lib.hid (dis1_ xa xb xF xG xI xa xb yF yG yI w4 MX.out MY.out)
    unfold trA at CD1
    rw [trD AF.out, show (!shB 0 xs ys) = z by rw [← HZ.out]; unfold disB; rw [if_pos rfl]] at CD1
    go_wp2_with fail
    refine CD1.out.mono ?_
    rintro e w5 ⟨rfl, hb5⟩
    clear p0 p1 p2 p3 p4 p5 r0 r1 r2 r3 r4 r5
    go_wp2
    go_ret2
    exact ⟨ret_tupC HE.out, HB4.out.trans (hb5.mono HB4.out.size)⟩
  · obtain rfl := HFV.out.2.1 rfl
    have CD1 := Lib.hid (dis2_ xa xb xF xG xI xa xb yF yG yI w4 GLX.out GLY.out)
    unfold trA at CD1
    rw [trP AG.out, show pb (apP fs xs ys) = z by rw [← HZ.out]; unfold disB; rw [if_neg (by omega), if_pos rfl]] at CD1
    go_wp2_with fail
    refine CD1.out.mono ?_
    rintro e w5 ⟨rfl, hb5⟩
    clear p0 p1 p2 p3 p4 p5 r0 r1 r2 r3 r4 r5
    go_wp2
    go_ret2
    exact ⟨ret_tupC HE.out, HB4.out.trans (hb5.mono HB4.out.size)⟩
  · obtain rfl := HFV.out.2.2 rfl
    have CD1 := Lib.hid (dis3_ xa xb xF xG xI xa xb yF yG yI w4 MX.out MY.out MI.out MJ.out)
    unfold trA at CD1
    rw [trD AF.out, trD (AI.out rfl rfl), show (!shB 0 xs ys && !shB 1 va.reverse vb.reverse) = z by rw [← HZ.out]; unfold disB; rw [if_neg (by omega), if_neg (by omega)]] at CD1
    go_wp2_with fail
    refine CD1.out.mono ?_
    rintro e w5 ⟨rfl, hb5⟩
    clear p0 p1 p2 p3 p4 p5 r0 r1 r2 r3 r4 r5
    go_wp2
    go_ret2
    exact ⟨ret_tupC HE.out, HB4.out.trans (hb5.mono HB4.out.size)⟩
end Go.Proofs.Ytkpendpjdemknaa
