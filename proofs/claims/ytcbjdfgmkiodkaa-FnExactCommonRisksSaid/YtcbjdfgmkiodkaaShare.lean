/- Lists with an element in common, and the risk groups that two routes have in common: contracts of spec.l7Share, spec.CommonRisks. No condition but those typed. -/
import Derived.Test.YtcbjdfgmkiodkaaTwo
import Derived.Test.YtcbjdfgmkiodkaaGB
namespace Go.Proofs.Ytcbjdfgmkiodkaa
open Go.ChangeShapes Go.WideShapes Go.ChangeAt Go.RowKit

noncomputable def shB (k0 : Nat) (xs ys : List Int) : Bool := pb (∃ j, k0 ≤ j ∧ j + k0 < xs.length ∧ nth xs j ∈ ys)
theorem sh_any (xs ys : List Int) : shB 0 xs ys = (ys.any fun f => decide (f ∈ xs)) := by
  unfold shB
  by_cases h : ∃ j, 0 ≤ j ∧ j + 0 < xs.length ∧ nth xs j ∈ ys
  · rw [pb_true h]
    obtain ⟨j, _, hj, hm⟩ := h
    exact (List.any_eq_true.2 ⟨_, hm, decide_eq_true (by rw [← nth_eq (by omega)]; exact List.getElem_mem _)⟩).symm
  · rw [pb_false h]
    symm
    rw [List.any_eq_false]
    intro f hf hc
    obtain ⟨j, hj, e⟩ := mem_nth.1 (of_decide_eq_true hc)
    exact h ⟨j, Nat.zero_le _, by omega, by rw [e]; exact hf⟩
set_option maxRecDepth 100000 in
set_option maxHeartbeats 2000000 in
theorem share_ (A : Option Addr) (n c : Nat) (xs : List Int) (B : Option Addr) (m d : Nat) (ys : List Int) (k0 : Nat) (hk0 : k0 ≤ 10) (w : World) (hn : xs.length = n) (hr : Rd w w.heap.size A (xs.map (Value.int .i64))) (hs : n ≤ 1048576) (hm : ys.length = m) (hr2 : Rd w w.heap.size B (ys.map (Value.int .i64))) (hs2 : m ≤ 1048576) :
    Calls Try.prog 131 #[.slice A n c, .slice B m d, .int .i64 (k0 : Int)] w fun e w' => e = .returned (.bool (shB k0 xs ys)) ∧ w = w' := by
  have HN := Lib.hid hn; have HR := Lib.hid hr
  have CH : Hid (∀ x : Int, Calls Try.prog 175 #[.slice B m d, .int .i64 x] w fun e w' => e = .returned (.bool (decide (x ∈ ys))) ∧ w = w') := Lib.hid (fun x => has_ B m d ys x w hm hr2 (by omega))
  have HYES : Hid (∀ j, k0 ≤ j → j + k0 < n → nth xs j ∈ ys → shB k0 xs ys = true) := Lib.hid (fun j h1 h2 h3 => by unfold shB; exact pb_true ⟨j, h1, by omega, h3⟩)
  have HNO : Hid ((∀ j, k0 ≤ j → j + k0 < n → ¬ nth xs j ∈ ys) → shB k0 xs ys = false) := Lib.hid (fun h => by
    unfold shB
    refine pb_false ?_
    rintro ⟨j, h1, h2, h3⟩
    exact h j h1 (by omega) h3)
  obtain ⟨R, hR⟩ : ∃ R, shB k0 xs ys = R := ⟨_, rfl⟩
  rw [hR] at HYES HNO ⊢
  clear hn hr hm hr2 hR
  have e1 : IntKind.i64.wrap ((n : Int) - (k0 : Int)) = (n : Int) - (k0 : Int) := IntWalk.i64_in _ (by omega)
  go_enter Try.func131, Try.ntmps131
  go_wp2
  go_loop [7] (fun i => ∃ k : Nat, k0 ≤ k ∧ k ≤ n + k0 ∧ i = .int .i64 k ∧ Hid (∀ j, k0 ≤ j → j < k → ¬ nth xs j ∈ ys)) (fun i => n + k0 - (intOf i).toNat)
  case atStart => exact ⟨k0, Nat.le_refl _, by omega, rfl, Lib.hid (fun j h1 h2 => by omega)⟩
  case round =>
    obtain ⟨k, hk0', hk, rfl, HA⟩ := hrel
    by_cases hlt : (k : Int) < (n : Int) - (k0 : Int)
    case neg =>
      have HE : Hid (R = false) := Lib.hid (HNO.out (fun j h1 h2 => HA.out j h1 (by omega)))
      go_wp2
      go_ret
      exact ⟨retb HE.out.symm, rfl⟩
    case pos =>
    have hks : k < xs.length := by have := HN.out; omega
    obtain ⟨ad, hA, hbl, hc⟩ := ints_at HR.out hks
    subst hA
    rw [nth_eq hks] at hc
    have hkn : (k : Int) < n := by omega
    have CC := Lib.hid (CH.out (nth xs k))
    cases hb : decide (nth xs k ∈ ys)
    case true =>
      have HE : Hid (R = true) := Lib.hid (HYES.out k hk0' (by omega) (of_decide_eq_true hb))
      rw [hb] at CC
      clear hb
      go_wp2_with fail
      refine CC.out.mono ?_
      rintro e w' ⟨rfl, rfl⟩
      go_wp2
      go_ret
      exact ⟨retb HE.out.symm, rfl⟩
    case false =>
      have HA2 : Hid (∀ j, k0 ≤ j → j < k + 1 → ¬ nth xs j ∈ ys) := Lib.hid (fun j h1 h2 => by
        by_cases e : j = k
        · subst e; exact of_decide_eq_false hb
        · exact HA.out j h1 (by omega))
      rw [hb] at CC
      clear hb
      go_wp2_with fail
      refine CC.out.mono ?_
      rintro e w' ⟨rfl, rfl⟩
      go_wp2
      go_round
      case rel => exact ⟨k + 1, by omega, by omega, by go_num, HA2⟩
      case measure => simp [intOf]; omega

set_option maxRecDepth 100000 in
set_option maxHeartbeats 8000000 in
theorem specCM {g1 g2 n1 n2 c1 c2 : Nat} {ss : List ByteArray} {fs : List Q4} {w : World} (h : NetAt g1 g2 n1 n2 c1 c2 ss fs w) (st : Int) {A : Option Addr} {n c : Nat} {xs : List Int} (hn : xs.length = n) (hr : Rd w w.heap.size A (xs.map (Value.int .i64))) (hx : n ≤ 1048576) (st2 : Int) {A2 : Option Addr} {m c3 : Nat} {ys : List Int} (hm : ys.length = m) (hr2 : Rd w w.heap.size A2 (ys.map (Value.int .i64))) (hx2 : m ≤ 1048576) :
    Calls Try.prog 39 #[.agg #[.slice (some ⟨g1, 0, none⟩) n1 c1, .slice (some ⟨g2, 0, none⟩) n2 c2], .agg #[.int .i64 st, .slice A n c], .agg #[.int .i64 st2, .slice A2 m c3]] w (IntsP (cmL ss fs st xs st2 ys) (crB ss fs st xs st2 ys) w) := by
  have HNT := Lib.hid h; have HN := Lib.hid hn; have HR := Lib.hid hr; have HM := Lib.hid hm; have HR2 := Lib.hid hr2
  have HL2 := Lib.hid h.ln2
  clear h hn hr hm hr2
  obtain ⟨RL, hRL⟩ : ∃ r, cmL ss fs st xs st2 ys = r := ⟨_, rfl⟩
  obtain ⟨RB, hRB⟩ : ∃ r, crB ss fs st xs st2 ys = r := ⟨_, rfl⟩
  have HNO : Hid (crB ss fs st xs st2 ys = false → RL = [] ∧ RB = false) := Lib.hid (fun e => by rw [← hRL, ← hRB]; exact cm_no e)
  have HYES : Hid (crB ss fs st xs st2 ys = true → RL = bothK (rgL fs) xs ys (rgL fs).length ∧ RB = true) := Lib.hid (fun e => by rw [← hRL, ← hRB]; exact ⟨cm_yes e, e⟩)
  rw [hRL, hRB]
  clear hRL hRB
  go_enter Try.func39, Try.ntmps39
  go_wp2_with fail
  obtain ⟨W0, hW0⟩ : ∃ W0, (((w.alloc (Obj.cells #[.slice (some ⟨g1, 0, none⟩) n1 c1, .slice (some ⟨g2, 0, none⟩) n2 c2] 32)).alloc (Obj.cells #[.int .i64 st, .slice A n c] 45)).alloc (Obj.cells #[.int .i64 st2, .slice A2 m c3] 45)).alloc (Obj.cells #[] 3) = W0 := ⟨_, rfl⟩
  have hb0 : Below w.heap.size w W0 := by rw [← hW0]; exact ((((Below.refl _ _).alloc (Nat.le_refl _) _).alloc (by simp) _).alloc (by simp; omega) _).alloc (by simp; omega) _
  have k0 : W0.cell? ⟨w.heap.size, 0, none⟩ = some (.slice (some ⟨g1, 0, none⟩) n1 c1) := by rw [← hW0]; simp [go_sem]
  have k1 : W0.cell? ⟨w.heap.size, 1, none⟩ = some (.slice (some ⟨g2, 0, none⟩) n2 c2) := by rw [← hW0]; simp [go_sem]
  have k2 : W0.cell? ⟨w.heap.size + 1, 0, none⟩ = some (.int .i64 st) := by rw [← hW0]; simp [go_sem]
  have k3 : W0.cell? ⟨w.heap.size + 1, 1, none⟩ = some (.slice A n c) := by rw [← hW0]; simp [go_sem]
  have hz0 : w.heap.size + 3 < W0.heap.size := by rw [← hW0]; simp
  have HB0 := Lib.hid hb0; have HK0 := Lib.hid k0; have HK1 := Lib.hid k1; have HK4 : Hid (W0.cell? ⟨w.heap.size + 1 + 1, 0, none⟩ = some (.int .i64 st2)) := Lib.hid (by rw [← hW0]; simp [go_sem]); have HK5 : Hid (W0.cell? ⟨w.heap.size + 1 + 1, 1, none⟩ = some (.slice A2 m c3)) := Lib.hid (by rw [← hW0]; simp [go_sem]); have HO0 : Hid (W0.ownsRow (w.heap.size + 3) 3 1 (.slice (some ⟨w.heap.size + 3, 0, none⟩) 0 0) 0 []) := Lib.hid (by rw [← hW0]; have h9 := World.ownsRow_lit (base := w.heap.size + 3) (e := 3) (size := 1) (((w.alloc (Obj.cells #[.slice (some ⟨g1, 0, none⟩) n1 c1, .slice (some ⟨g2, 0, none⟩) n2 c2] 32)).alloc (Obj.cells #[.int .i64 st, .slice A n c] 45)).alloc (Obj.cells #[.int .i64 st2, .slice A2 m c3] 45)) #[] 0 (by simp) (by unfold maxLen; omega) rfl; simpa using h9); have HK2 := Lib.hid k2; have HK3 := Lib.hid k3; have HZ0 := Lib.hid hz0
  rw [hW0]
  clear hW0 hb0 k0 k1 k2 k3 hz0
  have CG := Lib.hid (l4Good_ (c := c) (HNT.out.moved HB0.out) st HN.out (HR.out.moved HB0.out) hx)
  obtain ⟨b, hb⟩ : ∃ b, routeB ss fs st xs = b := ⟨_, rfl⟩
  rw [hb] at CG
  have HRA := Lib.hid hb
  clear hb
  refine CG.out.mono ?_
  rintro e w1 ⟨rfl, hb1⟩
  have HB1 := Lib.hid (HB0.out.trans (hb1.mono HB0.out.size))
  have HBA1 := Lib.hid hb1
  have HO1 := Lib.hid (ownB HO0.out hb1)
  have k0 := (hb1.cell (p := ⟨w.heap.size, 0, none⟩) (by show w.heap.size < _; have := HZ0.out; omega)).trans HK0.out
  have k1 := (hb1.cell (p := ⟨w.heap.size, 1, none⟩) (by show w.heap.size < _; have := HZ0.out; omega)).trans HK1.out
  have k2 := (hb1.cell (p := ⟨w.heap.size + 1, 0, none⟩) (by show w.heap.size + 1 < _; have := HZ0.out; omega)).trans HK2.out
  have k3 := (hb1.cell (p := ⟨w.heap.size + 1, 1, none⟩) (by show w.heap.size + 1 < _; have := HZ0.out; omega)).trans HK3.out
  have k4 := (hb1.cell (p := ⟨w.heap.size + 1 + 1, 0, none⟩) (by show w.heap.size + 1 + 1 < _; have := HZ0.out; omega)).trans HK4.out
  have k5 := (hb1.cell (p := ⟨w.heap.size + 1 + 1, 1, none⟩) (by show w.heap.size + 1 + 1 < _; have := HZ0.out; omega)).trans HK5.out
  have hg0 : w.heap.size < w1.heap.size := by have := HZ0.out; have := hb1.size; omega
  have hg1 : w.heap.size + 1 < w1.heap.size := by have := HZ0.out; have := hb1.size; omega
  have hg2 : w.heap.size + 1 + 1 < w1.heap.size := by have := HZ0.out; have := hb1.size; omega
  clear hb1
  cases b
  case false =>
    have HE := Lib.hid (HNO.out (by unfold crB; rw [HRA.out]; rfl))
    clear k0 k1 k2 k3 k4 k5 hg0 hg1 hg2
    go_wp2
    go_ret2
    obtain ⟨rfl, rfl⟩ := HE.out
    exact ⟨_, 0, _, rfl, Lib.hid rfl, own_base HO1.out (by omega), HB1.out⟩
  case true =>
  have CG2 := Lib.hid (l4Good_ (c := c3) (HNT.out.moved HB1.out) st2 HM.out (HR2.out.moved HB1.out) hx2)
  obtain ⟨b, hb⟩ : ∃ b, routeB ss fs st2 ys = b := ⟨_, rfl⟩
  rw [hb] at CG2
  have HRB := Lib.hid hb
  clear hb
  go_wp2_with fail
  clear k0 k1 k2 k3 k4 k5 hg0 hg1 hg2
  refine CG2.out.mono ?_
  rintro e w2 ⟨rfl, hb2⟩
  have HB2 := Lib.hid (HB1.out.trans (hb2.mono HB1.out.size))
  have HBA2 := Lib.hid (HBA1.out.trans (hb2.mono HBA1.out.size))
  have HO2 := Lib.hid (ownB HO1.out hb2)
  have k0 := (HBA2.out.cell (p := ⟨w.heap.size, 0, none⟩) (by show w.heap.size < _; have := HZ0.out; omega)).trans HK0.out
  have k1 := (HBA2.out.cell (p := ⟨w.heap.size, 1, none⟩) (by show w.heap.size < _; have := HZ0.out; omega)).trans HK1.out
  have k2 := (HBA2.out.cell (p := ⟨w.heap.size + 1, 0, none⟩) (by show w.heap.size + 1 < _; have := HZ0.out; omega)).trans HK2.out
  have k3 := (HBA2.out.cell (p := ⟨w.heap.size + 1, 1, none⟩) (by show w.heap.size + 1 < _; have := HZ0.out; omega)).trans HK3.out
  have k5 := (HBA2.out.cell (p := ⟨w.heap.size + 1 + 1, 1, none⟩) (by show w.heap.size + 1 + 1 < _; have := HZ0.out; omega)).trans HK5.out
  have hg0 : w.heap.size < w2.heap.size := by have := HZ0.out; have := HBA2.out.size; omega
  clear hb2
  cases b
  case false =>
    have HE := Lib.hid (HNO.out (by unfold crB; rw [HRB.out, Bool.and_false]))
    clear k0 k1 k2 k3 k5 hg0
    go_wp2
    go_ret2
    obtain ⟨rfl, rfl⟩ := HE.out
    exact ⟨_, 0, _, rfl, Lib.hid rfl, own_base HO2.out (by omega), HB2.out⟩
  case true =>
  have hcr : crB ss fs st xs st2 ys = true := by unfold crB; rw [HRA.out, HRB.out]; rfl
  obtain ⟨hv, hmx, hmy⟩ := cr_mem hcr
  have HE := Lib.hid (HYES.out hcr)
  have CL := Lib.hid (l2Groups_ (HNT.out.moved HB2.out) hv)
  have hgl : (rgL fs).length ≤ 14 := by have := rgp_len fs; have := hv.2.1; omega
  have HGS : Hid (∀ g ∈ rgL fs, g.length ≤ 14) := Lib.hid (fun g hg => by have := rgp_le hg; have := hv.2.1; omega)
  obtain ⟨gs, hgs⟩ : ∃ gs, rgL fs = gs := ⟨_, rfl⟩
  rw [hgs] at CL HE hgl HGS
  clear hcr hv hmx hmy hgs
  go_wp2_with fail
  clear k0 k1 k2 k3 k5 hg0
  refine CL.out.mono ?_
  rintro e w3 ⟨A0, N0, d0, zs, rfl, HD, hR3, hb3⟩
  have HB3 := Lib.hid (HB2.out.trans (hb3.mono HB2.out.size))
  have HBA3 := Lib.hid (HBA2.out.trans (hb3.mono HBA2.out.size))
  have HO3 := Lib.hid (ownB HO2.out hb3)
  have HRW := Lib.hid hR3
  have HNL : Hid (N0 = gs.length) := Lib.hid (by have h1 := hR3.len; have h2 := congrArg List.length HD.out; rw [List.length_map] at h2; omega)
  have hn0 : N0 ≤ 14 := by have := HNL.out; omega
  have HGLO : Hid (w.heap.size + 3 ≤ w2.heap.size) := Lib.hid (by have := HZ0.out; have := HBA2.out.size; omega)
  have HGLO3 : Hid (w2.heap.size ≤ w3.heap.size) := Lib.hid hb3.size
  clear hb3 hR3
  go_wp2
  go_loopw [8, 10] (fun v i wr => ∃ (k : Nat) (A1 : Option Addr) (N1 d1 : Nat), k ≤ N0 ∧ i = .int .i64 k ∧ v = .slice A1 N1 d1 ∧ N1 ≤ k ∧ Hid (N1 = (bothK gs xs ys k).length) ∧ Hid (wr.ownsRow (w.heap.size + 3) 3 1 (.slice A1 N1 d1) N1 ((bothK gs xs ys k).map (Value.int .i64))) ∧ Hid (Rws w2.heap.size A0 N0 d0 zs wr) ∧ Hid (∀ y ∈ zs, Apart y.val (.slice A1 N1 d1)) ∧ Below (w.heap.size + 3) W0 wr) (fun _ i _ => N0 - (intOf i).toNat)
  case atStart => exact ⟨0, _, 0, _, Nat.zero_le _, rfl, rfl, Nat.le_refl _, Lib.hid rfl, HO3, HRW, Lib.hid (fun y hy => apart_new HO2.out (HRW.out.own y hy).2 (Nat.le_refl _)), HBA3.out.mono (by have := HZ0.out; omega)⟩
  case round =>
    obtain ⟨k, A1, N1, d1, hk, rfl, rfl, hNk, HN1, HOW, HRR, HBK, hb⟩ := hrel
    have HBR := Lib.hid hb
    have HBW := Lib.hid (HB0.out.trans (hb.mono (by omega)))
    have hsz : w.heap.size + 3 ≤ wr.heap.size := by have := hb.size; have := HZ0.out; omega
    clear hb
    by_cases hlt : k < N0
    case neg =>
      have hkL : k = gs.length := by have := HNL.out; omega
      have HF : Hid (RL = bothK gs xs ys k) := Lib.hid (by rw [HE.out.1, hkL])
      go_wp2
      go_ret2
      rw [HF.out, HE.out.2]
      exact ⟨A1, N1, d1, rfl, HN1, own_base HOW.out (by omega), HBW.out⟩
    case pos =>
    have hkz : k < zs.length := by have := HRR.out.len; omega
    have hkl : k < gs.length := by have := HNL.out; omega
    obtain ⟨y, hy⟩ : ∃ y, zs[k]'hkz = y := ⟨_, rfl⟩
    obtain ⟨g, hA0, hg, hc, ho⟩ := HRR.out.at_ hkz hy
    subst hA0
    have hz : y.zs = gs[k] := by
      have h9 := congrArg (fun l : List (List Int) => l[k]?) HD.out
      simp only [List.getElem?_map, List.getElem?_eq_getElem hkz, List.getElem?_eq_getElem hkl, hy, Option.map_some] at h9
      injection h9
    have hgl2 := HGS.out gs[k] (List.getElem_mem hkl)
    have HQ : Hid (bothQ gs xs ys k = ((xs.any fun f => decide (f ∈ y.zs)) && (ys.any fun f => decide (f ∈ y.zs)))) := Lib.hid (by
      unfold bothQ
      rw [show gs.getD k [] = gs[k] by rw [List.getD_eq_getElem?_getD, List.getElem?_eq_getElem hkl]; rfl, hz])
    rw [← hz] at hgl2
    obtain ⟨yA, yn, yc, zz⟩ := y
    obtain ⟨e1, o1⟩ := ho
    simp only at e1 o1 hc hgl2 HQ
    have hyn : yn ≤ 1048576 := by omega
    have HRD := Lib.hid (Rd.ofOwn o1)
    have HEL := Lib.hid e1.symm
    have CA : Hid (∀ W, Below wr.heap.size wr W → Calls Try.prog 131 #[.slice yA yn yc, .slice A n c, .int .i64 0] W fun e w' => e = .returned (.bool (shB 0 zz xs)) ∧ w' = W) := Lib.hid (fun W hW => (share_ yA yn yc zz A n c xs 0 (by omega) W HEL.out (HRD.out.moved hW) hyn HN.out (HR.out.moved (HBW.out.trans (hW.mono HBW.out.size))) hx).mono fun _ _ h => ⟨h.1, h.2.symm⟩)
    have CB : Hid (∀ W, Below wr.heap.size wr W → Calls Try.prog 131 #[.slice yA yn yc, .slice A2 m c3, .int .i64 0] W fun e w' => e = .returned (.bool (shB 0 zz ys)) ∧ w' = W) := Lib.hid (fun W hW => (share_ yA yn yc zz A2 m c3 ys 0 (by omega) W HEL.out (HRD.out.moved hW) hyn HM.out (HR2.out.moved (HBW.out.trans (hW.mono HBW.out.size))) hx2).mono fun _ _ h => ⟨h.1, h.2.symm⟩)
    rw [← sh_any, ← sh_any] at HQ
    obtain ⟨u, hu⟩ : ∃ u, shB 0 zz xs = u := ⟨_, rfl⟩
    obtain ⟨v, hv⟩ : ∃ v, shB 0 zz ys = v := ⟨_, rfl⟩
    rw [hu] at CA HQ
    rw [hv] at CB HQ
    have k3 := (HBR.out.cell (p := ⟨w.heap.size + 1, 1, none⟩) (by show w.heap.size + 1 < _; omega)).trans HK3.out
    have k5 := (HBR.out.cell (p := ⟨w.heap.size + 1 + 1, 1, none⟩) (by show w.heap.size + 1 + 1 < _; omega)).trans HK5.out
    have hg1 : w.heap.size + 1 < wr.heap.size := by omega
    have hg2 : w.heap.size + 1 + 1 < wr.heap.size := by omega
    clear hu hv hy hz hkz hkl e1 o1 hgl2
    cases u
    case false =>
      have HTO : Hid (bothK gs xs ys (k + 1) = bothK gs xs ys k) := Lib.hid (sel_out HQ.out)
      have HN2 : Hid (N1 = (bothK gs xs ys (k + 1)).length) := Lib.hid (by rw [HTO.out]; exact HN1.out)
      have HO2_ : Hid (wr.ownsRow (w.heap.size + 3) 3 1 (.slice A1 N1 d1) N1 ((bothK gs xs ys (k + 1)).map (Value.int .i64))) := Lib.hid (by rw [HTO.out]; exact HOW.out)
      go_wp2_with fail
      go_quiet ((go_at_call 131; with_reducible exact Calls.quiet_of_same (CA.out _ (drewN_below_ (Below.refl _ _) _))))
      go_wp2
      go_roundw
      case rel => exact ⟨k + 1, A1, N1, d1, by omega, by go_num, rfl, by omega, HN2, Lib.hid (own_heapW rfl HO2_.out), Lib.hid (HRR.out.heapW rfl), HBK, drewN_below_ HBR.out _⟩
      case measure => simp [intOf]; omega
    case true =>
    cases v
    case false =>
      have HTO : Hid (bothK gs xs ys (k + 1) = bothK gs xs ys k) := Lib.hid (sel_out HQ.out)
      have HN2 : Hid (N1 = (bothK gs xs ys (k + 1)).length) := Lib.hid (by rw [HTO.out]; exact HN1.out)
      have HO2_ : Hid (wr.ownsRow (w.heap.size + 3) 3 1 (.slice A1 N1 d1) N1 ((bothK gs xs ys (k + 1)).map (Value.int .i64))) := Lib.hid (by rw [HTO.out]; exact HOW.out)
      go_wp2_with fail
      go_quiet ((go_at_call 131; (first | with_reducible exact Calls.quiet_of_same (CA.out _ (drewN_below_ (Below.refl _ _) _)) | with_reducible exact Calls.quiet_of_same (CB.out _ (drewN_below_ (Below.refl _ _) _)))))
      go_wp2
      go_roundw
      case rel => exact ⟨k + 1, A1, N1, d1, by omega, by go_num, rfl, by omega, HN2, Lib.hid (own_heapW rfl HO2_.out), Lib.hid (HRR.out.heapW rfl), HBK, drewN_below_ HBR.out _⟩
      case measure => simp [intOf]; omega
    case true =>
      have HTO : Hid (bothK gs xs ys (k + 1) = bothK gs xs ys k ++ [(k : Int)]) := Lib.hid (sel_in HQ.out)
      go_wp2_with fail
      go_quiet ((go_at_call 131; (first | with_reducible exact Calls.quiet_of_same (CA.out _ (drewN_below_ (Below.refl _ _) _)) | with_reducible exact Calls.quiet_of_same (CB.out _ (drewN_below_ (Below.refl _ _) _)))))
      obtain ⟨wd, hwd⟩ : ∃ wd, wr.drewN nq = wd := ⟨_, rfl⟩
      have HBD : Hid (Below (w.heap.size + 3) W0 wd) := Lib.hid (by rw [← hwd]; exact drewN_below_ HBR.out _)
      have HOD : Hid (wd.ownsRow (w.heap.size + 3) 3 1 (.slice A1 N1 d1) N1 ((bothK gs xs ys k).map (Value.int .i64))) := Lib.hid (by rw [← hwd]; exact own_heapW rfl HOW.out)
      have HRD2 : Hid (Rws w2.heap.size (some ⟨g, 0, none⟩) N0 d0 zs wd) := Lib.hid (by rw [← hwd]; exact HRR.out.heapW rfl)
      have HSD : Hid (w.heap.size + 3 ≤ wd.heap.size) := Lib.hid (by rw [← hwd]; exact hsz)
      rw [hwd]
      clear hwd hc k3 k5 hg1 hg2 hg
      go_wp2_with (at_builtin; refine wp_app rfl (.tmp 47) (.tmp 49) 39 3 rfl (w.heap.size + 3) Try.underlying39 Try.inf_int rfl (by decide) (by decide) _ N1 _ rfl (HOD.out.alloc _) _ _ [.int .i64 (k : Int)] rfl rfl (news1 (new_at_ _ _ _ _ rfl)) (news_int _) (by omega) (by have := HSD.out; simp; omega) ?_)
      intro A3 d3 N3 w4 hN3 hown3 hgrow3 hloc3
      have HB3_ := Lib.hid ((HBD.out.alloc HSD.out _).grown hgrow3 (by have := HSD.out; simp; omega) (fun g hg => (HOD.out.lt g hg).1))
      have HO3_ : Hid (w4.ownsRow (w.heap.size + 3) 3 1 (.slice A3 N3 d3) N3 ((bothK gs xs ys (k + 1)).map (Value.int .i64))) := Lib.hid (by rw [HTO.out, List.map_append]; exact hown3)
      have HN4 : Hid (N3 = (bothK gs xs ys (k + 1)).length) := Lib.hid (by rw [HTO.out, List.length_append, ← HN1.out, hN3]; rfl)
      have hN5 : N3 ≤ k + 1 := by omega
      have HRD3 : Hid (Rws w2.heap.size (some ⟨g, 0, none⟩) N0 d0 zs w4) := Lib.hid ((HRD2.out.alloc _).grown (HOD.out.alloc _) HBK.out hgrow3)
      have HBK2 : Hid (∀ y ∈ zs, Apart y.val (.slice A3 N3 d3)) := Lib.hid (HRD2.out.loc HBK.out hloc3 (Nat.le_succ _))
      clear hown3 hgrow3 hloc3 hN3
      go_wp2
      go_roundw
      case rel => exact ⟨k + 1, A3, N3, d3, by omega, by go_num, rfl, hN5, HN4, HO3_, HRD3, HBK2, HB3_.out⟩
      case measure => simp [intOf]; omega
end Go.Proofs.Ytcbjdfgmkiodkaa
