/- A plan's copy without a light: contract of spec.l9Without. No condition but those typed. -/
import Derived.Test.YtflniajjecfgeaaGreatDoorL9Own
namespace Go.Proofs.YtflniajjecfgeaaGreatDoor
open Go.ChangeShapes Go.WideShapes Go.ChangeAt Go.RowKit

theorem one_lts (ys : List Lt) : ∀ u ∈ ys.flatMap Lt.cells, u.oneCell' = true := by
  intro u hu
  obtain ⟨y, _, h⟩ := List.mem_flatMap.1 hu
  exact one_lt y u h
theorem take_cells (zs : List Lt) (i : Nat) : (zs.take i).flatMap Lt.cells = (zs.flatMap Lt.cells).take (i * 5) := by
  induction zs generalizing i with
  | nil => simp
  | cons z zs ih =>
    cases i with
    | zero => simp
    | succ i =>
      rw [List.take_succ_cons, List.flatMap_cons, List.flatMap_cons, ih, Nat.succ_mul, Nat.add_comm (i * 5) 5, List.take_append, List.take_of_length_le (l := z.cells) (by rw [Lt.cells_len]; omega), Lt.cells_len, show 5 + i * 5 - 5 = i * 5 by omega]
theorem drop_cells (zs : List Lt) (i : Nat) : (zs.drop i).flatMap Lt.cells = (zs.flatMap Lt.cells).drop (i * 5) := by
  induction zs generalizing i with
  | nil => simp
  | cons z zs ih =>
    cases i with
    | zero => simp
    | succ i =>
      rw [List.drop_succ_cons, List.flatMap_cons, ih, Nat.succ_mul, Nat.add_comm (i * 5) 5, List.drop_append]
      simp [Lt.cells]
theorem cxk5 (g o k : Nat) : (⟨g, o, none⟩ : Addr).add k = ⟨g, o + k, none⟩ := by unfold Addr.add; split <;> simp_all
set_option maxRecDepth 100000 in
set_option maxHeartbeats 8000000 in
theorem l9Without_ {g1 g2 g3 n1 n2 n3 c1 c2 c3 : Nat} {ss : List ByteArray} {fs : List Q4} {ys : List Lt} {w : World} (h : NetAt g1 g2 n1 n2 c1 c2 ss fs w) (hln : ys.length = n3) (hrw : Rd w w.heap.size (some ⟨g3, 0, none⟩) (ys.flatMap Lt.cells)) (hat : ∀ y ∈ ys, LtAt w y) (hso : ∀ y ∈ ys, ∃ ad, y.A = some ad) (hs : n3 ≤ 1048576) (i : Nat) (hi : i < n3) :
    Calls Tryz.prog 74 #[.agg #[.slice (some ⟨g1, 0, none⟩) n1 c1, .slice (some ⟨g2, 0, none⟩) n2 c2, .slice (some ⟨g3, 0, none⟩) n3 c3], .int .i64 (i : Int)] w fun e w' => ∃ (A1 A2 A3 : Option Addr) (d1 d2 d3 N : Nat) (zs : List Lt), e = .returned (.agg #[.slice A1 n1 d1, .slice A2 n2 d2, .slice A3 N d3]) ∧ N + 1 = n3 ∧ zs.map Lt.d = (ys.take i ++ ys.drop (i + 1)).map Lt.d ∧ LtC (w.heap.size + 2) A3 N d3 zs w' ∧ Below w.heap.size w w' := by
  have HNT := Lib.hid h; have HLN := Lib.hid hln; have HRW := Lib.hid hrw; have HAT := Lib.hid hat; have HSO := Lib.hid hso
  clear h hln hrw hat hso
  go_enter Tryz.func74, Tryz.ntmps74
  go_wp2_with fail
  obtain ⟨W0, hW0⟩ : ∃ W0, (w.alloc (Obj.cells #[.slice (some ⟨g1, 0, none⟩) n1 c1, .slice (some ⟨g2, 0, none⟩) n2 c2, .slice (some ⟨g3, 0, none⟩) n3 c3] 35)).alloc (Obj.cells #[.slice none 0 0, .slice none 0 0, .slice none 0 0] 35) = W0 := ⟨_, rfl⟩
  have hb0 : Below w.heap.size w W0 := by rw [← hW0]; exact ((Below.refl _ _).alloc (Nat.le_refl _) _).alloc (by simp) _
  have HR0 : Hid (W0.ownsRow (w.heap.size + 1) 35 3 (.slice (some ⟨w.heap.size + 1, 0, none⟩) 1 1) 1 [.slice none 0 0, .slice none 0 0, .slice none 0 0]) := Lib.hid (by
    rw [← hW0]
    have := one_rowP (w.alloc (Obj.cells #[.slice (some ⟨g1, 0, none⟩) n1 c1, .slice (some ⟨g2, 0, none⟩) n2 c2, .slice (some ⟨g3, 0, none⟩) n3 c3] 35)) (.slice none 0 0) (.slice none 0 0) (.slice none 0 0) (base := w.heap.size + 1) (by simp)
    simpa using this)
  have hz0 : W0.heap.size = w.heap.size + 2 := by rw [← hW0]; simp
  have HB0 := Lib.hid hb0; have HZ0 := Lib.hid hz0
  rw [hW0]
  clear hW0 hb0
  have CN := Lib.hid (l9Own_ (c3 := c3) (HNT.out.moved HB0.out) HLN.out (HRW.out.moved HB0.out) (fun y hy => (HAT.out y hy).moved HB0.out) HSO.out hs)
  refine CN.out.mono ?_
  rintro e w1 ⟨A1, A2, A3, d1, d2, d3, zs, rfl, hzd, hn1, hn2, hlc, hb1⟩
  have HZD := Lib.hid hzd
  have HZL : Hid (zs.length = n3) := Lib.hid (by have := congrArg List.length hzd; rw [List.length_map, List.length_map, HLN.out] at this; exact this)
  have HLC := Lib.hid (hlc.base (B' := w.heap.size + 2) (by have := HZ0.out; omega))
  have HR1 := Lib.hid (ownB HR0.out hb1)
  have HB1 := Lib.hid (HB0.out.trans (hb1.mono (by have := HZ0.out; omega)))
  have HZW : Hid (w.heap.size + 2 ≤ w1.heap.size) := Lib.hid (by have := hb1.size; have := HZ0.out; omega)
  clear hzd hn1 hn2 hlc hb1 hz0
  obtain ⟨g, rfl⟩ := own_some HLC.out.row (by omega)
  have hcap : n3 ≤ d3 := by
    rcases HLC.out.row.2 with ⟨h9, _⟩ | ⟨g9, cap, cur, h9, _, _, h10, _⟩
    · cases h9
    · injection h9 with _ _ h11; omega
  have hcm : d3 ≤ 9223372036854775807 := by
    rcases HLC.out.row.2 with ⟨h9, _⟩ | ⟨g9, cap, cur, h9, _, _, _, h10, _⟩
    · cases h9
    · injection h9 with _ _ h11; unfold maxLen at h10; omega
  go_wp2_with fail
  obtain ⟨bx, hbx⟩ : ∃ b, w1.heap.size = b := ⟨_, rfl⟩
  obtain ⟨W3, hw2⟩ : ∃ w2, w1.alloc (Obj.cells #[.slice A1 n1 d1, .slice A2 n2 d2, .slice (some ⟨g, 0, none⟩) n3 d3] 35) = w2 := ⟨_, rfl⟩
  have HBX2 : Hid (W3.ownsRow bx 35 3 (.slice (some ⟨bx, 0, none⟩) 1 1) 1 [.slice A1 n1 d1, .slice A2 n2 d2, .slice (some ⟨g, 0, none⟩) n3 d3]) := Lib.hid (by rw [← hw2, ← hbx]; exact one_rowP w1 _ _ _ (Nat.le_refl _))
  have HB2 : Hid (Below w1.heap.size w1 W3) := Lib.hid (by rw [← hw2]; exact (Below.refl _ _).alloc (Nat.le_refl _) _)
  have HSZ3 : Hid (W3.heap.size = bx + 1) := Lib.hid (by rw [← hw2, ← hbx]; simp)
  have HBXE := Lib.hid hbx
  rw [hw2, hbx]
  clear hw2 hbx
  have hszx : bx < W3.heap.size := by have := HSZ3.out; omega
  have HLC3 := Lib.hid (HLC.out.moved HB2.out)
  have hg3 := (HLC3.out.row.lt g rfl).2
  have c2 := HBX2.out.cellAt 2 (by decide)
  simp only [List.getElem?_cons_zero, List.getElem?_cons_succ] at c2
  have z2 := HBX2.out.frozenAt 2
  have HK : Hid (∀ u, Below W3.heap.size W3 u → u.cell? ⟨bx, 2, none⟩ = some (.slice (some ⟨g, 0, none⟩) n3 d3) ∧ u.frozen? ⟨bx, 2, none⟩ = false ∧ bx < u.heap.size) := Lib.hid (fun u hu => ⟨(hu.cell (p := ⟨bx, 2, none⟩) hszx).trans c2, (hu.frozen (p := ⟨bx, 2, none⟩) hszx).trans z2, Nat.lt_of_lt_of_le hszx hu.size⟩)
  have HCA : Hid (∀ U, Below W3.heap.size W3 U → ∀ (j : Nat) (u : Value), (zs.flatMap Lt.cells)[j]? = some u → U.cell? ⟨g, j, none⟩ = some u) := Lib.hid (fun U hU j u hu => by
    have h9 := rd_cells HLC3.out.rd hU j u hu
    rw [cxk5, Nat.zero_add] at h9; exact h9)
  have HCT : Hid (∀ U, Below W3.heap.size W3 U → ∀ (j : Nat) (u : Value), ((zs.take i).flatMap Lt.cells)[j]? = some u → U.cell? ((⟨g, 0, none⟩ : Addr).add j) = some u) := Lib.hid (fun U hU j u hu => by
    rw [cxk5, Nat.zero_add]
    rw [take_cells] at hu
    refine HCA.out U hU j u ?_
    rw [List.getElem?_take] at hu
    split at hu
    · exact hu
    · cases hu)
  have HCD : Hid (∀ U, Below W3.heap.size W3 U → ∀ (j : Nat) (u : Value), ((zs.drop (i + 1)).flatMap Lt.cells)[j]? = some u → U.cell? ((⟨g, (i + 1) * 5, none⟩ : Addr).add j) = some u) := Lib.hid (fun U hU j u hu => by
    rw [cxk5]
    rw [drop_cells, List.getElem?_drop] at hu
    exact HCA.out U hU _ u hu)
  obtain ⟨iL, hiL, hzL0, hzL1, hzL2⟩ := info_parts Tryz.inf_Lt
  have HIL := Lib.hid hiL; have HZL0 := Lib.hid hzL0; have HZL1 := Lib.hid hzL1; have HZL2 := Lib.hid hzL2
  clear hiL hzL0 hzL1 hzL2
  have hwi : IntKind.i64.wrap ((i : Int) + 1) = ((i + 1 : Nat) : Int) := by rw [IntWalk.i64_in _ (by omega)]; omega
  have hi1 : i ≤ d3 := by omega
  have hi2 : i + 1 ≤ n3 := by omega
  have hi3 : i + 1 ≤ d3 := by omega
  have hi0 : (0 : Int) ≤ (i : Int) + 1 := by omega
  have hiI1 : (i : Int) ≤ d3 := by omega
  have hiI2 : (i : Int) + 1 ≤ n3 := by omega
  have hiI3 : (i : Int) + 1 ≤ d3 := by omega
  by_cases hck : d3 = i + 1
  case pos =>
    have hdr : zs.drop (i + 1) = [] := List.drop_of_length_le (by have := HZL.out; omega)
    have hii : (i : Int) ≤ (i : Int) + 1 := by omega
    obtain rfl : n3 = i + 1 := by omega
    subst hck
    clear hi1 hi2 hi3 hiI1 hiI2 hiI3 hcap
    go_region_law (first
      | ((refine step_app (by rfl) (.tmp 8) (.tmp 12) 33 (by rfl) W3.heap.size 62 iL (.agg #[.int .i64 0, .int .i64 0, .slice none 0 0, .int .i64 0, .int .i64 0]) 5 56 Tryz.underlying33 HIL.out HZL0.out HZL1.out HZL2.out rfl (by decide) _ 0 ([]) (by rfl) (lit_own (by first | exact nh (by first | (simp; done) | (simp; omega)) | exact (oh (by first | (simp; done) | (simp; omega))).trans (nh (by first | (simp; done) | (simp; omega)))) (by first | exact Nat.le_refl _ | exact hb1.size | exact hb2.size | (simp; done) | (simp; omega) | (have := hb1.size; simp; omega) | (have := hb2.size; simp; omega))) ⟨g, 0, none⟩ i (i + 1) ((zs.take i).flatMap Lt.cells) (by rfl) (by rw [flat_len Lt.cells 5 _ (fun _ _ => rfl), List.length_take]; have := HZL.out; omega) (HCT.out _ (by repeat (first | assumption | exact Below.refl _ _ | refine Below.drew ?_ | refine Below.alloc ?_ (by first | exact Nat.le_refl _ | exact hb1.size | exact hb2.size | (simp; done) | (simp; omega) | (have := hb1.size; simp; omega)) _))) (one_lts _) (by unfold maxLen; omega) (by omega) (by first | exact Nat.le_refl _ | exact hb1.size | exact hb2.size | (simp; done) | (simp; omega) | (have := hb1.size; simp; omega) | (have := hb2.size; simp; omega)) ?_); intro v1 w1 hown1 hgrow1; have hb1 : Below W3.heap.size W3 w1 := Below.grown (by repeat (first | assumption | exact Below.refl _ _ | refine Below.drew ?_ | refine Below.alloc ?_ (by first | exact Nat.le_refl _ | exact hb1.size | exact hb2.size | (simp; done) | (simp; omega) | (have := hb1.size; simp; omega)) _)) hgrow1 (by first | exact Nat.le_refl _ | exact hb1.size | exact hb2.size | (simp; done) | (simp; omega) | (have := hb1.size; simp; omega) | (have := hb2.size; simp; omega)) (fun g9 hg9 => by simp [Value.ownBlock] at hg9; omega); obtain ⟨a2, y2, x2⟩ := HK.out w1 hb1)
      | ((refine step_app (by rfl) (.tmp 13) (.tmp 18) 33 (by rfl) W3.heap.size 62 iL (.agg #[.int .i64 0, .int .i64 0, .slice none 0 0, .int .i64 0, .int .i64 0]) 5 56 Tryz.underlying33 HIL.out HZL0.out HZL1.out HZL2.out rfl (by decide) v1 (0 + i) ([] ++ (zs.take i).flatMap Lt.cells) (by rfl) (hown1) ⟨g, 0, none⟩ 0 0 ([]) (by rfl) (rfl) (fun j u hu => by simp at hu) (fun u hu => by simp at hu) (by unfold maxLen; omega) (by omega) (by first | exact Nat.le_refl _ | exact hb1.size | exact hb2.size | (simp; done) | (simp; omega) | (have := hb1.size; simp; omega) | (have := hb2.size; simp; omega)) ?_); intro v2 w2 hown2 hgrow2; have hb2 : Below W3.heap.size W3 w2 := Below.grown (by repeat (first | assumption | exact Below.refl _ _ | refine Below.drew ?_ | refine Below.alloc ?_ (by first | exact Nat.le_refl _ | exact hb1.size | exact hb2.size | (simp; done) | (simp; omega) | (have := hb1.size; simp; omega)) _)) hgrow2 (by first | exact Nat.le_refl _ | exact hb1.size | exact hb2.size | (simp; done) | (simp; omega) | (have := hb1.size; simp; omega) | (have := hb2.size; simp; omega)) (fun g9 hg9 => (hown1.lt g9 hg9).1); obtain ⟨a2, y2, x2⟩ := HK.out w2 hb2; obtain ⟨A9, d9, rfl⟩ := formOf hown2))
    all_goals
      simp only [Nat.zero_add, Nat.add_zero] at hown2
      have hNN : i + 1 = i + 1 := by omega
      have HRW9 : Hid (w2.ownsRow (w.heap.size + 2) 62 5 (.slice A9 i d9) i ((zs.take i ++ zs.drop (i + 1)).flatMap Lt.cells)) := Lib.hid (by
        have h9 := own_base hown2 (B' := w.heap.size + 2) (by have := HSZ3.out; have := HZW.out; have := HBXE.out; omega)
        rw [List.flatMap_append]
        rw [hdr]
        simpa using h9)
      have HLC9 : Hid (LtC (w.heap.size + 2) A9 i d9 (zs.take i ++ zs.drop (i + 1)) w2) := Lib.hid ⟨by rw [List.length_append, List.length_take, List.length_drop]; have := HZL.out; omega, HRW9.out, fun y hy => ((HLC3.out.own y (by
        rcases List.mem_append.1 hy with h | h
        · exact List.mem_of_mem_take h
        · exact List.mem_of_mem_drop h)).moved hb2), HLC3.out.apart.sublist (by
          have h1 : (zs.take i ++ zs.drop (i + 1)).Sublist (zs.take i ++ zs.drop i) := List.Sublist.append (List.Sublist.refl _) (by rw [← List.drop_drop]; exact List.drop_sublist _ _)
          rw [List.take_append_drop] at h1; exact h1)⟩
      have HZD9 : Hid ((zs.take i ++ zs.drop (i + 1)).map Lt.d = (ys.take i ++ ys.drop (i + 1)).map Lt.d) := Lib.hid (by rw [List.map_append, List.map_append, List.map_take, List.map_drop, List.map_take, List.map_drop, HZD.out])
      have HBX9 := Lib.hid ((ownB HBX2.out hb2).stored 2 (.slice A9 i d9)).1
      have hbne : bx ≠ w.heap.size + 1 := by have := HZW.out; have := HBXE.out; omega
      have HR9 := Lib.hid (own_set (ownB (ownB HR1.out HB2.out) hb2) (p := ⟨bx, 2, none⟩) (by exact hbne) (.slice A9 i d9))
      have HB9 := Lib.hid ((HB1.out.trans (HB2.out.mono HB1.out.size)).trans (hb2.mono (by have := HB1.out.size; have := HB2.out.size; omega)))
      have hrow9 : ∀ g9, (Value.slice A9 i d9).ownBlock = some g9 → g9 ≠ bx := fun g9 h9 e => by
        have := (hown2.lt g9 h9).1; have := HSZ3.out; omega
      have HOF : Hid (∀ y ∈ (zs.take i ++ zs.drop (i + 1)), ∀ g9, (ltv y).ownBlock = some g9 → g9 ≠ bx) := Lib.hid (fun y hy g9 h9 e => by
        have hyo := HLC.out.own y (by
          rcases List.mem_append.1 hy with h | h
          · exact List.mem_of_mem_take h
          · exact List.mem_of_mem_drop h)
        have := (hyo.2.2.lt g9 h9).2; have := HBXE.out; omega)
      have HLCX : Hid (LtC (w.heap.size + 2) A9 i d9 (zs.take i ++ zs.drop (i + 1)) (w2.setCell ⟨bx, 2, none⟩ (.slice A9 i d9))) := Lib.hid ⟨HLC9.out.len, own_offV HLC9.out.row (Off.set_ (Off.refl (fun b => b = bx) w2) (p := ⟨bx, 2, none⟩) rfl _) hrow9, fun y hy => ⟨(HLC9.out.own y hy).1, (HLC9.out.own y hy).2.1, own_offV (HLC9.out.own y hy).2.2 (Off.set_ (Off.refl (fun b => b = bx) w2) (p := ⟨bx, 2, none⟩) rfl _) (HOF.out y hy)⟩, HLC9.out.apart⟩
      have HBX9B := Lib.hid (HB9.out.setCell (p := ⟨bx, 2, none⟩) (by show w.heap.size ≤ bx; have := HZW.out; have := HBXE.out; omega) (.slice A9 i d9))
      have hszw : bx < w2.heap.size := Nat.lt_of_lt_of_le hszx hb2.size
      obtain ⟨W9, hW9⟩ : ∃ W9, w2.setCell ⟨bx, 2, none⟩ (.slice A9 i d9) = W9 := ⟨_, rfl⟩
      have hbw9 : bx < W9.heap.size := by rw [← hW9]; simpa using hszw
      rw [hW9] at HBX9 HR9 HLCX HBX9B ⊢
      clear hW9
      have b0 := HBX9.out.cellAt 0 (by decide); have b1 := HBX9.out.cellAt 1 (by decide); have b2 := HBX9.out.cellAt 2 (by decide)
      have s0 := HR9.out.cellAt 0 (by decide); have s1 := HR9.out.cellAt 1 (by decide); have s2 := HR9.out.cellAt 2 (by decide)
      have t0 := HR9.out.frozenAt 0; have t1 := HR9.out.frozenAt 1; have t2 := HR9.out.frozenAt 2
      simp at b0 b1 b2 s0 s1 s2
      have hz1 : w.heap.size + 1 < W9.heap.size := by have := HZW.out; have := HBXE.out; omega
      clear hown1 hgrow1 hown2 hgrow2 a2 y2 x2 HRW9 HLC9
      go_wp2_with fail
      refine bodyPost_ret (v := .agg #[.slice A1 n1 d1, .slice A2 n2 d2, .slice A9 i d9]) (by simp [results, Tryz.results74, go_sem, s0, s1, s2, hz1]) rfl ⟨A1, A2, A9, d1, d2, d9, i, rfl, rfl, (zs.take i ++ zs.drop (i + 1)), (by have h9 := HZD9.out; simp only [List.map_append, List.map_take, List.map_drop] at h9 ⊢; exact h9), ?_, ?_⟩
      · repeat (first | with_reducible exact HLCX.out | refine LtC.low ?_ (by omega) _)
      · repeat (first | with_reducible exact HBX9B.out | refine Below.setCell ?_ (p := ⟨w.heap.size + 1, _, none⟩) (by show w.heap.size ≤ w.heap.size + 1; omega) _)
  case neg =>
    go_region_law (first
      | ((refine step_app (by rfl) (.tmp 8) (.tmp 12) 33 (by rfl) W3.heap.size 62 iL (.agg #[.int .i64 0, .int .i64 0, .slice none 0 0, .int .i64 0, .int .i64 0]) 5 56 Tryz.underlying33 HIL.out HZL0.out HZL1.out HZL2.out rfl (by decide) _ 0 ([]) (by rfl) (lit_own (by first | exact nh (by first | (simp; done) | (simp; omega)) | exact (oh (by first | (simp; done) | (simp; omega))).trans (nh (by first | (simp; done) | (simp; omega)))) (by first | exact Nat.le_refl _ | exact hb1.size | exact hb2.size | (simp; done) | (simp; omega) | (have := hb1.size; simp; omega) | (have := hb2.size; simp; omega))) ⟨g, 0, none⟩ i d3 ((zs.take i).flatMap Lt.cells) (by rfl) (by rw [flat_len Lt.cells 5 _ (fun _ _ => rfl), List.length_take]; have := HZL.out; omega) (HCT.out _ (by repeat (first | assumption | exact Below.refl _ _ | refine Below.drew ?_ | refine Below.alloc ?_ (by first | exact Nat.le_refl _ | exact hb1.size | exact hb2.size | (simp; done) | (simp; omega) | (have := hb1.size; simp; omega)) _))) (one_lts _) (by unfold maxLen; omega) (by omega) (by first | exact Nat.le_refl _ | exact hb1.size | exact hb2.size | (simp; done) | (simp; omega) | (have := hb1.size; simp; omega) | (have := hb2.size; simp; omega)) ?_); intro v1 w1 hown1 hgrow1; have hb1 : Below W3.heap.size W3 w1 := Below.grown (by repeat (first | assumption | exact Below.refl _ _ | refine Below.drew ?_ | refine Below.alloc ?_ (by first | exact Nat.le_refl _ | exact hb1.size | exact hb2.size | (simp; done) | (simp; omega) | (have := hb1.size; simp; omega)) _)) hgrow1 (by first | exact Nat.le_refl _ | exact hb1.size | exact hb2.size | (simp; done) | (simp; omega) | (have := hb1.size; simp; omega) | (have := hb2.size; simp; omega)) (fun g9 hg9 => by simp [Value.ownBlock] at hg9; omega); obtain ⟨a2, y2, x2⟩ := HK.out w1 hb1)
      | ((refine step_app (by rfl) (.tmp 13) (.tmp 18) 33 (by rfl) W3.heap.size 62 iL (.agg #[.int .i64 0, .int .i64 0, .slice none 0 0, .int .i64 0, .int .i64 0]) 5 56 Tryz.underlying33 HIL.out HZL0.out HZL1.out HZL2.out rfl (by decide) v1 (0 + i) ([] ++ (zs.take i).flatMap Lt.cells) (by rfl) (hown1) ⟨g, (i + 1) * 5, none⟩ (n3 - (i + 1)) (d3 - (i + 1)) ((zs.drop (i + 1)).flatMap Lt.cells) (by rfl) (by rw [flat_len Lt.cells 5 _ (fun _ _ => rfl), List.length_drop]; have := HZL.out; omega) (HCD.out _ (by repeat (first | assumption | exact Below.refl _ _ | refine Below.drew ?_ | refine Below.alloc ?_ (by first | exact Nat.le_refl _ | exact hb1.size | exact hb2.size | (simp; done) | (simp; omega) | (have := hb1.size; simp; omega)) _))) (one_lts _) (by unfold maxLen; omega) (by omega) (by first | exact Nat.le_refl _ | exact hb1.size | exact hb2.size | (simp; done) | (simp; omega) | (have := hb1.size; simp; omega) | (have := hb2.size; simp; omega)) ?_); intro v2 w2 hown2 hgrow2; have hb2 : Below W3.heap.size W3 w2 := Below.grown (by repeat (first | assumption | exact Below.refl _ _ | refine Below.drew ?_ | refine Below.alloc ?_ (by first | exact Nat.le_refl _ | exact hb1.size | exact hb2.size | (simp; done) | (simp; omega) | (have := hb1.size; simp; omega)) _)) hgrow2 (by first | exact Nat.le_refl _ | exact hb1.size | exact hb2.size | (simp; done) | (simp; omega) | (have := hb1.size; simp; omega) | (have := hb2.size; simp; omega)) (fun g9 hg9 => (hown1.lt g9 hg9).1); obtain ⟨a2, y2, x2⟩ := HK.out w2 hb2; obtain ⟨A9, d9, rfl⟩ := formOf hown2))
    all_goals
      simp only [Nat.zero_add, Nat.add_zero] at hown2
      obtain ⟨N9, hN9⟩ : ∃ N9, i + (n3 - (i + 1)) = N9 := ⟨_, rfl⟩
      rw [hN9] at hown2 ⊢
      have hNN : N9 + 1 = n3 := by omega
      have HRW9 : Hid (w2.ownsRow (w.heap.size + 2) 62 5 (.slice A9 N9 d9) N9 ((zs.take i ++ zs.drop (i + 1)).flatMap Lt.cells)) := Lib.hid (by
        have h9 := own_base hown2 (B' := w.heap.size + 2) (by have := HSZ3.out; have := HZW.out; have := HBXE.out; omega)
        rw [List.flatMap_append]
        simpa using h9)
      have HLC9 : Hid (LtC (w.heap.size + 2) A9 N9 d9 (zs.take i ++ zs.drop (i + 1)) w2) := Lib.hid ⟨by rw [List.length_append, List.length_take, List.length_drop]; have := HZL.out; omega, HRW9.out, fun y hy => ((HLC3.out.own y (by
        rcases List.mem_append.1 hy with h | h
        · exact List.mem_of_mem_take h
        · exact List.mem_of_mem_drop h)).moved hb2), HLC3.out.apart.sublist (by
          have h1 : (zs.take i ++ zs.drop (i + 1)).Sublist (zs.take i ++ zs.drop i) := List.Sublist.append (List.Sublist.refl _) (by rw [← List.drop_drop]; exact List.drop_sublist _ _)
          rw [List.take_append_drop] at h1; exact h1)⟩
      have HZD9 : Hid ((zs.take i ++ zs.drop (i + 1)).map Lt.d = (ys.take i ++ ys.drop (i + 1)).map Lt.d) := Lib.hid (by rw [List.map_append, List.map_append, List.map_take, List.map_drop, List.map_take, List.map_drop, HZD.out])
      have HBX9 := Lib.hid ((ownB HBX2.out hb2).stored 2 (.slice A9 N9 d9)).1
      have hbne : bx ≠ w.heap.size + 1 := by have := HZW.out; have := HBXE.out; omega
      have HR9 := Lib.hid (own_set (ownB (ownB HR1.out HB2.out) hb2) (p := ⟨bx, 2, none⟩) (by exact hbne) (.slice A9 N9 d9))
      have HB9 := Lib.hid ((HB1.out.trans (HB2.out.mono HB1.out.size)).trans (hb2.mono (by have := HB1.out.size; have := HB2.out.size; omega)))
      have hrow9 : ∀ g9, (Value.slice A9 N9 d9).ownBlock = some g9 → g9 ≠ bx := fun g9 h9 e => by
        have := (hown2.lt g9 h9).1; have := HSZ3.out; omega
      have HOF : Hid (∀ y ∈ (zs.take i ++ zs.drop (i + 1)), ∀ g9, (ltv y).ownBlock = some g9 → g9 ≠ bx) := Lib.hid (fun y hy g9 h9 e => by
        have hyo := HLC.out.own y (by
          rcases List.mem_append.1 hy with h | h
          · exact List.mem_of_mem_take h
          · exact List.mem_of_mem_drop h)
        have := (hyo.2.2.lt g9 h9).2; have := HBXE.out; omega)
      have HLCX : Hid (LtC (w.heap.size + 2) A9 N9 d9 (zs.take i ++ zs.drop (i + 1)) (w2.setCell ⟨bx, 2, none⟩ (.slice A9 N9 d9))) := Lib.hid ⟨HLC9.out.len, own_offV HLC9.out.row (Off.set_ (Off.refl (fun b => b = bx) w2) (p := ⟨bx, 2, none⟩) rfl _) hrow9, fun y hy => ⟨(HLC9.out.own y hy).1, (HLC9.out.own y hy).2.1, own_offV (HLC9.out.own y hy).2.2 (Off.set_ (Off.refl (fun b => b = bx) w2) (p := ⟨bx, 2, none⟩) rfl _) (HOF.out y hy)⟩, HLC9.out.apart⟩
      have HBX9B := Lib.hid (HB9.out.setCell (p := ⟨bx, 2, none⟩) (by show w.heap.size ≤ bx; have := HZW.out; have := HBXE.out; omega) (.slice A9 N9 d9))
      have hszw : bx < w2.heap.size := Nat.lt_of_lt_of_le hszx hb2.size
      obtain ⟨W9, hW9⟩ : ∃ W9, w2.setCell ⟨bx, 2, none⟩ (.slice A9 N9 d9) = W9 := ⟨_, rfl⟩
      have hbw9 : bx < W9.heap.size := by rw [← hW9]; simpa using hszw
      rw [hW9] at HBX9 HR9 HLCX HBX9B ⊢
      clear hW9
      have b0 := HBX9.out.cellAt 0 (by decide); have b1 := HBX9.out.cellAt 1 (by decide); have b2 := HBX9.out.cellAt 2 (by decide)
      have s0 := HR9.out.cellAt 0 (by decide); have s1 := HR9.out.cellAt 1 (by decide); have s2 := HR9.out.cellAt 2 (by decide)
      have t0 := HR9.out.frozenAt 0; have t1 := HR9.out.frozenAt 1; have t2 := HR9.out.frozenAt 2
      simp at b0 b1 b2 s0 s1 s2
      have hz1 : w.heap.size + 1 < W9.heap.size := by have := HZW.out; have := HBXE.out; omega
      clear hown1 hgrow1 hown2 hgrow2 a2 y2 x2 HRW9 HLC9
      go_wp2_with fail
      refine bodyPost_ret (v := .agg #[.slice A1 n1 d1, .slice A2 n2 d2, .slice A9 N9 d9]) (by simp [results, Tryz.results74, go_sem, s0, s1, s2, hz1]) rfl ⟨A1, A2, A9, d1, d2, d9, N9, _, rfl, hNN, HZD9.out, ?_, ?_⟩
      · repeat (first | with_reducible exact HLCX.out | refine LtC.low ?_ (by omega) _)
      · repeat (first | with_reducible exact HBX9B.out | refine Below.setCell ?_ (p := ⟨w.heap.size + 1, _, none⟩) (by show w.heap.size ≤ w.heap.size + 1; omega) _)
end Go.Proofs.YtflniajjecfgeaaGreatDoor
