/- The risk groups of a network: contracts of spec.l2Groups, spec.RiskGroups. No condition but those typed. -/
import Derived.Test.YtnbeomnlobfpfaaDoorGrp
namespace Go.Proofs.YtnbeomnlobfpfaaDoor
open Go.ChangeShapes Go.WideShapes Go.ChangeAt Go.RowKit

theorem rkK_pre {fs : List Q4} {r : Int} {k : Nat} (h : k ≤ fs.length) (he : rkK fs r fs.length = []) : rkK fs r k = [] := by
  rcases hl : rkK fs r k with _ | ⟨x, l⟩
  · rfl
  · exfalso
    have hx : x ∈ rkK fs r k := by rw [hl]; exact List.mem_cons_self
    obtain ⟨i, e, hi, hd⟩ := rk_mem.1 hx
    have h2 : x ∈ rkK fs r fs.length := rk_mem.2 ⟨i, e, by omega, hd⟩
    rw [he] at h2; simp at h2
theorem grp_at {fs : List Q4} {i : Nat} {q : Q4} (hq : q.d ≠ 0) : grpL fs i q = rkK fs q.d fs.length := by unfold grpL; rw [if_neg hq]
set_option maxRecDepth 100000 in
set_option maxHeartbeats 8000000 in
theorem l2Groups_ {g1 g2 n1 n2 c1 c2 : Nat} {ss : List ByteArray} {fs : List Q4} {w : World} (h : NetAt g1 g2 n1 n2 c1 c2 ss fs w) (hv : netP ss fs) :
    Calls Tryd.prog 33 #[.agg #[.slice (some ⟨g1, 0, none⟩) n1 c1, .slice (some ⟨g2, 0, none⟩) n2 c2]] w (RowsO (rgL fs) w) := by
  have HNT := Lib.hid h
  have HL2 := Lib.hid h.ln2
  have hs2 := h.sm2
  clear h
  have HV := Lib.hid hv
  have hnf : n2 ≤ 14 := by have := hv.2.1; have := HL2.out; omega
  clear hv
  go_enter Tryd.func33, Tryd.ntmps33
  go_wp2
  obtain ⟨W0, hW0⟩ : ∃ W0, (w.alloc (Obj.cells #[.slice (some ⟨g1, 0, none⟩) n1 c1, .slice (some ⟨g2, 0, none⟩) n2 c2] 32)).alloc (Obj.cells #[] 27) = W0 := ⟨_, rfl⟩
  have hb0 : Below w.heap.size w W0 := by rw [← hW0]; exact ((Below.refl _ _).alloc (Nat.le_refl _) _).alloc (by simp) _
  have hk0 : W0.cell? ⟨w.heap.size, 0, none⟩ = some (.slice (some ⟨g1, 0, none⟩) n1 c1) := by rw [← hW0]; simp [go_sem]
  have hk1 : W0.cell? ⟨w.heap.size, 1, none⟩ = some (.slice (some ⟨g2, 0, none⟩) n2 c2) := by rw [← hW0]; simp [go_sem]
  have hz0 : w.heap.size + 1 < W0.heap.size := by rw [← hW0]; simp
  have HB0 := Lib.hid hb0; have HK0 := Lib.hid hk0; have HK1 := Lib.hid hk1; have HZB := Lib.hid hz0
  have HR0 : Hid (Rws (w.heap.size + 1) (some ⟨w.heap.size + 1, 0, none⟩) 0 0 [] W0) := Lib.hid (by
    rw [← hW0]
    have h9 := Rws.lit (w.heap.size + 1) (w.alloc (Obj.cells #[.slice (some ⟨g1, 0, none⟩) n1 c1, .slice (some ⟨g2, 0, none⟩) n2 c2] 32)) (by simp)
    simpa using h9)
  rw [hW0]
  clear hW0 hb0 hk0 hk1 hz0
  go_loopw [3, 4] (fun v r wr => ∃ (k : Nat) (A1 : Option Addr) (N1 d1 : Nat) (ys : List Rw), k ≤ 9 ∧ r = .int .i64 ((k : Int) + 1) ∧ v = .slice A1 N1 d1 ∧ N1 ≤ k ∧ Hid (ys.map Rw.zs = rgA fs k) ∧ Hid (Rws (w.heap.size + 1) A1 N1 d1 ys wr) ∧ Below (w.heap.size + 1) W0 wr) (fun _ r _ => 10 - (intOf r).toNat)
  case atStart => exact ⟨0, _, 0, 0, [], by omega, rfl, rfl, Nat.le_refl _, Lib.hid rfl, HR0, Below.refl _ _⟩
  case round =>
    obtain ⟨k, A1, N1, d1, ys, hk, rfl, rfl, hNk, HD, HR, hb⟩ := hrel
    have HBR := Lib.hid hb
    have HBW := Lib.hid (HB0.out.trans (hb.mono (Nat.le_succ _)))
    have hsz : w.heap.size + 1 ≤ wr.heap.size := by have := hb.size; have := HZB.out; omega
    have l0 := (hb.cell (p := ⟨w.heap.size, 0, none⟩) (by show w.heap.size < _; omega)).trans HK0.out
    have l1 := (hb.cell (p := ⟨w.heap.size, 1, none⟩) (by show w.heap.size < _; omega)).trans HK1.out
    have hg0 : w.heap.size < wr.heap.size := by omega
    clear hb
    by_cases hlt : k < 9
    case neg =>
      have hk9 : k = 9 := by omega
      rw [hk9] at HD
      clear hk9
      go_wp2
      clear l0 l1 hg0
      go_loopw [3, 6] (fun v i wv => ∃ (j : Nat) (A2 : Option Addr) (N2 d2 : Nat) (xs : List Rw), j ≤ n2 ∧ i = .int .i64 j ∧ v = .slice A2 N2 d2 ∧ N2 ≤ 9 + j ∧ Hid (xs.map Rw.zs = rgA fs 9 ++ rgZ (rkK fs 0 j)) ∧ Hid (Rws (w.heap.size + 1) A2 N2 d2 xs wv) ∧ Below (w.heap.size + 1) W0 wv) (fun _ i _ => n2 - (intOf i).toNat)
      case atStart => exact ⟨0, A1, N1, d1, ys, Nat.zero_le _, rfl, rfl, by omega, Lib.hid (by rw [HD.out]; simp [rgZ, rkK]), HR, HBR.out⟩
      case round =>
        obtain ⟨j, A2, N2, d2, xs, hj, rfl, rfl, hN2, HX, HRX, hb⟩ := hrel
        have HBV := Lib.hid hb
        have HBVW := Lib.hid (HB0.out.trans (hb.mono (Nat.le_succ _)))
        have hsv : w.heap.size + 1 ≤ wr.heap.size := by have := hb.size; have := HZB.out; omega
        have l0 := (hb.cell (p := ⟨w.heap.size, 0, none⟩) (by show w.heap.size < _; omega)).trans HK0.out
        have l1 := (hb.cell (p := ⟨w.heap.size, 1, none⟩) (by show w.heap.size < _; omega)).trans HK1.out
        have hg0 : w.heap.size < wr.heap.size := by omega
        clear hb
        by_cases hjt : j < n2
        case neg =>
          have HE : Hid (xs.map Rw.zs = rgL fs) := Lib.hid (by rw [HX.out, show j = fs.length by have := HL2.out; omega]; rfl)
          go_wp2
          go_ret
          exact ⟨A2, N2, d2, xs, rfl, HE, HRX.out.base (Nat.le_succ _), HBVW.out⟩
        case pos =>
        have hjl : j < fs.length := by have := HL2.out; omega
        obtain ⟨⟨qa, qb, qc, qd⟩, hq⟩ : ∃ q, fs[j]'hjl = q := ⟨_, rfl⟩
        have hstep := rkK_step fs 0 j _ hjl hq
        have hrd := (HNT.out.moved HBVW.out).rd2.q4c hjl
        rw [Nat.zero_add, hq] at hrd
        obtain ⟨hg2, r0, r1, r2, r3⟩ := hrd
        simp only at r0 r1 r2 r3 hstep
        have hjn : (j : Int) < n2 := by omega
        clear hq hjl r0 r1 r2
        by_cases hd : qd = 0
        case neg =>
          rw [if_neg hd, List.append_nil] at hstep
          have HX2 : Hid (xs.map Rw.zs = rgA fs 9 ++ rgZ (rkK fs 0 (j + 1))) := Lib.hid (by rw [hstep]; exact HX.out)
          have q1 : (qd == 0) = false := by simpa using hd
          clear hstep hd
          go_wp2
          go_roundw
          case rel => exact ⟨j + 1, A2, N2, d2, xs, by omega, by go_num, rfl, by omega, HX2, HRX, HBV.out⟩
          case measure => simp [intOf]; omega
        case pos =>
        rw [if_pos hd] at hstep
        subst hd
        have HTK : Hid (rgZ (rkK fs 0 (j + 1)) = rgZ (rkK fs 0 j) ++ [[(j : Int)]]) := Lib.hid (by rw [hstep]; unfold rgZ; rw [List.map_append]; rfl)
        have HLIT : Hid (RwOwn wr.heap.size (wr.alloc (Obj.cells #[.int .i64 (j : Int)] 3)) ⟨some ⟨wr.heap.size, 0, none⟩, 1, 1, [(j : Int)]⟩) := Lib.hid ⟨rfl, World.ownsRow_lit (base := wr.heap.size) (e := 3) (size := 1) wr #[.int .i64 (j : Int)] 1 (Nat.le_refl _) (by unfold maxLen; omega) rfl⟩
        have HRA := Lib.hid ((HRX.out.alloc (Obj.cells #[.int .i64 (j : Int)] 3)).alloc (Obj.cells #[.slice (some ⟨wr.heap.size, 0, none⟩) 1 1] 27))
        have HLA := Lib.hid (((HLIT.out.base hsv).moved ((Below.refl _ _).alloc (Nat.le_refl _) (Obj.cells #[.slice (some ⟨wr.heap.size, 0, none⟩) 1 1] 27))))
        clear hstep
        go_wp2_with (at_builtin; refine wp_app rfl (.tmp 47) (.tmp 50) 67 27 rfl (w.heap.size + 1) Tryd.underlying67 Tryd.inf_ss rfl (by decide) (by decide) _ N2 _ rfl HRA.out.row _ _ [.slice (some ⟨wr.heap.size, 0, none⟩) 1 1] rfl rfl (news1 (new_at_ _ _ _ _ (by simp))) (news_sl _ _ _) (by omega) (by simp; omega) ?_)
        intro A3 d3 N3 w3 hN3 hown3 hgrow3 hloc3
        have HAP : Hid (∀ z ∈ xs, Apart z.val (Rw.mk (some ⟨wr.heap.size, 0, none⟩) 1 1 [(j : Int)]).val) := Lib.hid (HRX.out.newer HLIT.out (Nat.le_refl _))
        have HR3 : Hid (Rws (w.heap.size + 1) A3 N3 d3 (xs ++ [⟨some ⟨wr.heap.size, 0, none⟩, 1, 1, [(j : Int)]⟩]) w3) := Lib.hid (HRA.out.push HLA.out HAP.out hN3 hown3 hgrow3)
        have HB3 := Lib.hid (((HBV.out.alloc hsv _).alloc (by simp; omega) _).grown hgrow3 (by simp; omega) (fun g hg => (HRA.out.row.lt g hg).1))
        have HX3 : Hid ((xs ++ [Rw.mk (some ⟨wr.heap.size, 0, none⟩) 1 1 [(j : Int)]]).map Rw.zs = rgA fs 9 ++ rgZ (rkK fs 0 (j + 1))) := Lib.hid (by rw [List.map_append, HX.out, HTK.out, List.append_assoc]; rfl)
        have hN3' : N3 ≤ 9 + (j + 1) := by omega
        clear hown3 hgrow3 hloc3 hN3
        go_wp2
        go_roundw
        case rel => exact ⟨j + 1, A3, N3, d3, _, by omega, by go_num, rfl, hN3', HX3, HR3, HB3.out⟩
        case measure => simp [intOf]; omega
    case pos =>
    go_wp2
    clear l0 l1 hg0
    go_loop [3, 5] (fun v i => v = .slice A1 N1 d1 ∧ ∃ j : Nat, j ≤ n2 ∧ i = .int .i64 j ∧ Hid (rkK fs ((k : Int) + 1) j = [])) (fun _ i => n2 - (intOf i).toNat)
    case atStart => exact ⟨rfl, 0, Nat.zero_le _, rfl, Lib.hid rfl⟩
    case round =>
      obtain ⟨rfl, j, hj, rfl, HE⟩ := hrel
      have l0 := (HBR.out.cell (p := ⟨w.heap.size, 0, none⟩) (by show w.heap.size < _; omega)).trans HK0.out
      have l1 := (HBR.out.cell (p := ⟨w.heap.size, 1, none⟩) (by show w.heap.size < _; omega)).trans HK1.out
      have hg0 : w.heap.size < wr.heap.size := by omega
      by_cases hjt : j < n2
      case neg =>
        have HS : Hid (ys.map Rw.zs = rgA fs (k + 1)) := Lib.hid (by rw [HD.out]; exact (rgA_no (by have h1 := HE.out; rw [show j = fs.length by have := HL2.out; omega] at h1; exact h1)).symm)
        go_wp2
        go_roundw
        case rel => exact ⟨k + 1, A1, N1, d1, ys, by omega, by go_num, rfl, by omega, HS, HR, HBR.out⟩
        case measure => simp [intOf]; omega
      case pos =>
      have hjl : j < fs.length := by have := HL2.out; omega
      obtain ⟨q, hq⟩ : ∃ q, fs[j]'hjl = q := ⟨_, rfl⟩
      have hstep := rkK_step fs ((k : Int) + 1) j _ hjl hq
      have HQ := Lib.hid hq
      have hrd := (HNT.out.moved HBW.out).rd2.q4c hjl
      rw [Nat.zero_add, hq] at hrd
      have CG := Lib.hid (group_ (HNT.out.moved HBW.out) j hjt q (fun _ => hq))
      obtain ⟨qa, qb, qc, qd⟩ := q
      obtain ⟨hg2, r0, r1, r2, r3⟩ := hrd
      simp only at r0 r1 r2 r3 hstep
      have hjn : (j : Int) < n2 := by omega
      clear hq r0 r1 r2
      by_cases hd : qd = (k : Int) + 1
      case neg =>
        rw [if_neg hd, List.append_nil] at hstep
        have HE2 : Hid (rkK fs ((k : Int) + 1) (j + 1) = []) := Lib.hid (hstep.trans HE.out)
        have q1 : (qd == (k : Int) + 1) = false := by simpa using hd
        clear hstep hd
        go_wp2
        go_round
        case rel => exact ⟨rfl, j + 1, by omega, by go_num, HE2⟩
        case measure => simp [intOf]; omega
      case pos =>
      rw [if_pos hd] at hstep
      have HS : Hid (rgA fs (k + 1) = rgA fs k ++ [rkK fs ((k : Int) + 1) fs.length]) := Lib.hid (rgA_yes (fun hn => by
        have h1 := rkK_pre (k := j + 1) (by omega) hn
        rw [hstep, HE.out] at h1; simp at h1))
      rw [grp_at (by show qd ≠ 0; omega)] at CG
      simp only at CG
      rw [hd] at CG
      obtain ⟨L2, hL2⟩ : ∃ L, rkK fs ((k : Int) + 1) fs.length = L := ⟨_, rfl⟩
      rw [hL2] at CG HS
      have q1 : (qd == (k : Int) + 1) = true := by simpa using hd
      clear hstep hd hL2
      go_wp2_with fail
      clear l0 l1 hg0 r3
      refine CG.out.mono ?_
      rintro e w2 ⟨A2, N2, d2, rfl, HN2, ho2, hb2⟩
      have HRW : Hid (RwOwn wr.heap.size w2 ⟨A2, N2, d2, L2⟩) := Lib.hid ⟨HN2.out, ho2⟩
      have HB2 := Lib.hid (HBR.out.trans (hb2.mono hsz))
      have HR2 := Lib.hid (HR.out.moved hb2)
      have hs2w := hb2.size
      have HAP := Lib.hid (HR.out.newer HRW.out (Nat.le_refl _))
      have HRA := Lib.hid (HR2.out.alloc (Obj.cells #[.slice A2 N2 d2] 27))
      have HLA := Lib.hid ((HRW.out.base hsz).moved ((Below.refl _ _).alloc (Nat.le_refl _) (Obj.cells #[.slice A2 N2 d2] 27)))
      clear ho2 hb2
      go_wp2_with (at_builtin; refine wp_app rfl (.tmp 27) (.tmp 31) 67 27 rfl (w.heap.size + 1) Tryd.underlying67 Tryd.inf_ss rfl (by decide) (by decide) _ N1 _ rfl HRA.out.row _ _ [.slice A2 N2 d2] rfl rfl (news1 (new_at_ _ _ _ _ rfl)) (news_sl _ _ _) (by omega) (by simp; omega) ?_)
      intro A3 d3 N3 w3 hN3 hown3 hgrow3 hloc3
      have HR3 : Hid (Rws (w.heap.size + 1) A3 N3 d3 (ys ++ [⟨A2, N2, d2, L2⟩]) w3) := Lib.hid (HRA.out.push HLA.out HAP.out hN3 hown3 hgrow3)
      have HB3 := Lib.hid ((HB2.out.alloc (by omega) _).grown hgrow3 (by simp; omega) (fun g hg => (HRA.out.row.lt g hg).1))
      have HX3 : Hid ((ys ++ [Rw.mk A2 N2 d2 L2]).map Rw.zs = rgA fs (k + 1)) := Lib.hid (by rw [List.map_append, HD.out, HS.out]; rfl)
      have hN3' : N3 ≤ k + 1 := by omega
      clear hown3 hgrow3 hloc3 hN3
      go_wp2
      go_roundw
      case rel => exact ⟨k + 1, A3, N3, d3, _, by omega, by go_num, rfl, hN3', HX3, HR3, HB3.out⟩
      case measure => simp [intOf]; omega
end Go.Proofs.YtnbeomnlobfpfaaDoor
