/- The risk groups of a network: contracts of impl.RiskGroups, impl.groupMasks. No condition but those typed. -/
import Derived.Test.YtlgkjidginibdaaGrpP
import Derived.Test.YtlgkjidginibdaaRws
namespace Go.Proofs.Ytlgkjidginibdaa
open Go.ChangeShapes Go.WideShapes Go.ChangeAt Go.RowKit

set_option maxRecDepth 100000 in
set_option maxHeartbeats 8000000 in
theorem implRGs {g1 g2 n1 n2 c1 c2 : Nat} {ss : List ByteArray} {fs : List Q4} {w : World} (h : NetAt g1 g2 n1 n2 c1 c2 ss fs w) :
    Calls Try.prog 232 #[.agg #[.slice (some ⟨g1, 0, none⟩) n1 c1, .slice (some ⟨g2, 0, none⟩) n2 c2]] w (RowsP (rgV ss fs) (pb (netP ss fs)) w) := by
  have HNT := Lib.hid h
  have HL2 := Lib.hid h.ln2
  have hs2 := h.sm2
  clear h
  by_cases hv : netP ss fs
  case neg =>
    obtain ⟨e1, e2⟩ := rgV_no hv
    rw [e1, e2]
    clear e1
    go_enter Try.func232, Try.ntmps232
    go_wp2_with fail
    obtain ⟨W0, hW0⟩ : ∃ W0, (w.alloc (Obj.cells #[.slice (some ⟨g1, 0, none⟩) n1 c1, .slice (some ⟨g2, 0, none⟩) n2 c2] 39)) = W0 := ⟨_, rfl⟩
    have hb0 : Below w.heap.size w W0 := by rw [← hW0]; exact (Below.refl _ _).alloc (Nat.le_refl _) _
    have hk0 : W0.cell? ⟨w.heap.size, 0, none⟩ = some (.slice (some ⟨g1, 0, none⟩) n1 c1) := by rw [← hW0]; simp [go_sem]
    have hk1 : W0.cell? ⟨w.heap.size, 1, none⟩ = some (.slice (some ⟨g2, 0, none⟩) n2 c2) := by rw [← hW0]; simp [go_sem]
    have hz0 : w.heap.size < W0.heap.size := by rw [← hW0]; simp
    have HB0 := Lib.hid hb0; have HK0 := Lib.hid hk0; have HK1 := Lib.hid hk1; have HZB := Lib.hid hz0
    rw [hW0]
    clear hW0 hb0
    clear hk0 hk1 hz0
    refine (implNet_ (HNT.out.moved HB0.out)).mono ?_
    rw [e2]
    rintro e w1 ⟨rfl, hb1⟩
    have HB1 := Lib.hid (HB0.out.trans (hb1.mono HB0.out.size))
    clear hb1
    go_wp2
    go_ret2
    exact rows_no ⟨rfl, rfl⟩ HB1.out
  case pos =>
  obtain ⟨e1, e2⟩ := rgV_yes hv
  rw [e1, e2]
  have hnf : n2 ≤ 14 := by have := hv.2.1; have := HL2.out; omega
  clear e1
  go_enter Try.func232, Try.ntmps232
  go_wp2_with fail
  obtain ⟨W0, hW0⟩ : ∃ W0, (w.alloc (Obj.cells #[.slice (some ⟨g1, 0, none⟩) n1 c1, .slice (some ⟨g2, 0, none⟩) n2 c2] 39)) = W0 := ⟨_, rfl⟩
  have hb0 : Below w.heap.size w W0 := by rw [← hW0]; exact (Below.refl _ _).alloc (Nat.le_refl _) _
  have hk0 : W0.cell? ⟨w.heap.size, 0, none⟩ = some (.slice (some ⟨g1, 0, none⟩) n1 c1) := by rw [← hW0]; simp [go_sem]
  have hk1 : W0.cell? ⟨w.heap.size, 1, none⟩ = some (.slice (some ⟨g2, 0, none⟩) n2 c2) := by rw [← hW0]; simp [go_sem]
  have hz0 : w.heap.size < W0.heap.size := by rw [← hW0]; simp
  have HB0 := Lib.hid hb0; have HK0 := Lib.hid hk0; have HK1 := Lib.hid hk1; have HZB := Lib.hid hz0
  rw [hW0]
  clear hW0 hb0
  clear hk0 hk1 hz0
  refine (implNet_ (HNT.out.moved HB0.out)).mono ?_
  rw [e2]
  rintro e w1 ⟨rfl, hb1⟩
  have HB1 := Lib.hid (HB0.out.trans (hb1.mono HB0.out.size))
  have HK0b := Lib.hid ((hb1.cell (p := ⟨w.heap.size, 0, none⟩) (by show w.heap.size < _; have := HZB.out; omega)).trans HK0.out)
  have HK1b := Lib.hid ((hb1.cell (p := ⟨w.heap.size, 1, none⟩) (by show w.heap.size < _; have := HZB.out; omega)).trans HK1.out)
  have HZ1 : Hid (w.heap.size < w1.heap.size) := Lib.hid (by have := HZB.out; have := hb1.size; omega)
  clear hb1 e2 hv
  have hz1 := HZ1.out
  go_wp2
  clear hz1
  go_loopw [4, 5] (fun v r wr => ∃ (k : Nat) (A1 : Option Addr) (N1 d1 : Nat) (ys : List Rw), k ≤ 9 ∧ r = .int .i64 ((k : Int) + 1) ∧ v = .slice A1 N1 d1 ∧ N1 ≤ k ∧ Hid (ys.map Rw.zs = rgA fs k) ∧ Hid (Rws w1.heap.size A1 N1 d1 ys wr) ∧ Below w1.heap.size w1 wr) (fun _ r _ => 10 - (intOf r).toNat)
  case atStart => exact ⟨0, none, 0, 0, [], by omega, rfl, rfl, Nat.le_refl _, Lib.hid rfl, Lib.hid (Rws.nil _ _), Below.refl _ _⟩
  case round =>
    obtain ⟨k, A1, N1, d1, ys, hk, rfl, rfl, hNk, HD, HR, hb⟩ := hrel
    have HBR := Lib.hid hb
    have HBW := Lib.hid (HB1.out.trans (hb.mono HB1.out.size))
    have hsz := hb.size
    have l0 := (hb.cell (p := ⟨w.heap.size, 0, none⟩) HZ1.out).trans HK0b.out
    have l1 := (hb.cell (p := ⟨w.heap.size, 1, none⟩) HZ1.out).trans HK1b.out
    have hg0 : w.heap.size < wr.heap.size := by have := HZ1.out; omega
    clear hb
    by_cases hlt : k < 9
    case neg =>
      obtain rfl : k = 9 := by omega
      have CW := Lib.hid (withRisk_ (HNT.out.moved HBW.out) 0)
      clear hlt
      go_wp2_with fail
      clear l0 l1 hg0
      refine CW.out.mono ?_
      rintro e w2 ⟨A0, N0, d0, rfl, HN0, ho0, hb2⟩
      have HB2 := Lib.hid (HBR.out.trans (hb2.mono HBR.out.size))
      have HR2 := Lib.hid (HR.out.moved hb2)
      have HO0 := Lib.hid (own_base ho0 hsz)
      have hn0 : N0 ≤ 14 := by have h1 := HN0.out; have h2 := rkK_len fs 0 fs.length; have := HL2.out; omega
      obtain ⟨L0, hL0⟩ : ∃ L, rkK fs 0 fs.length = L := ⟨_, rfl⟩
      rw [hL0] at HN0 HO0
      have HRG : Hid (rgL fs = rgA fs 9 ++ rgZ L0) := Lib.hid (by unfold rgL; rw [hL0])
      clear ho0 hb2 hL0 HBW HBR
      go_wp2
      go_loopw [4, 29] (fun v i wv => ∃ (j : Nat) (A2 : Option Addr) (N2 d2 : Nat) (xs : List Rw), j ≤ N0 ∧ i = .int .i64 j ∧ v = .slice A2 N2 d2 ∧ N2 ≤ 9 + j ∧ Hid (xs.map Rw.zs = rgA fs 9 ++ rgZ (L0.take j)) ∧ Hid (Rws w1.heap.size A2 N2 d2 xs wv) ∧ Hid (wv.ownsRow w1.heap.size 3 1 (.slice A0 N0 d0) N0 (L0.map (Value.int .i64))) ∧ Below w1.heap.size w1 wv) (fun _ i _ => N0 - (intOf i).toNat)
      case atStart => exact ⟨0, A1, N1, d1, ys, Nat.zero_le _, rfl, rfl, by omega, Lib.hid (by rw [HD.out, List.take_zero]; simp [rgZ]), HR2, HO0, HB2.out⟩
      case round =>
        obtain ⟨j, A2, N2, d2, xs, hj, rfl, rfl, hN2, HX, HRX, HOZ, hb⟩ := hrel
        have HBV := Lib.hid hb
        have hsv := hb.size
        clear hb
        by_cases hjt : j < N0
        case neg =>
          have HE : Hid (xs.map Rw.zs = rgL fs) := Lib.hid (by rw [HX.out, HRG.out, List.take_of_length_le (by have := HN0.out; omega)])
          go_wp2
          go_ret2
          exact ⟨A2, N2, d2, xs, rfl, HE, HRX.out.base HB1.out.size, HB1.out.trans (HBV.out.mono HB1.out.size)⟩
        case pos =>
        have hjl : j < L0.length := by have := HN0.out; omega
        obtain ⟨gz, rfl⟩ := own_some HOZ.out (by omega)
        obtain ⟨x, hx⟩ : ∃ x, L0.getD j 0 = x := ⟨_, rfl⟩
        have hcz := own_int HOZ.out HN0.out hjt hx
        have HTK : Hid (rgZ (L0.take (j + 1)) = rgZ (L0.take j) ++ [[x]]) := Lib.hid (by
          unfold rgZ
          rw [List.take_succ_eq_append_getElem hjl, List.map_append]
          rw [List.getD_eq_getElem?_getD, List.getElem?_eq_getElem hjl] at hx
          have hx' : L0[j] = x := hx
          rw [hx']; rfl)
        have HLIT : Hid (RwOwn wr.heap.size (wr.alloc (Obj.cells #[.int .i64 x] 3)) ⟨some ⟨wr.heap.size, 0, none⟩, 1, 1, [x]⟩) := Lib.hid ⟨rfl, World.ownsRow_lit (base := wr.heap.size) (e := 3) (size := 1) wr #[.int .i64 x] 1 (Nat.le_refl _) (by unfold maxLen; omega) rfl⟩
        have HRA := Lib.hid ((HRX.out.alloc (Obj.cells #[.int .i64 x] 3)).alloc (Obj.cells #[.slice (some ⟨wr.heap.size, 0, none⟩) 1 1] 26))
        have HLA := Lib.hid (((HLIT.out.base hsv).moved ((Below.refl _ _).alloc (Nat.le_refl _) (Obj.cells #[.slice (some ⟨wr.heap.size, 0, none⟩) 1 1] 26))))
        have HZA := Lib.hid ((HOZ.out.alloc (Obj.cells #[.int .i64 x] 3)).alloc (Obj.cells #[.slice (some ⟨wr.heap.size, 0, none⟩) 1 1] 26))
        clear hx hjl
        go_wp2_with (at_builtin; refine wp_app rfl (.tmp 33) (.tmp 36) 88 26 rfl w1.heap.size Try.underlying88 Try.inf_ss rfl (by decide) (by decide) _ N2 _ rfl HRA.out.row _ _ [.slice (some ⟨wr.heap.size, 0, none⟩) 1 1] rfl rfl (news1 (new_at_ _ _ _ _ (by simp))) (news_sl _ _ _) (by omega) (by simp; omega) ?_)
        intro A3 d3 N3 w3 hN3 hown3 hgrow3 hloc3
        have HAP : Hid (∀ z ∈ xs, Apart z.val (Rw.mk (some ⟨wr.heap.size, 0, none⟩) 1 1 [x]).val) := Lib.hid (HRX.out.newer HLIT.out (Nat.le_refl _))
        have HR3 : Hid (Rws w1.heap.size A3 N3 d3 (xs ++ [⟨some ⟨wr.heap.size, 0, none⟩, 1, 1, [x]⟩]) w3) := Lib.hid (HRA.out.push HLA.out HAP.out hN3 hown3 hgrow3)
        have HB3 := Lib.hid (((HBV.out.alloc hsv _).alloc (by simp; omega) _).grown hgrow3 (by simp; omega) (fun g hg => (HRA.out.row.lt g hg).1))
        have HZ3 := Lib.hid ((own_type_apart HZA.out HRA.out.row (by decide)).kept HZA.out hgrow3)
        have HX3 : Hid ((xs ++ [Rw.mk (some ⟨wr.heap.size, 0, none⟩) 1 1 [x]]).map Rw.zs = rgA fs 9 ++ rgZ (L0.take (j + 1))) := Lib.hid (by rw [List.map_append, HX.out, HTK.out, List.append_assoc]; rfl)
        have hN3' : N3 ≤ 9 + (j + 1) := by omega
        clear hown3 hgrow3 hloc3 hN3
        go_wp2
        go_roundw
        case rel => exact ⟨j + 1, A3, N3, d3, _, by omega, by go_num, rfl, hN3', HX3, HR3, HZ3, HB3.out⟩
        case measure => simp [intOf]; omega
    case pos =>
    have CW := Lib.hid (withRisk_ (HNT.out.moved HBW.out) ((k : Int) + 1))
    go_wp2_with fail
    clear l0 l1 hg0
    refine CW.out.mono ?_
    rintro e w2 ⟨A2, N2, d2, rfl, HN2, ho2, hb2⟩
    have HB2 := Lib.hid (HBR.out.trans (hb2.mono HBR.out.size))
    have HR2 := Lib.hid (HR.out.moved hb2)
    have hs2w := hb2.size
    rcases Nat.eq_zero_or_pos N2 with hz | hz
    · have HS : Hid (ys.map Rw.zs = rgA fs (k + 1)) := Lib.hid (by rw [HD.out]; exact (rgA_no (List.eq_nil_of_length_eq_zero (by have := HN2.out; omega))).symm)
      subst hz
      clear ho2 hb2
      go_wp2
      go_roundw
      case rel => exact ⟨k + 1, A1, N1, d1, ys, by omega, by go_num, rfl, by omega, HS, HR2, HB2.out⟩
      case measure => simp [intOf]; omega
    · have HS : Hid (rgA fs (k + 1) = rgA fs k ++ [rkK fs ((k : Int) + 1) fs.length]) := Lib.hid (rgA_yes (fun hn => by have h1 := HN2.out; rw [hn] at h1; simp at h1; omega))
      obtain ⟨L2, hL2⟩ : ∃ L, rkK fs ((k : Int) + 1) fs.length = L := ⟨_, rfl⟩
      rw [hL2] at HN2 HS ho2
      have HRW : Hid (RwOwn wr.heap.size w2 ⟨A2, N2, d2, L2⟩) := Lib.hid ⟨HN2.out, ho2⟩
      have HAP := Lib.hid (HR.out.newer HRW.out (Nat.le_refl _))
      have HRA := Lib.hid (HR2.out.alloc (Obj.cells #[.slice A2 N2 d2] 26))
      have HLA := Lib.hid ((HRW.out.base hsz).moved ((Below.refl _ _).alloc (Nat.le_refl _) (Obj.cells #[.slice A2 N2 d2] 26)))
      clear ho2 hb2 hL2
      go_wp2_with (at_builtin; refine wp_app rfl (.tmp 22) (.tmp 24) 88 26 rfl w1.heap.size Try.underlying88 Try.inf_ss rfl (by decide) (by decide) _ N1 _ rfl HRA.out.row _ _ [.slice A2 N2 d2] rfl rfl (news1 (new_at_ _ _ _ _ rfl)) (news_sl _ _ _) (by omega) (by simp; omega) ?_)
      intro A3 d3 N3 w3 hN3 hown3 hgrow3 hloc3
      have HR3 : Hid (Rws w1.heap.size A3 N3 d3 (ys ++ [⟨A2, N2, d2, L2⟩]) w3) := Lib.hid (HRA.out.push HLA.out HAP.out hN3 hown3 hgrow3)
      have HB3 := Lib.hid ((HB2.out.alloc (by omega) _).grown hgrow3 (by simp; omega) (fun g hg => (HRA.out.row.lt g hg).1))
      have HX3 : Hid ((ys ++ [Rw.mk A2 N2 d2 L2]).map Rw.zs = rgA fs (k + 1)) := Lib.hid (by rw [List.map_append, HD.out, HS.out]; rfl)
      have hN3' : N3 ≤ k + 1 := by omega
      clear hown3 hgrow3 hloc3 hN3
      go_wp2
      go_roundw
      case rel => exact ⟨k + 1, A3, N3, d3, _, by omega, by go_num, rfl, hN3', HX3, HR3, HB3.out⟩
      case measure => simp [intOf]; omega
set_option maxRecDepth 100000 in
set_option maxHeartbeats 8000000 in
theorem groupMasks_ {g1 g2 n1 n2 c1 c2 : Nat} {ss : List ByteArray} {fs : List Q4} {w : World} (h : NetAt g1 g2 n1 n2 c1 c2 ss fs w) :
    Calls Try.prog 212 #[.agg #[.slice (some ⟨g1, 0, none⟩) n1 c1, .slice (some ⟨g2, 0, none⟩) n2 c2]] w (IntsP (gmV ss fs) (pb (netP ss fs)) w) := by
  have HNT := Lib.hid h
  have HL2 := Lib.hid h.ln2
  have hs2 := h.sm2
  clear h
  have CR : Hid (∀ W, Below w.heap.size w W → Calls Try.prog 232 #[.agg #[.slice (some ⟨g1, 0, none⟩) n1 c1, .slice (some ⟨g2, 0, none⟩) n2 c2]] W (RowsP (rgV ss fs) (pb (netP ss fs)) W)) := Lib.hid (fun W hb => implRGs (HNT.out.moved hb))
  have HLN : Hid ((rgV ss fs).length ≤ n2) := Lib.hid (by rw [← HL2.out]; exact rgV_len ss fs)
  have HBD : Hid (∀ g ∈ rgV ss fs, ∀ k, k < g.length → 0 ≤ nth g k ∧ nth g k < 20) := Lib.hid (fun g hg k hk => by
    unfold rgV at hg
    by_cases hv : netP ss fs
    · rw [pb_true hv, if_pos rfl] at hg
      have h1 := (rgp_eq hg (x := g[k]) (List.getElem_mem hk)).1
      rw [nth_eq hk] at h1
      have := hv.2.1
      omega
    · rw [pb_false hv, if_neg (by decide)] at hg; simp at hg)
  have HLE : Hid (∀ g ∈ rgV ss fs, g.length ≤ n2) := Lib.hid (fun g hg => by
    unfold rgV at hg
    by_cases hv : netP ss fs
    · rw [pb_true hv, if_pos rfl] at hg
      rw [← HL2.out]; exact rgp_le hg
    · rw [pb_false hv, if_neg (by decide)] at hg; simp at hg)
  obtain ⟨L, hL⟩ : ∃ L, rgV ss fs = L := ⟨_, rfl⟩
  obtain ⟨b, hb⟩ : ∃ b, pb (netP ss fs) = b := ⟨_, rfl⟩
  have HGM : Hid (gmV ss fs = L.map fun g => (mkN g : Int)) := Lib.hid (by unfold gmV; rw [hL])
  rw [hL, hb] at CR
  rw [hL] at HBD HLN HLE
  rw [HGM.out, hb]
  clear hL hb HGM
  obtain ⟨gk, HGK⟩ : ∃ gk : Nat → List Int, Hid (∀ k, gk k = (L.take k).map fun g => (mkN g : Int)) := ⟨_, Lib.hid fun _ => rfl⟩
  go_enter Try.func212, Try.ntmps212
  go_wp2_with fail
  obtain ⟨W0, hW0⟩ : ∃ W0, (w.alloc (Obj.cells #[.slice (some ⟨g1, 0, none⟩) n1 c1, .slice (some ⟨g2, 0, none⟩) n2 c2] 39)) = W0 := ⟨_, rfl⟩
  have hb0 : Below w.heap.size w W0 := by rw [← hW0]; exact (Below.refl _ _).alloc (Nat.le_refl _) _
  have hk0 : W0.cell? ⟨w.heap.size, 0, none⟩ = some (.slice (some ⟨g1, 0, none⟩) n1 c1) := by rw [← hW0]; simp [go_sem]
  have hk1 : W0.cell? ⟨w.heap.size, 1, none⟩ = some (.slice (some ⟨g2, 0, none⟩) n2 c2) := by rw [← hW0]; simp [go_sem]
  have hz0 : w.heap.size < W0.heap.size := by rw [← hW0]; simp
  have HB0 := Lib.hid hb0; have HK0 := Lib.hid hk0; have HK1 := Lib.hid hk1; have HZB := Lib.hid hz0
  rw [hW0]
  clear hW0 hb0
  clear hk0 hk1 hz0
  refine (CR.out _ HB0.out).mono ?_
  rintro e w1 ⟨A0, N0, d0, ys, rfl, HD, hR, hb1⟩
  have HB1 := Lib.hid (HB0.out.trans (hb1.mono HB0.out.size))
  have HR := Lib.hid hR
  have HSM : Hid (∀ k (hk : k < ys.length) {y : Rw}, ys[k] = y → y.n ≤ 1048576) := Lib.hid (fun k hk y hy => by
    have h1 : y.zs ∈ L := by rw [← HD.out, ← hy]; exact List.mem_map.2 ⟨_, List.getElem_mem hk, rfl⟩
    have h2 := HLE.out _ h1
    have h3 := (hR.own y (by rw [← hy]; exact List.getElem_mem hk)).1
    omega)
  have HNL : Hid (N0 = L.length) := Lib.hid (by have h1 := hR.len; have h2 := congrArg List.length HD.out; rw [List.length_map] at h2; omega)
  have hn0 : N0 ≤ n2 := by have := HNL.out; have := HLN.out; omega
  clear hb1 hR
  go_wp2
  go_loopw [6, 16] (fun v i wr => ∃ (k : Nat) (A1 : Option Addr) (N1 d1 : Nat), k ≤ N0 ∧ i = .int .i64 k ∧ v = .slice A1 N1 d1 ∧ N1 ≤ k ∧ Hid (N1 = (gk k).length) ∧ Hid (wr.ownsRow w1.heap.size 3 1 (.slice A1 N1 d1) N1 ((gk k).map (Value.int .i64))) ∧ Below w1.heap.size w1 wr) (fun _ i _ => N0 - (intOf i).toNat)
  case atStart => exact ⟨0, none, 0, 0, Nat.zero_le _, rfl, rfl, Nat.le_refl _, Lib.hid (by rw [HGK.out]; rfl), Lib.hid (by rw [HGK.out]; exact World.ownsRow_nil _ _ _ _), Below.refl _ _⟩
  case round =>
    obtain ⟨k, A1, N1, d1, hk, rfl, rfl, hNk, HN1, HO, hb⟩ := hrel
    have HBR := Lib.hid hb
    have HBW := Lib.hid (HB1.out.trans (hb.mono HB1.out.size))
    have hsz := hb.size
    clear hb
    by_cases hlt : k < N0
    case neg =>
      have hkL : L.take k = L := List.take_of_length_le (by have := HNL.out; omega)
      have hkG : gk k = L.map fun g => (mkN g : Int) := by rw [HGK.out, hkL]
      rw [hkG] at HN1 HO
      clear hkL hkG
      go_wp2
      go_ret2
      exact ⟨A1, N1, d1, rfl, HN1, own_base HO.out HB1.out.size, HBW.out⟩
    case pos =>
    have hky : k < ys.length := by have := HR.out.len; omega
    have hkl : k < L.length := by have := HNL.out; omega
    obtain ⟨y, hy⟩ : ∃ y, ys[k]'hky = y := ⟨_, rfl⟩
    obtain ⟨g, rfl, hg, hc, ho⟩ := (HR.out.moved HBR.out).at_ hky hy
    have hz : y.zs = L[k] := by
      have h9 := congrArg (fun l : List (List Int) => l[k]?) HD.out
      simp only [List.getElem?_map, List.getElem?_eq_getElem hky, List.getElem?_eq_getElem hkl, hy, Option.map_some] at h9
      injection h9
    have hbd := HBD.out L[k] (List.getElem_mem hkl)
    have HTK : Hid (gk (k + 1) = gk k ++ [(mkN L[k] : Int)]) := Lib.hid (by rw [HGK.out, HGK.out, List.take_succ_eq_append_getElem hkl, List.map_append]; rfl)
    rw [← hz] at hbd HTK
    obtain ⟨yA, yn, yc, zs⟩ := y
    obtain ⟨e1, o1⟩ := ho
    simp only at e1 o1 hc hbd HTK
    have hsm : yn ≤ 1048576 := by have := HSM.out k hky hy; exact this
    have CM := Lib.hid (maskOf_ yA yn yc zs wr e1.symm hsm (Rd.ofOwn o1) (fun j hj => hbd j (by omega)))
    rw [show maskN zs yn = mkN zs by unfold mkN; rw [e1]] at CM
    obtain ⟨m, hm⟩ : ∃ m, mkN zs = m := ⟨_, rfl⟩
    rw [hm] at CM HTK
    clear hy hz hm e1 o1 hbd hky hkl
    go_wp2_with fail
    refine CM.out.mono ?_
    rintro e w' ⟨rfl, rfl⟩
    clear hc
    go_wp2_with (at_builtin; refine wp_app rfl (.tmp 20) (.tmp 23) 26 3 rfl w1.heap.size Try.underlying26 Try.inf_int rfl (by decide) (by decide) _ N1 _ rfl (HO.out.alloc _) _ _ [.int .i64 (m : Int)] rfl rfl (news1 (new_at_ _ _ _ _ rfl)) (news_int _) (by omega) (by simp; omega) ?_)
    intro A2 d2 N2 w3 hN2 hown2 hgrow2 hloc2
    have HB3 := Lib.hid ((HBR.out.alloc hsz _).grown hgrow2 (by simp; omega) (fun g hg => (HO.out.lt g hg).1))
    have HO3 : Hid (w3.ownsRow w1.heap.size 3 1 (.slice A2 N2 d2) N2 ((gk (k + 1)).map (Value.int .i64))) := Lib.hid (by rw [HTK.out, List.map_append]; exact hown2)
    have HN3 : Hid (N2 = (gk (k + 1)).length) := Lib.hid (by rw [HTK.out, List.length_append, ← HN1.out, hN2]; rfl)
    have hN3' : N2 ≤ k + 1 := by omega
    clear hown2 hgrow2 hloc2 hN2
    go_wp2
    go_roundw
    case rel => exact ⟨k + 1, A2, N2, d2, by omega, by go_num, rfl, hN3', HN3, HO3, HB3.out⟩
    case measure => simp [intOf]; omega
end Go.Proofs.Ytlgkjidginibdaa
