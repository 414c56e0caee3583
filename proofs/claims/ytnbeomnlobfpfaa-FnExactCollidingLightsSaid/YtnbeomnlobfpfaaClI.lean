/- Lights that would collide with a light: contracts of CollidingLights, both sides. No condition but those typed. -/
import Derived.Test.YtnbeomnlobfpfaaCl
import Derived.Test.YtnbeomnlobfpfaaGD
import Derived.Test.YtnbeomnlobfpfaaGB
import Derived.Test.YtnbeomnlobfpfaaGA
import Derived.Test.YtnbeomnlobfpfaaFail
namespace Go.Proofs.Ytnbeomnlobfpfaa
open Go.ChangeShapes Go.WideShapes Go.ChangeAt Go.RowKit

set_option maxRecDepth 100000 in
set_option maxHeartbeats 8000000 in
theorem implCL {g1 g2 g3 n1 n2 n3 c1 c2 B : Nat} {ss : List ByteArray} {fs : List Q4} {ys : List Lt} {ds : List LtD} {w : World} (h : NetAt g1 g2 n1 n2 c1 c2 ss fs w) (hT : Lts B g3 n3 ys w) (hd : ys.map Lt.d = ds) (hs : n3 ≤ 1048576) (x : Lt) (hx : LtAt w x) :
    Calls Try.prog 48 #[.agg #[.slice (some ⟨g1, 0, none⟩) n1 c1, .slice (some ⟨g2, 0, none⟩) n2 c2, .slice (some ⟨g3, 0, none⟩) n3 n3], .agg #[.int .i64 x.p0, .int .i64 x.p1, .slice x.A x.n x.c, .int .i64 x.q0, .int .i64 x.q1]] w (IntsP (clL ss fs ds x.d) (pb (clP ss fs ds x.d)) w) := by
  have HNT := Lib.hid h; have HT := Lib.hid hT; have HD := Lib.hid hd; have HXA := Lib.hid hx
  have HLD : Hid (ds.length = n3) := Lib.hid (by rw [← hd, List.length_map]; exact hT.len)
  clear h hT hd hx
  obtain ⟨xd, hxd⟩ : ∃ d, x.d = d := ⟨_, rfl⟩
  have HXD := Lib.hid hxd
  obtain ⟨RL, hRL⟩ : ∃ r, clL ss fs ds x.d = r := ⟨_, rfl⟩
  obtain ⟨RB, hRB⟩ : ∃ r, pb (clP ss fs ds x.d) = r := ⟨_, rfl⟩
  rw [hRL, hRB]
  have HNO : Hid (¬ clP ss fs ds x.d → RL = [] ∧ RB = false) := Lib.hid (fun e => by rw [← hRL, ← hRB]; exact cl_no e)
  have HYES : Hid (clP ss fs ds x.d → RL = clK ds x.d ds.length ∧ RB = true) := Lib.hid (fun e => by rw [← hRL, ← hRB]; exact cl_yes e)
  clear hRL hRB hxd
  go_enter Try.func48, Try.ntmps48
  go_wp2_with fail
  obtain ⟨W0, hW0⟩ : ∃ W0, ((w.alloc (Obj.cells #[.slice (some ⟨g1, 0, none⟩) n1 c1, .slice (some ⟨g2, 0, none⟩) n2 c2, .slice (some ⟨g3, 0, none⟩) n3 n3] 37)).alloc (Obj.cells #[.int .i64 x.p0, .int .i64 x.p1, .slice x.A x.n x.c, .int .i64 x.q0, .int .i64 x.q1] 88)) = W0 := ⟨_, rfl⟩
  have hb0 : Below w.heap.size w W0 := by rw [← hW0]; exact ((Below.refl _ _).alloc (Nat.le_refl _) _).alloc (by simp) _
  have hk0 : W0.cell? ⟨w.heap.size, 0, none⟩ = some (.slice (some ⟨g1, 0, none⟩) n1 c1) := by rw [← hW0]; simp [go_sem]
  have hk1 : W0.cell? ⟨w.heap.size, 1, none⟩ = some (.slice (some ⟨g2, 0, none⟩) n2 c2) := by rw [← hW0]; simp [go_sem]
  have hk2 : W0.cell? ⟨w.heap.size, 2, none⟩ = some (.slice (some ⟨g3, 0, none⟩) n3 n3) := by rw [← hW0]; simp [go_sem]
  have hm0 : W0.cell? ⟨w.heap.size + 1, 0, none⟩ = some (.int .i64 x.p0) := by rw [← hW0]; simp [go_sem]
  have hm1 : W0.cell? ⟨w.heap.size + 1, 1, none⟩ = some (.int .i64 x.p1) := by rw [← hW0]; simp [go_sem]
  have hm2 : W0.cell? ⟨w.heap.size + 1, 2, none⟩ = some (.slice x.A x.n x.c) := by rw [← hW0]; simp [go_sem]
  have hm3 : W0.cell? ⟨w.heap.size + 1, 3, none⟩ = some (.int .i64 x.q0) := by rw [← hW0]; simp [go_sem]
  have hm4 : W0.cell? ⟨w.heap.size + 1, 4, none⟩ = some (.int .i64 x.q1) := by rw [← hW0]; simp [go_sem]
  have hz0 : w.heap.size + 1 < W0.heap.size := by rw [← hW0]; simp
  have HB0 := Lib.hid hb0
  have HK : Hid (∀ W, Below (w.heap.size + 2) W0 W → W.cell? ⟨w.heap.size, 0, none⟩ = some (.slice (some ⟨g1, 0, none⟩) n1 c1) ∧ W.cell? ⟨w.heap.size, 1, none⟩ = some (.slice (some ⟨g2, 0, none⟩) n2 c2) ∧ W.cell? ⟨w.heap.size, 2, none⟩ = some (.slice (some ⟨g3, 0, none⟩) n3 n3) ∧ W.cell? ⟨w.heap.size + 1, 0, none⟩ = some (.int .i64 x.p0) ∧ W.cell? ⟨w.heap.size + 1, 1, none⟩ = some (.int .i64 x.p1) ∧ W.cell? ⟨w.heap.size + 1, 2, none⟩ = some (.slice x.A x.n x.c) ∧ W.cell? ⟨w.heap.size + 1, 3, none⟩ = some (.int .i64 x.q0) ∧ W.cell? ⟨w.heap.size + 1, 4, none⟩ = some (.int .i64 x.q1)) := Lib.hid (fun W hW => ⟨(hW.cell (p := ⟨w.heap.size, 0, none⟩) (by simp)).trans hk0, (hW.cell (p := ⟨w.heap.size, 1, none⟩) (by simp)).trans hk1, (hW.cell (p := ⟨w.heap.size, 2, none⟩) (by simp)).trans hk2, (hW.cell (p := ⟨w.heap.size + 1, 0, none⟩) (by simp)).trans hm0, (hW.cell (p := ⟨w.heap.size + 1, 1, none⟩) (by simp)).trans hm1, (hW.cell (p := ⟨w.heap.size + 1, 2, none⟩) (by simp)).trans hm2, (hW.cell (p := ⟨w.heap.size + 1, 3, none⟩) (by simp)).trans hm3, (hW.cell (p := ⟨w.heap.size + 1, 4, none⟩) (by simp)).trans hm4⟩)
  have HZ0 : Hid (w.heap.size + 2 ≤ W0.heap.size) := Lib.hid (by omega)
  rw [hW0]
  clear hW0 hb0 hk0 hk1 hk2 hm0 hm1 hm2 hm3 hm4 hz0
  have CG := Lib.hid (implVP (HNT.out.moved HB0.out) (HT.out.moved HB0.out) HD.out hs)
  by_cases hp : planP ss fs ds
  case neg =>
    have HE := Lib.hid (HNO.out (fun e => hp e.1))
    rw [pb_false hp] at CG
    clear hp
    refine CG.out.mono ?_
    rintro e w1 ⟨rfl, hb1⟩
    have HB1 := Lib.hid (HB0.out.trans (hb1.mono HB0.out.size))
    clear hb1
    go_wp2
    go_ret2
    exact ints_no HE.out HB1.out
  case pos =>
  have HP := Lib.hid hp
  rw [pb_true hp] at CG
  clear hp
  refine CG.out.mono ?_
  rintro e w1 ⟨rfl, hb1⟩
  have HBW1 : Hid (Below (w.heap.size + 2) W0 w1) := Lib.hid (hb1.mono HZ0.out)
  have HB1 := Lib.hid (HB0.out.trans (hb1.mono HB0.out.size))
  clear hb1
  obtain ⟨k0, k1, k2, m0, m1, m2, m3, m4⟩ := HK.out w1 HBW1.out
  have CL := Lib.hid (isLight_ (HNT.out.moved HB1.out) HP.out.1 x (HXA.out.moved HB1.out))
  by_cases hl : lightP ss fs x.d
  case neg =>
    have HE := Lib.hid (HNO.out (fun e => hl e.2))
    rw [pb_false hl] at CL
    clear hl
    go_wp2_with fail
    refine CL.out.mono ?_
    rintro e w2 ⟨rfl, hb2⟩
    have HB2 := Lib.hid (HB1.out.trans (hb2.mono HB1.out.size))
    clear hb2 k0 k1 k2 m0 m1 m2 m3 m4
    go_wp2
    go_ret2
    exact ints_no HE.out HB2.out
  case pos =>
  have HL := Lib.hid hl
  have HE := Lib.hid (HYES.out ⟨HP.out, hl⟩)
  rw [pb_true hl] at CL
  clear hl
  have hn12 : n3 ≤ 12 := by have := HP.out.2.1; have := HLD.out; omega
  have HGX : Hid (GoodD x.d) := Lib.hid (lightP_good HL.out HP.out.1)
  go_wp2_with fail
  refine CL.out.mono ?_
  rintro e w2 ⟨rfl, hb2⟩
  have HBW2 : Hid (Below (w.heap.size + 2) W0 w2) := Lib.hid (HBW1.out.trans (hb2.mono (by have := HBW1.out.size; have := HZ0.out; omega)))
  clear hb2 k0 k1 k2 m0 m1 m2 m3 m4 HBW1 HB1
  obtain ⟨k0, k1, k2, m0, m1, m2, m3, m4⟩ := HK.out w2 HBW2.out
  go_wp2
  clear k0 k1 k2 m0 m1 m2 m3 m4
  go_loopw [6, 24] (fun o i wr => ∃ (k N c : Nat) (A : Option Addr), k ≤ n3 ∧ i = .int .i64 (k : Int) ∧ o = .slice A N c ∧ Hid (N = (clK ds x.d k).length) ∧ Hid (wr.ownsRow (w.heap.size + 2) 3 1 (.slice A N c) N ((clK ds x.d k).map (Value.int .i64))) ∧ Below (w.heap.size + 2) W0 wr) (fun _ i _ => n3 - (intOf i).toNat)
  case atStart => exact ⟨0, 0, 0, none, Nat.zero_le _, rfl, rfl, Lib.hid rfl, Lib.hid (World.ownsRow_nil _ _ _ _), HBW2.out⟩
  case round =>
    clear HBW2
    obtain ⟨k, N, c, A, hk, rfl, rfl, HNN, HOW, hb⟩ := hrel
    have HBR := Lib.hid hb
    have HBRW := Lib.hid (HB0.out.trans (hb.mono (by omega)))
    clear hb
    have HSZ : Hid (w.heap.size + 2 ≤ wr.heap.size) := Lib.hid (by have := HBR.out.size; have := HZ0.out; omega)
    have hN12 : N ≤ 12 := by have := HNN.out; have := clK_len ds x.d k; omega
    by_cases hlt : k < n3
    case neg =>
      obtain rfl : k = n3 := by omega
      clear hlt
      go_wp2
      go_ret2
      obtain ⟨e1, rfl⟩ := HE.out
      rw [e1, HLD.out]
      exact ⟨_, N, c, rfl, HNN, own_base HOW.out (by omega), HBRW.out⟩
    case pos =>
    have hkl : k < ys.length := by have := HT.out.len; omega
    have HKD : Hid (k < ds.length) := Lib.hid (by have := HLD.out; omega)
    obtain ⟨y, hke⟩ : ∃ y, ys[k]'hkl = y := ⟨_, rfl⟩
    have HDK := Lib.hid (dn_at HD.out hkl hke)
    have HYA : Hid (LtAt w y) := Lib.hid (by rw [← hke]; exact HT.out.at_ _ (List.getElem_mem hkl))
    have HGY : Hid (GoodD y.d) := Lib.hid (by have := lightP_good (HP.out.2.2.1 k HKD.out).1 HP.out.1; rw [HDK.out] at this; exact this)
    obtain ⟨hg, f0, f1, f2, f3, f4⟩ := (HT.out.moved HBRW.out).rd.ltc hkl
    rw [Nat.zero_add, hke] at f0 f1 f2 f3 f4
    clear hke
    obtain ⟨k0, k1, k2, m0, m1, m2, m3, m4⟩ := HK.out wr HBR.out
    have hb1_ : w.heap.size + 1 < wr.heap.size := by have := HSZ.out; omega
    have hb0_ : w.heap.size < wr.heap.size := by omega
    have hb1s : w.heap.size + 1 < wr.heap.size + 1 := by omega
    have hneb : ¬ w.heap.size + 1 = wr.heap.size := by omega
    go_wp2_with fail
    obtain ⟨X, hX⟩ : ∃ X, wr.alloc (Obj.cells #[.int .i64 y.p0, .int .i64 y.p1, .slice y.A y.n y.c, .int .i64 y.q0, .int .i64 y.q1] 88) = X := ⟨_, rfl⟩
    have HXZ : Hid (X.heap.size = wr.heap.size + 1) := Lib.hid (by rw [← hX]; simp)
    have HBXr : Hid (Below wr.heap.size wr X) := Lib.hid (by rw [← hX]; exact (Below.refl _ _).alloc (Nat.le_refl _) _)
    have hy0 : X.cell? ⟨wr.heap.size, 0, none⟩ = some (.int .i64 y.p0) := by rw [← hX]; simp [go_sem]
    obtain ⟨Z, hZ⟩ : ∃ Z, X.alloc (Obj.cells #[.int .i64 x.p0, .int .i64 x.p1, .slice x.A x.n x.c, .int .i64 x.q0, .int .i64 x.q1, .int .i64 y.p0, .int .i64 y.p1, .slice y.A y.n y.c, .int .i64 y.q0, .int .i64 y.q1] 88) = Z := ⟨_, rfl⟩
    have HBZr : Hid (Below wr.heap.size wr Z) := Lib.hid (by rw [← hZ]; exact HBXr.out.alloc HBXr.out.size _)
    have HBZw : Hid (Below w.heap.size w Z) := Lib.hid (HBRW.out.trans (HBZr.out.mono HBRW.out.size))
    have hy0z : Z.cell? ⟨wr.heap.size, 0, none⟩ = some (.int .i64 y.p0) := by rw [← hZ]; exact (((Below.refl _ _).alloc (Nat.le_refl _) _).cell (p := ⟨wr.heap.size, 0, none⟩) (by show wr.heap.size < X.heap.size; rw [HXZ.out]; omega)).trans hy0
    have HRZ : Hid (Rd Z Z.heap.size (some ⟨wr.heap.size + 1, 0, none⟩) ([x, y].flatMap Lt.cells)) := Lib.hid (by have h9 := two_rd X x y; rw [hZ, HXZ.out] at h9; exact h9)
    have CO := Lib.hid (occupiedR_ (n := 2) (ys := [x, y]) (ds := [x.d, y.d]) rfl HRZ.out (fun z hz => by
      rcases List.mem_cons.1 hz with rfl | hz2
      · exact HXA.out.moved HBZw.out
      · rw [List.mem_singleton.1 hz2]; exact HYA.out.moved HBZw.out) rfl (by omega) (fun t ht => by
      have ht2 : t < 2 := ht
      rcases Nat.lt_or_ge t 1 with h1 | h1
      · obtain rfl : t = 0 := by omega
        exact HGX.out
      · obtain rfl : t = 1 := by omega
        exact HGY.out))
    have HOZ := Lib.hid (ownB HOW.out HBZr.out)
    have hzz : wr.heap.size < Z.heap.size := by rw [← hZ]; simp; rw [HXZ.out]; omega
    first | rw [hX, ← HXZ.out, hZ] | (rw [hX]; rw [← HXZ.out]; rw [hZ]) | (simp only [hX, ← HXZ.out, hZ])
    rw [HXZ.out]
    clear hX hZ f0 f1 f2 f3 f4 hy0 k0 k1 k2
    refine CO.out.mono ?_
    rintro e w3 ⟨hb3, hcase⟩
    have HB3 : Hid (Below (w.heap.size + 2) W0 w3) := Lib.hid ((HBR.out.trans (HBZr.out.mono HSZ.out)).trans (hb3.mono (by have := HSZ.out; omega)))
    have HOW3 := Lib.hid (ownB HOZ.out hb3)
    have HS3 : Hid (w.heap.size + 2 ≤ w3.heap.size) := Lib.hid (by have := hb3.size; have := HSZ.out; omega)
    have hy3 := (hb3.cell (p := ⟨wr.heap.size, 0, none⟩) hzz).trans hy0z
    have hzy : wr.heap.size < w3.heap.size := Nat.lt_of_lt_of_le hzz hb3.size
    have hx3 := (HK.out w3 HB3.out).2.2.2.1
    have hzx : w.heap.size + 1 < w3.heap.size := by omega
    clear hb3 hy0z hzz m0 m1 m2 m3 m4 hb0_ hb1s hneb
    rcases hcase with ⟨hna, rfl⟩ | ⟨ha, B9, n9, D9, rfl, _, _, _⟩
    case inl =>
      have hcol : colP y.d x.d := col_symm (Classical.byContradiction fun e => hna (apart_two.2 e))
      by_cases hid : y.p0 = x.p0
      case pos =>
        have HS2 := Lib.hid (cl_out (x := x.d) HDK.out (fun e => e.1 hid))
        have heb : (y.p0 == x.p0) = true := beq_iff_eq.2 hid
        have hnb : decide (y.p0 ≠ x.p0) = false := decide_eq_false (fun e => e hid)
        go_wp2
        go_roundw
        case rel => exact ⟨k + 1, N, c, A, by omega, by go_num, rfl, Lib.hid (by rw [HS2.out]; exact HNN.out), Lib.hid (by rw [HS2.out]; exact HOW3.out), HB3.out⟩
        case measure => simp [intOf]; omega
      case neg =>
        have HS2 := Lib.hid (cl_in (x := x.d) HDK.out ⟨hid, hcol⟩)
        have heb : (y.p0 == x.p0) = false := beq_eq_false_iff_ne.2 hid
        have hnb : decide (y.p0 ≠ x.p0) = true := decide_eq_true hid
        have hnq : (y.p0 != x.p0) = true := bne_iff_ne.2 hid
        go_wp2_with (at_builtin; refine wp_app rfl (.tmp 44) (.tmp 47) 57 3 rfl (w.heap.size + 2) Try.underlying57 Try.inf_int rfl (by decide) (by decide) _ N _ rfl (HOW3.out.alloc _) _ _ [.int .i64 y.p0] rfl rfl (news1 (new_at_ _ _ _ _ rfl)) (news_int _) (by omega) (by have := HS3.out; simp; omega) ?_)
        intro A2 d2 N2 w4 hN2 hown2 hgrow2 hloc2
        subst hN2
        have hB4 : Below (w.heap.size + 2) W0 w4 := (HB3.out.alloc HS3.out _).grown hgrow2 (by have := HS3.out; simp; omega) (fun g hg => (HOW3.out.lt g hg).1)
        have HNN3 : Hid (N + 1 = (clK ds x.d (k + 1)).length) := Lib.hid (by rw [HS2.out, List.length_append, ← HNN.out]; rfl)
        have HOW4 : Hid (w4.ownsRow (w.heap.size + 2) 3 1 (.slice A2 (N + 1) d2) (N + 1) ((clK ds x.d (k + 1)).map (Value.int .i64))) := Lib.hid (by rw [HS2.out, List.map_append]; exact hown2)
        clear hown2 hgrow2 hloc2
        obtain ⟨N3, hN3⟩ : ∃ N3, N + 1 = N3 := ⟨_, rfl⟩
        rw [hN3] at HNN3 HOW4 ⊢
        clear hN3
        go_wp2
        go_roundw
        case rel => exact ⟨k + 1, N3, d2, A2, by omega, by go_num, rfl, HNN3, HOW4, hB4⟩
        case measure => simp [intOf]; omega
    case inr =>
      have hncol : ¬ colP y.d x.d := fun e => apart_two.1 ha (col_symm e)
      have HS2 := Lib.hid (cl_out (x := x.d) HDK.out (fun e => hncol e.2))
      go_wp2
      go_roundw
      case rel => exact ⟨k + 1, N, c, A, by omega, by go_num, rfl, Lib.hid (by rw [HS2.out]; exact HNN.out), Lib.hid (by rw [HS2.out]; exact HOW3.out), HB3.out⟩
      case measure => simp [intOf]; omega
end Go.Proofs.Ytnbeomnlobfpfaa
