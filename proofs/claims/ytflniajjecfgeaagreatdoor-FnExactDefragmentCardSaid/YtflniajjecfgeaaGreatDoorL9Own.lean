/- A plan's copy: contract of spec.l9Own. No condition but those typed. -/
import Derived.Test.YtflniajjecfgeaaGreatDoorLOwn
import Derived.Test.YtflniajjecfgeaaGreatDoorL2Own
import Derived.Test.YtflniajjecfgeaaGreatDoorLtC
namespace Go.Proofs.YtflniajjecfgeaaGreatDoor
open Go.ChangeShapes Go.WideShapes Go.ChangeAt Go.RowKit

theorem one_rowP (w : World) (a b c : Value) {base : Nat} (hb : base ≤ w.heap.size) : (w.alloc (.cells #[a, b, c] 35)).ownsRow base 35 3 (.slice (some ⟨w.heap.size, 0, none⟩) 1 1) 1 [a, b, c] := by
  have := World.ownsRow_lit (base := base) (e := 35) (size := 3) w #[a, b, c] 1 hb (by unfold maxLen; omega) rfl
  simpa using this
set_option maxRecDepth 100000 in
set_option maxHeartbeats 8000000 in
theorem l9Own_ {g1 g2 g3 n1 n2 n3 c1 c2 c3 : Nat} {ss : List ByteArray} {fs : List Q4} {ys : List Lt} {w : World} (h : NetAt g1 g2 n1 n2 c1 c2 ss fs w) (hln : ys.length = n3) (hrw : Rd w w.heap.size (some ⟨g3, 0, none⟩) (ys.flatMap Lt.cells)) (hat : ∀ y ∈ ys, LtAt w y) (hso : ∀ y ∈ ys, ∃ ad, y.A = some ad) (hs : n3 ≤ 1048576) :
    Calls Tryz.prog 37 #[.agg #[.slice (some ⟨g1, 0, none⟩) n1 c1, .slice (some ⟨g2, 0, none⟩) n2 c2, .slice (some ⟨g3, 0, none⟩) n3 c3]] w fun e w' => ∃ (A1 A2 A3 : Option Addr) (d1 d2 d3 : Nat) (zs : List Lt), e = .returned (.agg #[.slice A1 n1 d1, .slice A2 n2 d2, .slice A3 n3 d3]) ∧ zs.map Lt.d = ys.map Lt.d ∧ w'.ownsRow (w.heap.size + 2) 9 1 (.slice A1 n1 d1) n1 (ss.map Value.string) ∧ w'.ownsRow (w.heap.size + 2) 109 4 (.slice A2 n2 d2) n2 (fs.flatMap Q4.cells) ∧ LtC (w.heap.size + 2) A3 n3 d3 zs w' ∧ Below w.heap.size w w' := by
  have HNT := Lib.hid h; have HLN := Lib.hid hln; have HRW := Lib.hid hrw; have HAT := Lib.hid hat; have HSO := Lib.hid hso
  clear h hln hrw hat hso
  go_enter Tryz.func37, Tryz.ntmps37
  go_wp2_with fail
  obtain ⟨W0, hW0⟩ : ∃ W0, (w.alloc (Obj.cells #[.slice (some ⟨g1, 0, none⟩) n1 c1, .slice (some ⟨g2, 0, none⟩) n2 c2, .slice (some ⟨g3, 0, none⟩) n3 c3] 35)).alloc (Obj.cells #[.slice none 0 0, .slice none 0 0, .slice none 0 0] 35) = W0 := ⟨_, rfl⟩
  have hb0 : Below w.heap.size w W0 := by rw [← hW0]; exact ((Below.refl _ _).alloc (Nat.le_refl _) _).alloc (by simp) _
  have k0 : W0.cell? ⟨w.heap.size, 0, none⟩ = some (.slice (some ⟨g1, 0, none⟩) n1 c1) := by rw [← hW0]; simp [go_sem]
  have k1 : W0.cell? ⟨w.heap.size, 1, none⟩ = some (.slice (some ⟨g2, 0, none⟩) n2 c2) := by rw [← hW0]; simp [go_sem]
  have k2 : W0.cell? ⟨w.heap.size, 2, none⟩ = some (.slice (some ⟨g3, 0, none⟩) n3 c3) := by rw [← hW0]; simp [go_sem]
  have HR0 : Hid (W0.ownsRow (w.heap.size + 1) 35 3 (.slice (some ⟨w.heap.size + 1, 0, none⟩) 1 1) 1 [.slice none 0 0, .slice none 0 0, .slice none 0 0]) := Lib.hid (by
    rw [← hW0]
    have := one_rowP (w.alloc (Obj.cells #[.slice (some ⟨g1, 0, none⟩) n1 c1, .slice (some ⟨g2, 0, none⟩) n2 c2, .slice (some ⟨g3, 0, none⟩) n3 c3] 35)) (.slice none 0 0) (.slice none 0 0) (.slice none 0 0) (base := w.heap.size + 1) (by simp)
    simpa using this)
  have hz0 : W0.heap.size = w.heap.size + 2 := by rw [← hW0]; simp
  have HB0 := Lib.hid hb0; have HZ0 := Lib.hid hz0
  rw [hW0]
  have hzy : w.heap.size < W0.heap.size := by omega
  clear hW0 hb0
  have CN := Lib.hid (l2Own_ (HNT.out.moved HB0.out))
  go_wp2_with fail
  refine CN.out.mono ?_
  rintro e w1 ⟨A1, A2, d1, d2, rfl, hn1, hn2, hb1⟩
  have HN1 := Lib.hid (own_base (B' := w.heap.size + 2) hn1 (by have := HZ0.out; omega)); have HN2 := Lib.hid (own_base (B' := w.heap.size + 2) hn2 (by have := HZ0.out; omega))
  have HR1 := Lib.hid (ownB HR0.out hb1)
  have HB1 := Lib.hid (HB0.out.trans (hb1.mono (by have := HZ0.out; omega)))
  have l2 := (hb1.cell (p := ⟨w.heap.size, 2, none⟩) hzy).trans k2
  have hzw : w.heap.size + 2 ≤ w1.heap.size := by have := hb1.size; omega
  clear hn1 hn2 hb1 k0 k1 k2 hzy hz0
  have HL2 := Lib.hid l2
  have HZW := Lib.hid hzw
  clear l2 hzw
  go_wp2_with fail
  obtain ⟨bx, hbx⟩ : ∃ b, w1.heap.size = b := ⟨_, rfl⟩
  obtain ⟨w2, hw2⟩ : ∃ w2, w1.alloc (Obj.cells #[.slice A1 n1 d1, .slice A2 n2 d2, .slice none 0 0] 35) = w2 := ⟨_, rfl⟩
  have HBX2 : Hid (w2.ownsRow bx 35 3 (.slice (some ⟨bx, 0, none⟩) 1 1) 1 [.slice A1 n1 d1, .slice A2 n2 d2, .slice none 0 0]) := Lib.hid (by rw [← hw2, ← hbx]; exact one_rowP w1 _ _ _ (Nat.le_refl _))
  have HB2 : Hid (Below w1.heap.size w1 w2) := Lib.hid (by rw [← hw2]; exact (Below.refl _ _).alloc (Nat.le_refl _) _)
  have hzx : w.heap.size + 2 ≤ bx := by rw [← hbx]; exact HZW.out
  have HBXE := Lib.hid hbx
  rw [hw2, hbx]
  rw [hbx] at HB2
  clear hw2 hbx
  go_wp2_with fail
  go_loopw [4] (fun i wr => ∃ (k d3 : Nat) (A3 : Option Addr) (zs : List Lt), k ≤ n3 ∧ i = .int .i64 (k : Int) ∧ Hid (zs.map Lt.d = (ys.take k).map Lt.d) ∧ Hid (LtC (bx + 1) A3 k d3 zs wr) ∧ Hid (wr.ownsRow bx 35 3 (.slice (some ⟨bx, 0, none⟩) 1 1) 1 [.slice A1 n1 d1, .slice A2 n2 d2, .slice A3 k d3]) ∧ Below bx w1 wr) (fun i _ => n3 - (intOf i).toNat)
  case atStart => exact ⟨0, 0, none, [], Nat.zero_le _, rfl, Lib.hid rfl, Lib.hid (LtC.nil _ _), HBX2, HB2.out⟩
  case round =>
    clear HBX2 HB2
    obtain ⟨k, d3, A3, zs, hk, rfl, HZD, HLC, HBR, hb⟩ := hrel
    have HBW := Lib.hid hb
    have HBWW := Lib.hid (HB1.out.trans (hb.mono (by omega)))
    have hszx : bx < wr.heap.size := (HBR.out.lt bx rfl).2
    have c2 := HBR.out.cellAt 2 (by decide)
    simp only [List.getElem?_cons_zero, List.getElem?_cons_succ] at c2
    have l2 := (hb.cell (p := ⟨w.heap.size, 2, none⟩) (by show w.heap.size < bx; omega)).trans HL2.out
    have hzh : w.heap.size < wr.heap.size := by omega
    clear hb
    by_cases hlt : k < n3
    case neg =>
      obtain rfl : k = n3 := by omega
      have c0 := HBR.out.cellAt 0 (by decide)
      have c1 := HBR.out.cellAt 1 (by decide)
      simp only [List.getElem?_cons_zero, List.getElem?_cons_succ] at c0 c1
      have HRR := Lib.hid (ownB (own_lt HR1.out HBW.out (by have := HZW.out; omega)) (Below.refl _ _))
      have t0 := HRR.out.frozenAt 0; have t1 := HRR.out.frozenAt 1; have t2 := HRR.out.frozenAt 2
      have s0 := HRR.out.cellAt 0 (by decide); have s1 := HRR.out.cellAt 1 (by decide); have s2 := HRR.out.cellAt 2 (by decide)
      simp only [List.getElem?_cons_zero, List.getElem?_cons_succ] at s0 s1 s2
      have hz1 : w.heap.size + 1 < wr.heap.size := by omega
      clear hlt
      go_wp2_with fail
      refine bodyPost_ret (v := .agg #[.slice A1 n1 d1, .slice A2 n2 d2, .slice A3 k d3]) (by simp [results, Tryz.results37, go_sem, s0, s1, s2, hz1]) rfl ⟨A1, A2, A3, d1, d2, d3, zs, rfl, ?_, ?_, ?_, ?_, ?_⟩
      · rw [HZD.out, List.take_of_length_le (by have := HLN.out; omega)]
      · repeat (first | with_reducible exact (ownB HN1.out (by rw [HBXE.out]; exact HBW.out)) | refine ownsRow_setCell_below ?_ (a := ⟨w.heap.size + 1, _, none⟩) (by show w.heap.size + 1 < w.heap.size + 2; omega) _)
      · repeat (first | with_reducible exact (ownB HN2.out (by rw [HBXE.out]; exact HBW.out)) | refine ownsRow_setCell_below ?_ (a := ⟨w.heap.size + 1, _, none⟩) (by show w.heap.size + 1 < w.heap.size + 2; omega) _)
      · repeat (first | with_reducible exact (HLC.out.base (by omega)) | refine LtC.low ?_ (by omega) _)
      · repeat (first | with_reducible exact HBWW.out | refine Below.setCell ?_ (p := ⟨w.heap.size + 1, _, none⟩) (by show w.heap.size ≤ w.heap.size + 1; omega) _)
    case pos =>
    have hks : k < ys.length := by have := HLN.out; omega
    obtain ⟨y, hke⟩ : ∃ y, ys[k]'hks = y := ⟨_, rfl⟩
    have HKE := Lib.hid hke
    have hg0 := (HRW.out.ltc hks).1
    have hmem : y ∈ ys := by rw [← hke]; exact List.getElem_mem hks
    have HYA := Lib.hid (HAT.out y hmem)
    obtain ⟨ad, had⟩ := HSO.out y hmem
    obtain ⟨p0, p1, yA, n, c, yz, q0, q1⟩ := y
    simp only at had
    subst had
    obtain ⟨hg, f0, f1, f2, f3, f4⟩ := (HRW.out.moved HBWW.out).ltc hks
    rw [Nat.zero_add, hke] at f0 f1 f2 f3 f4
    simp only at f0 f1 f2 f3 f4
    have z2 := HBR.out.frozenAt 2
    have HN5 := Lib.hid HYA.out.1
    have CC : Hid (∀ U, Below w.heap.size w U → Calls Tryz.prog 62 #[.agg #[.int .i64 p0, .int .i64 p1, .slice (some ad) n c, .int .i64 q0, .int .i64 q1]] U _) := Lib.hid (fun U hU => l9Copy_ p0 p1 ad n c yz q0 q1 U HN5.out HYA.out.2.1 (HYA.out.2.2.moved hU))
    have HKU : Hid (∀ u, Below (bx + 1) wr u → u.cell? ⟨bx, 2, none⟩ = some (.slice A3 k d3) ∧ u.frozen? ⟨bx, 2, none⟩ = false ∧ u.cell? ⟨w.heap.size, 2, none⟩ = some (.slice (some ⟨g3, 0, none⟩) n3 c3) ∧ u.cell? ⟨g3, k * 5, none⟩ = some (.int .i64 p0) ∧ u.cell? ⟨g3, k * 5 + 1, none⟩ = some (.int .i64 p1) ∧ u.cell? ⟨g3, k * 5 + 2, none⟩ = some (.slice (some ad) n c) ∧ u.cell? ⟨g3, k * 5 + 3, none⟩ = some (.int .i64 q0) ∧ u.cell? ⟨g3, k * 5 + 4, none⟩ = some (.int .i64 q1) ∧ bx < u.heap.size ∧ w.heap.size < u.heap.size) := Lib.hid (fun u hu => ⟨(hu.cell (p := ⟨bx, 2, none⟩) (by show bx < bx + 1; omega)).trans c2, (hu.frozen (p := ⟨bx, 2, none⟩) (by show bx < bx + 1; omega)).trans z2, (hu.cell (p := ⟨w.heap.size, 2, none⟩) (by show w.heap.size < bx + 1; omega)).trans l2, (hu.cell (p := ⟨g3, k * 5, none⟩) (by show g3 < bx + 1; omega)).trans f0, (hu.cell (p := ⟨g3, k * 5 + 1, none⟩) (by show g3 < bx + 1; omega)).trans f1, (hu.cell (p := ⟨g3, k * 5 + 2, none⟩) (by show g3 < bx + 1; omega)).trans f2, (hu.cell (p := ⟨g3, k * 5 + 3, none⟩) (by show g3 < bx + 1; omega)).trans f3, (hu.cell (p := ⟨g3, k * 5 + 4, none⟩) (by show g3 < bx + 1; omega)).trans f4, Nat.lt_of_lt_of_le hszx hu.size, Nat.lt_of_lt_of_le hzh hu.size⟩)
    have hkI : (k : Int) < (n3 : Int) := by omega
    obtain ⟨iL, hiL, hzL0, hzL1, hzL2⟩ := info_parts Tryz.inf_Lt
    have HIL := Lib.hid hiL; have HZL0 := Lib.hid hzL0; have HZL1 := Lib.hid hzL1; have HZL2 := Lib.hid hzL2
    clear hiL hzL0 hzL1 hzL2 hke hmem
    have HYL : Hid (zs.flatMap Lt.cells = zs.flatMap Lt.cells) := Lib.hid rfl
    go_wp2_with fail
    go_region_law (first
      | ((refine step_app (by rfl) (.tmp 17) (.tmp 24) 33 (by rfl) (bx + 1) 62 iL (.agg #[.int .i64 0, .int .i64 0, .slice none 0 0, .int .i64 0, .int .i64 0]) 5 56 Tryz.underlying33 HIL.out HZL0.out HZL1.out HZL2.out rfl (by decide) (.slice A3 k d3) k (zs.flatMap Lt.cells) (by rfl) ((HLCU.out.alloc _).row) (⟨u1.heap.size, 0, none⟩) 1 1 [.int .i64 p0, .int .i64 p1, .slice A9 n c9, .int .i64 q0, .int .i64 q1] (by rfl) (by rfl) (news5 _ _ _ _ _ _ _ _ rfl) (one_lt ⟨p0, p1, A9, n, c9, yz, q0, q1⟩) (by unfold maxLen; omega) (by omega) (by have := hbu.size; simp; omega) ?_); intro v2 w4 hown4 hgrow4; obtain ⟨A4, d4, rfl⟩ := formOf hown4; have hb4 : Below (bx + 1) wr w4 := Below.grown (hbu.alloc (by have := hbu.size; omega) _) hgrow4 (by have := hbu.size; simp; omega) (fun g9 hg9 => (HLCU.out.row.lt g9 hg9).1); obtain ⟨i2, i3, i4, i5, i6, i7, i8, i9, j0, j1⟩ := HKU.out w4 hb4)
      | (rw [if_pos (by simp [Region.wanted])]; go_simp; go_at_call 62; refine (CC.out _ (by first | exact HBWW.out | exact HBWW.out.drew | exact drewN_below HBWW.out _)).mono ?_; rintro e u1 ⟨A9, c9, rfl, ho9, hb9⟩; have hbv : Below wr.heap.size wr u1 := Below.trans (by first | exact Below.refl _ _ | exact (Below.refl _ _).drew | exact drewN_below (Below.refl _ _) _) hb9; have hbu : Below (bx + 1) wr u1 := hbv.mono hszx; have HLCU := Lib.hid (HLC.out.moved hbv); obtain ⟨i2, i3, i4, i5, i6, i7, i8, i9, j0, j1⟩ := HKU.out u1 hbu))
    all_goals
      have HYO : LtO (bx + 1) u1 ⟨p0, p1, A9, n, c9, yz, q0, q1⟩ := ⟨HN5.out, HYA.out.2.1, own_base ho9 (by first | omega | (simp; omega))⟩
      have HYO0 : LtO wr.heap.size u1 ⟨p0, p1, A9, n, c9, yz, q0, q1⟩ := ⟨HN5.out, HYA.out.2.1, own_base ho9 (by first | omega | (simp; done) | (simp; omega))⟩
      have HPU := (HLCU.out.alloc _).push (y := ⟨p0, p1, A9, n, c9, yz, q0, q1⟩) (HYO.moved ((Below.refl _ _).alloc (Nat.le_refl _) _)) (HLC.out.newer HYO0 (Nat.le_refl _)) rfl hown4 hgrow4
      have HLC4 := Lib.hid (HPU.low (b := bx) (o := 2) (by omega) (.slice A4 (k + 1) d4))
      have HBX4 := Lib.hid ((own_lt HBR.out hb4 (by omega)).stored 2 (.slice A4 (k + 1) d4)).1
      have HBW4 := Lib.hid ((HBW.out.trans (hb4.mono (by omega))).setCell (p := ⟨bx, 2, none⟩) (Nat.le_refl _) (.slice A4 (k + 1) d4))
      have HZD4 := Lib.hid (Lt_map_snoc HZD.out hks (y := ⟨p0, p1, A9, n, c9, yz, q0, q1⟩) (by rw [HKE.out]; rfl))
      clear HPU HYO HYO0 hown4 hgrow4 hb4 ho9 hb9 hbv hbu i2 i3 i4 i5 i6 i7 i8 i9 j0 j1
      go_wp2_with fail
      go_roundw
      case rel => exact ⟨k + 1, d4, A4, _, by omega, by go_num, HZD4, HLC4, HBX4, HBW4.out⟩
      case measure => simp [intOf]; omega
end Go.Proofs.YtflniajjecfgeaaGreatDoor
