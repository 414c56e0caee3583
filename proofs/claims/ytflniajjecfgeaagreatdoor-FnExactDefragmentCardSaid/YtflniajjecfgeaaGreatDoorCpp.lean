/- A plan copied by the program: contract of impl.copyPlan. No condition but those typed. -/
import Derived.Test.YtflniajjecfgeaaGreatDoorCpl
import Derived.Test.YtflniajjecfgeaaGreatDoorPlV
namespace Go.Proofs.YtflniajjecfgeaaGreatDoor
open Go.ChangeShapes Go.WideShapes Go.ChangeAt Go.RowKit
theorem px_facts {u : World} {B b : Nat} {x y z : Value} (h : u.ownsRow B 35 3 (.slice (some ⟨b, 0, none⟩) 1 1) 1 [x, y, z]) : u.cell? ⟨b, 0, none⟩ = some x ∧ u.cell? ⟨b, 1, none⟩ = some y ∧ u.cell? ⟨b, 2, none⟩ = some z ∧ u.frozen? ⟨b, 0, none⟩ = false ∧ u.frozen? ⟨b, 1, none⟩ = false ∧ u.frozen? ⟨b, 2, none⟩ = false ∧ b < u.heap.size := by
  have c0 := h.cellAt 0 (by decide); have c1 := h.cellAt 1 (by decide); have c2 := h.cellAt 2 (by decide)
  simp only [List.getElem?_cons_zero, List.getElem?_cons_succ] at c0 c1 c2
  exact ⟨c0, c1, c2, h.frozenAt 0, h.frozenAt 1, h.frozenAt 2, (h.lt b rfl).2⟩
/-- behind the copies of the network. -/
def CpRel (W0 : World) (ss : List ByteArray) (fs : List Q4) (n1 n2 : Nat) (s3 : Value) (wx : World) : Prop :=
  ∃ (gN : Nat) (A2 : Option Addr) (d2 bx : Nat), s3 = .pointer (some ⟨bx, 0, none⟩) ∧ Hid (wx.ownsRow W0.heap.size 9 1 (.slice (some ⟨gN, 0, none⟩) n1 n1) n1 (ss.map Value.string)) ∧ Hid (wx.ownsRow W0.heap.size 109 4 (.slice A2 n2 d2) n2 (fs.flatMap Q4.cells)) ∧
    Hid (wx.ownsRow W0.heap.size 35 3 (.slice (some ⟨bx, 0, none⟩) 1 1) 1 [.slice (some ⟨gN, 0, none⟩) n1 n1, .slice A2 n2 d2, .slice none 0 0]) ∧ Below W0.heap.size W0 wx
theorem cp_fin {W0 X : World} {ss : List ByteArray} {fs : List Q4} {gN b n1 n2 d2 : Nat} {A2 : Option Addr} (hB : X.ownsRow W0.heap.size 35 3 (.slice (some ⟨b, 0, none⟩) 1 1) 1 [.slice none 0 0, .slice none 0 0, .slice none 0 0]) (h1 : X.ownsRow W0.heap.size 9 1 (.slice (some ⟨gN, 0, none⟩) n1 n1) n1 (ss.map Value.string)) (h2 : X.ownsRow W0.heap.size 109 4 (.slice A2 n2 d2) n2 (fs.flatMap Q4.cells)) (hb : Below W0.heap.size W0 X) :
    CpRel W0 ss fs n1 n2 (.pointer (some ⟨b, 0, none⟩)) (((X.setCell ⟨b, 0, none⟩ (.slice (some ⟨gN, 0, none⟩) n1 n1)).setCell ⟨b, 1, none⟩ (.slice A2 n2 d2)).setCell ⟨b, 2, none⟩ (.slice none 0 0)) := by
  have hoff : Off (fun g => g = b) X (((X.setCell ⟨b, 0, none⟩ (.slice (some ⟨gN, 0, none⟩) n1 n1)).setCell ⟨b, 1, none⟩ (.slice A2 n2 d2)).setCell ⟨b, 2, none⟩ (.slice none 0 0)) := ((off1 _).trans (off1 _)).trans (off1 _)
  have hge := (hB.lt b rfl).1
  refine ⟨gN, A2, d2, b, rfl, Lib.hid (own_offV h1 hoff (fun g hg e => by subst e; exact own_type_apart h1 hB (by decide) _ hg rfl)), Lib.hid (own_offV h2 hoff (fun g hg e => by subst e; exact own_type_apart h2 hB (by decide) _ hg rfl)), Lib.hid ?_, ?_⟩
  · have h9 := (((hB.stored 0 (.slice (some ⟨gN, 0, none⟩) n1 n1)).1.stored 1 (.slice A2 n2 d2)).1.stored 2 (.slice none 0 0)).1
    simpa using h9
  · exact ((hb.setCell (p := ⟨b, 0, none⟩) hge _).setCell (p := ⟨b, 1, none⟩) hge _).setCell (p := ⟨b, 2, none⟩) hge _
theorem cp_fin2 {W0 X : World} {ss : List ByteArray} {fs : List Q4} {gN n1 n2 d2 : Nat} {A2 : Option Addr} (h1 : X.ownsRow W0.heap.size 9 1 (.slice (some ⟨gN, 0, none⟩) n1 n1) n1 (ss.map Value.string)) (h2 : X.ownsRow W0.heap.size 109 4 (.slice A2 n2 d2) n2 (fs.flatMap Q4.cells)) (hb : Below W0.heap.size W0 X) :
    CpRel W0 ss fs n1 n2 (.pointer (some ⟨X.heap.size, 0, none⟩)) (X.alloc (Obj.cells #[.slice (some ⟨gN, 0, none⟩) n1 n1, .slice A2 n2 d2, .slice none 0 0] 35)) :=
  ⟨gN, A2, d2, _, rfl, Lib.hid (h1.alloc _), Lib.hid (h2.alloc _), Lib.hid (one_rowP X _ _ _ hb.size), hb.alloc hb.size _⟩
theorem new5x (W : World) (E : TypeId) (a b c d e : Value) (W1 : World) (h : W.alloc (.cells #[a, b, c, d, e] E) = W1) {g : Nat} (hg : W.heap.size = g) : W1.cell? ⟨g, 0, none⟩ = some a ∧ W1.cell? ⟨g, 1, none⟩ = some b ∧ W1.cell? ⟨g, 2, none⟩ = some c ∧ W1.cell? ⟨g, 3, none⟩ = some d ∧ W1.cell? ⟨g, 4, none⟩ = some e := by
  subst h hg
  refine ⟨?_, ?_, ?_, ?_, ?_⟩ <;> simp [go_sem]
set_option maxRecDepth 100000 in
set_option maxHeartbeats 8000000 in
theorem copyPlan_ {g1 g2 g3 n1 n2 n3 c1 c2 c3 : Nat} {ss : List ByteArray} {fs : List Q4} {ys : List Lt} {w : World} (h : NetAt g1 g2 n1 n2 c1 c2 ss fs w) (hn1k : n1 ≤ 1000) (hsz : ∀ s ∈ ss, s.size ≤ 281474976710656) (hln : ys.length = n3) (hrw : Rd w w.heap.size (some ⟨g3, 0, none⟩) (ys.flatMap Lt.cells)) (hat : ∀ y ∈ ys, LtAt w y) (hso : ∀ y ∈ ys, ∃ q, y.A = some ⟨q, 0, none⟩) (hs : n3 ≤ 1048576) :
    Calls Tryz.prog 40 #[.agg #[.slice (some ⟨g1, 0, none⟩) n1 c1, .slice (some ⟨g2, 0, none⟩) n2 c2, .slice (some ⟨g3, 0, none⟩) n3 c3]] w fun e w' => ∃ (A1 A2 A3 : Option Addr) (d1 d2 d3 : Nat) (zs : List Lt), e = .returned (.agg #[.slice A1 n1 d1, .slice A2 n2 d2, .slice A3 n3 d3]) ∧ zs.map Lt.d = ys.map Lt.d ∧ w'.ownsRow (w.heap.size + 2) 9 1 (.slice A1 n1 d1) n1 (ss.map Value.string) ∧ w'.ownsRow (w.heap.size + 2) 109 4 (.slice A2 n2 d2) n2 (fs.flatMap Q4.cells) ∧ LtC (w.heap.size + 2) A3 n3 d3 zs w' ∧ Below w.heap.size w w' := by
  have HNT := Lib.hid h; have HLN := Lib.hid hln; have HRW := Lib.hid hrw; have HAT := Lib.hid hat; have HSO := Lib.hid hso; have HSZ := Lib.hid hsz
  have HL1 := Lib.hid h.ln1; have HL2 := Lib.hid h.ln2
  have hsm2 := h.sm2
  clear h hln hrw hat hso hsz
  go_enter Tryz.func40, Tryz.ntmps40
  go_wp2_with fail
  obtain ⟨W0, hW0⟩ : ∃ W0, (w.alloc (Obj.cells #[.slice (some ⟨g1, 0, none⟩) n1 c1, .slice (some ⟨g2, 0, none⟩) n2 c2, .slice (some ⟨g3, 0, none⟩) n3 c3] 35)).alloc (Obj.cells #[.slice none 0 0, .slice none 0 0, .slice none 0 0] 35) = W0 := ⟨_, rfl⟩
  have hb0 : Below w.heap.size w W0 := by rw [← hW0]; exact ((Below.refl _ _).alloc (Nat.le_refl _) _).alloc (by simp) _
  have k0 : W0.cell? ⟨w.heap.size, 0, none⟩ = some (.slice (some ⟨g1, 0, none⟩) n1 c1) := by rw [← hW0]; simp [go_sem]
  have k1 : W0.cell? ⟨w.heap.size, 1, none⟩ = some (.slice (some ⟨g2, 0, none⟩) n2 c2) := by rw [← hW0]; simp [go_sem]
  have k2 : W0.cell? ⟨w.heap.size, 2, none⟩ = some (.slice (some ⟨g3, 0, none⟩) n3 c3) := by rw [← hW0]; simp [go_sem]
  have HR0 : Hid (W0.ownsRow (w.heap.size + 1) 35 3 (.slice (some ⟨w.heap.size + 1, 0, none⟩) 1 1) 1 [.slice none 0 0, .slice none 0 0, .slice none 0 0]) := Lib.hid (by
    rw [← hW0]
    have := one_rowP (w.alloc (Obj.cells #[.slice (some ⟨g1, 0, none⟩) n1 c1, .slice (some ⟨g2, 0, none⟩) n2 c2, .slice (some ⟨g3, 0, none⟩) n3 c3] 35)) (.slice none 0 0) (.slice none 0 0) (.slice none 0 0) (base := w.heap.size + 1) (by simp)
    simpa using this)
  have hz0 : W0.heap.size = w.heap.size + 2 := by rw [← hW0]; simp
  have HB0 := Lib.hid hb0; have HZ0 := Lib.hid hz0
  rw [hW0]
  have hzy : w.heap.size < W0.heap.size := by omega
  have CN : Hid (∀ U, Below W0.heap.size W0 U → Calls Tryz.prog 67 #[.slice (some ⟨g1, 0, none⟩) n1 c1] U fun e w' => ∃ gN, e = .returned (.slice (some ⟨gN, 0, none⟩) n1 n1) ∧ Hid (w'.ownsRow W0.heap.size 9 1 (.slice (some ⟨gN, 0, none⟩) n1 n1) n1 (ss.map Value.string)) ∧ Below W0.heap.size W0 w' ∧ Below U.heap.size U w') := Lib.hid fun U hU =>
    (copyNames_ g1 n1 c1 ss U HL1.out hn1k HSZ.out ((HNT.out.rd1.moved HB0.out).moved hU)).mono fun e w' ⟨gN, h1, h2, h3⟩ => ⟨gN, h1, Lib.hid (own_base h2 hU.size), hU.trans (h3.mono hU.size), h3⟩
  have CF : Hid (∀ U, Below W0.heap.size W0 U → Calls Tryz.prog 68 #[.slice (some ⟨g2, 0, none⟩) n2 c2] U fun e w' => ∃ (A2 : Option Addr) (d2 : Nat), e = .returned (.slice A2 n2 d2) ∧ Hid (w'.ownsRow W0.heap.size 109 4 (.slice A2 n2 d2) n2 (fs.flatMap Q4.cells)) ∧ Below W0.heap.size W0 w' ∧ Below U.heap.size U w') := Lib.hid fun U hU =>
    (fclone_ g2 n2 c2 fs U HL2.out hsm2 ((HNT.out.rd2.moved HB0.out).moved hU)).mono fun e w' ⟨A2, d2, h1, h2, h3⟩ => ⟨A2, d2, h1, Lib.hid (own_base h2 hU.size), hU.trans (h3.mono hU.size), h3⟩
  have HK : Hid (∀ u, Below W0.heap.size W0 u → u.cell? ⟨w.heap.size, 0, none⟩ = some (.slice (some ⟨g1, 0, none⟩) n1 c1) ∧ u.cell? ⟨w.heap.size, 1, none⟩ = some (.slice (some ⟨g2, 0, none⟩) n2 c2) ∧ u.cell? ⟨w.heap.size, 2, none⟩ = some (.slice (some ⟨g3, 0, none⟩) n3 c3) ∧ w.heap.size < u.heap.size) := Lib.hid fun u hu => ⟨(hu.cell (p := ⟨w.heap.size, 0, none⟩) hzy).trans k0, (hu.cell (p := ⟨w.heap.size, 1, none⟩) hzy).trans k1, (hu.cell (p := ⟨w.heap.size, 2, none⟩) hzy).trans k2, Nat.lt_of_lt_of_le hzy hu.size⟩
  clear hW0 hb0 hz0
  go_upto_region 1 with fail
  go_cut [3] (fun s3 wx => CpRel W0 ss fs n1 n2 s3 wx)
  case first =>
    go_region_with (first
      | (go_at_call 67; refine (CN.out _ (by first | exact (Below.refl _ _) | exact (Below.refl _ _).drew | exact drewN_below (Below.refl _ _) _ | exact (Below.refl _ _).alloc (Nat.le_refl _) _ | exact ((Below.refl _ _).alloc (Nat.le_refl _) _).drew | exact drewN_below ((Below.refl _ _).alloc (Nat.le_refl _) _) _ | exact ((Below.refl _ _).drew).alloc ((Below.refl _ _).drew).size _ | exact (drewN_below (Below.refl _ _) _).alloc (drewN_below (Below.refl _ _) _).size _ | exact hv2 | exact hv2.drew | exact drewN_below hv2 _ | exact hv2.alloc hv2.size _ | exact (hv2.alloc hv2.size _).drew | exact drewN_below (hv2.alloc hv2.size _) _ | exact (hv2.drew).alloc (hv2.drew).size _ | exact (drewN_below hv2 _).alloc (drewN_below hv2 _).size _)).mono ?_; rintro e u1 ⟨gN, rfl, HNs, hv1, hb1⟩; have SZ1 := hv1.size; (first | (have HFs := Lib.hid (ownB HFs.out (show Below u2.heap.size u2 u1 from Below.trans (by first | exact Below.refl _ _ | exact (Below.refl _ _).drew | exact drewN_below (Below.refl _ _) _ | exact (Below.refl _ _).alloc (Nat.le_refl _) _ | exact ((Below.refl _ _).alloc (Nat.le_refl _) _).drew | exact drewN_below ((Below.refl _ _).alloc (Nat.le_refl _) _) _) (hb1.mono (by first | exact Nat.le_refl _ | (simp; done) | (simp; omega)))))) | skip); (first | (have hbx := ownB (own_heapW (w := W0.alloc (Obj.cells #[.slice none 0 0, .slice none 0 0, .slice none 0 0] 35)) (by rfl) (one_rowP W0 (.slice none 0 0) (.slice none 0 0) (.slice none 0 0) (base := W0.heap.size) (by first | exact Nat.le_refl _ | assumption))) hb1; obtain ⟨_, _, _, _, _, _, _⟩ := px_facts hbx) | skip); (first | (have hbx := ownB (own_heapW (w := u2.alloc (Obj.cells #[.slice none 0 0, .slice none 0 0, .slice none 0 0] 35)) (by rfl) (one_rowP u2 (.slice none 0 0) (.slice none 0 0) (.slice none 0 0) (base := W0.heap.size) (by first | exact Nat.le_refl _ | assumption))) hb1; obtain ⟨_, _, _, _, _, _, _⟩ := px_facts hbx) | skip); (first | (have hbx := ownB hbx hb1; obtain ⟨_, _, _, _, _, _, _⟩ := px_facts hbx) | (have hbx := ownB (own_heapW (by rfl) hbx) hb1; obtain ⟨_, _, _, _, _, _, _⟩ := px_facts hbx) | skip); obtain ⟨_, _, _, _⟩ := HK.out u1 hv1)
      | (go_at_call 68; refine (CF.out _ (by first | exact (Below.refl _ _) | exact (Below.refl _ _).drew | exact drewN_below (Below.refl _ _) _ | exact (Below.refl _ _).alloc (Nat.le_refl _) _ | exact ((Below.refl _ _).alloc (Nat.le_refl _) _).drew | exact drewN_below ((Below.refl _ _).alloc (Nat.le_refl _) _) _ | exact ((Below.refl _ _).drew).alloc ((Below.refl _ _).drew).size _ | exact (drewN_below (Below.refl _ _) _).alloc (drewN_below (Below.refl _ _) _).size _ | exact hv1 | exact hv1.drew | exact drewN_below hv1 _ | exact hv1.alloc hv1.size _ | exact (hv1.alloc hv1.size _).drew | exact drewN_below (hv1.alloc hv1.size _) _ | exact (hv1.drew).alloc (hv1.drew).size _ | exact (drewN_below hv1 _).alloc (drewN_below hv1 _).size _)).mono ?_; rintro e u2 ⟨A2, d2, rfl, HFs, hv2, hb2⟩; have SZ2 := hv2.size; (first | (have HNs := Lib.hid (ownB HNs.out (show Below u1.heap.size u1 u2 from Below.trans (by first | exact Below.refl _ _ | exact (Below.refl _ _).drew | exact drewN_below (Below.refl _ _) _ | exact (Below.refl _ _).alloc (Nat.le_refl _) _ | exact ((Below.refl _ _).alloc (Nat.le_refl _) _).drew | exact drewN_below ((Below.refl _ _).alloc (Nat.le_refl _) _) _) (hb2.mono (by first | exact Nat.le_refl _ | (simp; done) | (simp; omega)))))) | skip); (first | (have hbx := ownB (own_heapW (w := W0.alloc (Obj.cells #[.slice none 0 0, .slice none 0 0, .slice none 0 0] 35)) (by rfl) (one_rowP W0 (.slice none 0 0) (.slice none 0 0) (.slice none 0 0) (base := W0.heap.size) (by first | exact Nat.le_refl _ | assumption))) hb2; obtain ⟨_, _, _, _, _, _, _⟩ := px_facts hbx) | skip); (first | (have hbx := ownB (own_heapW (w := u1.alloc (Obj.cells #[.slice none 0 0, .slice none 0 0, .slice none 0 0] 35)) (by rfl) (one_rowP u1 (.slice none 0 0) (.slice none 0 0) (.slice none 0 0) (base := W0.heap.size) (by first | exact Nat.le_refl _ | assumption))) hb2; obtain ⟨_, _, _, _, _, _, _⟩ := px_facts hbx) | skip); (first | (have hbx := ownB hbx hb2; obtain ⟨_, _, _, _, _, _, _⟩ := px_facts hbx) | (have hbx := ownB (own_heapW (by rfl) hbx) hb2; obtain ⟨_, _, _, _, _, _, _⟩ := px_facts hbx) | skip); obtain ⟨_, _, _, _⟩ := HK.out u2 hv2))
    all_goals
      go_wp2_with fail
      go_meet
      first
        | exact cp_fin (own_heapW (by rfl) hbx) (own_heapW (by rfl) HNs.out) (own_heapW (by rfl) HFs.out) (by first | exact hv1 | exact hv2 | exact hv1.drew | exact hv2.drew | exact drewN_below hv1 _ | exact drewN_below hv2 _)
        | exact cp_fin2 (own_heapW (by rfl) HNs.out) (own_heapW (by rfl) HFs.out) (by first | exact hv1 | exact hv2 | exact hv1.drew | exact hv2.drew | exact drewN_below hv1 _ | exact drewN_below hv2 _)
  case rest =>
  clear k0 k1 k2
  revert hcut; generalize wc = w1; intro hcut
  obtain ⟨gN, A2, d2, bx, rfl, HN1, HN2, HBX, hb1⟩ := hcut
  have hbge : W0.heap.size ≤ bx ∧ bx < w1.heap.size := HBX.out.lt bx rfl
  have HBG := Lib.hid hbge
  have HZ0X : Hid (W0.heap.size ≤ w1.heap.size) := Lib.hid hb1.size
  have HB1 := Lib.hid hb1
  have l2 := (HK.out w1 hb1).2.2.1
  clear hb1 hzy
  go_wp2_with fail
  clear l2
  go_loopw [19] (fun i wr => ∃ (k d3 : Nat) (A3 : Option Addr) (zs : List Lt), k ≤ n3 ∧ i = .int .i64 (k : Int) ∧ Hid (zs.map Lt.d = (ys.take k).map Lt.d) ∧ Hid (LtC w1.heap.size A3 k d3 zs wr) ∧ Hid (wr.ownsRow W0.heap.size 35 3 (.slice (some ⟨bx, 0, none⟩) 1 1) 1 [.slice (some ⟨gN, 0, none⟩) n1 n1, .slice A2 n2 d2, .slice A3 k d3]) ∧ Hid (wr.ownsRow W0.heap.size 9 1 (.slice (some ⟨gN, 0, none⟩) n1 n1) n1 (ss.map Value.string)) ∧ Hid (wr.ownsRow W0.heap.size 109 4 (.slice A2 n2 d2) n2 (fs.flatMap Q4.cells)) ∧ w1.heap.size ≤ wr.heap.size ∧ Below W0.heap.size W0 wr) (fun i _ => n3 - (intOf i).toNat)
  case atStart => exact ⟨0, 0, none, [], Nat.zero_le _, rfl, Lib.hid rfl, Lib.hid (LtC.nil _ _), HBX, HN1, HN2, Nat.le_refl _, HB1.out⟩
  case round =>
    clear HBX HN1 HN2
    obtain ⟨k, d3, A3, zs, hk, rfl, HZD, HLC, HBX, HN1, HN2, hzw, hb⟩ := hrel
    have HBW := Lib.hid hb
    have HBWW := Lib.hid (HB0.out.trans (hb.mono (by have := HZ0.out; omega)))
    have hbge := HBG.out
    have hz0x := HZ0X.out
    have hz0 := HZ0.out
    have hszx : bx < wr.heap.size := by omega
    have c2 := HBX.out.cellAt 2 (by decide)
    simp only [List.getElem?_cons_zero, List.getElem?_cons_succ] at c2
    clear hb
    by_cases hlt : k < n3
    case neg =>
      obtain rfl : k = n3 := by omega
      have c0 := HBX.out.cellAt 0 (by decide)
      have c1 := HBX.out.cellAt 1 (by decide)
      simp only [List.getElem?_cons_zero, List.getElem?_cons_succ] at c0 c1
      have HRR := Lib.hid (ownB HR0.out HBW.out)
      have t0 := HRR.out.frozenAt 0; have t1 := HRR.out.frozenAt 1; have t2 := HRR.out.frozenAt 2
      have s0 := HRR.out.cellAt 0 (by decide); have s1 := HRR.out.cellAt 1 (by decide); have s2 := HRR.out.cellAt 2 (by decide)
      simp only [List.getElem?_cons_zero, List.getElem?_cons_succ] at s0 s1 s2
      have hz1 : w.heap.size + 1 < wr.heap.size := by omega
      clear hlt
      go_wp2_with fail
      refine bodyPost_ret (v := .agg #[.slice (some ⟨gN, 0, none⟩) n1 n1, .slice A2 n2 d2, .slice A3 k d3]) (by simp [results, Tryz.results40, go_sem, s0, s1, s2, hz1]) rfl ⟨some ⟨gN, 0, none⟩, A2, A3, n1, d2, d3, zs, rfl, ?_, ?_, ?_, ?_, ?_⟩
      · rw [HZD.out, List.take_of_length_le (by have := HLN.out; omega)]
      · refine own_base (B := W0.heap.size) ?_ (by omega)
        repeat (first | with_reducible exact HN1.out | refine ownsRow_setCell_below ?_ (a := ⟨w.heap.size + 1, _, none⟩) (by show w.heap.size + 1 < W0.heap.size; omega) _)
      · refine own_base (B := W0.heap.size) ?_ (by omega)
        repeat (first | with_reducible exact HN2.out | refine ownsRow_setCell_below ?_ (a := ⟨w.heap.size + 1, _, none⟩) (by show w.heap.size + 1 < W0.heap.size; omega) _)
      · refine LtC.base (B := w1.heap.size) ?_ (by omega)
        repeat (first | with_reducible exact HLC.out | refine LtC.low ?_ (by omega) _)
      · repeat (first | with_reducible exact HBWW.out | refine Below.setCell ?_ (p := ⟨w.heap.size + 1, _, none⟩) (by show w.heap.size ≤ w.heap.size + 1; omega) _)
    case pos =>
    have hks : k < ys.length := by have := HLN.out; omega
    obtain ⟨y, hke⟩ : ∃ y, ys[k]'hks = y := ⟨_, rfl⟩
    have HKE := Lib.hid hke
    have hmem : y ∈ ys := by rw [← hke]; exact List.getElem_mem hks
    have HYA := Lib.hid (HAT.out y hmem)
    obtain ⟨q, had⟩ := HSO.out y hmem
    obtain ⟨p0, p1, yA, n, c, yz, q0, q1⟩ := y
    simp only at had
    subst had
    obtain ⟨hg, f0, f1, f2, f3, f4⟩ := (HRW.out.moved HBWW.out).ltc hks
    rw [Nat.zero_add, hke] at f0 f1 f2 f3 f4
    simp only at f0 f1 f2 f3 f4
    have HN5 := Lib.hid HYA.out.1
    have CC : Hid (∀ U, Below W0.heap.size W0 U → Calls Tryz.prog 69 #[.agg #[.int .i64 p0, .int .i64 p1, .slice (some ⟨q, 0, none⟩) n c, .int .i64 q0, .int .i64 q1]] U _) := Lib.hid (fun U hU => copyLight_ p0 p1 q n c yz q0 q1 U HN5.out HYA.out.2.1 ((HYA.out.2.2.moved HB0.out).moved hU))
    obtain ⟨iL, hiL, hzL0, hzL1, hzL2⟩ := info_parts Tryz.inf_Lt
    have HIL := Lib.hid hiL; have HZL0 := Lib.hid hzL0; have HZL1 := Lib.hid hzL1; have HZL2 := Lib.hid hzL2
    obtain ⟨WA, hWA⟩ : ∃ WA, wr.alloc (Obj.cells #[.int .i64 p0, .int .i64 p1, .slice (some ⟨q, 0, none⟩) n c, .int .i64 q0, .int .i64 q1] 62) = WA := ⟨_, rfl⟩
    have hbA : Below wr.heap.size wr WA := by rw [← hWA]; exact (Below.refl _ _).alloc (Nat.le_refl _) _
    have hzA : WA.heap.size = wr.heap.size + 1 := by rw [← hWA]; simp
    obtain ⟨j0, j1, j2, j3, j4⟩ := new5x _ _ _ _ _ _ _ WA hWA rfl
    have HBXA := Lib.hid (ownB HBX.out hbA); have HNA1 := Lib.hid (ownB HN1.out hbA); have HNA2 := Lib.hid (ownB HN2.out hbA)
    have HLCA := Lib.hid (HLC.out.moved hbA)
    have HBWA := Lib.hid (HBW.out.trans (hbA.mono HBW.out.size))
    have c2A := HBXA.out.cellAt 2 (by decide)
    simp only [List.getElem?_cons_zero, List.getElem?_cons_succ] at c2A
    have hkI : (k : Int) < (n3 : Int) := by omega
    clear hiL hzL0 hzL1 hzL2 hke hmem hbA
    go_wp2_with fail
    clear hWA f0 f1 f2 f3 f4 c2
    go_region_law (first
      | ((refine step_app (by rfl) (.tmp 24) (.tmp 27) 33 (by rfl) w1.heap.size 62 iL (.agg #[.int .i64 0, .int .i64 0, .slice none 0 0, .int .i64 0, .int .i64 0]) 5 56 Tryz.underlying33 HIL.out HZL0.out HZL1.out HZL2.out rfl (by decide) (.slice A3 k d3) k (zs.flatMap Lt.cells) (by rfl) ((HLCU.out.alloc _).row) (⟨u1.heap.size, 0, none⟩) 1 1 [.int .i64 p0, .int .i64 p1, .slice A9 n c9, .int .i64 q0, .int .i64 q1] (by rfl) (by rfl) (news5 _ _ _ _ _ _ _ _ rfl) (one_lt ⟨p0, p1, A9, n, c9, yz, q0, q1⟩) (by unfold maxLen; omega) (by omega) (by simp; omega) ?_); intro v2 w4 hown4 hgrow4; obtain ⟨A4, d4, rfl⟩ := formOf hown4; have HBX4 := Lib.hid ((own_type_apart HBXU.out HLCU.out.row (by decide)).kept (HBXU.out.alloc _) hgrow4); have c4 := HBX4.out.cellAt 2 (by decide); simp only [List.getElem?_cons_zero, List.getElem?_cons_succ] at c4; have z4 := HBX4.out.frozenAt 2)
      | (rw [if_pos (by simp [Region.wanted])]; go_simp; go_at_call 69; refine (CC.out _ (by first | exact HBWA.out | exact HBWA.out.drew | exact drewN_below HBWA.out _)).mono ?_; rintro e u1 ⟨A9, c9, rfl, ho9, hb9⟩; have hbv : Below WA.heap.size WA u1 := Below.trans (by first | exact Below.refl _ _ | exact (Below.refl _ _).drew | exact drewN_below (Below.refl _ _) _) hb9; have HLCU := Lib.hid (HLCA.out.moved hbv); have HBXU := Lib.hid (ownB HBXA.out hbv); have HNU1 := Lib.hid (ownB HNA1.out hbv); have HNU2 := Lib.hid (ownB HNA2.out hbv); have HBWU := Lib.hid (HBWA.out.trans (hbv.mono HBWA.out.size)); have hzu := hbv.size; have hbxu := (HBXU.out.lt bx rfl).2; have c2u := HBXU.out.cellAt 2 (by decide); simp only [List.getElem?_cons_zero, List.getElem?_cons_succ] at c2u))
    all_goals
      have HYO : LtO w1.heap.size u1 ⟨p0, p1, A9, n, c9, yz, q0, q1⟩ := ⟨HN5.out, HYA.out.2.1, own_base ho9 (by first | omega | (simp; omega))⟩
      have HYO0 : LtO wr.heap.size u1 ⟨p0, p1, A9, n, c9, yz, q0, q1⟩ := ⟨HN5.out, HYA.out.2.1, own_base ho9 (by first | omega | (simp; omega))⟩
      have HPU := (HLCU.out.alloc _).push (y := ⟨p0, p1, A9, n, c9, yz, q0, q1⟩) (HYO.moved ((Below.refl _ _).alloc (Nat.le_refl _) _)) (HLC.out.newer HYO0 (Nat.le_refl _)) rfl hown4 hgrow4
      have HLC5 := Lib.hid (HPU.low (b := bx) (o := 2) (by omega) (.slice A4 (k + 1) d4))
      have HBX5 : Hid ((w4.setCell ⟨bx, 2, none⟩ (.slice A4 (k + 1) d4)).ownsRow W0.heap.size 35 3 (.slice (some ⟨bx, 0, none⟩) 1 1) 1 [.slice (some ⟨gN, 0, none⟩) n1 n1, .slice A2 n2 d2, .slice A4 (k + 1) d4]) := Lib.hid (by have h9 := (HBX4.out.stored 2 (.slice A4 (k + 1) d4)).1; simpa using h9)
      have HN15 := Lib.hid (own_offV ((own_type_apart HNU1.out HLCU.out.row (by decide)).kept (HNU1.out.alloc _) hgrow4) (off1 (g := bx) (o := 2) (.slice A4 (k + 1) d4)) (fun g hg e => by subst e; exact own_type_apart HNU1.out HBXU.out (by decide) _ hg rfl))
      have HN25 := Lib.hid (own_offV ((own_type_apart HNU2.out HLCU.out.row (by decide)).kept (HNU2.out.alloc _) hgrow4) (off1 (g := bx) (o := 2) (.slice A4 (k + 1) d4)) (fun g hg e => by subst e; exact own_type_apart HNU2.out HBXU.out (by decide) _ hg rfl))
      have hb4 : Below W0.heap.size W0 w4 := Below.grown (HBWU.out.alloc HBWU.out.size _) hgrow4 (by simp; omega) (fun g9 hg9 => by have := (HLCU.out.row.lt g9 hg9).1; omega)
      have HBW5 := Lib.hid (hb4.setCell (p := ⟨bx, 2, none⟩) hbge.1 (.slice A4 (k + 1) d4))
      have hz5 : w1.heap.size ≤ (w4.setCell ⟨bx, 2, none⟩ (.slice A4 (k + 1) d4)).heap.size := by
        have h9 := (Below.grown ((Below.refl w1.heap.size u1).alloc (by omega) _) hgrow4 (by simp; omega) (fun g9 hg9 => (HLCU.out.row.lt g9 hg9).1)).size
        simp; omega
      have HZ5 := Lib.hid hz5
      have HZD5 := Lib.hid (Lt_map_snoc HZD.out hks (y := ⟨p0, p1, A9, n, c9, yz, q0, q1⟩) (by rw [HKE.out]; rfl))
      clear HPU HYO HYO0 hown4 hgrow4 hb4 ho9 hb9 hbv c2u c4 z4 hz5
      go_wp2_with fail
      go_roundw
      case rel => exact ⟨k + 1, d4, A4, _, by omega, by go_num, HZD5, HLC5, HBX5, HN15, HN25, HZ5.out, HBW5.out⟩
      case measure => simp [intOf]; omega
end Go.Proofs.YtflniajjecfgeaaGreatDoor
