/- Lights: a step of defragmentation and whether a plan is compact: contracts. Condition: the table of math/bits holds what Go's text lays. -/
import Derived.Test.YtflniajjecfgeaaGreatDoorDfD
namespace Go.Proofs.YtflniajjecfgeaaGreatDoor
open Go.ChangeShapes Go.WideShapes Go.ChangeAt Go.RowKit

noncomputable def dsV (ss : List ByteArray) (fs : List Q4) (ds : List LtD) (hl : Bool) : Int := (dgLI ss fs ds hl 1).headD 0
theorem ds_ok (ss : List ByteArray) (fs : List Q4) (ds : List LtD) : dgOk ss fs ds 1 = pb (planP ss fs ds) := by
  unfold dgOk
  by_cases h : planP ss fs ds
  · rw [pb_true h, pb_true ⟨h, by omega, by omega⟩]
  · rw [pb_false h, pb_false (fun h9 => h h9.1)]
theorem ds_step (ds : List LtD) (hl : Bool) : dgD ds hl 1 = stepDs ds hl ∧ (dgL ds hl 1).headD 0 = stepId ds hl := by
  unfold stepDs stepId
  show (match stepF (dgD ds hl 0) hl with | none => dgD ds hl 0 | some i => mvD (dgD ds hl 0) hl i) = _ ∧ (match stepF (dgD ds hl 0) hl with | none => dgL ds hl 0 | some i => dgL ds hl 0 ++ [(dn (dgD ds hl 0) i).p0]).headD 0 = _
  show (match stepF ds hl with | none => ds | some i => mvD ds hl i) = _ ∧ (match stepF ds hl with | none => [] | some i => [] ++ [(dn ds i).p0]).headD 0 = _
  cases stepF ds hl with
  | none => exact ⟨rfl, rfl⟩
  | some i => exact ⟨rfl, rfl⟩
theorem ds_yes {ss : List ByteArray} {fs : List Q4} {ds : List LtD} {hl : Bool} (h : planP ss fs ds) : dgLS ss fs ds 1 = ss ∧ dgLF ss fs ds 1 = fs ∧ dgLD ss fs ds hl 1 = stepDs ds hl ∧ dsV ss fs ds hl = stepId ds hl ∧ dgOk ss fs ds 1 = true := by
  obtain ⟨a, b, c, d, e⟩ := dg_yes (hl := hl) (lim := 1) ⟨h, by omega, by omega⟩
  refine ⟨a, b, by rw [c]; exact (ds_step ds hl).1, by unfold dsV; rw [d]; exact (ds_step ds hl).2, e⟩
theorem ds_no {ss : List ByteArray} {fs : List Q4} {ds : List LtD} {hl : Bool} (h : ¬ planP ss fs ds) : dgLS ss fs ds 1 = [] ∧ dgLF ss fs ds 1 = [] ∧ dgLD ss fs ds hl 1 = [] ∧ dsV ss fs ds hl = 0 ∧ dgOk ss fs ds 1 = false := by
  obtain ⟨a, b, c, d, e⟩ := dg_no (hl := hl) (lim := 1) (fun h9 => h h9.1)
  exact ⟨a, b, c, by unfold dsV; rw [d]; rfl, e⟩
/-- an answer: a plan, a number and a word. -/
def PlOI (ss : List ByteArray) (fs : List Q4) (ds : List LtD) (v : Int) (b : Bool) (w : World) (e : Ending) (w' : World) : Prop :=
  ∃ (A1 A2 A3 : Option Addr) (N1 N2 N3 d1 d2 d3 : Nat) (zs : List Lt), e = .returned (.tuple #[.agg #[.slice A1 N1 d1, .slice A2 N2 d2, .slice A3 N3 d3], .int .i64 v, .bool b]) ∧ Hid (N1 = ss.length) ∧ Hid (N2 = fs.length) ∧ Hid (N3 = ds.length) ∧ Hid (zs.map Lt.d = ds) ∧
    w'.ownsRow w.heap.size 9 1 (.slice A1 N1 d1) N1 (ss.map Value.string) ∧ w'.ownsRow w.heap.size 109 4 (.slice A2 N2 d2) N2 (fs.flatMap Q4.cells) ∧ LtC w.heap.size A3 N3 d3 zs w' ∧ Below w.heap.size w w'
theorem PlOI_fin {w X : World} {ss : List ByteArray} {fs : List Q4} {ds : List LtD} {v : Int} {bo : Bool} {A1 A2 A3 : Option Addr} {N1 N2 N3 d1 d2 d3 b B : Nat} {zs : List Lt} {u1 u2 u3 : Value} (hb : w.heap.size ≤ b) (hB : b < B) (h1 : N1 = ss.length) (h2 : N2 = fs.length) (h3 : N3 = ds.length) (hz : zs.map Lt.d = ds)
    (ho1 : X.ownsRow B 9 1 (.slice A1 N1 d1) N1 (ss.map Value.string)) (ho2 : X.ownsRow B 109 4 (.slice A2 N2 d2) N2 (fs.flatMap Q4.cells)) (hC : LtC B A3 N3 d3 zs X) (hbw : Below w.heap.size w X) :
    PlOI ss fs ds v bo w (.returned (.tuple #[.agg #[.slice A1 N1 d1, .slice A2 N2 d2, .slice A3 N3 d3], .int .i64 v, .bool bo])) (((X.setCell ⟨b, 0, none⟩ u1).setCell ⟨b, 1, none⟩ u2).setCell ⟨b, 2, none⟩ u3) :=
  ⟨A1, A2, A3, N1, N2, N3, d1, d2, d3, zs, rfl, Lib.hid h1, Lib.hid h2, Lib.hid h3, Lib.hid hz,
    own_base (ownsRow_setCell_below (ownsRow_setCell_below (ownsRow_setCell_below ho1 (a := ⟨b, 0, none⟩) hB _) (a := ⟨b, 1, none⟩) hB _) (a := ⟨b, 2, none⟩) hB _) (by omega),
    own_base (ownsRow_setCell_below (ownsRow_setCell_below (ownsRow_setCell_below ho2 (a := ⟨b, 0, none⟩) hB _) (a := ⟨b, 1, none⟩) hB _) (a := ⟨b, 2, none⟩) hB _) (by omega),
    LtC.base (LtC.low (LtC.low (LtC.low hC hB _) hB _) hB _) (by omega),
    ((hbw.setCell (p := ⟨b, 0, none⟩) hb _).setCell (p := ⟨b, 1, none⟩) hb _).setCell (p := ⟨b, 2, none⟩) hb _⟩
theorem PlOI.drew {w w' : World} {e : Ending} {ss : List ByteArray} {fs : List Q4} {ds : List LtD} {v : Int} {b : Bool} (h : PlOI ss fs ds v b w e w') : PlOI ss fs ds v b w e w'.drew := by
  obtain ⟨A1, A2, A3, N1, N2, N3, d1, d2, d3, zs, a0, a1, a2, a3, a4, a5, a6, a7, a8⟩ := h
  exact ⟨A1, A2, A3, N1, N2, N3, d1, d2, d3, zs, a0, a1, a2, a3, a4, own_heapW rfl a5, own_heapW rfl a6, a7.heapW rfl, a8.drew⟩

set_option maxRecDepth 100000 in
set_option maxHeartbeats 4000000 in
theorem implDS {g1 g2 g3 n1 n2 n3 c1 c2 B : Nat} {ss : List ByteArray} {fs : List Q4} {ys : List Lt} {ds : List LtD} {w : World} (h : NetAt g1 g2 n1 n2 c1 c2 ss fs w) (hT : Lts B g3 n3 ys w) (hd : ys.map Lt.d = ds) (hs : n3 ≤ 1048576) (hl : Bool) (hTab : Tab w) :
    Calls Tryz.prog 9 #[.agg #[.slice (some ⟨g1, 0, none⟩) n1 c1, .slice (some ⟨g2, 0, none⟩) n2 c2, .slice (some ⟨g3, 0, none⟩) n3 n3], .bool hl] w (PlOI (dgLS ss fs ds 1) (dgLF ss fs ds 1) (dgLD ss fs ds hl 1) (dsV ss fs ds hl) (dgOk ss fs ds 1) w) := by
  have HC := Lib.hid (fun W (hb : Below w.heap.size w W) => implDG (h.moved hb) (hT.moved hb) hd hs hl 1 (hTab.over hb))
  clear h hT hd hTab
  obtain ⟨LS, hLS⟩ : ∃ r, dgLS ss fs ds 1 = r := ⟨_, rfl⟩
  obtain ⟨LF, hLF⟩ : ∃ r, dgLF ss fs ds 1 = r := ⟨_, rfl⟩
  obtain ⟨LD, hLD⟩ : ∃ r, dgLD ss fs ds hl 1 = r := ⟨_, rfl⟩
  obtain ⟨RB, hRB⟩ : ∃ r, dgOk ss fs ds 1 = r := ⟨_, rfl⟩
  unfold dsV
  obtain ⟨LI, hLI⟩ : ∃ r, dgLI ss fs ds hl 1 = r := ⟨_, rfl⟩
  rw [hLS, hLF, hLD, hLI, hRB] at HC ⊢
  clear hLS hLF hLD hLI hRB
  go_enter Tryz.func9, Tryz.ntmps9
  go_wp2_with fail
  obtain ⟨W0, hW0⟩ : ∃ W0, (w.alloc (Obj.cells #[.slice (some ⟨g1, 0, none⟩) n1 c1, .slice (some ⟨g2, 0, none⟩) n2 c2, .slice (some ⟨g3, 0, none⟩) n3 n3] 35)).alloc (Obj.cells #[.slice none 0 0, .slice none 0 0, .slice none 0 0] 35) = W0 := ⟨_, rfl⟩
  have hb0 : Below w.heap.size w W0 := by rw [← hW0]; exact ((Below.refl _ _).alloc (Nat.le_refl _) _).alloc (by simp) _
  have HR0 : Hid (W0.ownsRow (w.heap.size + 1) 35 3 (.slice (some ⟨w.heap.size + 1, 0, none⟩) 1 1) 1 [.slice none 0 0, .slice none 0 0, .slice none 0 0]) := Lib.hid (by
    rw [← hW0]
    have := one_rowP (w.alloc (Obj.cells #[.slice (some ⟨g1, 0, none⟩) n1 c1, .slice (some ⟨g2, 0, none⟩) n2 c2, .slice (some ⟨g3, 0, none⟩) n3 n3] 35)) (.slice none 0 0) (.slice none 0 0) (.slice none 0 0) (base := w.heap.size + 1) (by simp)
    simpa using this)
  have hz0 : W0.heap.size = w.heap.size + 2 := by rw [← hW0]; simp
  have HB0 := Lib.hid hb0; have HZ0 := Lib.hid hz0
  rw [hW0]
  clear hW0 hb0 hz0
  refine (HC.out _ HB0.out).mono ?_
  rintro e w1 ⟨A1, A2, A3, A4, N1, N2, N3, N4, d1, d2, d3, d4, zs, rfl, HN1, HN2, HN3, HN4, HZD, ho1, ho2, hC, ho4, hb1⟩
  obtain ⟨bx, hbx⟩ : ∃ b, w1.heap.size = b := ⟨_, rfl⟩
  have HBX := Lib.hid hbx
  have HZB : Hid (w.heap.size + 2 ≤ bx) := Lib.hid (by have := hb1.size; have := HZ0.out; omega)
  obtain ⟨w2, hw2⟩ : ∃ w2, w1.alloc (Obj.cells #[.slice A1 N1 d1, .slice A2 N2 d2, .slice A3 N3 d3] 35) = w2 := ⟨_, rfl⟩
  have hb2 : Below w1.heap.size w1 w2 := by rw [← hw2]; exact (Below.refl _ _).alloc (Nat.le_refl _) _
  have hrx : w2.ownsRow bx 35 3 (.slice (some ⟨bx, 0, none⟩) 1 1) 1 [.slice A1 N1 d1, .slice A2 N2 d2, .slice A3 N3 d3] := by rw [← hw2, ← hbx]; exact one_rowP w1 _ _ _ (Nat.le_refl _)
  have HB2 := Lib.hid (HB0.out.trans ((hb1.trans (hb2.mono hb1.size)).mono HB0.out.size))
  have HO1 := Lib.hid (own_base (B' := w.heap.size + 2) (ownB ho1 hb2) (by have := HZ0.out; omega))
  have HO2 := Lib.hid (own_base (B' := w.heap.size + 2) (ownB ho2 hb2) (by have := HZ0.out; omega))
  have HCC := Lib.hid ((hC.moved hb2).base (B' := w.heap.size + 2) (by have := HZ0.out; omega))
  have HO4 := Lib.hid (ownB ho4 hb2)
  have hR2 := ownB (ownB HR0.out hb1) hb2
  obtain ⟨y0, y1, y2, _, _, _, y3⟩ := px_facts hrx
  obtain ⟨s0, s1, s2, s3, s4, s5, s6⟩ := px_facts hR2
  have hne1 : ¬ (bx = w.heap.size + 1) := by have := HZB.out; omega
  have hne2 : ¬ (w.heap.size + 1 = bx) := fun e => hne1 e.symm
  clear ho1 ho2 hC ho4 hb1 hb2 hrx hR2
  cases LI with
  | nil =>
    obtain rfl : N4 = 0 := HN4.out
    go_wp2
    refine bodyPost_ret (v := .tuple #[.agg #[.slice A1 N1 d1, .slice A2 N2 d2, .slice A3 N3 d3], .int .i64 0, .bool RB]) ?_ rfl ?_
    · simp [results, Tryz.results9, go_sem, s0, s1, s2, s6]
    · exact PlOI_fin (b := w.heap.size + 1) (B := w.heap.size + 2) (by omega) (by omega) HN1.out HN2.out HN3.out HZD.out HO1.out HO2.out HCC.out HB2.out
  | cons x r =>
    have hN4 : 0 < N4 := by rw [HN4.out]; simp
    have hN4I : (0 : Int) < (N4 : Int) := by omega
    have hN4a : ¬ ((N4 : Int) = 0) := by omega
    have hN4b : ((N4 : Int) == 0) = false := beq_eq_false_iff_ne.2 hN4a
    obtain ⟨g4, rfl⟩ := own_some HO4.out hN4
    have z0 := HO4.out.cellAt 0 (by omega)
    simp only [List.map_cons, List.getElem?_cons_zero] at z0
    have z1 := (HO4.out.lt g4 rfl).2
    have hne3 : ¬ (g4 = w.heap.size + 1) := by have := (HO4.out.lt g4 rfl).1; have := HZ0.out; omega
    have hne4 : ¬ (w.heap.size + 1 = g4) := fun e => hne3 e.symm
    go_wp2_with fail
    clear hw2 hbx
    go_region
    all_goals
      go_wp2_with fail
      refine bodyPost_ret (v := .tuple #[.agg #[.slice A1 N1 d1, .slice A2 N2 d2, .slice A3 N3 d3], .int .i64 x, .bool RB]) ?_ rfl ?_
      · simp [results, Tryz.results9, go_sem, s0, s1, s2, s6]
      · first | exact PlOI_fin (b := w.heap.size + 1) (B := w.heap.size + 2) (by omega) (by omega) HN1.out HN2.out HN3.out HZD.out HO1.out HO2.out HCC.out HB2.out | exact (PlOI_fin (b := w.heap.size + 1) (B := w.heap.size + 2) (by omega) (by omega) HN1.out HN2.out HN3.out HZD.out HO1.out HO2.out HCC.out HB2.out).drew
noncomputable def icR (ss : List ByteArray) (fs : List Q4) (ds : List LtD) (hl : Bool) : Value := .tuple #[.bool (pb (planP ss fs ds) && (dsV ss fs ds hl == 0)), .bool (pb (planP ss fs ds))]
end Go.Proofs.YtflniajjecfgeaaGreatDoor
