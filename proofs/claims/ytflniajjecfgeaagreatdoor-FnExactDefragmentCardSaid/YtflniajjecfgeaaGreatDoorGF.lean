/- Texts of one group, joined: DfE, DfT, DgA, DgS. No condition but those typed. -/
import Derived.Test.YtflniajjecfgeaaGreatDoorDfD
import Derived.Test.YtflniajjecfgeaaGreatDoorGE
import Derived.Test.YtflniajjecfgeaaGreatDoorGA
namespace Go.Proofs.YtflniajjecfgeaaGreatDoor
open Go.ChangeShapes Go.WideShapes Go.ChangeAt Go.RowKit

noncomputable def dsV (ss : List ByteArray) (fs : List Q4) (ds : List LtD) (hl : Bool) : Int := (dgLI ss fs ds hl 1).headD 0
theorem ds_ok (ss : List ByteArray) (fs : List Q4) (ds : List LtD) : dgOk ss fs ds 1 = pb (planP ss fs ds) := by
  unfold dgOk
  by_cases h : planP ss fs ds
  · rw [pb_true h, pb_true ⟨h, by omega, by omega⟩]
  · rw [pb_false h, pb_false (fun h9 => h h9.1)]
theorem ds_step (ds : List LtD) (hl : Bool) : dgD ds hl 1 = stepDs ds hl ∧ (dgL ds hl 1).headD 0 = stepId ds hl := by
  unfold stepDs stepId
  show (match stepF (dgD ds hl 0) hl with | none => dgD ds hl 0 | some i => mvD (dgD ds hl 0) hl i) = _ ∧ (match stepF (dgD ds hl 0) hl with | none => dgL ds hl 0 | some i => dgL ds hl 0 ++ [(dn (dgD ds hl 0) i).p0]).headD 0 = _
  show (match stepF ds hl with | none => ds | some i => mvD ds hl i) = _ ∧ (match stepF ds hl with | none => [] | some i => [] ++ [(dn ds i).p0]).headD 0 = _
  cases stepF ds hl with
  | none => exact ⟨rfl, rfl⟩
  | some i => exact ⟨rfl, rfl⟩
theorem ds_yes {ss : List ByteArray} {fs : List Q4} {ds : List LtD} {hl : Bool} (h : planP ss fs ds) : dgLS ss fs ds 1 = ss ∧ dgLF ss fs ds 1 = fs ∧ dgLD ss fs ds hl 1 = stepDs ds hl ∧ dsV ss fs ds hl = stepId ds hl ∧ dgOk ss fs ds 1 = true := by
  obtain ⟨a, b, c, d, e⟩ := dg_yes (hl := hl) (lim := 1) ⟨h, by omega, by omega⟩
  refine ⟨a, b, by rw [c]; exact (ds_step ds hl).1, by unfold dsV; rw [d]; exact (ds_step ds hl).2, e⟩
theorem ds_no {ss : List ByteArray} {fs : List Q4} {ds : List LtD} {hl : Bool} (h : ¬ planP ss fs ds) : dgLS ss fs ds 1 = [] ∧ dgLF ss fs ds 1 = [] ∧ dgLD ss fs ds hl 1 = [] ∧ dsV ss fs ds hl = 0 ∧ dgOk ss fs ds 1 = false := by
  obtain ⟨a, b, c, d, e⟩ := dg_no (hl := hl) (lim := 1) (fun h9 => h h9.1)
  exact ⟨a, b, c, by unfold dsV; rw [d]; rfl, e⟩
/-- an answer: a plan, a number and a word. -/
def PlOI (ss : List ByteArray) (fs : List Q4) (ds : List LtD) (v : Int) (b : Bool) (w : World) (e : Ending) (w' : World) : Prop :=
  ∃ (A1 A2 A3 : Option Addr) (N1 N2 N3 d1 d2 d3 : Nat) (zs : List Lt), e = .returned (.tuple #[.agg #[.slice A1 N1 d1, .slice A2 N2 d2, .slice A3 N3 d3], .int .i64 v, .bool b]) ∧ Hid (N1 = ss.length) ∧ Hid (N2 = fs.length) ∧ Hid (N3 = ds.length) ∧ Hid (zs.map Lt.d = ds) ∧
    w'.ownsRow w.heap.size 9 1 (.slice A1 N1 d1) N1 (ss.map Value.string) ∧ w'.ownsRow w.heap.size 109 4 (.slice A2 N2 d2) N2 (fs.flatMap Q4.cells) ∧ LtC w.heap.size A3 N3 d3 zs w' ∧ Below w.heap.size w w'
theorem PlOI_fin {w X : World} {ss : List ByteArray} {fs : List Q4} {ds : List LtD} {v : Int} {bo : Bool} {A1 A2 A3 : Option Addr} {N1 N2 N3 d1 d2 d3 b B : Nat} {zs : List Lt} {u1 u2 u3 : Value} (hb : w.heap.size ≤ b) (hB : b < B) (h1 : N1 = ss.length) (h2 : N2 = fs.length) (h3 : N3 = ds.length) (hz : zs.map Lt.d = ds)
    (ho1 : X.ownsRow B 9 1 (.slice A1 N1 d1) N1 (ss.map Value.string)) (ho2 : X.ownsRow B 109 4 (.slice A2 N2 d2) N2 (fs.flatMap Q4.cells)) (hC : LtC B A3 N3 d3 zs X) (hbw : Below w.heap.size w X) :
    PlOI ss fs ds v bo w (.returned (.tuple #[.agg #[.slice A1 N1 d1, .slice A2 N2 d2, .slice A3 N3 d3], .int .i64 v, .bool bo])) (((X.setCell ⟨b, 0, none⟩ u1).setCell ⟨b, 1, none⟩ u2).setCell ⟨b, 2, none⟩ u3) :=
  ⟨A1, A2, A3, N1, N2, N3, d1, d2, d3, zs, rfl, Lib.hid h1, Lib.hid h2, Lib.hid h3, Lib.hid hz,
    own_base (ownsRow_setCell_below (ownsRow_setCell_below (ownsRow_setCell_below ho1 (a := ⟨b, 0, none⟩) hB _) (a := ⟨b, 1, none⟩) hB _) (a := ⟨b, 2, none⟩) hB _) (by omega),
    own_base (ownsRow_setCell_below (ownsRow_setCell_below (ownsRow_setCell_below ho2 (a := ⟨b, 0, none⟩) hB _) (a := ⟨b, 1, none⟩) hB _) (a := ⟨b, 2, none⟩) hB _) (by omega),
    LtC.base (LtC.low (LtC.low (LtC.low hC hB _) hB _) hB _) (by omega),
    ((hbw.setCell (p := ⟨b, 0, none⟩) hb _).setCell (p := ⟨b, 1, none⟩) hb _).setCell (p := ⟨b, 2, none⟩) hb _⟩
theorem PlOI.drew {w w' : World} {e : Ending} {ss : List ByteArray} {fs : List Q4} {ds : List LtD} {v : Int} {b : Bool} (h : PlOI ss fs ds v b w e w') : PlOI ss fs ds v b w e w'.drew := by
  obtain ⟨A1, A2, A3, N1, N2, N3, d1, d2, d3, zs, a0, a1, a2, a3, a4, a5, a6, a7, a8⟩ := h
  exact ⟨A1, A2, A3, N1, N2, N3, d1, d2, d3, zs, a0, a1, a2, a3, a4, own_heapW rfl a5, own_heapW rfl a6, a7.heapW rfl, a8.drew⟩

set_option maxRecDepth 100000 in
set_option maxHeartbeats 4000000 in
theorem implDS {g1 g2 g3 n1 n2 n3 c1 c2 B : Nat} {ss : List ByteArray} {fs : List Q4} {ys : List Lt} {ds : List LtD} {w : World} (h : NetAt g1 g2 n1 n2 c1 c2 ss fs w) (hT : Lts B g3 n3 ys w) (hd : ys.map Lt.d = ds) (hs : n3 ≤ 1048576) (hl : Bool) (hTab : Tab w) :
    Calls Tryz.prog 9 #[.agg #[.slice (some ⟨g1, 0, none⟩) n1 c1, .slice (some ⟨g2, 0, none⟩) n2 c2, .slice (some ⟨g3, 0, none⟩) n3 n3], .bool hl] w (PlOI (dgLS ss fs ds 1) (dgLF ss fs ds 1) (dgLD ss fs ds hl 1) (dsV ss fs ds hl) (dgOk ss fs ds 1) w) := by
  have HC := Lib.hid (fun W (hb : Below w.heap.size w W) => implDG (h.moved hb) (hT.moved hb) hd hs hl 1 (hTab.over hb))
  clear h hT hd hTab
  obtain ⟨LS, hLS⟩ : ∃ r, dgLS ss fs ds 1 = r := ⟨_, rfl⟩
  obtain ⟨LF, hLF⟩ : ∃ r, dgLF ss fs ds 1 = r := ⟨_, rfl⟩
  obtain ⟨LD, hLD⟩ : ∃ r, dgLD ss fs ds hl 1 = r := ⟨_, rfl⟩
  obtain ⟨RB, hRB⟩ : ∃ r, dgOk ss fs ds 1 = r := ⟨_, rfl⟩
  unfold dsV
  obtain ⟨LI, hLI⟩ : ∃ r, dgLI ss fs ds hl 1 = r := ⟨_, rfl⟩
  rw [hLS, hLF, hLD, hLI, hRB] at HC ⊢
  clear hLS hLF hLD hLI hRB
  go_enter Tryz.func9, Tryz.ntmps9
  go_wp2_with fail
  obtain ⟨W0, hW0⟩ : ∃ W0, (w.alloc (Obj.cells #[.slice (some ⟨g1, 0, none⟩) n1 c1, .slice (some ⟨g2, 0, none⟩) n2 c2, .slice (some ⟨g3, 0, none⟩) n3 n3] 35)).alloc (Obj.cells #[.slice none 0 0, .slice none 0 0, .slice none 0 0] 35) = W0 := ⟨_, rfl⟩
  have hb0 : Below w.heap.size w W0 := by rw [← hW0]; exact ((Below.refl _ _).alloc (Nat.le_refl _) _).alloc (by simp) _
  have HR0 : Hid (W0.ownsRow (w.heap.size + 1) 35 3 (.slice (some ⟨w.heap.size + 1, 0, none⟩) 1 1) 1 [.slice none 0 0, .slice none 0 0, .slice none 0 0]) := Lib.hid (by
    rw [← hW0]
    have := one_rowP (w.alloc (Obj.cells #[.slice (some ⟨g1, 0, none⟩) n1 c1, .slice (some ⟨g2, 0, none⟩) n2 c2, .slice (some ⟨g3, 0, none⟩) n3 n3] 35)) (.slice none 0 0) (.slice none 0 0) (.slice none 0 0) (base := w.heap.size + 1) (by simp)
    simpa using this)
  have hz0 : W0.heap.size = w.heap.size + 2 := by rw [← hW0]; simp
  have HB0 := Lib.hid hb0; have HZ0 := Lib.hid hz0
  rw [hW0]
  clear hW0 hb0 hz0
  refine (HC.out _ HB0.out).mono ?_
  rintro e w1 ⟨A1, A2, A3, A4, N1, N2, N3, N4, d1, d2, d3, d4, zs, rfl, HN1, HN2, HN3, HN4, HZD, ho1, ho2, hC, ho4, hb1⟩
  obtain ⟨bx, hbx⟩ : ∃ b, w1.heap.size = b := ⟨_, rfl⟩
  have HBX := Lib.hid hbx
  have HZB : Hid (w.heap.size + 2 ≤ bx) := Lib.hid (by have := hb1.size; have := HZ0.out; omega)
  obtain ⟨w2, hw2⟩ : ∃ w2, w1.alloc (Obj.cells #[.slice A1 N1 d1, .slice A2 N2 d2, .slice A3 N3 d3] 35) = w2 := ⟨_, rfl⟩
  have hb2 : Below w1.heap.size w1 w2 := by rw [← hw2]; exact (Below.refl _ _).alloc (Nat.le_refl _) _
  have hrx : w2.ownsRow bx 35 3 (.slice (some ⟨bx, 0, none⟩) 1 1) 1 [.slice A1 N1 d1, .slice A2 N2 d2, .slice A3 N3 d3] := by rw [← hw2, ← hbx]; exact one_rowP w1 _ _ _ (Nat.le_refl _)
  have HB2 := Lib.hid (HB0.out.trans ((hb1.trans (hb2.mono hb1.size)).mono HB0.out.size))
  have HO1 := Lib.hid (own_base (B' := w.heap.size + 2) (ownB ho1 hb2) (by have := HZ0.out; omega))
  have HO2 := Lib.hid (own_base (B' := w.heap.size + 2) (ownB ho2 hb2) (by have := HZ0.out; omega))
  have HCC := Lib.hid ((hC.moved hb2).base (B' := w.heap.size + 2) (by have := HZ0.out; omega))
  have HO4 := Lib.hid (ownB ho4 hb2)
  have hR2 := ownB (ownB HR0.out hb1) hb2
  obtain ⟨y0, y1, y2, _, _, _, y3⟩ := px_facts hrx
  obtain ⟨s0, s1, s2, s3, s4, s5, s6⟩ := px_facts hR2
  have hne1 : ¬ (bx = w.heap.size + 1) := by have := HZB.out; omega
  have hne2 : ¬ (w.heap.size + 1 = bx) := fun e => hne1 e.symm
  clear ho1 ho2 hC ho4 hb1 hb2 hrx hR2
  cases LI with
  | nil =>
    obtain rfl : N4 = 0 := HN4.out
    go_wp2
    refine bodyPost_ret (v := .tuple #[.agg #[.slice A1 N1 d1, .slice A2 N2 d2, .slice A3 N3 d3], .int .i64 0, .bool RB]) ?_ rfl ?_
    · simp [results, Tryz.results9, go_sem, s0, s1, s2, s6]
    · exact PlOI_fin (b := w.heap.size + 1) (B := w.heap.size + 2) (by omega) (by omega) HN1.out HN2.out HN3.out HZD.out HO1.out HO2.out HCC.out HB2.out
  | cons x r =>
    have hN4 : 0 < N4 := by rw [HN4.out]; simp
    have hN4I : (0 : Int) < (N4 : Int) := by omega
    have hN4a : ¬ ((N4 : Int) = 0) := by omega
    have hN4b : ((N4 : Int) == 0) = false := beq_eq_false_iff_ne.2 hN4a
    obtain ⟨g4, rfl⟩ := own_some HO4.out hN4
    have z0 := HO4.out.cellAt 0 (by omega)
    simp only [List.map_cons, List.getElem?_cons_zero] at z0
    have z1 := (HO4.out.lt g4 rfl).2
    have hne3 : ¬ (g4 = w.heap.size + 1) := by have := (HO4.out.lt g4 rfl).1; have := HZ0.out; omega
    have hne4 : ¬ (w.heap.size + 1 = g4) := fun e => hne3 e.symm
    go_wp2_with fail
    clear hw2 hbx
    go_region
    all_goals
      go_wp2_with fail
      refine bodyPost_ret (v := .tuple #[.agg #[.slice A1 N1 d1, .slice A2 N2 d2, .slice A3 N3 d3], .int .i64 x, .bool RB]) ?_ rfl ?_
      · simp [results, Tryz.results9, go_sem, s0, s1, s2, s6]
      · first | exact PlOI_fin (b := w.heap.size + 1) (B := w.heap.size + 2) (by omega) (by omega) HN1.out HN2.out HN3.out HZD.out HO1.out HO2.out HCC.out HB2.out | exact (PlOI_fin (b := w.heap.size + 1) (B := w.heap.size + 2) (by omega) (by omega) HN1.out HN2.out HN3.out HZD.out HO1.out HO2.out HCC.out HB2.out).drew
noncomputable def icR (ss : List ByteArray) (fs : List Q4) (ds : List LtD) (hl : Bool) : Value := .tuple #[.bool (pb (planP ss fs ds) && (dsV ss fs ds hl == 0)), .bool (pb (planP ss fs ds))]
end Go.Proofs.YtflniajjecfgeaaGreatDoor

namespace Go.Proofs.YtflniajjecfgeaaGreatDoor
open Go.ChangeShapes Go.WideShapes Go.ChangeAt Go.RowKit

theorem mv_len (ds : List LtD) (hl : Bool) : (stepDs ds hl).length = ds.length := by
  unfold stepDs
  cases stepF ds hl with
  | none => rfl
  | some i => unfold mvD; rw [List.length_set]
theorem dsLD_len (ss : List ByteArray) (fs : List Q4) (ds : List LtD) (hl : Bool) : (dgLS ss fs ds 1).length ≤ ss.length ∧ (dgLF ss fs ds 1).length ≤ fs.length := by
  by_cases h : planP ss fs ds
  · obtain ⟨a, b, _⟩ := ds_yes (hl := hl) h
    rw [a, b]; exact ⟨Nat.le_refl _, Nat.le_refl _⟩
  · obtain ⟨a, b, _⟩ := ds_no (hl := hl) h
    rw [a, b]; exact ⟨Nat.zero_le _, Nat.zero_le _⟩
theorem dgLD_short (ss : List ByteArray) (fs : List Q4) (ds : List LtD) (hl : Bool) (lim : Int) : (dgLD ss fs ds hl lim).length ≤ 1000 ∧ ∀ d ∈ dgLD ss fs ds hl lim, d.zs.length ≤ 1000 := by
  by_cases h : planP ss fs ds ∧ 0 ≤ lim ∧ lim ≤ 60
  · obtain ⟨_, _, c, _⟩ := dg_yes (hl := hl) h
    obtain ⟨h1, h2⟩ := plan_short h.1
    have hi := dg_inv (plan_factsD h.1).2.1 hl lim.toNat
    rw [c]
    exact ⟨by rw [hi.len]; omega, hi.zsAll (p := fun l => l.length ≤ 1000) (fun d hd => by have := h2 d hd; omega)⟩
  · obtain ⟨_, _, c, _⟩ := dg_no (hl := hl) h
    rw [c]; simp
set_option maxRecDepth 100000 in
set_option maxHeartbeats 4000000 in
theorem specDS {g1 g2 g3 n1 n2 n3 c1 c2 B : Nat} {ss : List ByteArray} {fs : List Q4} {ys : List Lt} {ds : List LtD} {w : World} (h : NetAt g1 g2 n1 n2 c1 c2 ss fs w) (hT : Lts B g3 n3 ys w) (hd : ys.map Lt.d = ds) (hs : n3 ≤ 1048576) (hl : Bool) :
    Calls Tryz.prog 7 #[.agg #[.slice (some ⟨g1, 0, none⟩) n1 c1, .slice (some ⟨g2, 0, none⟩) n2 c2, .slice (some ⟨g3, 0, none⟩) n3 n3], .bool hl] w (PlOI (dgLS ss fs ds 1) (dgLF ss fs ds 1) (dgLD ss fs ds hl 1) (dsV ss fs ds hl) (dgOk ss fs ds 1) w) := by
  have HNT := Lib.hid h; have HT := Lib.hid hT; have HD := Lib.hid hd
  have HL1 := Lib.hid h.ln1; have HL2 := Lib.hid h.ln2
  have HLD : Hid (ds.length = n3) := Lib.hid (by rw [← hd, List.length_map]; exact hT.len)
  clear h hT hd
  obtain ⟨LS, hLS⟩ : ∃ r, dgLS ss fs ds 1 = r := ⟨_, rfl⟩
  obtain ⟨LF, hLF⟩ : ∃ r, dgLF ss fs ds 1 = r := ⟨_, rfl⟩
  obtain ⟨LD, hLD⟩ : ∃ r, dgLD ss fs ds hl 1 = r := ⟨_, rfl⟩
  obtain ⟨V, hV⟩ : ∃ r, dsV ss fs ds hl = r := ⟨_, rfl⟩
  obtain ⟨RB, hRB⟩ : ∃ r, dgOk ss fs ds 1 = r := ⟨_, rfl⟩
  have HNO : Hid (¬ planP ss fs ds → LS = [] ∧ LF = [] ∧ LD = [] ∧ V = 0 ∧ RB = false) := Lib.hid (fun e => by rw [← hLS, ← hLF, ← hLD, ← hV, ← hRB]; exact ds_no e)
  have HYES : Hid (planP ss fs ds → LS = ss ∧ LF = fs ∧ LD = stepDs ds hl ∧ V = stepId ds hl ∧ RB = true) := Lib.hid (fun e => by rw [← hLS, ← hLF, ← hLD, ← hV, ← hRB]; exact ds_yes e)
  rw [hLS, hLF, hLD, hV, hRB]
  clear hLS hLF hLD hV hRB
  go_enter Tryz.func7, Tryz.ntmps7
  go_wp2_with fail
  obtain ⟨W0, hW0⟩ : ∃ W0, (w.alloc (Obj.cells #[.slice (some ⟨g1, 0, none⟩) n1 c1, .slice (some ⟨g2, 0, none⟩) n2 c2, .slice (some ⟨g3, 0, none⟩) n3 n3] 35)).alloc (Obj.cells #[.slice none 0 0, .slice none 0 0, .slice none 0 0] 35) = W0 := ⟨_, rfl⟩
  have hb0 : Below w.heap.size w W0 := by rw [← hW0]; exact ((Below.refl _ _).alloc (Nat.le_refl _) _).alloc (by simp) _
  have k0 : W0.cell? ⟨w.heap.size, 0, none⟩ = some (.slice (some ⟨g1, 0, none⟩) n1 c1) := by rw [← hW0]; simp [go_sem]
  have k1 : W0.cell? ⟨w.heap.size, 1, none⟩ = some (.slice (some ⟨g2, 0, none⟩) n2 c2) := by rw [← hW0]; simp [go_sem]
  have k2 : W0.cell? ⟨w.heap.size, 2, none⟩ = some (.slice (some ⟨g3, 0, none⟩) n3 n3) := by rw [← hW0]; simp [go_sem]
  have HR0 : Hid (W0.ownsRow (w.heap.size + 1) 35 3 (.slice (some ⟨w.heap.size + 1, 0, none⟩) 1 1) 1 [.slice none 0 0, .slice none 0 0, .slice none 0 0]) := Lib.hid (by
    rw [← hW0]
    have := one_rowP (w.alloc (Obj.cells #[.slice (some ⟨g1, 0, none⟩) n1 c1, .slice (some ⟨g2, 0, none⟩) n2 c2, .slice (some ⟨g3, 0, none⟩) n3 n3] 35)) (.slice none 0 0) (.slice none 0 0) (.slice none 0 0) (base := w.heap.size + 1) (by simp)
    simpa using this)
  have hz0 : W0.heap.size = w.heap.size + 2 := by rw [← hW0]; simp
  have HB0 := Lib.hid hb0; have HZ0 := Lib.hid hz0
  rw [hW0]
  clear hW0 hb0
  have CG := Lib.hid (l9Good_ (HNT.out.moved HB0.out) (HT.out.moved HB0.out) HD.out hs)
  obtain ⟨b, hb⟩ : ∃ b, pb (planP ss fs ds) = b := ⟨_, rfl⟩
  rw [hb] at CG
  have HPB := Lib.hid hb
  clear hb
  refine CG.out.mono ?_
  rintro e w1 ⟨rfl, hb1⟩
  have HB1 := Lib.hid (HB0.out.trans (hb1.mono HB0.out.size))
  have hza : w.heap.size < W0.heap.size := by omega
  have q0 := (hb1.cell (p := ⟨w.heap.size, 0, none⟩) hza).trans k0
  have q1 := (hb1.cell (p := ⟨w.heap.size, 1, none⟩) hza).trans k1
  have q2 := (hb1.cell (p := ⟨w.heap.size, 2, none⟩) hza).trans k2
  have q3 := Nat.lt_of_lt_of_le hza hb1.size
  have HR1 := Lib.hid (ownB HR0.out hb1)
  clear hb1 k0 k1 k2 hz0 hza
  cases b
  case false =>
    have HNB := Lib.hid (HNO.out (of_npb HPB.out))
    obtain ⟨rfl, rfl, rfl, rfl, rfl⟩ := HNB.out
    obtain ⟨s0, s1, s2, s3, s4, s5, s6⟩ := px_facts HR1.out
    clear q0 q1 q2 q3
    go_wp2
    refine bodyPost_ret (v := .tuple #[.agg #[.slice none 0 0, .slice none 0 0, .slice none 0 0], .int .i64 0, .bool false]) ?_ rfl ?_
    · simp [results, Tryz.results7, go_sem, s0, s1, s2, s6]
    · exact PlOI_fin (b := w.heap.size + 1) (B := w.heap.size + 2) (by omega) (by omega) rfl rfl rfl rfl (World.ownsRow_nil _ _ _ _) (World.ownsRow_nil _ _ _ _) (LtC.nil _ _) HB1.out
  case true =>
  have HPP := Lib.hid (of_pb HPB.out)
  have HYB := Lib.hid (HYES.out HPP.out)
  obtain ⟨rfl, rfl, rfl, rfl, rfl⟩ := HYB.out
  have HPF := Lib.hid (plan_factsD HPP.out)
  have hn12 : n3 ≤ 12 := by have := HPF.out.1; have := HLD.out; omega
  have hT1 := HT.out.moved HB1.out
  have CS := Lib.hid (l21Step_ (c3 := n3) (HNT.out.moved HB1.out) ⟨hT1.len, hT1.rd, hT1.at_⟩ HD.out hn12 HPF.out.2.1 HPF.out.2.2.2.1 (fun y hy => by obtain ⟨q, hq⟩ := lts_someD HT.out y hy; exact ⟨_, hq⟩) (by rw [← HNT.out.ln1]; exact HPF.out.2.2.2.2.1) (fun h0 => by rw [← HNT.out.ln2]; exact HPF.out.2.2.2.2.2 (by rw [HLD.out]; exact h0)) hl)
  have HDL : Hid ((stepDs ds hl).length = n3) := Lib.hid (by rw [mv_len]; exact HLD.out)
  obtain ⟨v, hv⟩ : ∃ v, stepId ds hl = v := ⟨_, rfl⟩
  obtain ⟨D, hDD⟩ : ∃ v, stepDs ds hl = v := ⟨_, rfl⟩
  rw [hv, hDD] at CS
  rw [hDD] at HDL
  have HV2 := Lib.hid hv; have HD2 := Lib.hid hDD
  clear hv hDD hT1
  go_wp2_with fail
  refine CS.out.mono ?_
  rintro e w2 ⟨A1, A2, A3, d1, d2, d3, zs, rfl, HZD, ho1, ho2, hC, hb2⟩
  obtain ⟨bx, hbx⟩ : ∃ b, w2.heap.size = b := ⟨_, rfl⟩
  obtain ⟨w3, hw3⟩ : ∃ w3, w2.alloc (Obj.cells #[.slice A1 n1 d1, .slice A2 n2 d2, .slice A3 n3 d3] 35) = w3 := ⟨_, rfl⟩
  have hb3 : Below w2.heap.size w2 w3 := by rw [← hw3]; exact (Below.refl _ _).alloc (Nat.le_refl _) _
  have hrx : w3.ownsRow bx 35 3 (.slice (some ⟨bx, 0, none⟩) 1 1) 1 [.slice A1 n1 d1, .slice A2 n2 d2, .slice A3 n3 d3] := by rw [← hw3, ← hbx]; exact one_rowP w2 _ _ _ (Nat.le_refl _)
  have hsz : W0.heap.size ≤ w1.heap.size := HB1.out.size |> fun _ => by have := (HR1.out.lt (w.heap.size + 1) rfl).2; have := HZ0.out; omega
  have HB3 := Lib.hid (HB1.out.trans ((hb2.trans (hb3.mono hb2.size)).mono HB1.out.size))
  have HO1 := Lib.hid (own_base (B' := w.heap.size + 2) (ownB ho1 hb3) (by have := HZ0.out; omega))
  have HO2 := Lib.hid (own_base (B' := w.heap.size + 2) (ownB ho2 hb3) (by have := HZ0.out; omega))
  have HCC := Lib.hid ((hC.moved hb3).base (B' := w.heap.size + 2) (by have := HZ0.out; omega))
  obtain ⟨y0, y1, y2, _, _, _, y3⟩ := px_facts hrx
  obtain ⟨s0, s1, s2, s3, s4, s5, s6⟩ := px_facts (ownB (ownB HR1.out hb2) hb3)
  have hne1 : ¬ (bx = w.heap.size + 1) := by have := hb2.size; have := HZ0.out; omega
  have hne2 : ¬ (w.heap.size + 1 = bx) := fun e => hne1 e.symm
  clear ho1 ho2 hC hb2 hb3 hrx q0 q1 q2 q3 hsz
  go_wp2
  refine bodyPost_ret (v := .tuple #[.agg #[.slice A1 n1 d1, .slice A2 n2 d2, .slice A3 n3 d3], .int .i64 v, .bool true]) ?_ rfl ?_
  · simp [results, Tryz.results7, go_sem, s0, s1, s2, s6]
  · rw [HV2.out, HD2.out]
    exact PlOI_fin (b := w.heap.size + 1) (B := w.heap.size + 2) (by omega) (by omega) HL1.out.symm HL2.out.symm HDL.out.symm HZD.out HO1.out HO2.out HCC.out HB3.out
end Go.Proofs.YtflniajjecfgeaaGreatDoor

namespace Go.Proofs.YtflniajjecfgeaaGreatDoor
open Go.ChangeShapes Go.WideShapes Go.ChangeAt Go.RowKit

/-- an answer: a plan, a list and a word; the list's memory is older than the plan's. -/
def DgOA (ss : List ByteArray) (fs : List Q4) (ds : List LtD) (L : List Int) (b : Bool) (w : World) (e : Ending) (w' : World) : Prop :=
  ∃ (A1 A2 A3 A4 : Option Addr) (N1 N2 N3 N4 d1 d2 d3 d4 : Nat) (zs : List Lt) (Bq : Nat), e = .returned (.tuple #[.agg #[.slice A1 N1 d1, .slice A2 N2 d2, .slice A3 N3 d3], .slice A4 N4 d4, .bool b]) ∧ Hid (N1 = ss.length) ∧ Hid (N2 = fs.length) ∧ Hid (N3 = ds.length) ∧ Hid (N4 = L.length) ∧ Hid (zs.map Lt.d = ds) ∧
    Hid (w.heap.size ≤ Bq) ∧ w'.ownsRow Bq 9 1 (.slice A1 N1 d1) N1 (ss.map Value.string) ∧ w'.ownsRow Bq 109 4 (.slice A2 N2 d2) N2 (fs.flatMap Q4.cells) ∧ LtC Bq A3 N3 d3 zs w' ∧ w'.ownsRow w.heap.size 3 1 (.slice A4 N4 d4) N4 (L.map (Value.int .i64)) ∧ Hid (∀ g, (Value.slice A4 N4 d4).ownBlock = some g → g < Bq) ∧ Below w.heap.size w w'
theorem DgOA_no {w X : World} {b : Nat} {u1 u2 u3 : Value} (hb : w.heap.size ≤ b) (hbw : Below w.heap.size w X) :
    DgOA [] [] [] [] false w (.returned (.tuple #[.agg #[.slice none 0 0, .slice none 0 0, .slice none 0 0], .slice none 0 0, .bool false])) (((X.setCell ⟨b, 0, none⟩ u1).setCell ⟨b, 1, none⟩ u2).setCell ⟨b, 2, none⟩ u3) :=
  ⟨none, none, none, none, 0, 0, 0, 0, 0, 0, 0, 0, [], w.heap.size, rfl, Lib.hid rfl, Lib.hid rfl, Lib.hid rfl, Lib.hid rfl, Lib.hid rfl, Lib.hid (Nat.le_refl _), World.ownsRow_nil _ _ _ _, World.ownsRow_nil _ _ _ _, LtC.nil _ _, World.ownsRow_nil _ _ _ _, Lib.hid (fun g h => by simp [Value.ownBlock] at h),
    ((hbw.setCell (p := ⟨b, 0, none⟩) hb _).setCell (p := ⟨b, 1, none⟩) hb _).setCell (p := ⟨b, 2, none⟩) hb _⟩
theorem DgOA_fin {w X : World} {ss : List ByteArray} {fs : List Q4} {ds : List LtD} {L : List Int} {A1 A2 A3 A4 : Option Addr} {N1 N2 N3 N4 d1 d2 d3 d4 b B Bq : Nat} {zs : List Lt} {u1 u2 u3 : Value} (hb : w.heap.size ≤ b) (hB : b < B) (hBq : B ≤ Bq) (h1 : ss.length = N1) (h2 : fs.length = N2) (hz : zs.map Lt.d = ds) (h4 : N4 = L.length)
    (ho1 : X.ownsRow Bq 9 1 (.slice A1 N1 d1) N1 (ss.map Value.string)) (ho2 : X.ownsRow Bq 109 4 (.slice A2 N2 d2) N2 (fs.flatMap Q4.cells)) (hC : LtC Bq A3 N3 d3 zs X) (ho4 : X.ownsRow B 3 1 (.slice A4 N4 d4) N4 (L.map (Value.int .i64))) (hlt : ∀ g, (Value.slice A4 N4 d4).ownBlock = some g → g < Bq) (hbw : Below w.heap.size w X) :
    DgOA ss fs ds L true w (.returned (.tuple #[.agg #[.slice A1 N1 d1, .slice A2 N2 d2, .slice A3 N3 d3], .slice A4 N4 d4, .bool true])) (((X.setCell ⟨b, 0, none⟩ u1).setCell ⟨b, 1, none⟩ u2).setCell ⟨b, 2, none⟩ u3) := by
  have hBb : b < Bq := by omega
  exact ⟨A1, A2, A3, A4, N1, N2, N3, N4, d1, d2, d3, d4, zs, Bq, rfl, Lib.hid h1.symm, Lib.hid h2.symm, Lib.hid (by rw [← hz, List.length_map, hC.len]), Lib.hid h4, Lib.hid hz, Lib.hid (by omega),
    ownsRow_setCell_below (ownsRow_setCell_below (ownsRow_setCell_below ho1 (a := ⟨b, 0, none⟩) hBb _) (a := ⟨b, 1, none⟩) hBb _) (a := ⟨b, 2, none⟩) hBb _,
    ownsRow_setCell_below (ownsRow_setCell_below (ownsRow_setCell_below ho2 (a := ⟨b, 0, none⟩) hBb _) (a := ⟨b, 1, none⟩) hBb _) (a := ⟨b, 2, none⟩) hBb _,
    LtC.low (LtC.low (LtC.low hC hBb _) hBb _) hBb _,
    own_base (ownsRow_setCell_below (ownsRow_setCell_below (ownsRow_setCell_below ho4 (a := ⟨b, 0, none⟩) hB _) (a := ⟨b, 1, none⟩) hB _) (a := ⟨b, 2, none⟩) hB _) (by omega), Lib.hid hlt,
    ((hbw.setCell (p := ⟨b, 0, none⟩) hb _).setCell (p := ⟨b, 1, none⟩) hb _).setCell (p := ⟨b, 2, none⟩) hb _⟩
theorem dgLI_len (ss : List ByteArray) (fs : List Q4) (ds : List LtD) (hl : Bool) (lim : Int) : (dgLI ss fs ds hl lim).length ≤ 1000 := by
  by_cases h : planP ss fs ds ∧ 0 ≤ lim ∧ lim ≤ 60
  · rw [(dg_yes (hl := hl) h).2.2.2.1]
    have := dgL_len ds hl lim.toNat
    omega
  · rw [(dg_no (hl := hl) h).2.2.2.1]; simp
theorem dgSF_len (ss : List ByteArray) (fs : List Q4) (ds : List LtD) (lim : Int) : (dgLS ss fs ds lim).length ≤ ss.length ∧ (dgLF ss fs ds lim).length ≤ fs.length := by
  by_cases h : planP ss fs ds ∧ 0 ≤ lim ∧ lim ≤ 60
  · obtain ⟨a, b, _⟩ := dg_yes (hl := true) h
    rw [a, b]; exact ⟨Nat.le_refl _, Nat.le_refl _⟩
  · obtain ⟨a, b, _⟩ := dg_no (hl := true) h
    rw [a, b]; exact ⟨Nat.zero_le _, Nat.zero_le _⟩

set_option maxRecDepth 100000 in
set_option maxHeartbeats 4000000 in
theorem implDGA {g1 g2 g3 n1 n2 n3 c1 c2 B : Nat} {ss : List ByteArray} {fs : List Q4} {ys : List Lt} {ds : List LtD} {w : World} (h : NetAt g1 g2 n1 n2 c1 c2 ss fs w) (hT : Lts B g3 n3 ys w) (hd : ys.map Lt.d = ds) (hs : n3 ≤ 1048576) (hl : Bool) (lim : Int) (hTab : Tab w) :
    Calls Tryz.prog 14 #[.agg #[.slice (some ⟨g1, 0, none⟩) n1 c1, .slice (some ⟨g2, 0, none⟩) n2 c2, .slice (some ⟨g3, 0, none⟩) n3 n3], .bool hl, .int .i64 lim] w (DgOA (dgLS ss fs ds lim) (dgLF ss fs ds lim) (dgLD ss fs ds hl lim) (dgLI ss fs ds hl lim) (dgOk ss fs ds lim) w) := by
  have HNT := Lib.hid h; have HT := Lib.hid hT; have HD := Lib.hid hd; have HTAB := Lib.hid hTab
  have HL1 := Lib.hid h.ln1; have HL2 := Lib.hid h.ln2
  have HLD : Hid (ds.length = n3) := Lib.hid (by rw [← hd, List.length_map]; exact hT.len)
  clear h hT hd hTab
  obtain ⟨LS, hLS⟩ : ∃ r, dgLS ss fs ds lim = r := ⟨_, rfl⟩
  obtain ⟨LF, hLF⟩ : ∃ r, dgLF ss fs ds lim = r := ⟨_, rfl⟩
  obtain ⟨LD, hLD⟩ : ∃ r, dgLD ss fs ds hl lim = r := ⟨_, rfl⟩
  obtain ⟨LI, hLI⟩ : ∃ r, dgLI ss fs ds hl lim = r := ⟨_, rfl⟩
  obtain ⟨RB, hRB⟩ : ∃ r, dgOk ss fs ds lim = r := ⟨_, rfl⟩
  have HNO : Hid (¬ (planP ss fs ds ∧ 0 ≤ lim ∧ lim ≤ 60) → LS = [] ∧ LF = [] ∧ LD = [] ∧ LI = [] ∧ RB = false) := Lib.hid (fun e => by rw [← hLS, ← hLF, ← hLD, ← hLI, ← hRB]; exact dg_no e)
  have HYES : Hid (planP ss fs ds ∧ 0 ≤ lim ∧ lim ≤ 60 → LS = ss ∧ LF = fs ∧ LD = dgD ds hl lim.toNat ∧ LI = dgL ds hl lim.toNat ∧ RB = true) := Lib.hid (fun e => by rw [← hLS, ← hLF, ← hLD, ← hLI, ← hRB]; exact dg_yes e)
  rw [hLS, hLF, hLD, hLI, hRB]
  clear hLS hLF hLD hLI hRB
  go_enter Tryz.func14, Tryz.ntmps14
  go_wp2_with fail
  obtain ⟨W0, hW0⟩ : ∃ W0, (w.alloc (Obj.cells #[.slice (some ⟨g1, 0, none⟩) n1 c1, .slice (some ⟨g2, 0, none⟩) n2 c2, .slice (some ⟨g3, 0, none⟩) n3 n3] 35)).alloc (Obj.cells #[.slice none 0 0, .slice none 0 0, .slice none 0 0] 35) = W0 := ⟨_, rfl⟩
  have hb0 : Below w.heap.size w W0 := by rw [← hW0]; exact ((Below.refl _ _).alloc (Nat.le_refl _) _).alloc (by simp) _
  have k0 : W0.cell? ⟨w.heap.size, 0, none⟩ = some (.slice (some ⟨g1, 0, none⟩) n1 c1) := by rw [← hW0]; simp [go_sem]
  have k1 : W0.cell? ⟨w.heap.size, 1, none⟩ = some (.slice (some ⟨g2, 0, none⟩) n2 c2) := by rw [← hW0]; simp [go_sem]
  have k2 : W0.cell? ⟨w.heap.size, 2, none⟩ = some (.slice (some ⟨g3, 0, none⟩) n3 n3) := by rw [← hW0]; simp [go_sem]
  have HR0 : Hid (W0.ownsRow (w.heap.size + 1) 35 3 (.slice (some ⟨w.heap.size + 1, 0, none⟩) 1 1) 1 [.slice none 0 0, .slice none 0 0, .slice none 0 0]) := Lib.hid (by
    rw [← hW0]
    have := one_rowP (w.alloc (Obj.cells #[.slice (some ⟨g1, 0, none⟩) n1 c1, .slice (some ⟨g2, 0, none⟩) n2 c2, .slice (some ⟨g3, 0, none⟩) n3 n3] 35)) (.slice none 0 0) (.slice none 0 0) (.slice none 0 0) (base := w.heap.size + 1) (by simp)
    simpa using this)
  have hz0 : W0.heap.size = w.heap.size + 2 := by rw [← hW0]; simp
  have HB0 := Lib.hid hb0; have HZ0 := Lib.hid hz0
  rw [hW0]
  have HK : Hid (∀ u, Below W0.heap.size W0 u → u.cell? ⟨w.heap.size, 0, none⟩ = some (.slice (some ⟨g1, 0, none⟩) n1 c1) ∧ u.cell? ⟨w.heap.size, 1, none⟩ = some (.slice (some ⟨g2, 0, none⟩) n2 c2) ∧ u.cell? ⟨w.heap.size, 2, none⟩ = some (.slice (some ⟨g3, 0, none⟩) n3 n3) ∧ w.heap.size < u.heap.size) := Lib.hid fun u hu => ⟨(hu.cell (p := ⟨w.heap.size, 0, none⟩) (by show w.heap.size < _; omega)).trans k0, (hu.cell (p := ⟨w.heap.size, 1, none⟩) (by show w.heap.size < _; omega)).trans k1, (hu.cell (p := ⟨w.heap.size, 2, none⟩) (by show w.heap.size < _; omega)).trans k2, by have := hu.size; omega⟩
  have HS : Hid (∀ u, Below W0.heap.size W0 u → u.cell? ⟨w.heap.size + 1, 0, none⟩ = some (.slice none 0 0) ∧ u.cell? ⟨w.heap.size + 1, 1, none⟩ = some (.slice none 0 0) ∧ u.cell? ⟨w.heap.size + 1, 2, none⟩ = some (.slice none 0 0) ∧ u.frozen? ⟨w.heap.size + 1, 0, none⟩ = false ∧ u.frozen? ⟨w.heap.size + 1, 1, none⟩ = false ∧ u.frozen? ⟨w.heap.size + 1, 2, none⟩ = false ∧ w.heap.size + 1 < u.heap.size) := Lib.hid fun u hu => px_facts (ownB HR0.out hu)
  clear hW0 hb0 k0 k1 k2 hz0
  have CG := Lib.hid (implVP (HNT.out.moved HB0.out) (HT.out.moved HB0.out) HD.out hs)
  obtain ⟨b, hb⟩ : ∃ b, pb (planP ss fs ds) = b := ⟨_, rfl⟩
  rw [hb] at CG
  have HPB := Lib.hid hb
  clear hb
  refine CG.out.mono ?_
  rintro e w1 ⟨rfl, hb1⟩
  have HBB := Lib.hid hb1
  have HB1 := Lib.hid (HB0.out.trans (hb1.mono HB0.out.size))
  clear hb1
  have hbad : ∀ {X : Prop}, (¬ (planP ss fs ds ∧ 0 ≤ lim ∧ lim ≤ 60) → X) → (b = true → 0 ≤ lim → lim ≤ 60 → X) → X := fun h1 h2 => by
    by_cases hc : planP ss fs ds ∧ 0 ≤ lim ∧ lim ≤ 60
    · exact h2 (by rw [← HPB.out]; exact pb_true hc.1) hc.2.1 hc.2.2
    · exact h1 hc
  by_cases hok : b = true ∧ 0 ≤ lim ∧ lim ≤ 60
  case neg =>
    have HNB := Lib.hid (HNO.out (fun h => hok ⟨by rw [← HPB.out]; exact pb_true h.1, h.2⟩))
    obtain ⟨rfl, rfl, rfl, rfl, rfl⟩ := HNB.out
    obtain ⟨s0, s1, s2, s3, s4, s5, s6⟩ := HS.out w1 HBB.out
    clear hbad
    cases b
    case false =>
      clear hok
      go_wp2
      refine bodyPost_ret (v := .tuple #[.agg #[.slice none 0 0, .slice none 0 0, .slice none 0 0], .slice none 0 0, .bool false]) ?_ rfl ?_
      · simp [results, Tryz.results14, go_sem, s0, s1, s2, s6]
      · exact DgOA_no (by omega) HB1.out
    case true =>
      by_cases hneg : lim < 0
      · have q1 : decide (lim < 0) = true := decide_eq_true hneg
        clear hok
        go_wp2
        refine bodyPost_ret (v := .tuple #[.agg #[.slice none 0 0, .slice none 0 0, .slice none 0 0], .slice none 0 0, .bool false]) ?_ rfl ?_
        · simp [results, Tryz.results14, go_sem, s0, s1, s2, s6]
        · exact DgOA_no (by omega) HB1.out
      · have q1 : decide (lim < 0) = false := decide_eq_false hneg
        have q2 : 60 < lim := by
          by_cases h9 : 60 < lim
          · exact h9
          · exact absurd ⟨rfl, by omega, by omega⟩ hok
        have q3 : decide (60 < lim) = true := decide_eq_true q2
        have q4 : decide (lim > 60) = true := decide_eq_true q2
        clear hok
        go_wp2
        refine bodyPost_ret (v := .tuple #[.agg #[.slice none 0 0, .slice none 0 0, .slice none 0 0], .slice none 0 0, .bool false]) ?_ rfl ?_
        · simp [results, Tryz.results14, go_sem, s0, s1, s2, s6]
        · exact DgOA_no (by omega) HB1.out
  case pos =>
  obtain ⟨rfl, hm0, hm1⟩ := hok
  have HPP := Lib.hid (of_pb HPB.out)
  have HYB := Lib.hid (HYES.out ⟨HPP.out, hm0, hm1⟩)
  obtain ⟨rfl, rfl, rfl, rfl, rfl⟩ := HYB.out
  obtain ⟨t, rfl⟩ : ∃ t : Nat, lim = t := ⟨lim.toNat, by omega⟩
  have htn : ((t : Int)).toNat = t := by omega
  rw [htn]
  have HPF := Lib.hid (plan_factsD HPP.out)
  have hn12 : n3 ≤ 12 := by have := HPF.out.1; have := HLD.out; omega
  have q1 : decide ((t : Int) < 0) = false := decide_eq_false (by omega)
  have q2 : ¬ ((t : Int) < 0) := by omega
  have q3 : ¬ ((60 : Int) < (t : Int)) := by omega
  have q4 : decide ((60 : Int) < (t : Int)) = false := decide_eq_false q3
  have ht60 : t ≤ 60 := by omega
  obtain ⟨k0, k1, k2, k3⟩ := HK.out w1 HBB.out
  obtain ⟨i0, hi, hz0, hz1, hz2⟩ := info_parts Tryz.inf_Lt
  have hsz5 : (Tryz.prog.info? 62).map (·.size) = some 5 := by kernel_rfl
  clear hbad htn
  go_wp2_with (at_make; refine wpList_make_full _ rfl _ _ 33 rfl w1.heap.size 62 i0 _ 5 Tryz.underlying33 hi hz0 hz1 .i64 .i64 n3 n3 n3 rfl rfl rfl rfl (by rw [hz2]; omega) (by unfold maxLen; omega) (Nat.le_refl _) ?_)
  intro w2 hown hgrow
  have hb2 : Below w1.heap.size w1 w2 := (Below.refl _ _).grown hgrow (Nat.le_refl _) (fun k h => by cases h)
  clear hgrow hi hz0 hz1 hz2 k0 k1 k2 k3
  have HB2 := Lib.hid hb2
  have HRW : Hid (Rd w2 w2.heap.size (some ⟨g3, 0, none⟩) (ys.flatMap Lt.cells)) := Lib.hid ((HT.out.moved (HB1.out.trans (hb2.mono HB1.out.size))).rd)
  have hsrc : ∀ j v, (ys.flatMap Lt.cells)[j]? = some v → w2.cell? ((⟨g3, 0, none⟩ : Addr).add j) = some v := fun j v hv => by
    obtain ⟨ad, e, _, hc⟩ := HRW.out j v hv
    injection e with e
    subst e
    exact hc
  have hcs : (ys.flatMap Lt.cells).length = n3 * 5 := by
    have h9 := flat_len Lt.cells 5 ys (fun x _ => Lt.cells_len x)
    rw [h9, HT.out.len]
  obtain ⟨cs, hcse⟩ : ∃ cs, ys.flatMap Lt.cells = cs := ⟨_, rfl⟩
  have HCS := Lib.hid hcse
  have hone : ∀ v ∈ cs, v.oneCell' = true := by rw [← hcse]; exact one_lts ys
  rw [hcse] at hsrc hcs
  clear hcse hb2
  obtain ⟨k0, k1, k2, k3⟩ := HK.out w2 (HBB.out.trans (HB2.out.mono HBB.out.size))
  go_upto_region 4 with fail
  go_wp2_with (with_reducible refine wpList_copy_fullK rfl _ _ 33 33 rfl 62 Tryz.underlying33 5 hsz5 w1.heap.size w1.heap.size n3 _ hown ⟨g3, 0, none⟩ n3 rfl rfl cs hcs hsrc hone ?_)
  intro w3 hown3 hb3
  have HB3 := Lib.hid (HB2.out.trans hb3)
  have hls3 : LtS w1 w1.heap.size n3 ys w3 := ⟨HT.out.len, by rw [HCS.out]; exact hown3, fun y hy => (HT.out.moved HB1.out).at_ y hy, lts_someD HT.out⟩
  have CL := Lib.hid (lowerLights_ HB3.out hls3 HD.out hn12 HPF.out.2.1 HPF.out.2.2.1 HPF.out.2.2.2.1 hl t ht60 (HTAB.out.over HB1.out))
  clear hls3 hown3 hown hsrc hcs hone hb3 k0 k1 k2 k3 q1 q2 q3 q4
  go_wp2_with fail
  refine CL.out.mono ?_
  rintro e w4 ⟨A4, N4, d4, zs, rfl, HN4, ho4, hls4, HZ4, hb4⟩
  have HB4 := Lib.hid hb4
  have HB4W := Lib.hid (HB1.out.trans (hb4.mono HB1.out.size))
  have HBB4 := Lib.hid (HBB.out.trans (hb4.mono HBB.out.size))
  have HO4 := Lib.hid ho4; have HLS4 := Lib.hid hls4
  clear ho4 hls4 hb4
  obtain ⟨k0, k1, k2, k3⟩ := HK.out w4 HBB4.out
  have CP := Lib.hid (copyPlan_ (c3 := n3) (HNT.out.moved HB4W.out) (by rw [← HL1.out]; exact (net_smallD HPP.out.1).1) (net_smallD HPP.out.1).2 HLS4.out.len (HLS4.out.toR HB4.out).rd (HLS4.out.toR HB4.out).at_ HLS4.out.so (by omega))
  go_wp2_with fail
  refine CP.out.mono ?_
  rintro e w5 ⟨A1, A2, A3, d1, d2, d3, xs, rfl, hxd, ho1, ho2, hC, hb5⟩
  have HB5W := Lib.hid (HB4W.out.trans (hb5.mono HB4W.out.size))
  have HBB5 := Lib.hid (HBB4.out.trans (hb5.mono HBB4.out.size))
  have HSZ1 : Hid (w.heap.size + 2 ≤ w1.heap.size ∧ w1.heap.size ≤ w4.heap.size) := Lib.hid ⟨by have := HZ0.out; have := HBB.out.size; omega, HB4.out.size⟩
  have HO1 := Lib.hid (own_base (B' := w4.heap.size) ho1 (by omega)); have HO2 := Lib.hid (own_base (B' := w4.heap.size) ho2 (by omega))
  have HC := Lib.hid (hC.base (B' := w4.heap.size) (by omega))
  have HLT4 : Hid (∀ g, (Value.slice A4 N4 d4).ownBlock = some g → g < w4.heap.size) := Lib.hid fun g hg => (HO4.out.lt g hg).2
  have HO45 := Lib.hid (own_base (B' := w.heap.size + 2) (ownB HO4.out hb5) HSZ1.out.1)
  have HXD : Hid (xs.map Lt.d = dgD ds hl t) := Lib.hid (hxd.trans HZ4.out)
  obtain ⟨s0, s1, s2, s3, s4, s5, s6⟩ := HS.out w5 HBB5.out
  clear ho1 ho2 hC hb5 hxd k0 k1 k2 k3
  go_wp2
  refine bodyPost_ret (v := .tuple #[.agg #[.slice A1 n1 d1, .slice A2 n2 d2, .slice A3 n3 d3], .slice A4 N4 d4, .bool true]) ?_ rfl ?_
  · simp [results, Tryz.results14, go_sem, s0, s1, s2, s6]
  · exact DgOA_fin (b := w.heap.size + 1) (B := w.heap.size + 2) (Bq := w4.heap.size) (by omega) (by omega) (by have := HSZ1.out; omega) HL1.out HL2.out HXD.out HN4.out HO1.out HO2.out HC.out HO45.out HLT4.out HB5W.out
end Go.Proofs.YtflniajjecfgeaaGreatDoor

namespace Go.Proofs.YtflniajjecfgeaaGreatDoor
open Go.ChangeShapes Go.WideShapes Go.ChangeAt Go.RowKit

theorem LtC.grew {B : Nat} {A : Option Addr} {n c : Nat} {ys : List Lt} {w w' : World} (h : LtC B A n c ys w) {v : Value} (hr : Apart (.slice A n c) v) (hap : ∀ y ∈ ys, Apart (ltv y) v) (hg : w.grownBy w' v.ownBlock) : LtC B A n c ys w' :=
  ⟨h.len, hr.kept h.row hg, fun y hy => ⟨(h.own y hy).1, (h.own y hy).2.1, (hap y hy).kept (h.own y hy).2.2 hg⟩, h.apart⟩
theorem DgO_noL {w X : World} {b B d4 : Nat} {A4 : Option Addr} {u1 u2 u3 : Value} (hb : w.heap.size ≤ b) (hB : b < B) (ho4 : X.ownsRow B 3 1 (.slice A4 0 d4) 0 []) (hbw : Below w.heap.size w X) :
    DgO [] [] [] [] false w (.returned (.tuple #[.agg #[.slice none 0 0, .slice none 0 0, .slice none 0 0], .slice A4 0 d4, .bool false])) (((X.setCell ⟨b, 0, none⟩ u1).setCell ⟨b, 1, none⟩ u2).setCell ⟨b, 2, none⟩ u3) :=
  ⟨none, none, none, A4, 0, 0, 0, 0, 0, 0, 0, d4, [], rfl, Lib.hid rfl, Lib.hid rfl, Lib.hid rfl, Lib.hid rfl, Lib.hid rfl, World.ownsRow_nil _ _ _ _, World.ownsRow_nil _ _ _ _, LtC.nil _ _,
    own_base (ownsRow_setCell_below (ownsRow_setCell_below (ownsRow_setCell_below ho4 (a := ⟨b, 0, none⟩) hB _) (a := ⟨b, 1, none⟩) hB _) (a := ⟨b, 2, none⟩) hB _) (by omega),
    ((hbw.setCell (p := ⟨b, 0, none⟩) hb _).setCell (p := ⟨b, 1, none⟩) hb _).setCell (p := ⟨b, 2, none⟩) hb _⟩
/-- the plan that the walk holds, in memory of the call's own. -/
def DgW (B bp n1 n2 n3 : Nat) (ss : List ByteArray) (fs : List Q4) (es : List LtD) (wr : World) : Prop :=
  ∃ (A1 A2 A3 : Option Addr) (d1 d2 d3 : Nat) (zs : List Lt), Hid (∃ q, A1 = some ⟨q, 0, none⟩) ∧ Hid (∃ q, A2 = some ⟨q, 0, none⟩) ∧ Hid (zs.map Lt.d = es) ∧
    wr.ownsRow B 9 1 (.slice A1 n1 d1) n1 (ss.map Value.string) ∧ wr.ownsRow B 109 4 (.slice A2 n2 d2) n2 (fs.flatMap Q4.cells) ∧ LtC B A3 n3 d3 zs wr ∧
    wr.ownsRow bp 35 3 (.slice (some ⟨bp, 0, none⟩) 1 1) 1 [.slice A1 n1 d1, .slice A2 n2 d2, .slice A3 n3 d3]

set_option maxRecDepth 100000 in
set_option maxHeartbeats 4000000 in
theorem specDG {g1 g2 g3 n1 n2 n3 c1 c2 B : Nat} {ss : List ByteArray} {fs : List Q4} {ys : List Lt} {ds : List LtD} {w : World} (h : NetAt g1 g2 n1 n2 c1 c2 ss fs w) (hT : Lts B g3 n3 ys w) (hd : ys.map Lt.d = ds) (hs : n3 ≤ 1048576) (hl : Bool) (lim : Int) :
    Calls Tryz.prog 13 #[.agg #[.slice (some ⟨g1, 0, none⟩) n1 c1, .slice (some ⟨g2, 0, none⟩) n2 c2, .slice (some ⟨g3, 0, none⟩) n3 n3], .bool hl, .int .i64 lim] w (DgO (dgLS ss fs ds lim) (dgLF ss fs ds lim) (dgLD ss fs ds hl lim) (dgLI ss fs ds hl lim) (dgOk ss fs ds lim) w) := by
  have HNT := Lib.hid h; have HT := Lib.hid hT; have HD := Lib.hid hd
  have HL1 := Lib.hid h.ln1; have HL2 := Lib.hid h.ln2
  have HLD : Hid (ds.length = n3) := Lib.hid (by rw [← hd, List.length_map]; exact hT.len)
  clear h hT hd
  obtain ⟨LS, hLS⟩ : ∃ r, dgLS ss fs ds lim = r := ⟨_, rfl⟩
  obtain ⟨LF, hLF⟩ : ∃ r, dgLF ss fs ds lim = r := ⟨_, rfl⟩
  obtain ⟨LD, hLD⟩ : ∃ r, dgLD ss fs ds hl lim = r := ⟨_, rfl⟩
  obtain ⟨LI, hLI⟩ : ∃ r, dgLI ss fs ds hl lim = r := ⟨_, rfl⟩
  obtain ⟨RB, hRB⟩ : ∃ r, dgOk ss fs ds lim = r := ⟨_, rfl⟩
  have HNO : Hid (¬ (planP ss fs ds ∧ 0 ≤ lim ∧ lim ≤ 60) → LS = [] ∧ LF = [] ∧ LD = [] ∧ LI = [] ∧ RB = false) := Lib.hid (fun e => by rw [← hLS, ← hLF, ← hLD, ← hLI, ← hRB]; exact dg_no e)
  have HYES : Hid (planP ss fs ds ∧ 0 ≤ lim ∧ lim ≤ 60 → LS = ss ∧ LF = fs ∧ LD = dgD ds hl lim.toNat ∧ LI = dgL ds hl lim.toNat ∧ RB = true) := Lib.hid (fun e => by rw [← hLS, ← hLF, ← hLD, ← hLI, ← hRB]; exact dg_yes e)
  rw [hLS, hLF, hLD, hLI, hRB]
  clear hLS hLF hLD hLI hRB
  go_enter Tryz.func13, Tryz.ntmps13
  go_wp2_with fail
  obtain ⟨WA, hWA⟩ : ∃ WA, (w.alloc (Obj.cells #[.slice (some ⟨g1, 0, none⟩) n1 c1, .slice (some ⟨g2, 0, none⟩) n2 c2, .slice (some ⟨g3, 0, none⟩) n3 n3] 35)).alloc (Obj.cells #[.slice none 0 0, .slice none 0 0, .slice none 0 0] 35) = WA := ⟨_, rfl⟩
  have hba : Below w.heap.size w WA := by rw [← hWA]; exact ((Below.refl _ _).alloc (Nat.le_refl _) _).alloc (by simp) _
  have k0 : WA.cell? ⟨w.heap.size, 0, none⟩ = some (.slice (some ⟨g1, 0, none⟩) n1 c1) := by rw [← hWA]; simp [go_sem]
  have k1 : WA.cell? ⟨w.heap.size, 1, none⟩ = some (.slice (some ⟨g2, 0, none⟩) n2 c2) := by rw [← hWA]; simp [go_sem]
  have k2 : WA.cell? ⟨w.heap.size, 2, none⟩ = some (.slice (some ⟨g3, 0, none⟩) n3 n3) := by rw [← hWA]; simp [go_sem]
  have HRA : Hid (WA.ownsRow (w.heap.size + 1) 35 3 (.slice (some ⟨w.heap.size + 1, 0, none⟩) 1 1) 1 [.slice none 0 0, .slice none 0 0, .slice none 0 0]) := Lib.hid (by
    rw [← hWA]
    have := one_rowP (w.alloc (Obj.cells #[.slice (some ⟨g1, 0, none⟩) n1 c1, .slice (some ⟨g2, 0, none⟩) n2 c2, .slice (some ⟨g3, 0, none⟩) n3 n3] 35)) (.slice none 0 0) (.slice none 0 0) (.slice none 0 0) (base := w.heap.size + 1) (by simp)
    simpa using this)
  have hza : WA.heap.size = w.heap.size + 2 := by rw [← hWA]; simp
  have HBA := Lib.hid hba; have HZA := Lib.hid hza
  rw [hWA]
  have HK : Hid (∀ u, Below WA.heap.size WA u → u.cell? ⟨w.heap.size, 0, none⟩ = some (.slice (some ⟨g1, 0, none⟩) n1 c1) ∧ u.cell? ⟨w.heap.size, 1, none⟩ = some (.slice (some ⟨g2, 0, none⟩) n2 c2) ∧ u.cell? ⟨w.heap.size, 2, none⟩ = some (.slice (some ⟨g3, 0, none⟩) n3 n3) ∧ w.heap.size < u.heap.size) := Lib.hid fun u hu => ⟨(hu.cell (p := ⟨w.heap.size, 0, none⟩) (by show w.heap.size < _; omega)).trans k0, (hu.cell (p := ⟨w.heap.size, 1, none⟩) (by show w.heap.size < _; omega)).trans k1, (hu.cell (p := ⟨w.heap.size, 2, none⟩) (by show w.heap.size < _; omega)).trans k2, by have := hu.size; omega⟩
  have HS : Hid (∀ u, Below WA.heap.size WA u → u.cell? ⟨w.heap.size + 1, 0, none⟩ = some (.slice none 0 0) ∧ u.cell? ⟨w.heap.size + 1, 1, none⟩ = some (.slice none 0 0) ∧ u.cell? ⟨w.heap.size + 1, 2, none⟩ = some (.slice none 0 0) ∧ u.frozen? ⟨w.heap.size + 1, 0, none⟩ = false ∧ u.frozen? ⟨w.heap.size + 1, 1, none⟩ = false ∧ u.frozen? ⟨w.heap.size + 1, 2, none⟩ = false ∧ w.heap.size + 1 < u.heap.size) := Lib.hid fun u hu => px_facts (ownB HRA.out hu)
  obtain ⟨bL, hbL⟩ : ∃ b, w.heap.size + 1 + 1 = b := ⟨_, rfl⟩
  have HBL : Hid (bL = w.heap.size + 2) := Lib.hid (by omega)
  obtain ⟨W0, hW0⟩ : ∃ W0, WA.alloc (Obj.cells #[] 3) = W0 := ⟨_, rfl⟩
  have hb0 : Below WA.heap.size WA W0 := by rw [← hW0]; exact (Below.refl _ _).alloc (Nat.le_refl _) _
  have hoL : W0.ownsRow (w.heap.size + 2) 3 1 (.slice (some ⟨bL, 0, none⟩) 0 0) 0 [] := by rw [← hW0]; exact lit_own (nh (by omega)) (by omega)
  have HB0 := Lib.hid hb0; have HOL := Lib.hid hoL
  rw [hbL, hW0]
  clear hWA hba hW0 hb0 hoL k0 k1 k2 hza hbL
  have HB0W := Lib.hid (HBA.out.trans (HB0.out.mono HBA.out.size))
  have CG := Lib.hid (l9Good_ (HNT.out.moved HB0W.out) (HT.out.moved HB0W.out) HD.out hs)
  obtain ⟨b, hb⟩ : ∃ b, pb (planP ss fs ds) = b := ⟨_, rfl⟩
  rw [hb] at CG
  have HPB := Lib.hid hb
  clear hb
  obtain ⟨k0, k1, k2, k3⟩ := HK.out W0 HB0.out
  refine CG.out.mono ?_
  rintro e w1 ⟨rfl, hb1⟩
  have HB1 := Lib.hid (HB0.out.trans (hb1.mono HB0.out.size))
  have HOL1 := Lib.hid (ownB HOL.out hb1)
  clear hb1 k0 k1 k2 k3
  have HB1W := Lib.hid (HBA.out.trans (HB1.out.mono HBA.out.size))
  cases b
  case false =>
    have HNB := Lib.hid (HNO.out (fun hp => of_npb HPB.out hp.1))
    obtain ⟨rfl, rfl, rfl, rfl, rfl⟩ := HNB.out
    obtain ⟨s0, s1, s2, s3, s4, s5, s6⟩ := HS.out w1 HB1.out
    go_wp2
    refine bodyPost_ret (v := .tuple #[.agg #[.slice none 0 0, .slice none 0 0, .slice none 0 0], .slice (some ⟨bL, 0, none⟩) 0 0, .bool false]) ?_ rfl ?_
    · simp [results, Tryz.results13, go_sem, s0, s1, s2, s6]
    · exact DgO_noL (b := w.heap.size + 1) (B := w.heap.size + 2) (by omega) (by omega) HOL1.out HB1W.out
  case true =>
  have CI := Lib.hid (in_any lim 0 60 w1)
  obtain ⟨b, hb⟩ : ∃ b, decide ((0 : Int) ≤ lim ∧ lim ≤ 60) = b := ⟨_, rfl⟩
  rw [hb] at CI
  have HIB := Lib.hid hb
  clear hb
  go_wp2_with fail
  refine CI.out.mono ?_
  rintro e w1' ⟨rfl, rfl⟩
  cases b
  case false =>
    have HNB := Lib.hid (HNO.out (fun hp => of_decide_eq_false HIB.out hp.2))
    obtain ⟨rfl, rfl, rfl, rfl, rfl⟩ := HNB.out
    obtain ⟨s0, s1, s2, s3, s4, s5, s6⟩ := HS.out w1 HB1.out
    go_wp2
    refine bodyPost_ret (v := .tuple #[.agg #[.slice none 0 0, .slice none 0 0, .slice none 0 0], .slice (some ⟨bL, 0, none⟩) 0 0, .bool false]) ?_ rfl ?_
    · simp [results, Tryz.results13, go_sem, s0, s1, s2, s6]
    · exact DgO_noL (b := w.heap.size + 1) (B := w.heap.size + 2) (by omega) (by omega) HOL1.out HB1W.out
  case true =>
  have HPP := Lib.hid (of_pb HPB.out)
  have hlm := of_decide_eq_true HIB.out
  have HYB := Lib.hid (HYES.out ⟨HPP.out, hlm⟩)
  obtain ⟨rfl, rfl, rfl, rfl, rfl⟩ := HYB.out
  obtain ⟨m, rfl⟩ : ∃ m : Nat, lim = m := ⟨lim.toNat, by omega⟩
  have htn : ((m : Int)).toNat = m := by omega
  rw [htn]
  have hm60 : m ≤ 60 := by omega
  clear htn hlm
  have HPF := Lib.hid (plan_factsD HPP.out)
  have hn12 : n3 ≤ 12 := by have := HPF.out.1; have := HLD.out; omega
  have HINV : Hid (∀ t, DgP ds (dgD ds hl t)) := Lib.hid (dg_inv HPF.out.2.1 hl)
  have HP1 : Hid (0 < n1) := Lib.hid (by rw [← HL1.out]; exact HPF.out.2.2.2.2.1)
  have HP2 : Hid (0 < n3 → 0 < n2) := Lib.hid (fun h0 => by rw [← HL2.out]; exact HPF.out.2.2.2.2.2 (by rw [HLD.out]; exact h0))
  obtain ⟨i0, hi, hz0_, hz1_, hz2_⟩ := info_parts Tryz.inf_int
  have HI := Lib.hid hi; have HZ0 := Lib.hid hz0_; have HZ1 := Lib.hid hz1_; have HZ2 := Lib.hid hz2_
  clear hi hz0_ hz1_ hz2_
  obtain ⟨k0, k1, k2, k3⟩ := HK.out w1 HB1.out
  have hT1 := HT.out.moved HB1W.out
  have CN := Lib.hid (l9OwnN_ (c3 := n3) (HNT.out.moved HB1W.out) hT1.len hT1.rd hT1.at_ (fun _ => ⟨g3, rfl⟩) (fun y hy => by obtain ⟨q, hq⟩ := lts_someD HT.out y hy; exact ⟨_, hq⟩) (by omega))
  clear hT1
  go_wp2_with fail
  refine CN.out.mono ?_
  rintro e w2 ⟨A1, A2, A3, d1, d2, d3, zs, rfl, hq1, hq2, hzd, ho1, ho2, hC, hb2⟩
  obtain ⟨bp, hbp⟩ : ∃ b, w2.heap.size = b := ⟨_, rfl⟩
  obtain ⟨w3, hw3⟩ : ∃ w3, w2.alloc (Obj.cells #[.slice A1 n1 d1, .slice A2 n2 d2, .slice A3 n3 d3] 35) = w3 := ⟨_, rfl⟩
  have hb3 : Below w2.heap.size w2 w3 := by rw [← hw3]; exact (Below.refl _ _).alloc (Nat.le_refl _) _
  have hrx : w3.ownsRow bp 35 3 (.slice (some ⟨bp, 0, none⟩) 1 1) 1 [.slice A1 n1 d1, .slice A2 n2 d2, .slice A3 n3 d3] := by rw [← hw3, ← hbp]; exact one_rowP w2 _ _ _ (Nat.le_refl _)
  have HSW : Hid (w.heap.size + 2 ≤ w1.heap.size) := Lib.hid (by have := HB1.out.size; have := HZA.out; omega)
  have HBP : Hid (w.heap.size + 2 ≤ bp) := Lib.hid (by have := hb2.size; have := HSW.out; omega)
  have HDW : Hid (DgW (w.heap.size + 2) bp n1 n2 n3 LS LF (dgD ds hl 0) w3) := Lib.hid ⟨A1, A2, A3, d1, d2, d3, zs, Lib.hid hq1, Lib.hid hq2, Lib.hid (hzd.trans HD.out), own_base (ownB ho1 hb3) (by have := HSW.out; omega), own_base (ownB ho2 hb3) (by have := HSW.out; omega), (hC.moved hb3).base (by have := HSW.out; omega), hrx⟩
  have HB3 := Lib.hid (HB1.out.trans ((hb2.trans (hb3.mono hb2.size)).mono HB1.out.size))
  have HOL3 := Lib.hid (ownB (ownB HOL1.out hb2) hb3)
  go_upto_region 5 with fail
  try rw [hbp]
  try rw [hw3]
  clear hbp hw3 hb3 hrx hq1 hq2 hzd ho1 ho2 hC hb2 k0 k1 k2 k3
  go_loopw [2, 9] (fun x v wr => ∃ (t r : Nat) (A : Option Addr) (c : Nat), t + r = m ∧ x = .int .i64 (r : Int) ∧ v = .slice A t c ∧ Hid (t = (dgL ds hl t).length) ∧ Hid (wr.ownsRow (w.heap.size + 2) 3 1 (.slice A t c) t ((dgL ds hl t).map (Value.int .i64))) ∧ Hid (DgW (w.heap.size + 2) bp n1 n2 n3 LS LF (dgD ds hl t) wr) ∧ Below WA.heap.size WA wr) (fun x _ _ => (intOf x).toNat)
  case atStart => exact ⟨0, m, _, 0, by omega, rfl, rfl, Lib.hid rfl, HOL3, HDW, HB3.out⟩
  case round =>
    obtain ⟨t, r, A, c, htr, rfl, rfl, HTL, HOW, HDG, hb⟩ := hrel
    have HBR := Lib.hid hb
    have HBRW := Lib.hid (HBA.out.trans (hb.mono HBA.out.size))
    clear hb
    obtain ⟨A1, A2, A3, d1, d2, d3, zs, hq1, hq2, hzd, ho1, ho2, hC, hbx⟩ := HDG.out
    have HO1 := Lib.hid ho1; have HO2 := Lib.hid ho2; have HC := Lib.hid hC; have HBX := Lib.hid hbx
    clear ho1 ho2 hC hbx HDG
    obtain ⟨y0, y1, y2, _, _, _, y3⟩ := px_facts HBX.out
    have hne1 : ¬ (bp = w.heap.size + 1) := by have := HBP.out; omega
    have hne2 : ¬ (w.heap.size + 1 = bp) := fun e => hne1 e.symm
    by_cases hlt : 0 < r
    case neg =>
      have HRE : Hid (t = m) := Lib.hid (by omega)
      have hge : ¬ ((0 : Int) < (r : Int)) := by omega
      have hge2 : ¬ ((r : Int) > 0) := by omega
      have HTM : Hid (t = (dgL ds hl m).length) := Lib.hid (by have := HTL.out; rw [HRE.out] at this ⊢; exact this)
      have HOWM := Lib.hid HOW.out
      have HZM := Lib.hid hzd.out
      have e9 : dgL ds hl t = dgL ds hl m := by rw [HRE.out]
      have e8 : dgD ds hl t = dgD ds hl m := by rw [HRE.out]
      rw [e9] at HOWM
      rw [e8] at HZM
      clear e9 e8
      obtain ⟨s0, s1, s2, s3, s4, s5, s6⟩ := HS.out wr HBR.out
      go_wp2
      refine bodyPost_ret (v := .tuple #[.agg #[.slice A1 n1 d1, .slice A2 n2 d2, .slice A3 n3 d3], .slice A t c, .bool true]) ?_ rfl ?_
      · simp [results, Tryz.results13, go_sem, s0, s1, s2, s6]
      · exact DgO_fin (b := w.heap.size + 1) (B := w.heap.size + 2) (by omega) (by omega) HL1.out HL2.out HZM.out HTM.out HO1.out HO2.out HC.out HOWM.out HBRW.out
    case pos =>
    have hrI : (0 : Int) < (r : Int) := by omega
    have HDP := Lib.hid (HINV.out t)
    obtain ⟨es, hes⟩ : ∃ es, dgD ds hl t = es := ⟨_, rfl⟩
    have HES := Lib.hid hes
    rw [hes] at hzd HDP
    clear hes
    have HZD := Lib.hid hzd.out
    have HLE : Hid (es.length = n3) := Lib.hid (by rw [HDP.out.len, HLD.out])
    have HEND : Hid (stepF es hl = none → dgD ds hl m = es ∧ dgL ds hl m = dgL ds hl t) := Lib.hid (fun h => by
      have h9 := dg_end (ds := ds) (hl := hl) (t := t) (m := m) (by rw [HES.out]; exact h) (by omega)
      rw [HES.out] at h9; exact h9)
    have HNX : Hid (∀ i, stepF es hl = some i → dgD ds hl (t + 1) = mvD es hl i ∧ dgL ds hl (t + 1) = dgL ds hl t ++ [(dn es i).p0]) := Lib.hid (fun i h => by
      have h9 := dg_next (ds := ds) (hl := hl) (t := t) (i := i) (by rw [HES.out]; exact h)
      rw [HES.out] at h9; exact h9)
    have HPO : Hid (∀ i, stepF es hl = some i → 1 ≤ (dn es i).p0) := Lib.hid (fun i h => by
      have hi := (stepR_is h).1
      have hid : i < ds.length := by have := HDP.out.len; omega
      have := plan_p0 HPP.out _ (List.getElem_mem hid)
      rw [HDP.out.p0 i hid, dn_eq hid]; exact this)
    have HNE : Hid (∀ d ∈ es, d.zs ≠ []) := Lib.hid (HDP.out.zsAll (p := fun l => l ≠ []) HPF.out.2.2.2.1)
    obtain ⟨h1, rfl⟩ := hq1.out
    obtain ⟨h2, rfl⟩ := hq2.out
    have HSO : Hid (∀ y ∈ zs, ∃ ad, y.A = some ad) := Lib.hid fun y hy => by
      have ho := HC.out.own y hy
      have hm : y.d ∈ es := by rw [← HZD.out]; exact List.mem_map_of_mem hy
      have h9 := HNE.out _ hm
      have h10 : 0 < y.n := by
        rw [← ho.1]
        exact List.length_pos_iff.2 h9
      obtain ⟨q, hq⟩ := own_some ho.2.2 h10
      exact ⟨_, hq⟩
    have HNX1 : Hid (NetAt h1 h2 n1 n2 d1 d2 LS LF wr) := Lib.hid ⟨HNT.out.ln1, HNT.out.sm1, own_cap HO1.out, Rd.ofOwn HO1.out, HNT.out.ws, HNT.out.ln2, HNT.out.sm2, rdOwnA HO2.out⟩
    have CS := Lib.hid (l21StepN_ (c3 := d3) HNX1.out HC.out.toR HZD.out hn12 (fun i hi => HDP.out.blk i (by have := HDP.out.len; omega)) HNE.out HSO.out (fun h0 => own_some HC.out.row h0) HP1.out HP2.out hl)
    obtain ⟨v, hv⟩ : ∃ v, stepId es hl = v := ⟨_, rfl⟩
    obtain ⟨D, hDD⟩ : ∃ v, stepDs es hl = v := ⟨_, rfl⟩
    rw [hv, hDD] at CS
    have HV2 := Lib.hid hv; have HD2 := Lib.hid hDD
    clear hv hDD hq1 hq2 hzd
    go_wp2_with fail
    refine CS.out.mono ?_
    rintro e w4 ⟨B1, B2, B3, f1, f2, f3, xs, rfl, hp1, hp2, hxd, ho1, ho2, hC, hb4⟩
    have HP1' := Lib.hid hp1.out; have HP2' := Lib.hid hp2.out; have HXD := Lib.hid hxd.out
    have HO14 := Lib.hid ho1; have HO24 := Lib.hid ho2; have HC4 := Lib.hid hC
    have HB4 := Lib.hid hb4
    clear hp1 hp2 hxd ho1 ho2 hC hb4 y0 y1 y2 y3
    have HB4A := Lib.hid (HBR.out.trans (HB4.out.mono HBR.out.size))
    obtain ⟨bq, hbq⟩ : ∃ b, w4.heap.size = b := ⟨_, rfl⟩
    obtain ⟨w5, hw5⟩ : ∃ w5, w4.alloc (Obj.cells #[.slice B1 n1 f1, .slice B2 n2 f2, .slice B3 n3 f3] 35) = w5 := ⟨_, rfl⟩
    have hb5 : Below w4.heap.size w4 w5 := by rw [← hw5]; exact (Below.refl _ _).alloc (Nat.le_refl _) _
    have hrq : w5.ownsRow bq 35 3 (.slice (some ⟨bq, 0, none⟩) 1 1) 1 [.slice B1 n1 f1, .slice B2 n2 f2, .slice B3 n3 f3] := by rw [← hw5, ← hbq]; exact one_rowP w4 _ _ _ (Nat.le_refl _)
    have HB5 := Lib.hid (HB4.out.trans (hb5.mono HB4.out.size))
    have HB5A := Lib.hid (HB4A.out.trans (hb5.mono HB4A.out.size))
    have HO15 := Lib.hid (ownB HO14.out hb5); have HO25 := Lib.hid (ownB HO24.out hb5); have HC5 := Lib.hid (HC4.out.moved hb5)
    have HBQ : Hid (bp < bq ∧ wr.heap.size ≤ bq) := Lib.hid ⟨by have := (HBX.out.lt bp rfl).2; have := HB4.out.size; omega, by have := HB4.out.size; omega⟩
    have HBX5 := Lib.hid (ownB HBX.out HB5.out)
    have HOW5 := Lib.hid (ownB HOW.out HB5.out)
    have HRQ := Lib.hid hrq
    go_upto_region 8 with fail
    try rw [hbq]
    try rw [hw5]
    clear hbq hw5 hb5 hrq
    obtain ⟨y0, y1, y2, z0, z1, z2, y3⟩ := px_facts HBX5.out
    obtain ⟨s0, s1, s2, s3, s4, s5, s6⟩ := HS.out w5 HB5A.out
    cases hsf : stepF es hl with
    | none =>
      have HE : Hid (v = 0) := Lib.hid (by rw [← HV2.out]; unfold stepId; rw [hsf])
      obtain rfl := HE.out
      have HEN := Lib.hid (HEND.out hsf)
      have HO1B := Lib.hid (ownB HO1.out HB5.out); have HO2B := Lib.hid (ownB HO2.out HB5.out); have HCB := Lib.hid (HC.out.moved HB5.out)
      have HZM : Hid (zs.map Lt.d = dgD ds hl m) := Lib.hid (by rw [HEN.out.1]; exact HZD.out)
      have HTM : Hid (t = (dgL ds hl m).length) := Lib.hid (by rw [HEN.out.2]; exact HTL.out)
      have HOWM : Hid (w5.ownsRow (w.heap.size + 2) 3 1 (.slice A t c) t ((dgL ds hl m).map (Value.int .i64))) := Lib.hid (by rw [HEN.out.2]; exact HOW5.out)
      have HB5W := Lib.hid (HBA.out.trans (HB5A.out.mono HBA.out.size))
      clear hsf
      go_wp2
      refine bodyPost_ret (v := .tuple #[.agg #[.slice (some ⟨h1, 0, none⟩) n1 d1, .slice (some ⟨h2, 0, none⟩) n2 d2, .slice A3 n3 d3], .slice A t c, .bool true]) ?_ rfl ?_
      · simp [results, Tryz.results13, go_sem, s0, s1, s2, s6]
      · exact DgO_fin (b := w.heap.size + 1) (B := w.heap.size + 2) (by omega) (by omega) HL1.out HL2.out HZM.out HTM.out HO1B.out HO2B.out HCB.out HOWM.out HB5W.out
    | some i =>
      have HE : Hid (v = (dn es i).p0 ∧ D = mvD es hl i) := Lib.hid ⟨by rw [← HV2.out]; unfold stepId; rw [hsf], by rw [← HD2.out]; unfold stepDs; rw [hsf]⟩
      have HNX2 := Lib.hid (HNX.out i hsf)
      have hv1 : 1 ≤ v := by rw [HE.out.1]; exact HPO.out i hsf
      have hv2 : ¬ (v = 0) := by omega
      have hv3 : (v == 0) = false := beq_eq_false_iff_ne.2 hv2
      have hv4 : decide (v = 0) = false := decide_eq_false hv2
      clear hsf s0 s1 s2 s3 s4 s5 s6
      obtain ⟨x0, x1, x2, _, _, _, x3⟩ := px_facts HRQ.out
      go_upto_region 10 with fail
      obtain ⟨w6, hw6⟩ : ∃ w6, ((w5.setCell ⟨bp, 0, none⟩ (.slice B1 n1 f1)).setCell ⟨bp, 1, none⟩ (.slice B2 n2 f2)).setCell ⟨bp, 2, none⟩ (.slice B3 n3 f3) = w6 := ⟨_, rfl⟩
      have hlow : ∀ {E s k : Nat} {u : Value} {l : List Value}, w5.ownsRow (wr.heap.size + 2) E s u k l → w6.ownsRow (wr.heap.size + 2) E s u k l := fun h => by
        have hlb : bp < wr.heap.size + 2 := by have := (HBX.out.lt bp rfl).2; omega
        rw [← hw6]
        exact ownsRow_setCell_below (ownsRow_setCell_below (ownsRow_setCell_below h (a := ⟨bp, 0, none⟩) hlb _) (a := ⟨bp, 1, none⟩) hlb _) (a := ⟨bp, 2, none⟩) hlb _
      have ho16 := hlow HO15.out
      have ho26 := hlow HO25.out
      have hC6 : LtC (wr.heap.size + 2) B3 n3 f3 xs w6 := by
        have hlb : bp < wr.heap.size + 2 := by have := (HBX.out.lt bp rfl).2; omega
        rw [← hw6]
        exact LtC.low (LtC.low (LtC.low HC5.out hlb _) hlb _) hlb _
      have hbx6 : w6.ownsRow bp 35 3 (.slice (some ⟨bp, 0, none⟩) 1 1) 1 [.slice B1 n1 f1, .slice B2 n2 f2, .slice B3 n3 f3] := by
        rw [← hw6]
        exact ((HBX5.out.stored 0 (.slice B1 n1 f1)).1.stored 1 (.slice B2 n2 f2)).1.stored 2 (.slice B3 n3 f3) |>.1
      have how6 : w6.ownsRow (w.heap.size + 2) 3 1 (.slice A t c) t ((dgL ds hl t).map (Value.int .i64)) := by
        have hne : (Value.slice A t c).ownBlock ≠ some bp := fun e => own_type_apart HOW5.out HBX5.out (by decide) bp e rfl
        rw [← hw6]
        exact ownsRow_setCell_other (ownsRow_setCell_other (ownsRow_setCell_other HOW5.out (a := ⟨bp, 0, none⟩) hne _) (a := ⟨bp, 1, none⟩) hne _) (a := ⟨bp, 2, none⟩) hne _
      have hb6 : Below WA.heap.size WA w6 := by
        have hh : WA.heap.size ≤ bp := by have := HBP.out; have := HZA.out; omega
        rw [← hw6]
        exact ((HB5A.out.setCell (p := ⟨bp, 0, none⟩) hh _).setCell (p := ⟨bp, 1, none⟩) hh _).setCell (p := ⟨bp, 2, none⟩) hh _
      have hz6 : w.heap.size + 2 ≤ w6.heap.size := by have := hb6.size; have := HZA.out; omega
      have HO16 := Lib.hid ho16; have HO26 := Lib.hid ho26; have HC6 := Lib.hid hC6; have HBX6 := Lib.hid hbx6; have HOW6 := Lib.hid how6; have HB6 := Lib.hid hb6
      try rw [hw6]
      clear hw6 hlow ho16 ho26 hC6 hbx6 how6 hb6 x0 x1 x2 x3 y0 y1 y2 y3 z0 z1 z2 hv3 hv4
      go_wp2_with (at_builtin; refine wpList_append_own _ rfl _ _ 42 rfl (w.heap.size + 2) 3 i0 (.int .i64 0) 1 8 Tryz.underlying42 HI.out HZ0.out HZ1.out HZ2.out rfl (by decide) _ t _ rfl (HOW6.out.alloc _) ⟨w6.heap.size, 0, none⟩ 1 1 [.int .i64 v] rfl rfl (new_one _ _ _) (new_int _) (by unfold maxLen; omega) (by omega) (by simp; omega) ?_)
      intro v1 w7 hown1 hgrow1 _
      have hap : ∀ {E s k : Nat} {u : Value} {l : List Value}, w6.ownsRow (wr.heap.size + 2) E s u k l → Apart u (.slice A t c) := fun h => apart_new HOW.out h (by omega)
      have hB7 : Below WA.heap.size WA w7 := (HB6.out.alloc HB6.out.size _).grown hgrow1 (by have := HZA.out; simp; omega) (fun g hg => by have := (HOW6.out.lt g hg).1; have := HZA.out; omega)
      have ho17 := (hap HO16.out).kept (HO16.out.alloc _) hgrow1
      have ho27 := (hap HO26.out).kept (HO26.out.alloc _) hgrow1
      have hC7 := (HC6.out.alloc _).grew (hap HC6.out.row) (fun y hy => hap (HC6.out.own y hy).2.2) hgrow1
      have hbx7 := (own_type_apart HBX6.out HOW6.out (by decide)).kept (HBX6.out.alloc _) hgrow1
      obtain ⟨A9, c9, rfl⟩ := formOf hown1
      have HOW7 : Hid (w7.ownsRow (w.heap.size + 2) 3 1 (.slice A9 (t + 1) c9) (t + 1) ((dgL ds hl (t + 1)).map (Value.int .i64))) := Lib.hid (by
        rw [HNX2.out.2, ← HE.out.1, List.map_append]
        exact hown1)
      have HTL7 : Hid (t + 1 = (dgL ds hl (t + 1)).length) := Lib.hid (by rw [HNX2.out.2, List.length_append, ← HTL.out]; rfl)
      have hlow9 : w.heap.size + 2 ≤ wr.heap.size + 2 := by have := HBRW.out.size; omega
      have HDW7 : Hid (DgW (w.heap.size + 2) bp n1 n2 n3 LS LF (dgD ds hl (t + 1)) w7) := Lib.hid ⟨B1, B2, B3, f1, f2, f3, xs, HP1', HP2', Lib.hid (by rw [HNX2.out.1, ← HE.out.2]; exact HXD.out), own_base ho17 hlow9, own_base ho27 hlow9, hC7.base hlow9, hbx7⟩
      have HB7 := Lib.hid hB7
      clear hown1 hgrow1 hB7 ho17 ho27 hC7 hbx7 hap
      go_wp2
      go_roundw
      case rel => exact ⟨t + 1, r - 1, A9, c9, by omega, by go_num, rfl, HTL7, HOW7, HDW7, HB7.out⟩
      case measure => simp [intOf]; omega
end Go.Proofs.YtflniajjecfgeaaGreatDoor
