/- Lights: a step of defragmentation: the specification's contract, exported. No condition but those typed. -/
import Derived.Test.YtflniajjecfgeaaGreatDoorDfE
namespace Go.Proofs.YtflniajjecfgeaaGreatDoor
open Go.ChangeShapes Go.WideShapes Go.ChangeAt Go.RowKit

theorem mv_len (ds : List LtD) (hl : Bool) : (stepDs ds hl).length = ds.length := by
  unfold stepDs
  cases stepF ds hl with
  | none => rfl
  | some i => unfold mvD; rw [List.length_set]
theorem dsLD_len (ss : List ByteArray) (fs : List Q4) (ds : List LtD) (hl : Bool) : (dgLS ss fs ds 1).length ≤ ss.length ∧ (dgLF ss fs ds 1).length ≤ fs.length := by
  by_cases h : planP ss fs ds
  · obtain ⟨a, b, _⟩ := ds_yes (hl := hl) h
    rw [a, b]; exact ⟨Nat.le_refl _, Nat.le_refl _⟩
  · obtain ⟨a, b, _⟩ := ds_no (hl := hl) h
    rw [a, b]; exact ⟨Nat.zero_le _, Nat.zero_le _⟩
theorem dgLD_short (ss : List ByteArray) (fs : List Q4) (ds : List LtD) (hl : Bool) (lim : Int) : (dgLD ss fs ds hl lim).length ≤ 1000 ∧ ∀ d ∈ dgLD ss fs ds hl lim, d.zs.length ≤ 1000 := by
  by_cases h : planP ss fs ds ∧ 0 ≤ lim ∧ lim ≤ 60
  · obtain ⟨_, _, c, _⟩ := dg_yes (hl := hl) h
    obtain ⟨h1, h2⟩ := plan_short h.1
    have hi := dg_inv (plan_factsD h.1).2.1 hl lim.toNat
    rw [c]
    exact ⟨by rw [hi.len]; omega, hi.zsAll (p := fun l => l.length ≤ 1000) (fun d hd => by have := h2 d hd; omega)⟩
  · obtain ⟨_, _, c, _⟩ := dg_no (hl := hl) h
    rw [c]; simp
set_option maxRecDepth 100000 in
set_option maxHeartbeats 4000000 in
theorem specDS {g1 g2 g3 n1 n2 n3 c1 c2 B : Nat} {ss : List ByteArray} {fs : List Q4} {ys : List Lt} {ds : List LtD} {w : World} (h : NetAt g1 g2 n1 n2 c1 c2 ss fs w) (hT : Lts B g3 n3 ys w) (hd : ys.map Lt.d = ds) (hs : n3 ≤ 1048576) (hl : Bool) :
    Calls Tryz.prog 7 #[.agg #[.slice (some ⟨g1, 0, none⟩) n1 c1, .slice (some ⟨g2, 0, none⟩) n2 c2, .slice (some ⟨g3, 0, none⟩) n3 n3], .bool hl] w (PlOI (dgLS ss fs ds 1) (dgLF ss fs ds 1) (dgLD ss fs ds hl 1) (dsV ss fs ds hl) (dgOk ss fs ds 1) w) := by
  have HNT := Lib.hid h; have HT := Lib.hid hT; have HD := Lib.hid hd
  have HL1 := Lib.hid h.ln1; have HL2 := Lib.hid h.ln2
  have HLD : Hid (ds.length = n3) := Lib.hid (by rw [← hd, List.length_map]; exact hT.len)
  clear h hT hd
  obtain ⟨LS, hLS⟩ : ∃ r, dgLS ss fs ds 1 = r := ⟨_, rfl⟩
  obtain ⟨LF, hLF⟩ : ∃ r, dgLF ss fs ds 1 = r := ⟨_, rfl⟩
  obtain ⟨LD, hLD⟩ : ∃ r, dgLD ss fs ds hl 1 = r := ⟨_, rfl⟩
  obtain ⟨V, hV⟩ : ∃ r, dsV ss fs ds hl = r := ⟨_, rfl⟩
  obtain ⟨RB, hRB⟩ : ∃ r, dgOk ss fs ds 1 = r := ⟨_, rfl⟩
  have HNO : Hid (¬ planP ss fs ds → LS = [] ∧ LF = [] ∧ LD = [] ∧ V = 0 ∧ RB = false) := Lib.hid (fun e => by rw [← hLS, ← hLF, ← hLD, ← hV, ← hRB]; exact ds_no e)
  have HYES : Hid (planP ss fs ds → LS = ss ∧ LF = fs ∧ LD = stepDs ds hl ∧ V = stepId ds hl ∧ RB = true) := Lib.hid (fun e => by rw [← hLS, ← hLF, ← hLD, ← hV, ← hRB]; exact ds_yes e)
  rw [hLS, hLF, hLD, hV, hRB]
  clear hLS hLF hLD hV hRB
  go_enter Tryz.func7, Tryz.ntmps7
  go_wp2_with fail
  obtain ⟨W0, hW0⟩ : ∃ W0, (w.alloc (Obj.cells #[.slice (some ⟨g1, 0, none⟩) n1 c1, .slice (some ⟨g2, 0, none⟩) n2 c2, .slice (some ⟨g3, 0, none⟩) n3 n3] 35)).alloc (Obj.cells #[.slice none 0 0, .slice none 0 0, .slice none 0 0] 35) = W0 := ⟨_, rfl⟩
  have hb0 : Below w.heap.size w W0 := by rw [← hW0]; exact ((Below.refl _ _).alloc (Nat.le_refl _) _).alloc (by simp) _
  have k0 : W0.cell? ⟨w.heap.size, 0, none⟩ = some (.slice (some ⟨g1, 0, none⟩) n1 c1) := by rw [← hW0]; simp [go_sem]
  have k1 : W0.cell? ⟨w.heap.size, 1, none⟩ = some (.slice (some ⟨g2, 0, none⟩) n2 c2) := by rw [← hW0]; simp [go_sem]
  have k2 : W0.cell? ⟨w.heap.size, 2, none⟩ = some (.slice (some ⟨g3, 0, none⟩) n3 n3) := by rw [← hW0]; simp [go_sem]
  have HR0 : Hid (W0.ownsRow (w.heap.size + 1) 35 3 (.slice (some ⟨w.heap.size + 1, 0, none⟩) 1 1) 1 [.slice none 0 0, .slice none 0 0, .slice none 0 0]) := Lib.hid (by
    rw [← hW0]
    have := one_rowP (w.alloc (Obj.cells #[.slice (some ⟨g1, 0, none⟩) n1 c1, .slice (some ⟨g2, 0, none⟩) n2 c2, .slice (some ⟨g3, 0, none⟩) n3 n3] 35)) (.slice none 0 0) (.slice none 0 0) (.slice none 0 0) (base := w.heap.size + 1) (by simp)
    simpa using this)
  have hz0 : W0.heap.size = w.heap.size + 2 := by rw [← hW0]; simp
  have HB0 := Lib.hid hb0; have HZ0 := Lib.hid hz0
  rw [hW0]
  clear hW0 hb0
  have CG := Lib.hid (l9Good_ (HNT.out.moved HB0.out) (HT.out.moved HB0.out) HD.out hs)
  obtain ⟨b, hb⟩ : ∃ b, pb (planP ss fs ds) = b := ⟨_, rfl⟩
  rw [hb] at CG
  have HPB := Lib.hid hb
  clear hb
  refine CG.out.mono ?_
  rintro e w1 ⟨rfl, hb1⟩
  have HB1 := Lib.hid (HB0.out.trans (hb1.mono HB0.out.size))
  have hza : w.heap.size < W0.heap.size := by omega
  have q0 := (hb1.cell (p := ⟨w.heap.size, 0, none⟩) hza).trans k0
  have q1 := (hb1.cell (p := ⟨w.heap.size, 1, none⟩) hza).trans k1
  have q2 := (hb1.cell (p := ⟨w.heap.size, 2, none⟩) hza).trans k2
  have q3 := Nat.lt_of_lt_of_le hza hb1.size
  have HR1 := Lib.hid (ownB HR0.out hb1)
  clear hb1 k0 k1 k2 hz0 hza
  cases b
  case false =>
    have HNB := Lib.hid (HNO.out (of_npb HPB.out))
    obtain ⟨rfl, rfl, rfl, rfl, rfl⟩ := HNB.out
    obtain ⟨s0, s1, s2, s3, s4, s5, s6⟩ := px_facts HR1.out
    clear q0 q1 q2 q3
    go_wp2
    refine bodyPost_ret (v := .tuple #[.agg #[.slice none 0 0, .slice none 0 0, .slice none 0 0], .int .i64 0, .bool false]) ?_ rfl ?_
    · simp [results, Tryz.results7, go_sem, s0, s1, s2, s6]
    · exact PlOI_fin (b := w.heap.size + 1) (B := w.heap.size + 2) (by omega) (by omega) rfl rfl rfl rfl (World.ownsRow_nil _ _ _ _) (World.ownsRow_nil _ _ _ _) (LtC.nil _ _) HB1.out
  case true =>
  have HPP := Lib.hid (of_pb HPB.out)
  have HYB := Lib.hid (HYES.out HPP.out)
  obtain ⟨rfl, rfl, rfl, rfl, rfl⟩ := HYB.out
  have HPF := Lib.hid (plan_factsD HPP.out)
  have hn12 : n3 ≤ 12 := by have := HPF.out.1; have := HLD.out; omega
  have hT1 := HT.out.moved HB1.out
  have CS := Lib.hid (l21Step_ (c3 := n3) (HNT.out.moved HB1.out) ⟨hT1.len, hT1.rd, hT1.at_⟩ HD.out hn12 HPF.out.2.1 HPF.out.2.2.2.1 (fun y hy => by obtain ⟨q, hq⟩ := lts_someD HT.out y hy; exact ⟨_, hq⟩) (by rw [← HNT.out.ln1]; exact HPF.out.2.2.2.2.1) (fun h0 => by rw [← HNT.out.ln2]; exact HPF.out.2.2.2.2.2 (by rw [HLD.out]; exact h0)) hl)
  have HDL : Hid ((stepDs ds hl).length = n3) := Lib.hid (by rw [mv_len]; exact HLD.out)
  obtain ⟨v, hv⟩ : ∃ v, stepId ds hl = v := ⟨_, rfl⟩
  obtain ⟨D, hDD⟩ : ∃ v, stepDs ds hl = v := ⟨_, rfl⟩
  rw [hv, hDD] at CS
  rw [hDD] at HDL
  have HV2 := Lib.hid hv; have HD2 := Lib.hid hDD
  clear hv hDD hT1
  go_wp2_with fail
  refine CS.out.mono ?_
  rintro e w2 ⟨A1, A2, A3, d1, d2, d3, zs, rfl, HZD, ho1, ho2, hC, hb2⟩
  obtain ⟨bx, hbx⟩ : ∃ b, w2.heap.size = b := ⟨_, rfl⟩
  obtain ⟨w3, hw3⟩ : ∃ w3, w2.alloc (Obj.cells #[.slice A1 n1 d1, .slice A2 n2 d2, .slice A3 n3 d3] 35) = w3 := ⟨_, rfl⟩
  have hb3 : Below w2.heap.size w2 w3 := by rw [← hw3]; exact (Below.refl _ _).alloc (Nat.le_refl _) _
  have hrx : w3.ownsRow bx 35 3 (.slice (some ⟨bx, 0, none⟩) 1 1) 1 [.slice A1 n1 d1, .slice A2 n2 d2, .slice A3 n3 d3] := by rw [← hw3, ← hbx]; exact one_rowP w2 _ _ _ (Nat.le_refl _)
  have hsz : W0.heap.size ≤ w1.heap.size := HB1.out.size |> fun _ => by have := (HR1.out.lt (w.heap.size + 1) rfl).2; have := HZ0.out; omega
  have HB3 := Lib.hid (HB1.out.trans ((hb2.trans (hb3.mono hb2.size)).mono HB1.out.size))
  have HO1 := Lib.hid (own_base (B' := w.heap.size + 2) (ownB ho1 hb3) (by have := HZ0.out; omega))
  have HO2 := Lib.hid (own_base (B' := w.heap.size + 2) (ownB ho2 hb3) (by have := HZ0.out; omega))
  have HCC := Lib.hid ((hC.moved hb3).base (B' := w.heap.size + 2) (by have := HZ0.out; omega))
  obtain ⟨y0, y1, y2, _, _, _, y3⟩ := px_facts hrx
  obtain ⟨s0, s1, s2, s3, s4, s5, s6⟩ := px_facts (ownB (ownB HR1.out hb2) hb3)
  have hne1 : ¬ (bx = w.heap.size + 1) := by have := hb2.size; have := HZ0.out; omega
  have hne2 : ¬ (w.heap.size + 1 = bx) := fun e => hne1 e.symm
  clear ho1 ho2 hC hb2 hb3 hrx q0 q1 q2 q3 hsz
  go_wp2
  refine bodyPost_ret (v := .tuple #[.agg #[.slice A1 n1 d1, .slice A2 n2 d2, .slice A3 n3 d3], .int .i64 v, .bool true]) ?_ rfl ?_
  · simp [results, Tryz.results7, go_sem, s0, s1, s2, s6]
  · rw [HV2.out, HD2.out]
    exact PlOI_fin (b := w.heap.size + 1) (B := w.heap.size + 2) (by omega) (by omega) HL1.out.symm HL2.out.symm HDL.out.symm HZD.out HO1.out HO2.out HCC.out HB3.out
end Go.Proofs.YtflniajjecfgeaaGreatDoor
