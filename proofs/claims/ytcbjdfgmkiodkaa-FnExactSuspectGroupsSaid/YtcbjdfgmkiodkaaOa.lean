/- Explanations of alarms: contracts of IsExplanation, both sides. No condition but those typed. -/
import Derived.Test.YtcbjdfgmkiodkaaEx
import Derived.Test.YtcbjdfgmkiodkaaGB
import Derived.OwnWalk
namespace Go.Proofs.Ytcbjdfgmkiodkaa
open Go.ChangeShapes Go.WideShapes Go.ChangeAt Go.RowKit Go.Maps

/-- the outlook and the set of the lights that are down. -/
def OaP (V : Value) (L : List Int) (m : Int) (b : Bool) (w : World) (e : Ending) (w' : World) : Prop :=
  ∃ (U A : Option Addr) (M cU N c : Nat), e = .returned (.tuple #[.agg #[.slice U M cU, .slice A N c], .int .i64 m, .bool b]) ∧ Below w.heap.size w w' ∧ Hid (b = true → .slice U M cU = V ∧ N = L.length ∧ w'.ownsRow w.heap.size 3 1 (.slice A N c) N (L.map (Value.int .i64)))

set_option maxRecDepth 100000 in
set_option maxHeartbeats 8000000 in
theorem outAt_ {g1 g2 g3 n1 n2 n3 c1 c2 B : Nat} {ss : List ByteArray} {fs : List Q4} {ys : List Lt} {ds : List LtD} {w : World} (h : NetAt g1 g2 n1 n2 c1 c2 ss fs w) (hT : Lts B g3 n3 ys w) (hd : ys.map Lt.d = ds) (hs : n3 ≤ 1048576) {A : Option Addr} {n c : Nat} {zs : List Int} (hn : zs.length = n) (hr : Rd w w.heap.size A (zs.map (Value.int .i64))) (hx : n ≤ 1048576) :
    Calls Try.prog 154 #[.agg #[.slice (some ⟨g1, 0, none⟩) n1 c1, .slice (some ⟨g2, 0, none⟩) n2 c2, .slice (some ⟨g3, 0, none⟩) n3 n3], .slice A n c] w (OaP (.slice (some ⟨g3, 0, none⟩) n3 n3) (htL ds (rgL fs)) (dwV ss fs ds zs) (dwB ss fs ds zs) w) := by
  have HNT := Lib.hid h; have HT := Lib.hid hT; have HD := Lib.hid hd; have HN := Lib.hid hn; have HR := Lib.hid hr
  obtain ⟨L, hL⟩ : ∃ L, htL ds (rgL fs) = L := ⟨_, rfl⟩
  have CO := Lib.hid (fun (W : World) (hb : Below w.heap.size w W) => outlookOf_ (h.moved hb) (hT.moved hb) hd hs)
  have CS := Lib.hid (fun (hp : planP ss fs ds) (W : World) (hb : Below w.heap.size w W) (AH : Option Addr) (NH dH : Nat) => setOf_ (c := c) hp (hT.moved hb) hd hs hn (hr.moved hb) hx AH NH dH)
  have HNP : Hid (¬ planP ss fs ds → dwV ss fs ds zs = 0 ∧ dwB ss fs ds zs = false) := Lib.hid (fun h => by
    have e : dwB ss fs ds zs = false := pb_false (fun hp => h hp.1)
    exact ⟨by unfold dwV; rw [e]; rfl, e⟩)
  unfold dwR at CS
  obtain ⟨V0, hV0⟩ : ∃ v, dwV ss fs ds zs = v := ⟨_, rfl⟩
  obtain ⟨B0, hB0⟩ : ∃ v, dwB ss fs ds zs = v := ⟨_, rfl⟩
  rw [hL] at CO
  rw [hV0, hB0] at CS HNP
  rw [hL, hV0, hB0]
  obtain ⟨r, hrr⟩ : ∃ r, pb (planP ss fs ds) = r := ⟨_, rfl⟩
  rw [hrr] at CO
  have HRR := Lib.hid hrr
  clear h hT hd hn hr hL hV0 hB0 hrr
  go_enter Try.func154, Try.ntmps154
  go_wp2_with fail
  obtain ⟨W0, hW0⟩ : ∃ W0, (w.alloc (Obj.cells #[.slice (some ⟨g1, 0, none⟩) n1 c1, .slice (some ⟨g2, 0, none⟩) n2 c2, .slice (some ⟨g3, 0, none⟩) n3 n3] 76)).alloc (Obj.cells #[.slice none 0 0, .slice none 0 0] 181) = W0 := ⟨_, rfl⟩
  have hb0 : Below w.heap.size w W0 := by rw [← hW0]; exact ((Below.refl _ _).alloc (Nat.le_refl _) _).alloc (by simp) _
  have hz0 : w.heap.size + 1 < W0.heap.size := by rw [← hW0]; simp
  have HRES : Hid (W0.ownsRow w.heap.size 181 2 (.slice (some ⟨w.heap.size + 1, 0, none⟩) 1 1) 1 [.slice none 0 0, .slice none 0 0]) := Lib.hid (by
    rw [← hW0]
    have h9 := one_rowO (w.alloc (Obj.cells #[.slice (some ⟨g1, 0, none⟩) n1 c1, .slice (some ⟨g2, 0, none⟩) n2 c2, .slice (some ⟨g3, 0, none⟩) n3 n3] 76)) (.slice none 0 0) (.slice none 0 0) (base := w.heap.size) (by simp)
    rw [show (w.alloc (Obj.cells #[.slice (some ⟨g1, 0, none⟩) n1 c1, .slice (some ⟨g2, 0, none⟩) n2 c2, .slice (some ⟨g3, 0, none⟩) n3 n3] 76)).heap.size = w.heap.size + 1 by simp] at h9
    exact h9)
  have HB0 := Lib.hid hb0; have HZ0 := Lib.hid hz0
  rw [hW0]
  clear hW0 hb0 hz0
  refine (CO.out _ HB0.out).mono ?_
  rintro e w1 h1
  rcases h1 with ⟨rfl, rfl, hb1⟩ | ⟨A1, N1, c1', rfl, rfl, HN1, ho1, hb1⟩
  · have HB1 := Lib.hid (HB0.out.trans (hb1.mono HB0.out.size))
    have HRES1 := Lib.hid (ownB HRES.out hb1)
    have hz1 : w.heap.size + 1 < w1.heap.size := Nat.lt_of_lt_of_le HZ0.out hb1.size
    have k3 : w1.cell? ⟨w.heap.size + 1, 0, none⟩ = some (.slice none 0 0) := by have h9 := HRES1.out.cellAt 0 (by omega); exact h9
    have k4 : w1.cell? ⟨w.heap.size + 1, 1, none⟩ = some (.slice none 0 0) := by have h9 := HRES1.out.cellAt 1 (by omega); exact h9
    have e0_ := HRES1.out.frozenAt 0
    have e1_ := HRES1.out.frozenAt 1
    obtain ⟨rfl, rfl⟩ := HNP.out (fun hp => by have h9 := HRR.out; rw [pb_true hp] at h9; cases h9)
    clear hb1
    go_wp2
    refine bodyPost_ret (v := .tuple #[.agg #[.slice none 0 0, .slice none 0 0], .int .i64 0, .bool false]) ?_ rfl ?_
    · simp [results, Try.results154, go_sem, k3, k4, hz1]
    · exact ⟨_, _, _, _, _, _, rfl, (((HB1.out.setCell (p := ⟨w.heap.size + 1, 0, none⟩) (Nat.le_succ _) _).setCell (p := ⟨w.heap.size + 1, 1, none⟩) (Nat.le_succ _) _).alloc (by have := HB1.out.size; simp; omega) _), Lib.hid (fun h => by cases h)⟩
  · have HP : Hid (planP ss fs ds) := Lib.hid (of_pb HRR.out)
    have HB1 := Lib.hid (HB0.out.trans (hb1.mono HB0.out.size))
    have HRES1 := Lib.hid (ownB HRES.out hb1)
    have hz1 : w.heap.size + 1 < w1.heap.size := Nat.lt_of_lt_of_le HZ0.out hb1.size
    have HO1 := Lib.hid (own_base ho1 HB0.out.size)
    have HNE : Hid ((Value.slice A1 N1 c1').ownBlock ≠ some (w.heap.size + 1)) := Lib.hid (fun e => by have h9 := (ho1.lt _ e).1; have := HZ0.out; omega)
    clear hb1 ho1
    go_wp2_with fail
    obtain ⟨W2, hW2⟩ : ∃ W2, w1.alloc (Obj.cells #[.slice (some ⟨g3, 0, none⟩) n3 n3, .slice A1 N1 c1'] 181) = W2 := ⟨_, rfl⟩
    have hb2 : Below w1.heap.size w1 W2 := by rw [← hW2]; exact (Below.refl _ _).alloc (Nat.le_refl _) _
    have HQ0 : Hid (W2.cell? ⟨w1.heap.size, 0, none⟩ = some (.slice (some ⟨g3, 0, none⟩) n3 n3)) := Lib.hid (by rw [← hW2]; simp [go_sem])
    have HQ1 : Hid (W2.cell? ⟨w1.heap.size, 1, none⟩ = some (.slice A1 N1 c1')) := Lib.hid (by rw [← hW2]; simp [go_sem])
    have HQZ : Hid (w1.heap.size < W2.heap.size) := Lib.hid (by rw [← hW2]; simp)
    have HB2 := Lib.hid (HB1.out.trans (hb2.mono HB1.out.size))
    have HO2 := Lib.hid (ownB HO1.out hb2)
    have HRES2 := Lib.hid (ownB HRES1.out hb2)
    have HZ2 : Hid (w.heap.size + 1 < W2.heap.size) := Lib.hid (Nat.lt_of_lt_of_le hz1 hb2.size)
    rw [hW2]
    clear hW2 hb2 hz1
    refine (CS.out HP.out _ HB2.out _ _ _).mono ?_
    rintro e w3 ⟨rfl, hb3⟩
    have HB3 := Lib.hid (HB2.out.trans (hb3.mono HB2.out.size))
    have HO3 := Lib.hid (ownB HO2.out hb3)
    have HRES3 := Lib.hid (ownB HRES2.out hb3)
    have q0 := (hb3.cell (p := ⟨w1.heap.size, 0, none⟩) HQZ.out).trans HQ0.out
    have q1 := (hb3.cell (p := ⟨w1.heap.size, 1, none⟩) HQZ.out).trans HQ1.out
    have hq3 : w1.heap.size < w3.heap.size := Nat.lt_of_lt_of_le HQZ.out hb3.size
    have hz3 : w.heap.size + 1 < w3.heap.size := Nat.lt_of_lt_of_le HZ2.out hb3.size
    have k3 : w3.cell? ⟨w.heap.size + 1, 0, none⟩ = some (.slice none 0 0) := by have h9 := HRES3.out.cellAt 0 (by omega); exact h9
    have k4 : w3.cell? ⟨w.heap.size + 1, 1, none⟩ = some (.slice none 0 0) := by have h9 := HRES3.out.cellAt 1 (by omega); exact h9
    have e0_ := HRES3.out.frozenAt 0
    have e1_ := HRES3.out.frozenAt 1
    clear hb3
    go_wp2
    refine bodyPost_ret (v := .tuple #[.agg #[.slice (some ⟨g3, 0, none⟩) n3 n3, .slice A1 N1 c1'], .int .i64 V0, .bool B0]) ?_ rfl ?_
    · simp [results, Try.results154, go_sem, k3, k4, hz3]
    · refine ⟨_, _, _, _, _, _, rfl, ((HB3.out.setCell (p := ⟨w.heap.size + 1, 0, none⟩) (Nat.le_succ _) _).setCell (p := ⟨w.heap.size + 1, 1, none⟩) (Nat.le_succ _) _), Lib.hid (fun _ => ⟨rfl, HN1.out, ?_⟩)⟩
      have hne : ∀ o : Nat, (Value.slice A1 N1 c1').ownBlock ≠ some (⟨w.heap.size + 1, o, none⟩ : Addr).block := fun o e => HNE.out e
      exact ownsRow_setCell_other (ownsRow_setCell_other HO3.out (hne 0) _) (hne 1) _
end Go.Proofs.Ytcbjdfgmkiodkaa
