/- Lights: defragmentation: the implementation's contracts, and IsCompact of both sides. Condition: the table of math/bits holds what Go's text lays. -/
import Derived.Test.YtflniajjecfgeaaGreatDoorDfS
import Derived.Test.YtflniajjecfgeaaGreatDoorDfI
import Derived.Test.YtflniajjecfgeaaGreatDoorCpr
import Derived.Test.YtflniajjecfgeaaGreatDoorCpp
import Derived.Test.YtflniajjecfgeaaGreatDoorGD
import Derived.Test.YtflniajjecfgeaaGreatDoorPlt
import Derived.Deep.DeepMust
namespace Go.Proofs.YtflniajjecfgeaaGreatDoor
open Go.ChangeShapes Go.WideShapes Go.ChangeAt Go.RowKit

theorem plan_factsD {ss : List ByteArray} {fs : List Q4} {ds : List LtD} (h : planP ss fs ds) : ds.length ≤ 12 ∧ (∀ t, t < ds.length → blkP (dn ds t).q0 (dn ds t).q1) ∧ (∀ t, t < ds.length → ∀ k, k < (dn ds t).zs.length → 0 ≤ nth (dn ds t).zs k ∧ nth (dn ds t).zs k < 20) ∧ (∀ d ∈ ds, d.zs ≠ []) ∧ 0 < ss.length ∧ (0 < ds.length → 0 < fs.length) := by
  have hz : ∀ t, t < ds.length → (dn ds t).zs ≠ [] := fun t ht => by
    obtain ⟨_, vs, hvs⟩ := routeB_yes (h.2.2.1 t ht).1.2.1
    unfold routeN at hvs
    split at hvs
    · rename_i hc; exact hc.2
    · cases hvs
  refine ⟨h.2.1, fun t ht => (h.2.2.1 t ht).1.2.2, fun t ht k hk => ?_, fun d hd => ?_, by have := h.1.1; omega, fun h0 => ?_⟩
  · have hr := (h.2.2.1 t ht).1.2.1
    have h2 := (route_nodup hr).2 ((dn ds t).zs[k]'hk) (List.getElem_mem hk)
    rw [nth_eq hk] at h2
    have := h.1.2.1
    omega
  · obtain ⟨i, hi, e⟩ := List.getElem_of_mem hd
    have := hz i hi
    rw [dn_eq hi, e] at this
    exact this
  · have hr := (h.2.2.1 0 h0).1.2.1
    have h3 : 0 < (dn ds 0).zs.length := List.length_pos_iff.2 (hz 0 h0)
    have h2 := (route_nodup hr).2 ((dn ds 0).zs[0]'h3) (List.getElem_mem h3)
    omega
theorem plan_p0 {ss : List ByteArray} {fs : List Q4} {ds : List LtD} (h : planP ss fs ds) : ∀ d ∈ ds, 1 ≤ d.p0 := fun d hd => by
  obtain ⟨i, hi, e⟩ := List.getElem_of_mem hd
  have := (h.2.2.1 i hi).1.1.1
  rw [dn_eq hi, e] at this
  exact this
theorem net_smallD {ss : List ByteArray} {fs : List Q4} (h : netP ss fs) : ss.length ≤ 1000 ∧ ∀ s ∈ ss, s.size ≤ 281474976710656 :=
  ⟨by have := h.1; omega, fun s hs => by
    obtain ⟨i, hi, e⟩ := List.getElem_of_mem hs
    have := (h.2.2.1 i hi hi).1.2.1
    rw [e] at this; omega⟩
theorem lts_someD {B g n : Nat} {ys : List Lt} {w : World} (h : Lts B g n ys w) : ∀ y ∈ ys, ∃ q, y.A = some ⟨q, 0, none⟩ := fun y hy => by
  obtain ⟨q, e, _⟩ := h.own y hy
  exact ⟨_, e⟩
/-- an answer: a plan, a list and a word. -/
def DgO (ss : List ByteArray) (fs : List Q4) (ds : List LtD) (L : List Int) (b : Bool) (w : World) (e : Ending) (w' : World) : Prop :=
  ∃ (A1 A2 A3 A4 : Option Addr) (N1 N2 N3 N4 d1 d2 d3 d4 : Nat) (zs : List Lt), e = .returned (.tuple #[.agg #[.slice A1 N1 d1, .slice A2 N2 d2, .slice A3 N3 d3], .slice A4 N4 d4, .bool b]) ∧ Hid (N1 = ss.length) ∧ Hid (N2 = fs.length) ∧ Hid (N3 = ds.length) ∧ Hid (N4 = L.length) ∧ Hid (zs.map Lt.d = ds) ∧
    w'.ownsRow w.heap.size 9 1 (.slice A1 N1 d1) N1 (ss.map Value.string) ∧ w'.ownsRow w.heap.size 109 4 (.slice A2 N2 d2) N2 (fs.flatMap Q4.cells) ∧ LtC w.heap.size A3 N3 d3 zs w' ∧ w'.ownsRow w.heap.size 3 1 (.slice A4 N4 d4) N4 (L.map (Value.int .i64)) ∧ Below w.heap.size w w'
theorem DgO_no {w X : World} {b : Nat} {u1 u2 u3 : Value} (hb : w.heap.size ≤ b) (hbw : Below w.heap.size w X) :
    DgO [] [] [] [] false w (.returned (.tuple #[.agg #[.slice none 0 0, .slice none 0 0, .slice none 0 0], .slice none 0 0, .bool false])) (((X.setCell ⟨b, 0, none⟩ u1).setCell ⟨b, 1, none⟩ u2).setCell ⟨b, 2, none⟩ u3) :=
  ⟨none, none, none, none, 0, 0, 0, 0, 0, 0, 0, 0, [], rfl, Lib.hid rfl, Lib.hid rfl, Lib.hid rfl, Lib.hid rfl, Lib.hid rfl, World.ownsRow_nil _ _ _ _, World.ownsRow_nil _ _ _ _, LtC.nil _ _, World.ownsRow_nil _ _ _ _,
    ((hbw.setCell (p := ⟨b, 0, none⟩) hb _).setCell (p := ⟨b, 1, none⟩) hb _).setCell (p := ⟨b, 2, none⟩) hb _⟩
theorem DgO_fin {w X : World} {ss : List ByteArray} {fs : List Q4} {ds : List LtD} {L : List Int} {A1 A2 A3 A4 : Option Addr} {N1 N2 N3 N4 d1 d2 d3 d4 b B : Nat} {zs : List Lt} {u1 u2 u3 : Value} (hb : w.heap.size ≤ b) (hB : b < B) (h1 : ss.length = N1) (h2 : fs.length = N2) (hz : zs.map Lt.d = ds) (h4 : N4 = L.length)
    (ho1 : X.ownsRow B 9 1 (.slice A1 N1 d1) N1 (ss.map Value.string)) (ho2 : X.ownsRow B 109 4 (.slice A2 N2 d2) N2 (fs.flatMap Q4.cells)) (hC : LtC B A3 N3 d3 zs X) (ho4 : X.ownsRow B 3 1 (.slice A4 N4 d4) N4 (L.map (Value.int .i64))) (hbw : Below w.heap.size w X) :
    DgO ss fs ds L true w (.returned (.tuple #[.agg #[.slice A1 N1 d1, .slice A2 N2 d2, .slice A3 N3 d3], .slice A4 N4 d4, .bool true])) (((X.setCell ⟨b, 0, none⟩ u1).setCell ⟨b, 1, none⟩ u2).setCell ⟨b, 2, none⟩ u3) :=
  ⟨A1, A2, A3, A4, N1, N2, N3, N4, d1, d2, d3, d4, zs, rfl, Lib.hid h1.symm, Lib.hid h2.symm, Lib.hid (by rw [← hz, List.length_map, hC.len]), Lib.hid h4, Lib.hid hz,
    own_base (ownsRow_setCell_below (ownsRow_setCell_below (ownsRow_setCell_below ho1 (a := ⟨b, 0, none⟩) hB _) (a := ⟨b, 1, none⟩) hB _) (a := ⟨b, 2, none⟩) hB _) (by omega),
    own_base (ownsRow_setCell_below (ownsRow_setCell_below (ownsRow_setCell_below ho2 (a := ⟨b, 0, none⟩) hB _) (a := ⟨b, 1, none⟩) hB _) (a := ⟨b, 2, none⟩) hB _) (by omega),
    LtC.base (LtC.low (LtC.low (LtC.low hC hB _) hB _) hB _) (by omega),
    own_base (ownsRow_setCell_below (ownsRow_setCell_below (ownsRow_setCell_below ho4 (a := ⟨b, 0, none⟩) hB _) (a := ⟨b, 1, none⟩) hB _) (a := ⟨b, 2, none⟩) hB _) (by omega),
    ((hbw.setCell (p := ⟨b, 0, none⟩) hb _).setCell (p := ⟨b, 1, none⟩) hb _).setCell (p := ⟨b, 2, none⟩) hb _⟩
noncomputable def dgOk (ss : List ByteArray) (fs : List Q4) (ds : List LtD) (lim : Int) : Bool := pb (planP ss fs ds ∧ 0 ≤ lim ∧ lim ≤ 60)
noncomputable def dgLS (ss : List ByteArray) (fs : List Q4) (ds : List LtD) (lim : Int) : List ByteArray := if dgOk ss fs ds lim then ss else []
noncomputable def dgLF (ss : List ByteArray) (fs : List Q4) (ds : List LtD) (lim : Int) : List Q4 := if dgOk ss fs ds lim then fs else []
noncomputable def dgLD (ss : List ByteArray) (fs : List Q4) (ds : List LtD) (hl : Bool) (lim : Int) : List LtD := if dgOk ss fs ds lim then dgD ds hl lim.toNat else []
noncomputable def dgLI (ss : List ByteArray) (fs : List Q4) (ds : List LtD) (hl : Bool) (lim : Int) : List Int := if dgOk ss fs ds lim then dgL ds hl lim.toNat else []
theorem dg_no {ss : List ByteArray} {fs : List Q4} {ds : List LtD} {hl : Bool} {lim : Int} (h : ¬ (planP ss fs ds ∧ 0 ≤ lim ∧ lim ≤ 60)) : dgLS ss fs ds lim = [] ∧ dgLF ss fs ds lim = [] ∧ dgLD ss fs ds hl lim = [] ∧ dgLI ss fs ds hl lim = [] ∧ dgOk ss fs ds lim = false := by
  have e : dgOk ss fs ds lim = false := pb_false h
  unfold dgLS dgLF dgLD dgLI; rw [e]; exact ⟨rfl, rfl, rfl, rfl, rfl⟩
theorem dg_yes {ss : List ByteArray} {fs : List Q4} {ds : List LtD} {hl : Bool} {lim : Int} (h : planP ss fs ds ∧ 0 ≤ lim ∧ lim ≤ 60) : dgLS ss fs ds lim = ss ∧ dgLF ss fs ds lim = fs ∧ dgLD ss fs ds hl lim = dgD ds hl lim.toNat ∧ dgLI ss fs ds hl lim = dgL ds hl lim.toNat ∧ dgOk ss fs ds lim = true := by
  have e : dgOk ss fs ds lim = true := pb_true h
  unfold dgLS dgLF dgLD dgLI; rw [e]; exact ⟨rfl, rfl, rfl, rfl, rfl⟩

set_option maxRecDepth 100000 in
set_option maxHeartbeats 4000000 in
theorem implDG {g1 g2 g3 n1 n2 n3 c1 c2 B : Nat} {ss : List ByteArray} {fs : List Q4} {ys : List Lt} {ds : List LtD} {w : World} (h : NetAt g1 g2 n1 n2 c1 c2 ss fs w) (hT : Lts B g3 n3 ys w) (hd : ys.map Lt.d = ds) (hs : n3 ≤ 1048576) (hl : Bool) (lim : Int) (hTab : Tab w) :
    Calls Tryz.prog 14 #[.agg #[.slice (some ⟨g1, 0, none⟩) n1 c1, .slice (some ⟨g2, 0, none⟩) n2 c2, .slice (some ⟨g3, 0, none⟩) n3 n3], .bool hl, .int .i64 lim] w (DgO (dgLS ss fs ds lim) (dgLF ss fs ds lim) (dgLD ss fs ds hl lim) (dgLI ss fs ds hl lim) (dgOk ss fs ds lim) w) := by
  have HNT := Lib.hid h; have HT := Lib.hid hT; have HD := Lib.hid hd; have HTAB := Lib.hid hTab
  have HL1 := Lib.hid h.ln1; have HL2 := Lib.hid h.ln2
  have HLD : Hid (ds.length = n3) := Lib.hid (by rw [← hd, List.length_map]; exact hT.len)
  clear h hT hd hTab
  obtain ⟨LS, hLS⟩ : ∃ r, dgLS ss fs ds lim = r := ⟨_, rfl⟩
  obtain ⟨LF, hLF⟩ : ∃ r, dgLF ss fs ds lim = r := ⟨_, rfl⟩
  obtain ⟨LD, hLD⟩ : ∃ r, dgLD ss fs ds hl lim = r := ⟨_, rfl⟩
  obtain ⟨LI, hLI⟩ : ∃ r, dgLI ss fs ds hl lim = r := ⟨_, rfl⟩
  obtain ⟨RB, hRB⟩ : ∃ r, dgOk ss fs ds lim = r := ⟨_, rfl⟩
  have HNO : Hid (¬ (planP ss fs ds ∧ 0 ≤ lim ∧ lim ≤ 60) → LS = [] ∧ LF = [] ∧ LD = [] ∧ LI = [] ∧ RB = false) := Lib.hid (fun e => by rw [← hLS, ← hLF, ← hLD, ← hLI, ← hRB]; exact dg_no e)
  have HYES : Hid (planP ss fs ds ∧ 0 ≤ lim ∧ lim ≤ 60 → LS = ss ∧ LF = fs ∧ LD = dgD ds hl lim.toNat ∧ LI = dgL ds hl lim.toNat ∧ RB = true) := Lib.hid (fun e => by rw [← hLS, ← hLF, ← hLD, ← hLI, ← hRB]; exact dg_yes e)
  rw [hLS, hLF, hLD, hLI, hRB]
  clear hLS hLF hLD hLI hRB
  go_enter Tryz.func14, Tryz.ntmps14
  go_wp2_with fail
  obtain ⟨W0, hW0⟩ : ∃ W0, (w.alloc (Obj.cells #[.slice (some ⟨g1, 0, none⟩) n1 c1, .slice (some ⟨g2, 0, none⟩) n2 c2, .slice (some ⟨g3, 0, none⟩) n3 n3] 35)).alloc (Obj.cells #[.slice none 0 0, .slice none 0 0, .slice none 0 0] 35) = W0 := ⟨_, rfl⟩
  have hb0 : Below w.heap.size w W0 := by rw [← hW0]; exact ((Below.refl _ _).alloc (Nat.le_refl _) _).alloc (by simp) _
  have k0 : W0.cell? ⟨w.heap.size, 0, none⟩ = some (.slice (some ⟨g1, 0, none⟩) n1 c1) := by rw [← hW0]; simp [go_sem]
  have k1 : W0.cell? ⟨w.heap.size, 1, none⟩ = some (.slice (some ⟨g2, 0, none⟩) n2 c2) := by rw [← hW0]; simp [go_sem]
  have k2 : W0.cell? ⟨w.heap.size, 2, none⟩ = some (.slice (some ⟨g3, 0, none⟩) n3 n3) := by rw [← hW0]; simp [go_sem]
  have HR0 : Hid (W0.ownsRow (w.heap.size + 1) 35 3 (.slice (some ⟨w.heap.size + 1, 0, none⟩) 1 1) 1 [.slice none 0 0, .slice none 0 0, .slice none 0 0]) := Lib.hid (by
    rw [← hW0]
    have := one_rowP (w.alloc (Obj.cells #[.slice (some ⟨g1, 0, none⟩) n1 c1, .slice (some ⟨g2, 0, none⟩) n2 c2, .slice (some ⟨g3, 0, none⟩) n3 n3] 35)) (.slice none 0 0) (.slice none 0 0) (.slice none 0 0) (base := w.heap.size + 1) (by simp)
    simpa using this)
  have hz0 : W0.heap.size = w.heap.size + 2 := by rw [← hW0]; simp
  have HB0 := Lib.hid hb0; have HZ0 := Lib.hid hz0
  rw [hW0]
  have HK : Hid (∀ u, Below W0.heap.size W0 u → u.cell? ⟨w.heap.size, 0, none⟩ = some (.slice (some ⟨g1, 0, none⟩) n1 c1) ∧ u.cell? ⟨w.heap.size, 1, none⟩ = some (.slice (some ⟨g2, 0, none⟩) n2 c2) ∧ u.cell? ⟨w.heap.size, 2, none⟩ = some (.slice (some ⟨g3, 0, none⟩) n3 n3) ∧ w.heap.size < u.heap.size) := Lib.hid fun u hu => ⟨(hu.cell (p := ⟨w.heap.size, 0, none⟩) (by show w.heap.size < _; omega)).trans k0, (hu.cell (p := ⟨w.heap.size, 1, none⟩) (by show w.heap.size < _; omega)).trans k1, (hu.cell (p := ⟨w.heap.size, 2, none⟩) (by show w.heap.size < _; omega)).trans k2, by have := hu.size; omega⟩
  have HS : Hid (∀ u, Below W0.heap.size W0 u → u.cell? ⟨w.heap.size + 1, 0, none⟩ = some (.slice none 0 0) ∧ u.cell? ⟨w.heap.size + 1, 1, none⟩ = some (.slice none 0 0) ∧ u.cell? ⟨w.heap.size + 1, 2, none⟩ = some (.slice none 0 0) ∧ u.frozen? ⟨w.heap.size + 1, 0, none⟩ = false ∧ u.frozen? ⟨w.heap.size + 1, 1, none⟩ = false ∧ u.frozen? ⟨w.heap.size + 1, 2, none⟩ = false ∧ w.heap.size + 1 < u.heap.size) := Lib.hid fun u hu => px_facts (ownB HR0.out hu)
  clear hW0 hb0 k0 k1 k2 hz0
  have CG := Lib.hid (implVP (HNT.out.moved HB0.out) (HT.out.moved HB0.out) HD.out hs)
  obtain ⟨b, hb⟩ : ∃ b, pb (planP ss fs ds) = b := ⟨_, rfl⟩
  rw [hb] at CG
  have HPB := Lib.hid hb
  clear hb
  refine CG.out.mono ?_
  rintro e w1 ⟨rfl, hb1⟩
  have HBB := Lib.hid hb1
  have HB1 := Lib.hid (HB0.out.trans (hb1.mono HB0.out.size))
  clear hb1
  have hbad : ∀ {X : Prop}, (¬ (planP ss fs ds ∧ 0 ≤ lim ∧ lim ≤ 60) → X) → (b = true → 0 ≤ lim → lim ≤ 60 → X) → X := fun h1 h2 => by
    by_cases hc : planP ss fs ds ∧ 0 ≤ lim ∧ lim ≤ 60
    · exact h2 (by rw [← HPB.out]; exact pb_true hc.1) hc.2.1 hc.2.2
    · exact h1 hc
  by_cases hok : b = true ∧ 0 ≤ lim ∧ lim ≤ 60
  case neg =>
    have HNB := Lib.hid (HNO.out (fun h => hok ⟨by rw [← HPB.out]; exact pb_true h.1, h.2⟩))
    obtain ⟨rfl, rfl, rfl, rfl, rfl⟩ := HNB.out
    obtain ⟨s0, s1, s2, s3, s4, s5, s6⟩ := HS.out w1 HBB.out
    clear hbad
    cases b
    case false =>
      clear hok
      go_wp2
      refine bodyPost_ret (v := .tuple #[.agg #[.slice none 0 0, .slice none 0 0, .slice none 0 0], .slice none 0 0, .bool false]) ?_ rfl ?_
      · simp [results, Tryz.results14, go_sem, s0, s1, s2, s6]
      · exact DgO_no (by omega) HB1.out
    case true =>
      by_cases hneg : lim < 0
      · have q1 : decide (lim < 0) = true := decide_eq_true hneg
        clear hok
        go_wp2
        refine bodyPost_ret (v := .tuple #[.agg #[.slice none 0 0, .slice none 0 0, .slice none 0 0], .slice none 0 0, .bool false]) ?_ rfl ?_
        · simp [results, Tryz.results14, go_sem, s0, s1, s2, s6]
        · exact DgO_no (by omega) HB1.out
      · have q1 : decide (lim < 0) = false := decide_eq_false hneg
        have q2 : 60 < lim := by
          by_cases h9 : 60 < lim
          · exact h9
          · exact absurd ⟨rfl, by omega, by omega⟩ hok
        have q3 : decide (60 < lim) = true := decide_eq_true q2
        have q4 : decide (lim > 60) = true := decide_eq_true q2
        clear hok
        go_wp2
        refine bodyPost_ret (v := .tuple #[.agg #[.slice none 0 0, .slice none 0 0, .slice none 0 0], .slice none 0 0, .bool false]) ?_ rfl ?_
        · simp [results, Tryz.results14, go_sem, s0, s1, s2, s6]
        · exact DgO_no (by omega) HB1.out
  case pos =>
  obtain ⟨rfl, hm0, hm1⟩ := hok
  have HPP := Lib.hid (of_pb HPB.out)
  have HYB := Lib.hid (HYES.out ⟨HPP.out, hm0, hm1⟩)
  obtain ⟨rfl, rfl, rfl, rfl, rfl⟩ := HYB.out
  obtain ⟨t, rfl⟩ : ∃ t : Nat, lim = t := ⟨lim.toNat, by omega⟩
  have htn : ((t : Int)).toNat = t := by omega
  rw [htn]
  have HPF := Lib.hid (plan_factsD HPP.out)
  have hn12 : n3 ≤ 12 := by have := HPF.out.1; have := HLD.out; omega
  have q1 : decide ((t : Int) < 0) = false := decide_eq_false (by omega)
  have q2 : ¬ ((t : Int) < 0) := by omega
  have q3 : ¬ ((60 : Int) < (t : Int)) := by omega
  have q4 : decide ((60 : Int) < (t : Int)) = false := decide_eq_false q3
  have ht60 : t ≤ 60 := by omega
  obtain ⟨k0, k1, k2, k3⟩ := HK.out w1 HBB.out
  obtain ⟨i0, hi, hz0, hz1, hz2⟩ := info_parts Tryz.inf_Lt
  have hsz5 : (Tryz.prog.info? 62).map (·.size) = some 5 := by kernel_rfl
  clear hbad htn
  go_wp2_with (at_make; refine wpList_make_full _ rfl _ _ 33 rfl w1.heap.size 62 i0 _ 5 Tryz.underlying33 hi hz0 hz1 .i64 .i64 n3 n3 n3 rfl rfl rfl rfl (by rw [hz2]; omega) (by unfold maxLen; omega) (Nat.le_refl _) ?_)
  intro w2 hown hgrow
  have hb2 : Below w1.heap.size w1 w2 := (Below.refl _ _).grown hgrow (Nat.le_refl _) (fun k h => by cases h)
  clear hgrow hi hz0 hz1 hz2 k0 k1 k2 k3
  have HB2 := Lib.hid hb2
  have HRW : Hid (Rd w2 w2.heap.size (some ⟨g3, 0, none⟩) (ys.flatMap Lt.cells)) := Lib.hid ((HT.out.moved (HB1.out.trans (hb2.mono HB1.out.size))).rd)
  have hsrc : ∀ j v, (ys.flatMap Lt.cells)[j]? = some v → w2.cell? ((⟨g3, 0, none⟩ : Addr).add j) = some v := fun j v hv => by
    obtain ⟨ad, e, _, hc⟩ := HRW.out j v hv
    injection e with e
    subst e
    exact hc
  have hcs : (ys.flatMap Lt.cells).length = n3 * 5 := by
    have h9 := flat_len Lt.cells 5 ys (fun x _ => Lt.cells_len x)
    rw [h9, HT.out.len]
  obtain ⟨cs, hcse⟩ : ∃ cs, ys.flatMap Lt.cells = cs := ⟨_, rfl⟩
  have HCS := Lib.hid hcse
  have hone : ∀ v ∈ cs, v.oneCell' = true := by rw [← hcse]; exact one_lts ys
  rw [hcse] at hsrc hcs
  clear hcse hb2
  obtain ⟨k0, k1, k2, k3⟩ := HK.out w2 (HBB.out.trans (HB2.out.mono HBB.out.size))
  go_upto_region 4 with fail
  go_wp2_with (with_reducible refine wpList_copy_fullK rfl _ _ 33 33 rfl 62 Tryz.underlying33 5 hsz5 w1.heap.size w1.heap.size n3 _ hown ⟨g3, 0, none⟩ n3 rfl rfl cs hcs hsrc hone ?_)
  intro w3 hown3 hb3
  have HB3 := Lib.hid (HB2.out.trans hb3)
  have hls3 : LtS w1 w1.heap.size n3 ys w3 := ⟨HT.out.len, by rw [HCS.out]; exact hown3, fun y hy => (HT.out.moved HB1.out).at_ y hy, lts_someD HT.out⟩
  have CL := Lib.hid (lowerLights_ HB3.out hls3 HD.out hn12 HPF.out.2.1 HPF.out.2.2.1 HPF.out.2.2.2.1 hl t ht60 (HTAB.out.over HB1.out))
  clear hls3 hown3 hown hsrc hcs hone hb3 k0 k1 k2 k3 q1 q2 q3 q4
  go_wp2_with fail
  refine CL.out.mono ?_
  rintro e w4 ⟨A4, N4, d4, zs, rfl, HN4, ho4, hls4, HZ4, hb4⟩
  have HB4 := Lib.hid hb4
  have HB4W := Lib.hid (HB1.out.trans (hb4.mono HB1.out.size))
  have HBB4 := Lib.hid (HBB.out.trans (hb4.mono HBB.out.size))
  have HO4 := Lib.hid ho4; have HLS4 := Lib.hid hls4
  clear ho4 hls4 hb4
  obtain ⟨k0, k1, k2, k3⟩ := HK.out w4 HBB4.out
  have CP := Lib.hid (copyPlan_ (c3 := n3) (HNT.out.moved HB4W.out) (by rw [← HL1.out]; exact (net_smallD HPP.out.1).1) (net_smallD HPP.out.1).2 HLS4.out.len (HLS4.out.toR HB4.out).rd (HLS4.out.toR HB4.out).at_ HLS4.out.so (by omega))
  go_wp2_with fail
  refine CP.out.mono ?_
  rintro e w5 ⟨A1, A2, A3, d1, d2, d3, xs, rfl, hxd, ho1, ho2, hC, hb5⟩
  have HB5W := Lib.hid (HB4W.out.trans (hb5.mono HB4W.out.size))
  have HBB5 := Lib.hid (HBB4.out.trans (hb5.mono HBB4.out.size))
  have HSZ1 : Hid (w.heap.size + 2 ≤ w1.heap.size ∧ w1.heap.size ≤ w4.heap.size) := Lib.hid ⟨by have := HZ0.out; have := HBB.out.size; omega, HB4.out.size⟩
  have HO1 := Lib.hid (own_base (B' := w.heap.size + 2) ho1 (by have := HSZ1.out; omega)); have HO2 := Lib.hid (own_base (B' := w.heap.size + 2) ho2 (by have := HSZ1.out; omega))
  have HC := Lib.hid (hC.base (B' := w.heap.size + 2) (by have := HSZ1.out; omega))
  have HO45 := Lib.hid (own_base (B' := w.heap.size + 2) (ownB HO4.out hb5) HSZ1.out.1)
  have HXD : Hid (xs.map Lt.d = dgD ds hl t) := Lib.hid (hxd.trans HZ4.out)
  obtain ⟨s0, s1, s2, s3, s4, s5, s6⟩ := HS.out w5 HBB5.out
  clear ho1 ho2 hC hb5 hxd k0 k1 k2 k3
  go_wp2
  refine bodyPost_ret (v := .tuple #[.agg #[.slice A1 n1 d1, .slice A2 n2 d2, .slice A3 n3 d3], .slice A4 N4 d4, .bool true]) ?_ rfl ?_
  · simp [results, Tryz.results14, go_sem, s0, s1, s2, s6]
  · exact DgO_fin (b := w.heap.size + 1) (B := w.heap.size + 2) (by omega) (by omega) HL1.out HL2.out HXD.out HN4.out HO1.out HO2.out HC.out HO45.out HB5W.out
end Go.Proofs.YtflniajjecfgeaaGreatDoor
