/- Lights: a plan without one of its lights: contracts of the specification and of the implementation. No condition but those typed. -/
import Derived.Test.YtlmemmcdabhooaaCpp
import Derived.Test.YtlmemmcdabhooaaL9Wp
import Derived.Test.YtlmemmcdabhooaaDel
import Derived.Test.YtlmemmcdabhooaaGD
import Derived.Test.YtlmemmcdabhooaaPlt
namespace Go.Proofs.Ytlmemmcdabhooaa
open Go.ChangeShapes Go.WideShapes Go.ChangeAt Go.RowKit
/-- an answer: a plan and a word. -/
def PlO (ss : List ByteArray) (fs : List Q4) (ds : List LtD) (b : Bool) (w : World) (e : Ending) (w' : World) : Prop :=
  ∃ (A1 A2 A3 : Option Addr) (N1 N2 N3 d1 d2 d3 : Nat) (zs : List Lt), e = .returned (.tuple #[.agg #[.slice A1 N1 d1, .slice A2 N2 d2, .slice A3 N3 d3], .bool b]) ∧ Hid (N1 = ss.length) ∧ Hid (N2 = fs.length) ∧ Hid (N3 = ds.length) ∧ Hid (zs.map Lt.d = ds) ∧
    w'.ownsRow w.heap.size 9 1 (.slice A1 N1 d1) N1 (ss.map Value.string) ∧ w'.ownsRow w.heap.size 94 4 (.slice A2 N2 d2) N2 (fs.flatMap Q4.cells) ∧ LtC w.heap.size A3 N3 d3 zs w' ∧ Below w.heap.size w w'
theorem PlO_fin {w X : World} {ss : List ByteArray} {fs : List Q4} {ds : List LtD} {bo : Bool} {A1 A2 A3 : Option Addr} {N1 N2 N3 d1 d2 d3 b B : Nat} {zs : List Lt} {u1 u2 u3 : Value} (hb : w.heap.size ≤ b) (hB : b < B) (h1 : ss.length = N1) (h2 : fs.length = N2) (hz : zs.map Lt.d = ds)
    (ho1 : X.ownsRow B 9 1 (.slice A1 N1 d1) N1 (ss.map Value.string)) (ho2 : X.ownsRow B 94 4 (.slice A2 N2 d2) N2 (fs.flatMap Q4.cells)) (hC : LtC B A3 N3 d3 zs X) (hbw : Below w.heap.size w X) :
    PlO ss fs ds bo w (.returned (.tuple #[.agg #[.slice A1 N1 d1, .slice A2 N2 d2, .slice A3 N3 d3], .bool bo])) (((X.setCell ⟨b, 0, none⟩ u1).setCell ⟨b, 1, none⟩ u2).setCell ⟨b, 2, none⟩ u3) :=
  ⟨A1, A2, A3, N1, N2, N3, d1, d2, d3, zs, rfl, Lib.hid h1.symm, Lib.hid h2.symm, Lib.hid (by rw [← hz, List.length_map, hC.len]), Lib.hid hz,
    own_base (ownsRow_setCell_below (ownsRow_setCell_below (ownsRow_setCell_below ho1 (a := ⟨b, 0, none⟩) hB _) (a := ⟨b, 1, none⟩) hB _) (a := ⟨b, 2, none⟩) hB _) (by omega),
    own_base (ownsRow_setCell_below (ownsRow_setCell_below (ownsRow_setCell_below ho2 (a := ⟨b, 0, none⟩) hB _) (a := ⟨b, 1, none⟩) hB _) (a := ⟨b, 2, none⟩) hB _) (by omega),
    LtC.base (LtC.low (LtC.low (LtC.low hC hB _) hB _) hB _) (by omega),
    ((hbw.setCell (p := ⟨b, 0, none⟩) hb _).setCell (p := ⟨b, 1, none⟩) hb _).setCell (p := ⟨b, 2, none⟩) hb _⟩
theorem PlO_no {w X : World} {b : Nat} {u1 u2 u3 : Value} (hb : w.heap.size ≤ b) (hbw : Below w.heap.size w X) :
    PlO [] [] [] false w (.returned (.tuple #[.agg #[.slice none 0 0, .slice none 0 0, .slice none 0 0], .bool false])) (((X.setCell ⟨b, 0, none⟩ u1).setCell ⟨b, 1, none⟩ u2).setCell ⟨b, 2, none⟩ u3) :=
  ⟨none, none, none, 0, 0, 0, 0, 0, 0, [], rfl, Lib.hid rfl, Lib.hid rfl, Lib.hid rfl, Lib.hid rfl, World.ownsRow_nil _ _ _ _, World.ownsRow_nil _ _ _ _, LtC.nil _ _,
    ((hbw.setCell (p := ⟨b, 0, none⟩) hb _).setCell (p := ⟨b, 1, none⟩) hb _).setCell (p := ⟨b, 2, none⟩) hb _⟩
def rlD (ds : List LtD) (id : Int) : List LtD := match idxN ds id with | some k => ds.take k ++ ds.drop (k + 1) | none => []
noncomputable def rlLS (ss : List ByteArray) (fs : List Q4) (ds : List LtD) (id : Int) : List ByteArray := if lnB ss fs ds id then ss else []
noncomputable def rlLF (ss : List ByteArray) (fs : List Q4) (ds : List LtD) (id : Int) : List Q4 := if lnB ss fs ds id then fs else []
noncomputable def rlLD (ss : List ByteArray) (fs : List Q4) (ds : List LtD) (id : Int) : List LtD := if lnB ss fs ds id then rlD ds id else []
theorem rl_no {ss : List ByteArray} {fs : List Q4} {ds : List LtD} {id : Int} (h : lnB ss fs ds id = false) : rlLS ss fs ds id = [] ∧ rlLF ss fs ds id = [] ∧ rlLD ss fs ds id = [] := by
  unfold rlLS rlLF rlLD; rw [h]; exact ⟨rfl, rfl, rfl⟩
theorem rl_yes {ss : List ByteArray} {fs : List Q4} {ds : List LtD} {id : Int} {k : Nat} (h : lnB ss fs ds id = true) (hk : idxN ds id = some k) : rlLS ss fs ds id = ss ∧ rlLF ss fs ds id = fs ∧ rlLD ss fs ds id = ds.take k ++ ds.drop (k + 1) := by
  unfold rlLS rlLF rlLD rlD; rw [h, hk]; exact ⟨rfl, rfl, rfl⟩
theorem rl_cases (ss : List ByteArray) (fs : List Q4) (ds : List LtD) (id : Int) : (lnB ss fs ds id = false ∧ lnI ss fs ds id = 0 ∧ (pb (planP ss fs ds) = false ∨ idxI ds id = -1)) ∨ ∃ k, k < ds.length ∧ idxN ds id = some k ∧ lnB ss fs ds id = true ∧ lnI ss fs ds id = (k : Int) ∧ pb (planP ss fs ds) = true ∧ idxI ds id = (k : Int) := by
  cases hp : pb (planP ss fs ds) with
  | false => exact .inl ⟨by unfold lnB; rw [hp]; rfl, by unfold lnI lnB; rw [hp]; rfl, .inl rfl⟩
  | true =>
    cases hi : idxN ds id with
    | none => exact .inl ⟨by unfold lnB; rw [hi]; simp, by unfold lnI lnB; rw [hi]; simp, .inr (by unfold idxI; rw [hi])⟩
    | some k => exact .inr ⟨k, idx_lt hi, rfl, by unfold lnB; rw [hi, hp]; rfl, by unfold lnI lnB idxI; rw [hi, hp]; rfl, rfl, by unfold idxI; rw [hi]⟩
theorem rl_len (ss : List ByteArray) (fs : List Q4) (ds : List LtD) (id : Int) : (rlLS ss fs ds id).length ≤ ss.length ∧ (rlLF ss fs ds id).length ≤ fs.length ∧ (rlLD ss fs ds id).length ≤ ds.length := by
  rcases rl_cases ss fs ds id with ⟨h, _⟩ | ⟨k, hk, hi, h, _⟩
  · obtain ⟨a, b, c⟩ := rl_no h
    rw [a, b, c]; simp
  · obtain ⟨a, b, c⟩ := rl_yes h hi
    rw [a, b, c]
    refine ⟨Nat.le_refl _, Nat.le_refl _, ?_⟩
    rw [List.length_append, List.length_take, List.length_drop]; omega
theorem rl_short (ss : List ByteArray) (fs : List Q4) (ds : List LtD) (id : Int) : (rlLD ss fs ds id).length ≤ 1000 ∧ ∀ d ∈ rlLD ss fs ds id, d.zs.length ≤ 1000 := by
  rcases rl_cases ss fs ds id with ⟨h, _⟩ | ⟨k, hk, hi, h, _, hp, _⟩
  · obtain ⟨a, b, c⟩ := rl_no h
    rw [c]; simp
  · have hl := (rl_len ss fs ds id).2.2
    obtain ⟨a, b, c⟩ := rl_yes h hi
    obtain ⟨h1, h2⟩ := plan_short (of_pb hp)
    refine ⟨by omega, fun d hd => ?_⟩
    rw [c] at hd
    have h3 : d ∈ ds := by
      rcases List.mem_append.1 hd with h | h
      · exact List.mem_of_mem_take h
      · exact List.mem_of_mem_drop h
    have := h2 d h3
    omega
theorem lts_someL {B g n : Nat} {ys : List Lt} {w : World} (h : Lts B g n ys w) : ∀ y ∈ ys, ∃ q, y.A = some ⟨q, 0, none⟩ := fun y hy => by
  obtain ⟨q, e, _⟩ := h.own y hy
  exact ⟨_, e⟩
theorem net_small {ss : List ByteArray} {fs : List Q4} (h : netP ss fs) : ss.length ≤ 1000 ∧ ∀ s ∈ ss, s.size ≤ 281474976710656 :=
  ⟨by have := h.1; omega, fun s hs => by
    obtain ⟨i, hi, e⟩ := List.getElem_of_mem hs
    have := (h.2.2.1 i hi hi).1.2.1
    rw [e] at this; omega⟩

set_option maxRecDepth 100000 in
set_option maxHeartbeats 600000 in
theorem specRmL {g1 g2 g3 n1 n2 n3 c1 c2 B : Nat} {ss : List ByteArray} {fs : List Q4} {ys : List Lt} {ds : List LtD} {w : World} (h : NetAt g1 g2 n1 n2 c1 c2 ss fs w) (hT : Lts B g3 n3 ys w) (hd : ys.map Lt.d = ds) (hs : n3 ≤ 1048576) (id : Int) :
    Calls Try.prog 23 #[.agg #[.slice (some ⟨g1, 0, none⟩) n1 c1, .slice (some ⟨g2, 0, none⟩) n2 c2, .slice (some ⟨g3, 0, none⟩) n3 n3], .int .i64 id] w (PlO (rlLS ss fs ds id) (rlLF ss fs ds id) (rlLD ss fs ds id) (lnB ss fs ds id) w) := by
  have HNT := Lib.hid h; have HT := Lib.hid hT; have HD := Lib.hid hd
  have HL1 := Lib.hid h.ln1; have HL2 := Lib.hid h.ln2
  have HLD : Hid (ds.length = n3) := Lib.hid (by rw [← hd, List.length_map]; exact hT.len)
  clear h hT hd
  obtain ⟨LS, hLS⟩ : ∃ r, rlLS ss fs ds id = r := ⟨_, rfl⟩
  obtain ⟨LF, hLF⟩ : ∃ r, rlLF ss fs ds id = r := ⟨_, rfl⟩
  obtain ⟨LD, hLD⟩ : ∃ r, rlLD ss fs ds id = r := ⟨_, rfl⟩
  obtain ⟨RB, hRB⟩ : ∃ r, lnB ss fs ds id = r := ⟨_, rfl⟩
  have hcs := rl_cases ss fs ds id
  rw [hRB] at hcs
  have HCS := Lib.hid hcs
  have HNO : Hid (RB = false → LS = [] ∧ LF = [] ∧ LD = []) := Lib.hid (fun e => by rw [← hLS, ← hLF, ← hLD]; exact rl_no (hRB.trans e))
  have HYES : Hid (∀ k, RB = true → idxN ds id = some k → LS = ss ∧ LF = fs ∧ LD = ds.take k ++ ds.drop (k + 1)) := Lib.hid (fun k e hk => by rw [← hLS, ← hLF, ← hLD]; exact rl_yes (hRB.trans e) hk)
  rw [hLS, hLF, hLD, hRB]
  clear hLS hLF hLD hRB hcs
  go_enter Try.func23, Try.ntmps23
  go_wp2_with fail
  obtain ⟨W0, hW0⟩ : ∃ W0, (w.alloc (Obj.cells #[.slice (some ⟨g1, 0, none⟩) n1 c1, .slice (some ⟨g2, 0, none⟩) n2 c2, .slice (some ⟨g3, 0, none⟩) n3 n3] 48)).alloc (Obj.cells #[.slice none 0 0, .slice none 0 0, .slice none 0 0] 48) = W0 := ⟨_, rfl⟩
  have hb0 : Below w.heap.size w W0 := by rw [← hW0]; exact ((Below.refl _ _).alloc (Nat.le_refl _) _).alloc (by simp) _
  have k0 : W0.cell? ⟨w.heap.size, 0, none⟩ = some (.slice (some ⟨g1, 0, none⟩) n1 c1) := by rw [← hW0]; simp [go_sem]
  have k1 : W0.cell? ⟨w.heap.size, 1, none⟩ = some (.slice (some ⟨g2, 0, none⟩) n2 c2) := by rw [← hW0]; simp [go_sem]
  have k2 : W0.cell? ⟨w.heap.size, 2, none⟩ = some (.slice (some ⟨g3, 0, none⟩) n3 n3) := by rw [← hW0]; simp [go_sem]
  have HR0 : Hid (W0.ownsRow (w.heap.size + 1) 48 3 (.slice (some ⟨w.heap.size + 1, 0, none⟩) 1 1) 1 [.slice none 0 0, .slice none 0 0, .slice none 0 0]) := Lib.hid (by
    rw [← hW0]
    have := one_rowP (w.alloc (Obj.cells #[.slice (some ⟨g1, 0, none⟩) n1 c1, .slice (some ⟨g2, 0, none⟩) n2 c2, .slice (some ⟨g3, 0, none⟩) n3 n3] 48)) (.slice none 0 0) (.slice none 0 0) (.slice none 0 0) (base := w.heap.size + 1) (by simp)
    simpa using this)
  have hz0 : W0.heap.size = w.heap.size + 2 := by rw [← hW0]; simp
  have HB0 := Lib.hid hb0; have HZ0 := Lib.hid hz0
  rw [hW0]
  have HK : Hid (∀ u, Below W0.heap.size W0 u → u.cell? ⟨w.heap.size, 0, none⟩ = some (.slice (some ⟨g1, 0, none⟩) n1 c1) ∧ u.cell? ⟨w.heap.size, 1, none⟩ = some (.slice (some ⟨g2, 0, none⟩) n2 c2) ∧ u.cell? ⟨w.heap.size, 2, none⟩ = some (.slice (some ⟨g3, 0, none⟩) n3 n3) ∧ w.heap.size < u.heap.size) := Lib.hid fun u hu => ⟨(hu.cell (p := ⟨w.heap.size, 0, none⟩) (by show w.heap.size < _; omega)).trans k0, (hu.cell (p := ⟨w.heap.size, 1, none⟩) (by show w.heap.size < _; omega)).trans k1, (hu.cell (p := ⟨w.heap.size, 2, none⟩) (by show w.heap.size < _; omega)).trans k2, by have := hu.size; omega⟩
  have HS : Hid (∀ u, Below W0.heap.size W0 u → u.cell? ⟨w.heap.size + 1, 0, none⟩ = some (.slice none 0 0) ∧ u.cell? ⟨w.heap.size + 1, 1, none⟩ = some (.slice none 0 0) ∧ u.cell? ⟨w.heap.size + 1, 2, none⟩ = some (.slice none 0 0) ∧ u.frozen? ⟨w.heap.size + 1, 0, none⟩ = false ∧ u.frozen? ⟨w.heap.size + 1, 1, none⟩ = false ∧ u.frozen? ⟨w.heap.size + 1, 2, none⟩ = false ∧ w.heap.size + 1 < u.heap.size) := Lib.hid fun u hu => px_facts (ownB HR0.out hu)
  clear hW0 hb0 k0 k1 k2 hz0
  have CG := Lib.hid (l9Good_ (HNT.out.moved HB0.out) (HT.out.moved HB0.out) HD.out hs)
  obtain ⟨b, hb⟩ : ∃ b, pb (planP ss fs ds) = b := ⟨_, rfl⟩
  rw [hb] at CG HCS
  have HPB := Lib.hid hb
  clear hb
  refine CG.out.mono ?_
  rintro e w1 ⟨rfl, hb1⟩
  have HBB := Lib.hid hb1
  have HB1 := Lib.hid (HB0.out.trans (hb1.mono HB0.out.size))
  obtain ⟨k0, k1, k2, k3⟩ := HK.out w1 hb1
  clear hb1
  cases b
  case false =>
    have HNB := Lib.hid (HNO.out (by
      rcases HCS.out with ⟨h, _⟩ | ⟨_, _, _, _, _, h, _⟩
      · exact h
      · cases h))
    obtain rfl : RB = false := by
      rcases HCS.out with ⟨h, _⟩ | ⟨_, _, _, _, _, h, _⟩
      · exact h
      · cases h
    obtain ⟨rfl, rfl, rfl⟩ := HNB.out
    obtain ⟨s0, s1, s2, s3, s4, s5, s6⟩ := HS.out w1 HBB.out
    clear k0 k1 k2 k3
    go_wp2
    exact bodyPost_ret (v := .tuple #[.agg #[.slice none 0 0, .slice none 0 0, .slice none 0 0], .bool false]) (by simp [results, Try.results23, go_sem, s0, s1, s2, s6]) rfl (PlO_no (by omega) HB1.out)
  case true =>
  have CF := Lib.hid (l9Find_ (HNT.out.moved HB1.out) (HT.out.moved HB1.out) HD.out hs id)
  obtain ⟨z, hz⟩ : ∃ z, idxI ds id = z := ⟨_, rfl⟩
  rw [hz] at CF HCS
  have HZ := Lib.hid hz
  clear hz
  rcases HCS.out with ⟨hno, _, h2⟩ | ⟨k, hk, hki, hyes, _, _, rfl⟩
  · subst hno
    obtain rfl : z = -1 := by
      rcases h2 with h | h
      · cases h
      · exact h
    have HNB := Lib.hid (HNO.out rfl)
    obtain ⟨rfl, rfl, rfl⟩ := HNB.out
    clear h2
    go_wp2_with fail
    refine CF.out.mono ?_
    rintro e w2 ⟨rfl, hb2⟩
    have HB2 := Lib.hid (HB1.out.trans (hb2.mono HB1.out.size))
    obtain ⟨s0, s1, s2, s3, s4, s5, s6⟩ := HS.out w2 (HBB.out.trans (hb2.mono HBB.out.size))
    clear hb2 k0 k1 k2 k3
    go_wp2
    exact bodyPost_ret (v := .tuple #[.agg #[.slice none 0 0, .slice none 0 0, .slice none 0 0], .bool false]) (by simp [results, Try.results23, go_sem, s0, s1, s2, s6]) rfl (PlO_no (by omega) HB2.out)
  · subst hyes
    obtain ⟨rfl, rfl, rfl⟩ := HYES.out k rfl hki
    have hlen := HLD.out
    have HDT : Hid (∀ l : List Lt, l = ys.take k ++ ys.drop (k + 1) → l.map Lt.d = ds.take k ++ ds.drop (k + 1)) := Lib.hid fun l hl => by rw [hl, List.map_append, List.map_take, List.map_drop, HD.out]
    have CW : Hid (∀ U, Below W0.heap.size W0 U → Calls Try.prog 76 #[.agg #[.slice (some ⟨g1, 0, none⟩) n1 c1, .slice (some ⟨g2, 0, none⟩) n2 c2, .slice (some ⟨g3, 0, none⟩) n3 n3], .int .i64 (k : Int)] U _) := Lib.hid (fun U hU => l9WithoutP_ ((HNT.out.moved HB0.out).moved hU) HT.out.len ((HT.out.moved HB0.out).moved hU).rd ((HT.out.moved HB0.out).moved hU).at_ (fun y hy => by obtain ⟨q, hq⟩ := lts_someL HT.out y hy; exact ⟨_, hq⟩) hs k (by omega) (c3 := n3))
    have CF2 : Hid (∀ U, Below W0.heap.size W0 U → Calls Try.prog 75 #[.agg #[.slice (some ⟨g1, 0, none⟩) n1 c1, .slice (some ⟨g2, 0, none⟩) n2 c2, .slice (some ⟨g3, 0, none⟩) n3 n3], .int .i64 id] U (RetP (.int .i64 (k : Int)) U)) := Lib.hid (fun U hU => by
      have h9 := l9Find_ ((HNT.out.moved HB0.out).moved hU) ((HT.out.moved HB0.out).moved hU) HD.out hs id
      rw [HZ.out] at h9; exact h9)
    clear hlen hk hki
    go_wp2_with fail
    refine CF.out.mono ?_
    rintro e w2 ⟨rfl, hb2⟩
    have HBB2 := Lib.hid (HBB.out.trans (hb2.mono HBB.out.size))
    obtain ⟨l0, l1, l2, l3⟩ := HK.out w2 HBB2.out
    clear hb2 k0 k1 k2 k3
    have hz0 := HZ0.out
    go_upto_region 3 with fail
    go_region_with (first
      | (go_at_call 75; refine (CF2.out _ (by first | exact HBB2.out | exact HBB2.out.drew | exact drewN_below HBB2.out _)).mono ?_; rintro e u1 ⟨rfl, hv⟩; have hv1 : Below W0.heap.size W0 u1 := Below.trans (by first | exact HBB2.out | exact HBB2.out.drew | exact drewN_below HBB2.out _) (hv.mono (by first | exact HBB2.out.size | exact HBB2.out.drew.size | exact (drewN_below HBB2.out _).size)); obtain ⟨_, _, _, _⟩ := HK.out u1 hv1)
      | (go_at_call 76; refine (CW.out _ hv1).mono ?_; rintro e u2 ⟨A1, A2, A3, d1, d2, d3, N, zs, rfl, hN, hzm, ho1, ho2, hC, hx⟩; have hv2 : Below W0.heap.size W0 u2 := hv1.trans (hx.mono hv1.size); obtain ⟨s0, s1, s2, s3, s4, s5, s6⟩ := HS.out u2 hv2))
    all_goals
      have HBW2 := Lib.hid (HB0.out.trans (hv2.mono (by omega)))
      have HLE := Lib.hid (show W0.heap.size ≤ u1.heap.size from hv1.size)
      have HDM := Lib.hid (hzm.trans (HDT.out _ rfl))
      have HO1 := Lib.hid ho1; have HO2 := Lib.hid ho2; have HC := Lib.hid hC
      have HZZ := Lib.hid hz0
      clear hx hv hv1 hv2 ho1 ho2 hC hzm
      go_wp2_with fail
      exact bodyPost_ret (v := .tuple #[.agg #[.slice A1 n1 d1, .slice A2 n2 d2, .slice A3 N d3], .bool true]) (by simp [results, Try.results23, go_sem, s0, s1, s2, s6]) rfl (PlO_fin (B := u1.heap.size + 2) (by omega) (by have := HLE.out; have := HZZ.out; omega) HL1.out HL2.out HDM.out HO1.out HO2.out HC.out HBW2.out)

set_option maxRecDepth 100000 in
set_option maxHeartbeats 600000 in
theorem implRmL {g1 g2 g3 n1 n2 n3 c1 c2 B : Nat} {ss : List ByteArray} {fs : List Q4} {ys : List Lt} {ds : List LtD} {w : World} (h : NetAt g1 g2 n1 n2 c1 c2 ss fs w) (hT : Lts B g3 n3 ys w) (hd : ys.map Lt.d = ds) (hs : n3 ≤ 1048576) (id : Int) :
    Calls Try.prog 25 #[.agg #[.slice (some ⟨g1, 0, none⟩) n1 c1, .slice (some ⟨g2, 0, none⟩) n2 c2, .slice (some ⟨g3, 0, none⟩) n3 n3], .int .i64 id] w (PlO (rlLS ss fs ds id) (rlLF ss fs ds id) (rlLD ss fs ds id) (lnB ss fs ds id) w) := by
  have HNT := Lib.hid h; have HT := Lib.hid hT; have HD := Lib.hid hd
  have HL1 := Lib.hid h.ln1; have HL2 := Lib.hid h.ln2
  have HLD : Hid (ds.length = n3) := Lib.hid (by rw [← hd, List.length_map]; exact hT.len)
  clear h hT hd
  obtain ⟨LS, hLS⟩ : ∃ r, rlLS ss fs ds id = r := ⟨_, rfl⟩
  obtain ⟨LF, hLF⟩ : ∃ r, rlLF ss fs ds id = r := ⟨_, rfl⟩
  obtain ⟨LD, hLD⟩ : ∃ r, rlLD ss fs ds id = r := ⟨_, rfl⟩
  obtain ⟨RB, hRB⟩ : ∃ r, lnB ss fs ds id = r := ⟨_, rfl⟩
  have hcs := rl_cases ss fs ds id
  rw [hRB] at hcs
  have HNO : Hid (RB = false → LS = [] ∧ LF = [] ∧ LD = []) := Lib.hid (fun e => by rw [← hLS, ← hLF, ← hLD]; exact rl_no (hRB.trans e))
  have HYES : Hid (∀ k, RB = true → idxN ds id = some k → LS = ss ∧ LF = fs ∧ LD = ds.take k ++ ds.drop (k + 1)) := Lib.hid (fun k e hk => by rw [← hLS, ← hLF, ← hLD]; exact rl_yes (hRB.trans e) hk)
  have HRV : Hid (∀ (i : Int), lnI ss fs ds id = i → (.tuple #[.int .i64 i, .bool RB] : Value) = lnR ss fs ds id) := Lib.hid fun i hi => by unfold lnR; rw [hi, hRB]
  rw [hLS, hLF, hLD, hRB]
  clear hLS hLF hLD hRB
  go_enter Try.func25, Try.ntmps25
  go_wp2_with fail
  obtain ⟨W0, hW0⟩ : ∃ W0, (w.alloc (Obj.cells #[.slice (some ⟨g1, 0, none⟩) n1 c1, .slice (some ⟨g2, 0, none⟩) n2 c2, .slice (some ⟨g3, 0, none⟩) n3 n3] 48)).alloc (Obj.cells #[.slice none 0 0, .slice none 0 0, .slice none 0 0] 48) = W0 := ⟨_, rfl⟩
  have hb0 : Below w.heap.size w W0 := by rw [← hW0]; exact ((Below.refl _ _).alloc (Nat.le_refl _) _).alloc (by simp) _
  have k0 : W0.cell? ⟨w.heap.size, 0, none⟩ = some (.slice (some ⟨g1, 0, none⟩) n1 c1) := by rw [← hW0]; simp [go_sem]
  have k1 : W0.cell? ⟨w.heap.size, 1, none⟩ = some (.slice (some ⟨g2, 0, none⟩) n2 c2) := by rw [← hW0]; simp [go_sem]
  have k2 : W0.cell? ⟨w.heap.size, 2, none⟩ = some (.slice (some ⟨g3, 0, none⟩) n3 n3) := by rw [← hW0]; simp [go_sem]
  have HR0 : Hid (W0.ownsRow (w.heap.size + 1) 48 3 (.slice (some ⟨w.heap.size + 1, 0, none⟩) 1 1) 1 [.slice none 0 0, .slice none 0 0, .slice none 0 0]) := Lib.hid (by
    rw [← hW0]
    have := one_rowP (w.alloc (Obj.cells #[.slice (some ⟨g1, 0, none⟩) n1 c1, .slice (some ⟨g2, 0, none⟩) n2 c2, .slice (some ⟨g3, 0, none⟩) n3 n3] 48)) (.slice none 0 0) (.slice none 0 0) (.slice none 0 0) (base := w.heap.size + 1) (by simp)
    simpa using this)
  have hz0 : W0.heap.size = w.heap.size + 2 := by rw [← hW0]; simp
  have HB0 := Lib.hid hb0; have HZ0 := Lib.hid hz0
  rw [hW0]
  have HK : Hid (∀ u, Below W0.heap.size W0 u → u.cell? ⟨w.heap.size, 0, none⟩ = some (.slice (some ⟨g1, 0, none⟩) n1 c1) ∧ u.cell? ⟨w.heap.size, 1, none⟩ = some (.slice (some ⟨g2, 0, none⟩) n2 c2) ∧ u.cell? ⟨w.heap.size, 2, none⟩ = some (.slice (some ⟨g3, 0, none⟩) n3 n3) ∧ w.heap.size < u.heap.size) := Lib.hid fun u hu => ⟨(hu.cell (p := ⟨w.heap.size, 0, none⟩) (by show w.heap.size < _; omega)).trans k0, (hu.cell (p := ⟨w.heap.size, 1, none⟩) (by show w.heap.size < _; omega)).trans k1, (hu.cell (p := ⟨w.heap.size, 2, none⟩) (by show w.heap.size < _; omega)).trans k2, by have := hu.size; omega⟩
  have HS : Hid (∀ u, Below W0.heap.size W0 u → u.cell? ⟨w.heap.size + 1, 0, none⟩ = some (.slice none 0 0) ∧ u.cell? ⟨w.heap.size + 1, 1, none⟩ = some (.slice none 0 0) ∧ u.cell? ⟨w.heap.size + 1, 2, none⟩ = some (.slice none 0 0) ∧ u.frozen? ⟨w.heap.size + 1, 0, none⟩ = false ∧ u.frozen? ⟨w.heap.size + 1, 1, none⟩ = false ∧ u.frozen? ⟨w.heap.size + 1, 2, none⟩ = false ∧ w.heap.size + 1 < u.heap.size) := Lib.hid fun u hu => px_facts (ownB HR0.out hu)
  clear hW0 hb0 k0 k1 k2 hz0
  have CL := Lib.hid (implLN (HNT.out.moved HB0.out) (HT.out.moved HB0.out) HD.out hs id)
  rcases hcs with ⟨rfl, hi, _⟩ | ⟨k, hk, hki, rfl, hi, hpp, _⟩
  · have HNB := Lib.hid (HNO.out rfl)
    obtain ⟨rfl, rfl, rfl⟩ := HNB.out
    rw [← HRV.out _ hi] at CL
    clear hi
    refine CL.out.mono ?_
    rintro e w1 ⟨rfl, hb1⟩
    have HB1 := Lib.hid (HB0.out.trans (hb1.mono HB0.out.size))
    obtain ⟨s0, s1, s2, s3, s4, s5, s6⟩ := HS.out w1 hb1
    clear hb1
    go_wp2
    exact bodyPost_ret (v := .tuple #[.agg #[.slice none 0 0, .slice none 0 0, .slice none 0 0], .bool false]) (by simp [results, Try.results25, go_sem, s0, s1, s2, s6]) rfl (PlO_no (by omega) HB1.out)
  · obtain ⟨rfl, rfl, rfl⟩ := HYES.out k rfl hki
    rw [← HRV.out _ hi] at CL
    have hNS := net_small (of_pb hpp).1
    have hlen := HLD.out
    have HDT : Hid (∀ zs : List Lt, zs.map Lt.d = ys.map Lt.d → (zs.take k ++ zs.drop (k + 1)).map Lt.d = ds.take k ++ ds.drop (k + 1)) := Lib.hid fun zs hz => by rw [List.map_append, List.map_take, List.map_drop, hz, HD.out]
    have HKN : Hid (k < n3) := Lib.hid (by omega)
    have CP : Hid (∀ U, Below W0.heap.size W0 U → Calls Try.prog 79 #[.agg #[.slice (some ⟨g1, 0, none⟩) n1 c1, .slice (some ⟨g2, 0, none⟩) n2 c2, .slice (some ⟨g3, 0, none⟩) n3 n3]] U _) := Lib.hid (fun U hU => copyPlan_ ((HNT.out.moved HB0.out).moved hU) (by have := HL1.out; omega) hNS.2 HT.out.len ((HT.out.moved HB0.out).moved hU).rd ((HT.out.moved HB0.out).moved hU).at_ (lts_someL HT.out) hs (c3 := n3))
    clear hi hpp hNS hk hki hlen
    refine CL.out.mono ?_
    rintro e w1 ⟨rfl, hb1⟩
    have HBB := Lib.hid hb1
    obtain ⟨k0, k1, k2, k3⟩ := HK.out w1 hb1
    have CP1 := Lib.hid (CP.out w1 hb1)
    clear hb1
    go_wp2_with fail
    refine CP1.out.mono ?_
    rintro e w2 ⟨A1, A2, A3, d1, d2, d3, zs, rfl, hzm, ho1, ho2, hC, hb2⟩
    have hkz : k < zs.length := by have := congrArg List.length hzm; rw [List.length_map, List.length_map, HT.out.len] at this; have := HKN.out; omega
    obtain ⟨q3, rfl⟩ : ∃ q, A3 = some ⟨q, 0, none⟩ := by
      rcases hC.row.2 with ⟨hv, h0⟩ | ⟨g, cap, cur, hv, _⟩
      · exact absurd h0 (by have := HKN.out; omega)
      · injection hv with hA; exact ⟨g, hA⟩
    have HBB2 := Lib.hid (HBB.out.trans (hb2.mono HBB.out.size))
    have hsz12 : w1.heap.size ≤ w2.heap.size := hb2.size
    have hsz01 : W0.heap.size ≤ w1.heap.size := HBB.out.size
    have HO1 := Lib.hid ho1; have HO2 := Lib.hid ho2; have HC := Lib.hid hC; have HZM := Lib.hid hzm
    have HKZ := Lib.hid hkz
    clear ho1 ho2 hC hzm hb2 k0 k1 k2 k3 hkz
    have hk0 : (0 : Int) ≤ (k : Int) := Int.natCast_nonneg _
    have hkI : (k : Int) < 1048576 := by have := HKN.out; omega
    go_wp2_with fail
    try rw [show wrap64 ((k : Int) + 1) = ((k + 1 : Nat) : Int) by rw [wrap64_id] <;> omega]
    try rw [show ((k : Int) + 1) = ((k + 1 : Nat) : Int) by omega]
    obtain ⟨W3, hW3⟩ : ∃ W3, w2.alloc (Obj.cells #[.slice A1 n1 d1, .slice A2 n2 d2, .slice (some ⟨q3, 0, none⟩) n3 d3] 48) = W3 := ⟨_, rfl⟩
    rw [hW3]
    have hbx : W3.ownsRow w2.heap.size 48 3 (.slice (some ⟨w2.heap.size, 0, none⟩) 1 1) 1 [.slice A1 n1 d1, .slice A2 n2 d2, .slice (some ⟨q3, 0, none⟩) n3 d3] := by rw [← hW3]; exact one_rowP w2 _ _ _ (Nat.le_refl _)
    have hb3 : Below w2.heap.size w2 W3 := by rw [← hW3]; exact (Below.refl _ _).alloc (Nat.le_refl _) _
    have HBX := Lib.hid hbx
    have HBB3 := Lib.hid (HBB2.out.trans (hb3.mono HBB2.out.size))
    have H31 := Lib.hid (ownB HO1.out hb3); have H32 := Lib.hid (ownB HO2.out hb3); have H3C := Lib.hid (HC.out.moved hb3)
    have HZ3 := Lib.hid hb3.size
    clear hW3 hbx hb3
    refine (delLt_ H3C.out rfl HKN.out).mono ?_
    rintro e w4 ⟨rfl, hC4, hoff⟩
    have hlt3 := (H3C.out.row.lt q3 rfl)
    have HBX4 := Lib.hid (own_offV HBX.out hoff (fun g hg e => by subst e; exact own_type_apart HBX.out H3C.out.row (by decide) _ hg rfl))
    have HBB4 := Lib.hid (HBB3.out.trans (hoff.below (B := W0.heap.size) HBB3.out.size (fun g hg => by have h9 : g = q3 := hg; have h8 := hlt3.1; omega)))
    have H41 := Lib.hid (own_offV H31.out hoff (fun g hg e => by subst e; exact own_type_apart H31.out H3C.out.row (by decide) _ hg rfl))
    have H42 := Lib.hid (own_offV H32.out hoff (fun g hg e => by subst e; exact own_type_apart H32.out H3C.out.row (by decide) _ hg rfl))
    have H4C := Lib.hid hC4
    have hge4 : w2.heap.size < w4.heap.size := by have h8 := hoff.size; have h9 : w2.heap.size < W3.heap.size := (HBX.out.lt _ rfl).2; omega
    clear hoff hC4 hlt3
    have H5X : Hid ((w4.setCell ⟨w2.heap.size, 2, none⟩ (.slice (some ⟨q3, 0, none⟩) (n3 - 1) d3)).ownsRow w2.heap.size 48 3 (.slice (some ⟨w2.heap.size, 0, none⟩) 1 1) 1 [.slice A1 n1 d1, .slice A2 n2 d2, .slice (some ⟨q3, 0, none⟩) (n3 - 1) d3]) := Lib.hid (by have h9 := (HBX4.out.stored 2 (.slice (some ⟨q3, 0, none⟩) (n3 - 1) d3)).1; simpa using h9)
    obtain ⟨W5, hW5⟩ : ∃ W5, w4.setCell ⟨w2.heap.size, 2, none⟩ (.slice (some ⟨q3, 0, none⟩) (n3 - 1) d3) = W5 := ⟨_, rfl⟩
    have H51 := Lib.hid (own_offV H41.out (off1 (g := w2.heap.size) (o := 2) (.slice (some ⟨q3, 0, none⟩) (n3 - 1) d3)) (fun g hg e => by subst e; exact own_type_apart H41.out HBX4.out (by decide) _ hg rfl))
    have H52 := Lib.hid (own_offV H42.out (off1 (g := w2.heap.size) (o := 2) (.slice (some ⟨q3, 0, none⟩) (n3 - 1) d3)) (fun g hg e => by subst e; exact own_type_apart H42.out HBX4.out (by decide) _ hg rfl))
    have H5C := Lib.hid (H4C.out.offV (off1 (g := w2.heap.size) (o := 2) (.slice (some ⟨q3, 0, none⟩) (n3 - 1) d3)) (fun b hb e => by subst e; exact lt_apart H4C.out HBX4.out (by decide) (by decide) _ rfl hb))
    have HBB5 := Lib.hid (HBB4.out.setCell (p := ⟨w2.heap.size, 2, none⟩) (by show W0.heap.size ≤ w2.heap.size; omega) (.slice (some ⟨q3, 0, none⟩) (n3 - 1) d3))
    rw [hW5] at H5X H51 H52 H5C HBB5
    obtain ⟨x0, x1, x2, x3, x4, x5, x6⟩ := px_facts H5X.out
    obtain ⟨y0, y1, y2, y3, y4, y5, y6⟩ := px_facts HBX4.out
    obtain ⟨s0, s1, s2, s3, s4, s5, s6⟩ := HS.out W5 HBB5.out
    have HBW5 := Lib.hid (HB0.out.trans (HBB5.out.mono (by have := HZ0.out; omega)))
    have hz0 := HZ0.out
    clear HBX4 HBX
    go_wp2_with fail
    have HDM := Lib.hid (HDT.out zs HZM.out)
    clear x0 x1 x2 x3 x4 x5 x6 y0 y1 y2 y3 y4 y5 y6
    exact bodyPost_ret (v := .tuple #[.agg #[.slice A1 n1 d1, .slice A2 n2 d2, .slice (some ⟨q3, 0, none⟩) (n3 - 1) d3], .bool true]) (by simp [results, Try.results25, go_sem, s0, s1, s2, s6]) rfl (PlO_fin (B := w1.heap.size + 2) (by omega) (by omega) HL1.out HL2.out HDM.out H51.out H52.out H5C.out HBW5.out)
end Go.Proofs.Ytlmemmcdabhooaa
