/- The masks of services: plain words, contracts of the specification. No condition but those typed. -/
import Derived.Test.YtlgkjidginibdaaDoorScG
import Derived.Test.YtlgkjidginibdaaDoorGB
import Derived.Test.YtlgkjidginibdaaDoorGD
namespace Go.Proofs.YtlgkjidginibdaaDoor
open Go.ChangeShapes Go.WideShapes Go.ChangeAt Go.RowKit

/-- the slots that the first services take on a fiber. -/
def orK (Z : SvD → List Int) (P : SvD → Q2) (ds : List SvD) (f : Int) : Nat → Nat
  | 0 => 0
  | k + 1 => if f ∈ Z (svn ds k) then orK Z P ds f k ||| bN (P (svn ds k)) else orK Z P ds f k
def wkP (d : SvD) : Q2 := ⟨d.x1, d.y1⟩
def spP (d : SvD) : Q2 := ⟨d.x2, d.y2⟩
theorem orK_lt {Z : SvD → List Int} {P : SvD → Q2} {ds : List SvD} {f : Int} (h : ∀ i, i < ds.length → Z (svn ds i) ≠ [] → blkP (P (svn ds i)).a (P (svn ds i)).b) : ∀ k, k ≤ ds.length → orK Z P ds f k < 2 ^ 24
  | 0, _ => by unfold orK; decide
  | k + 1, hk => by
    have ih := orK_lt (f := f) h k (by omega)
    unfold orK
    split
    · rename_i hf
      exact Nat.or_lt_two_pow ih (bN_lt (h k (by omega) (fun e => by rw [e] at hf; simp at hf)))
    · exact ih
def wkN (ds : List SvD) (f : Int) : Nat := orK SvD.zs wkP ds f ds.length
def spN (ds : List SvD) (f : Int) : Nat := orK SvD.us spP ds f ds.length
def smL (g : Int → Nat) (k : Nat) : List Int := (List.range k).map fun f : Nat => (g (f : Int) : Int)
theorem smL_len (g : Int → Nat) (k : Nat) : (smL g k).length = k := by unfold smL; simp
theorem smL_snoc (g : Int → Nat) (k : Nat) : smL g (k + 1) = smL g k ++ [(g (k : Int) : Int)] := by unfold smL; rw [List.range_succ, List.map_append]; rfl
noncomputable def smW (ss : List ByteArray) (fs : List Q4) (ds : List SvD) : List Int := if pb (svsP ss fs ds) then smL (wkN ds) fs.length else []
noncomputable def smU (ss : List ByteArray) (fs : List Q4) (ds : List SvD) : List Int := if pb (svsP ss fs ds) then smL (spN ds) fs.length else []
theorem sm_no {ss : List ByteArray} {fs : List Q4} {ds : List SvD} (h : pb (svsP ss fs ds) = false) : smW ss fs ds = [] ∧ smU ss fs ds = [] := by unfold smW smU; rw [h]; exact ⟨rfl, rfl⟩
theorem sm_yes {ss : List ByteArray} {fs : List Q4} {ds : List SvD} (h : pb (svsP ss fs ds) = true) : smW ss fs ds = smL (wkN ds) fs.length ∧ smU ss fs ds = smL (spN ds) fs.length := by unfold smW smU; rw [h]; exact ⟨rfl, rfl⟩
theorem sm_len (ss : List ByteArray) (fs : List Q4) (ds : List SvD) : (smW ss fs ds).length ≤ fs.length ∧ (smU ss fs ds).length ≤ fs.length := by
  cases h : pb (svsP ss fs ds)
  · rw [(sm_no h).1, (sm_no h).2]; simp
  · rw [(sm_yes h).1, (sm_yes h).2, smL_len, smL_len]; omega
theorem litS {w : World} {H : Nat} (hH : w.heap.size = H) (base : Nat) (hb : base ≤ w.heap.size) : (w.alloc (Obj.cells #[] 3)).ownsRow base 3 1 (.slice (some ⟨H, 0, none⟩) 0 0) 0 [] := by
  subst hH
  have h9 := World.ownsRow_lit (base := base) (e := 3) (size := 1) w #[] 0 hb (by unfold maxLen; omega) rfl
  simpa using h9
theorem belT2 {a b c : World} (h : Below a.heap.size a b) (k : Below b.heap.size b c) : Below a.heap.size a c := h.trans (k.mono h.size)
theorem m2_lt {b m : Nat} (h : b ||| m < 2 ^ 24) : m < 2 ^ 24 := Nat.lt_of_le_of_lt Nat.right_le_or h
/-- two lists of the call's own and a word. -/
def SmP (L1 L2 : List Int) (b : Bool) (w : World) (e : Ending) (w' : World) : Prop :=
  ∃ (A1 A2 : Option Addr) (N1 N2 d1 d2 : Nat), e = .returned (.tuple #[.slice A1 N1 d1, .slice A2 N2 d2, .bool b]) ∧ Hid (N1 = L1.length) ∧ Hid (N2 = L2.length) ∧ w'.ownsRow w.heap.size 3 1 (.slice A1 N1 d1) N1 (L1.map (Value.int .i64)) ∧ w'.ownsRow w.heap.size 3 1 (.slice A2 N2 d2) N2 (L2.map (Value.int .i64)) ∧ Hid (Apart (.slice A1 N1 d1) (.slice A2 N2 d2)) ∧ Below w.heap.size w w'
set_option maxRecDepth 100000 in
set_option maxHeartbeats 4000000 in
theorem l13Masks_ {g3 n3 B : Nat} {ys : List Sv} {ds : List SvD} {w : World} (hT : Svs B g3 n3 ys w) (hd : ys.map Sv.d = ds) (hs : n3 ≤ 1048576) (h1 : ∀ i, i < ds.length → blkP (svn ds i).x1 (svn ds i).y1) (h2 : ∀ i, i < ds.length → (svn ds i).us ≠ [] → blkP (svn ds i).x2 (svn ds i).y2) (x : Int) :
    Calls Tryd.prog 28 #[.slice (some ⟨g3, 0, none⟩) n3 n3, .int .i64 x] w (RetP (.tuple #[.int .i64 (wkN ds x : Int), .int .i64 (spN ds x : Int)]) w) := by
  have HT := Lib.hid hT; have HD := Lib.hid hd; have H1 := Lib.hid h1; have H2 := Lib.hid h2
  have HLD : Hid (ds.length = n3) := Lib.hid (by rw [← hd, List.length_map]; exact hT.len)
  have HLW : Hid (∀ k, k ≤ ds.length → orK SvD.zs wkP ds x k < 2 ^ 24) := Lib.hid (orK_lt (fun i hi _ => h1 i hi))
  have HLU : Hid (∀ k, k ≤ ds.length → orK SvD.us spP ds x k < 2 ^ 24) := Lib.hid (orK_lt (fun i hi e => h2 i hi e))
  obtain ⟨r1, hr1⟩ : ∃ r, wkN ds x = r := ⟨_, rfl⟩
  obtain ⟨r2, hr2⟩ : ∃ r, spN ds x = r := ⟨_, rfl⟩
  rw [hr1, hr2]
  have HR1 : Hid (orK SvD.zs wkP ds x n3 = r1) := Lib.hid (by rw [← hr1, ← HLD.out]; rfl)
  have HR2 : Hid (orK SvD.us spP ds x n3 = r2) := Lib.hid (by rw [← hr2, ← HLD.out]; rfl)
  clear hT hd hr1 hr2 h1 h2
  go_enter Tryd.func28, Tryd.ntmps28
  go_wp2
  go_loopw [6, 7, 8] (fun v u i wr => ∃ (k a b : Nat), k ≤ n3 ∧ i = .int .i64 k ∧ v = .int .i64 a ∧ u = .int .i64 b ∧ Hid (orK SvD.zs wkP ds x k = a) ∧ Hid (orK SvD.us spP ds x k = b) ∧ a < 16777216 ∧ b < 16777216 ∧ Below w.heap.size w wr) (fun _ _ i _ => n3 - (intOf i).toNat)
  case atStart => exact ⟨0, 0, 0, Nat.zero_le _, rfl, rfl, rfl, Lib.hid rfl, Lib.hid rfl, by omega, by omega, Below.refl _ _⟩
  case round =>
    obtain ⟨k, a, b, hk, rfl, rfl, rfl, HA, HB, ha, hb9, hb⟩ := hrel
    have HBR := Lib.hid hb
    by_cases hlt : k < n3
    case neg =>
      obtain rfl : n3 = k := by omega
      have HE : Hid (((a : Nat) : Int) = (r1 : Int) ∧ ((b : Nat) : Int) = (r2 : Int)) := Lib.hid (by rw [← HR1.out, ← HR2.out, HA.out, HB.out]; exact ⟨rfl, rfl⟩)
      clear hb
      go_wp2
      go_ret2
      exact ⟨by rw [HE.out.1, HE.out.2]; rfl, HBR.out⟩
    case pos =>
    have hkl : k < ys.length := by have := HT.out.len; omega
    have HKD : Hid (k < ds.length) := Lib.hid (by have := HLD.out; omega)
    obtain ⟨y, hke⟩ : ∃ y, ys[k]'hkl = y := ⟨_, rfl⟩
    have HDK := Lib.hid (svn_at HD.out hkl hke)
    have hyat : SvAt w y := by rw [← hke]; exact HT.out.at_ _ (List.getElem_mem hkl)
    have HROW : Hid (∀ U, Below w.heap.size w U → U.cell? ⟨g3, k * 10 + 3, none⟩ = some (.slice y.A y.n y.c) ∧ U.cell? ⟨g3, k * 10 + 4, none⟩ = some (.int .i64 y.x1) ∧ U.cell? ⟨g3, k * 10 + 5, none⟩ = some (.int .i64 y.y1) ∧ U.cell? ⟨g3, k * 10 + 7, none⟩ = some (.slice y.A2 y.m y.c2) ∧ U.cell? ⟨g3, k * 10 + 8, none⟩ = some (.int .i64 y.x2) ∧ U.cell? ⟨g3, k * 10 + 9, none⟩ = some (.int .i64 y.y2) ∧ g3 < U.heap.size) := Lib.hid fun U hU => by
      obtain ⟨hg, f0, f1, f2, f3, f4, f5, f6, f7, f8, f9⟩ := (HT.out.moved hU).rd.svc hkl
      rw [Nat.zero_add, hke] at f3 f4 f5 f7 f8 f9
      exact ⟨f3, f4, f5, f7, f8, f9, hg⟩
    have hb1 : blkP y.x1 y.y1 := by have h9 := H1.out k HKD.out; rw [HDK.out] at h9; exact h9
    have CB : Hid (∀ W, Calls Tryd.prog 58 #[.agg #[.int .i64 y.x1, .int .i64 y.y1]] W (RetP (.int .i64 (bN ⟨y.x1, y.y1⟩ : Int)) W)) := Lib.hid (fun W => by rw [← show bitsV y.x1 y.y1 = ((bN ⟨y.x1, y.y1⟩ : Nat) : Int) from bits_eq hb1]; exact specBits y.x1 y.y1 W hb1)
    have CB2 : Hid (x ∈ y.us → ∀ W, Calls Tryd.prog 58 #[.agg #[.int .i64 y.x2, .int .i64 y.y2]] W (RetP (.int .i64 (bN ⟨y.x2, y.y2⟩ : Int)) W)) := Lib.hid (fun hin W => by
      have hb2 : blkP y.x2 y.y2 := by have h9 := H2.out k HKD.out; rw [HDK.out] at h9; exact h9 (fun e => by have e2 : y.us = [] := e; rw [e2] at hin; simp at hin)
      rw [← show bitsV y.x2 y.y2 = ((bN ⟨y.x2, y.y2⟩ : Nat) : Int) from bits_eq hb2]; exact specBits y.x2 y.y2 W hb2)
    have CH := Lib.hid (fun (U : World) (hU : Below w.heap.size w U) => has_ y.A y.n y.c y.zs x U hyat.1.1 (hyat.1.2.2.moved hU) (by have := hyat.1.2.1; omega))
    have CH2 := Lib.hid (fun (U : World) (hU : Below w.heap.size w U) => has_ y.A2 y.m y.c2 y.us x U hyat.2.1 (hyat.2.2.2.moved hU) (by have := hyat.2.2.1; omega))
    have HSA : Hid (orK SvD.zs wkP ds x (k + 1) = if x ∈ y.zs then a ||| bN ⟨y.x1, y.y1⟩ else a) := Lib.hid (by rw [orK, HDK.out, HA.out]; rfl)
    have HSB : Hid (orK SvD.us spP ds x (k + 1) = if x ∈ y.us then b ||| bN ⟨y.x2, y.y2⟩ else b) := Lib.hid (by rw [orK, HDK.out, HB.out]; rfl)
    have hl1 := bN_lt (p := ⟨y.x1, y.y1⟩) hb1
    have LA := HLW.out (k + 1) (by have := HKD.out; omega)
    have LB := HLU.out (k + 1) (by have := HKD.out; omega)
    rw [HSA.out] at LA; rw [HSB.out] at LB
    clear hyat hke hkl hb1 hb
    obtain ⟨m1, hm1⟩ : ∃ m, bN ⟨y.x1, y.y1⟩ = m := ⟨_, rfl⟩
    obtain ⟨m2, hm2⟩ : ∃ m, bN ⟨y.x2, y.y2⟩ = m := ⟨_, rfl⟩
    rw [hm1] at CB HSA LA hl1; rw [hm2] at CB2 HSB LB
    clear hm1 hm2
    by_cases hin : x ∈ y.zs
    case pos =>
      rw [if_pos hin] at HSA LA
      have hor := or_i64_ a m1 (by omega) (by omega)
      obtain ⟨o1, ho1⟩ : ∃ o, a ||| m1 = o := ⟨_, rfl⟩
      rw [ho1] at hor HSA LA
      have D1 : decide (x ∈ y.zs) = true := decide_eq_true hin
      have C1 := Lib.hid (CH.out wr HBR.out); rw [D1] at C1
      clear ho1 D1 hin
      obtain ⟨f3, f4, f5, f7, f8, f9, hg⟩ := HROW.out wr HBR.out
      go_wp2_with fail
      refine C1.out.mono ?_
      rintro e w' ⟨rfl, rfl⟩
      go_wp2_with fail
      clear f3 f4 f5 f7 f8 f9 hg
      refine (CB.out _).mono ?_
      rintro e w4 ⟨rfl, hb4⟩
      have HB4 := Lib.hid (belT2 HBR.out hb4)
      clear hb4
      by_cases hin2 : x ∈ y.us
      case pos =>
        rw [if_pos hin2] at HSB LB
        have hor2 := or_i64_ b m2 (by omega) (by have := m2_lt LB; omega)
        obtain ⟨o2, ho2⟩ : ∃ o, b ||| m2 = o := ⟨_, rfl⟩
        rw [ho2] at hor2 HSB LB
        have D2 : decide (x ∈ y.us) = true := decide_eq_true hin2
        have C2 := Lib.hid (CH2.out w4 HB4.out); rw [D2] at C2
        have C3 := Lib.hid (CB2.out hin2)
        clear ho2 D2 hin2
        obtain ⟨f3, f4, f5, f7, f8, f9, hg⟩ := HROW.out w4 HB4.out
        go_wp2_with fail
        refine C2.out.mono ?_
        rintro e w' ⟨rfl, rfl⟩
        go_wp2_with fail
        clear f3 f4 f5 f7 f8 f9 hg
        refine (C3.out _).mono ?_
        rintro e w5 ⟨rfl, hb5⟩
        have HB5 := Lib.hid (belT2 HB4.out hb5)
        clear hb5
        go_wp2
        go_roundw
        case rel => exact ⟨k + 1, o1, o2, by omega, by go_num, rfl, rfl, HSA, HSB, by omega, by omega, HB5.out⟩
        case measure => simp [intOf]; omega
      case neg =>
        rw [if_neg hin2] at HSB LB
        have D2 : decide (x ∈ y.us) = false := decide_eq_false hin2
        have C2 := Lib.hid (CH2.out w4 HB4.out); rw [D2] at C2
        clear D2 hin2
        obtain ⟨f3, f4, f5, f7, f8, f9, hg⟩ := HROW.out w4 HB4.out
        go_wp2_with fail
        refine C2.out.mono ?_
        rintro e w' ⟨rfl, rfl⟩
        clear f3 f4 f5 f7 f8 f9 hg
        go_wp2
        go_roundw
        case rel => exact ⟨k + 1, o1, b, by omega, by go_num, rfl, rfl, HSA, HSB, by omega, by omega, HB4.out⟩
        case measure => simp [intOf]; omega
    case neg =>
      rw [if_neg hin] at HSA LA
      have D1 : decide (x ∈ y.zs) = false := decide_eq_false hin
      have C1 := Lib.hid (CH.out wr HBR.out); rw [D1] at C1
      clear D1 hin
      obtain ⟨f3, f4, f5, f7, f8, f9, hg⟩ := HROW.out wr HBR.out
      go_wp2_with fail
      refine C1.out.mono ?_
      rintro e w' ⟨rfl, rfl⟩
      clear f3 f4 f5 f7 f8 f9 hg
      by_cases hin2 : x ∈ y.us
      case pos =>
        rw [if_pos hin2] at HSB LB
        have hor2 := or_i64_ b m2 (by omega) (by have := m2_lt LB; omega)
        obtain ⟨o2, ho2⟩ : ∃ o, b ||| m2 = o := ⟨_, rfl⟩
        rw [ho2] at hor2 HSB LB
        have D2 : decide (x ∈ y.us) = true := decide_eq_true hin2
        have C2 := Lib.hid (CH2.out wr HBR.out); rw [D2] at C2
        have C3 := Lib.hid (CB2.out hin2)
        clear ho2 D2 hin2
        obtain ⟨f3, f4, f5, f7, f8, f9, hg⟩ := HROW.out wr HBR.out
        go_wp2_with fail
        refine C2.out.mono ?_
        rintro e w' ⟨rfl, rfl⟩
        go_wp2_with fail
        clear f3 f4 f5 f7 f8 f9 hg
        refine (C3.out _).mono ?_
        rintro e w5 ⟨rfl, hb5⟩
        have HB5 := Lib.hid (belT2 HBR.out hb5)
        clear hb5
        go_wp2
        go_roundw
        case rel => exact ⟨k + 1, a, o2, by omega, by go_num, rfl, rfl, HSA, HSB, by omega, by omega, HB5.out⟩
        case measure => simp [intOf]; omega
      case neg =>
        rw [if_neg hin2] at HSB LB
        have D2 : decide (x ∈ y.us) = false := decide_eq_false hin2
        have C2 := Lib.hid (CH2.out wr HBR.out); rw [D2] at C2
        clear D2 hin2
        obtain ⟨f3, f4, f5, f7, f8, f9, hg⟩ := HROW.out wr HBR.out
        go_wp2_with fail
        refine C2.out.mono ?_
        rintro e w' ⟨rfl, rfl⟩
        clear f3 f4 f5 f7 f8 f9 hg
        go_wp2
        go_roundw
        case rel => exact ⟨k + 1, a, b, by omega, by go_num, rfl, rfl, HSA, HSB, by omega, by omega, HBR.out⟩
        case measure => simp [intOf]; omega
set_option maxRecDepth 100000 in
set_option maxHeartbeats 8000000 in
theorem specSM {g1 g2 g3 n1 n2 n3 c1 c2 B : Nat} {ss : List ByteArray} {fs : List Q4} {ys : List Sv} {ds : List SvD} {w : World} (h : NetAt g1 g2 n1 n2 c1 c2 ss fs w) (hT : Svs B g3 n3 ys w) (hd : ys.map Sv.d = ds) (hs : n3 ≤ 1048576) :
    Calls Tryd.prog 8 #[.agg #[.slice (some ⟨g1, 0, none⟩) n1 c1, .slice (some ⟨g2, 0, none⟩) n2 c2], .slice (some ⟨g3, 0, none⟩) n3 n3] w (SmP (smW ss fs ds) (smU ss fs ds) (pb (svsP ss fs ds)) w) := by
  have HL2 := Lib.hid h.ln2
  have hn2m := h.sm2
  obtain ⟨L1, hL1⟩ : ∃ r, smW ss fs ds = r := ⟨_, rfl⟩
  obtain ⟨L2, hL2⟩ : ∃ r, smU ss fs ds = r := ⟨_, rfl⟩
  obtain ⟨rb, hrb⟩ : ∃ r, pb (svsP ss fs ds) = r := ⟨_, rfl⟩
  have HNO : Hid (rb = false → L1 = [] ∧ L2 = []) := Lib.hid (fun e => by rw [← hL1, ← hL2]; exact sm_no (hrb.trans e))
  have HYES : Hid (rb = true → L1 = smL (wkN ds) n2 ∧ L2 = smL (spN ds) n2) := Lib.hid (fun e => by rw [← hL1, ← hL2, ← HL2.out]; exact sm_yes (hrb.trans e))
  have CG : Hid (∀ U, Below w.heap.size w U → Calls Tryd.prog 27 #[.agg #[.slice (some ⟨g1, 0, none⟩) n1 c1, .slice (some ⟨g2, 0, none⟩) n2 c2], .slice (some ⟨g3, 0, none⟩) n3 n3] U (RetP (.bool rb) U)) := Lib.hid (fun U hU => by rw [← hrb]; exact l13Good_ (h.moved hU) (hT.moved hU) hd hs)
  have CM : Hid (rb = true → ∀ U, Below w.heap.size w U → ∀ x : Int, Calls Tryd.prog 28 #[.slice (some ⟨g3, 0, none⟩) n3 n3, .int .i64 x] U (RetP (.tuple #[.int .i64 (wkN ds x : Int), .int .i64 (spN ds x : Int)]) U)) := Lib.hid (fun e U hU x => by
    have hv := of_pb (hrb.trans e)
    exact l13Masks_ (hT.moved hU) hd hs (fun i hi => (hv.2.2.1 i hi).1.2.1.2) (fun i hi e => svP_b2 (hv.2.2.1 i hi).1 e) x)
  rw [hL1, hL2, hrb]
  clear h hT hd hL1 hL2 hrb
  go_enter Tryd.func8, Tryd.ntmps8
  go_wp2_with fail
  obtain ⟨W0, hW0⟩ : ∃ W0, ((w.alloc (Obj.cells #[.slice (some ⟨g1, 0, none⟩) n1 c1, .slice (some ⟨g2, 0, none⟩) n2 c2] 34)).alloc (Obj.cells #[] 3)).alloc (Obj.cells #[] 3) = W0 := ⟨_, rfl⟩
  have hb0 : Below w.heap.size w W0 := by rw [← hW0]; exact (((Below.refl _ _).alloc (Nat.le_refl _) _).alloc (by simp) _).alloc (by simp; omega) _
  have k0 : W0.cell? ⟨w.heap.size, 0, none⟩ = some (.slice (some ⟨g1, 0, none⟩) n1 c1) := by rw [← hW0]; simp [go_sem]
  have k1 : W0.cell? ⟨w.heap.size, 1, none⟩ = some (.slice (some ⟨g2, 0, none⟩) n2 c2) := by rw [← hW0]; simp [go_sem]
  have hz0 : W0.heap.size = w.heap.size + 3 := by rw [← hW0]; simp
  have HO1 : Hid (W0.ownsRow (w.heap.size + 1) 3 1 (.slice (some ⟨w.heap.size + 1, 0, none⟩) 0 0) 0 []) := Lib.hid (by rw [← hW0]; exact (litS (by simp) _ (by simp)).alloc _)
  have HO2 : Hid (W0.ownsRow (w.heap.size + 1) 3 1 (.slice (some ⟨w.heap.size + 1 + 1, 0, none⟩) 0 0) 0 []) := Lib.hid (by rw [← hW0]; exact litS (by simp) _ (by simp))
  have HP0 : Hid (Apart (.slice (some ⟨w.heap.size + 1, 0, none⟩) 0 0) (.slice (some ⟨w.heap.size + 1 + 1, 0, none⟩) 0 0)) := Lib.hid (fun g h1 h2 => by simp [Value.ownBlock] at h1 h2; omega)
  have HB0 := Lib.hid hb0; have HZ0 := Lib.hid hz0
  have HK : Hid (∀ u, Below (w.heap.size + 1) W0 u → u.cell? ⟨w.heap.size, 0, none⟩ = some (.slice (some ⟨g1, 0, none⟩) n1 c1) ∧ u.cell? ⟨w.heap.size, 1, none⟩ = some (.slice (some ⟨g2, 0, none⟩) n2 c2) ∧ w.heap.size + 3 ≤ u.heap.size) := Lib.hid fun u hu => ⟨(hu.cell (p := ⟨w.heap.size, 0, none⟩) (by show w.heap.size < _; omega)).trans k0, (hu.cell (p := ⟨w.heap.size, 1, none⟩) (by show w.heap.size < _; omega)).trans k1, by have := hu.size; omega⟩
  rw [hW0]
  clear hW0 hb0 k0 k1 hz0
  refine (CG.out _ HB0.out).mono ?_
  rintro e w1 ⟨rfl, hb1⟩
  have HB1 : Hid (Below (w.heap.size + 1) W0 w1) := Lib.hid (hb1.mono (by have := HZ0.out; omega))
  have HO1_ := Lib.hid (ownB HO1.out hb1)
  have HO2_ := Lib.hid (ownB HO2.out hb1)
  obtain ⟨q0, q1, q2⟩ := HK.out w1 HB1.out
  clear hb1
  cases rb
  case false =>
    have HE := Lib.hid (HNO.out rfl)
    clear q0 q1 q2
    go_wp2
    go_ret3
    obtain ⟨rfl, rfl⟩ := HE.out
    exact ⟨_, _, 0, 0, 0, 0, rfl, Lib.hid rfl, Lib.hid rfl, own_base HO1_.out (Nat.le_succ _), own_base HO2_.out (Nat.le_succ _), HP0, HB0.out.trans (HB1.out.mono (Nat.le_succ _))⟩
  case true =>
  have HE := Lib.hid (HYES.out rfl)
  have CMt := Lib.hid (CM.out rfl)
  clear CM HNO HYES CG q0 q1 q2
  go_wp2
  go_loopw [7, 8, 9] (fun u v i wr => ∃ (k : Nat) (A1 A2 : Option Addr) (N1 d1 N2 d2 : Nat), k ≤ n2 ∧ i = .int .i64 k ∧ u = .slice A1 N1 d1 ∧ v = .slice A2 N2 d2 ∧ Hid (N1 = k) ∧ Hid (N2 = k) ∧ Hid (wr.ownsRow (w.heap.size + 1) 3 1 (.slice A1 N1 d1) N1 ((smL (wkN ds) k).map (Value.int .i64))) ∧ Hid (wr.ownsRow (w.heap.size + 1) 3 1 (.slice A2 N2 d2) N2 ((smL (spN ds) k).map (Value.int .i64))) ∧ Hid (Apart (.slice A1 N1 d1) (.slice A2 N2 d2)) ∧ Below (w.heap.size + 1) W0 wr) (fun _ _ i _ => n2 - (intOf i).toNat)
  case atStart => exact ⟨0, _, _, 0, _, 0, _, Nat.zero_le _, rfl, rfl, rfl, Lib.hid rfl, Lib.hid rfl, HO1_, HO2_, HP0, HB1.out⟩
  case round =>
    clear HO1 HO2 HO1_ HO2_ HP0
    obtain ⟨k, A1, A2, N1, d1, N2, d2, hk, rfl, rfl, rfl, HE1, HE2, HO1, HO2, HP12, hb⟩ := hrel
    have HBR := Lib.hid hb
    have HBW := Lib.hid (HB0.out.trans (hb.mono (Nat.le_succ _)))
    obtain ⟨q0, q1, q2⟩ := HK.out wr hb
    have HSZ := Lib.hid q2
    have hgw : w.heap.size < wr.heap.size := by omega
    clear hb
    by_cases hlt : k < n2
    case neg =>
      obtain rfl : n2 = k := by omega
      clear hlt
      go_wp2
      go_ret3
      obtain ⟨e1, e2⟩ := HE.out
      refine ⟨A1, A2, N1, N2, d1, d2, rfl, Lib.hid (by rw [e1, smL_len]; exact HE1.out), Lib.hid (by rw [e2, smL_len]; exact HE2.out), by rw [e1]; exact own_base HO1.out (Nat.le_succ _), by rw [e2]; exact own_base HO2.out (Nat.le_succ _), HP12, HBW.out⟩
    case pos =>
    have hN1 : N1 ≤ 1048576 := by have := HE1.out; omega
    have hN2 : N2 ≤ 1048576 := by have := HE2.out; omega
    have HS1 := Lib.hid (smL_snoc (wkN ds) k)
    have HS2 := Lib.hid (smL_snoc (spN ds) k)
    have CMk := Lib.hid (CMt.out wr HBW.out (k : Int))
    obtain ⟨a, ha⟩ : ∃ a, wkN ds (k : Int) = a := ⟨_, rfl⟩
    obtain ⟨b, hb9⟩ : ∃ a, spN ds (k : Int) = a := ⟨_, rfl⟩
    rw [ha] at HS1 CMk; rw [hb9] at HS2 CMk
    clear ha hb9
    go_wp2_with fail
    clear q0 q1
    refine CMk.out.mono ?_
    rintro e w2 ⟨rfl, hb2⟩
    have HB2 : Hid (Below (w.heap.size + 1) W0 w2) := Lib.hid (HBR.out.trans (hb2.mono (by have := HSZ.out; omega)))
    have HSZ2 : Hid (w.heap.size + 3 ≤ w2.heap.size) := Lib.hid (by have := HSZ.out; have := hb2.size; omega)
    have HO1b := Lib.hid (ownB HO1.out hb2); have HO2b := Lib.hid (ownB HO2.out hb2)
    clear hb2 HO1 HO2
    go_wp2_with (at_builtin; refine wp_app rfl (.tmp 33) (.tmp 35) 29 3 rfl (w.heap.size + 1) Tryd.underlying29 Tryd.inf_int rfl (by decide) (by decide) _ N1 _ rfl (HO1b.out.alloc _) _ _ [.int .i64 (a : Int)] rfl rfl (news1 (new_at_ _ _ _ _ rfl)) (news_int _) (by omega) (by have := HSZ2.out; simp; omega) ?_)
    intro A3 d3 N3 w3 hN3 hown3 hgrow3 hloc3
    have HB3 : Hid (Below (w.heap.size + 1) W0 w3) := Lib.hid ((HB2.out.alloc (by have := HSZ2.out; omega) _).grown hgrow3 (by have := HSZ2.out; simp; omega) (fun g hg => (HO1b.out.lt g hg).1))
    have HSZ3 : Hid (w.heap.size + 3 ≤ w3.heap.size) := Lib.hid (by have := HB3.out.size; have := HZ0.out; omega)
    have HO3 : Hid (w3.ownsRow (w.heap.size + 1) 3 1 (.slice A3 N3 d3) N3 ((smL (wkN ds) (k + 1)).map (Value.int .i64))) := Lib.hid (by rw [HS1.out, List.map_append]; exact hown3)
    have HO4 := Lib.hid (HP12.out.symm.kept (HO2b.out.alloc _) hgrow3)
    have HP1 : Hid (Apart (.slice A2 N2 d2) (.slice A3 N3 d3)) := Lib.hid (apart_loc HP12.out.symm HO2b.out (by have := HSZ2.out; omega) hloc3)
    have HE3 : Hid (N3 = k + 1) := Lib.hid (by have := HE1.out; omega)
    clear hown3 hgrow3 hloc3 hN3 HO1b HO2b
    go_wp2_with (at_builtin; refine wp_app rfl (.tmp 37) (.tmp 39) 29 3 rfl (w.heap.size + 1) Tryd.underlying29 Tryd.inf_int rfl (by decide) (by decide) _ N2 _ rfl (HO4.out.alloc _) _ _ [.int .i64 (b : Int)] rfl rfl (news1 (new_at_ _ _ _ _ rfl)) (news_int _) (by omega) (by have := HSZ3.out; simp; omega) ?_)
    intro A4 d4 N4 w4 hN4 hown4 hgrow4 hloc4
    have HB4 : Hid (Below (w.heap.size + 1) W0 w4) := Lib.hid ((HB3.out.alloc (by have := HSZ3.out; omega) _).grown hgrow4 (by have := HSZ3.out; simp; omega) (fun g hg => (HO4.out.lt g hg).1))
    have HO5 : Hid (w4.ownsRow (w.heap.size + 1) 3 1 (.slice A4 N4 d4) N4 ((smL (spN ds) (k + 1)).map (Value.int .i64))) := Lib.hid (by rw [HS2.out, List.map_append]; exact hown4)
    have HO6 := Lib.hid (HP1.out.symm.kept (HO3.out.alloc _) hgrow4)
    have HP2 : Hid (Apart (.slice A3 N3 d3) (.slice A4 N4 d4)) := Lib.hid (apart_loc HP1.out.symm HO3.out (by have := HSZ3.out; omega) hloc4)
    have HE4 : Hid (N4 = k + 1) := Lib.hid (by have := HE2.out; omega)
    clear hown4 hgrow4 hloc4 hN4
    go_wp2
    go_roundw
    case rel => exact ⟨k + 1, A3, A4, N3, d3, N4, d4, by omega, by go_num, rfl, rfl, HE3, HE4, HO6, HO5, HP2, HB4.out⟩
    case measure => simp [intOf]; omega
end Go.Proofs.YtlgkjidginibdaaDoor
