/- Contracts of the law's helpers over a route (copy, compare, size, mark), and a route as an argument. No condition but those typed. -/
import Derived.Test.YtcbjdfgmkiodkaaInts
import Derived.Test.YtcbjdfgmkiodkaaStrS
import Derived.Test.YtcbjdfgmkiodkaaNetS
import Derived.Test.YtcbjdfgmkiodkaaIntW
import Derived.Deep.RegionHeld3
import Derived.Deep.DeepCutAuto
import Derived.Deep.DeepMust
namespace Go.Proofs.Ytcbjdfgmkiodkaa
open Go.ChangeShapes Go.WideShapes Go.ChangeAt Go.RowKit Go.Deep

section
variable {H : Type} {enc : TypeId × Value → H} {P : Program} {w : World} {held : Bool}
/-- a struct of an int and a list of ints as an argument. -/
theorem open_rt {b0 : Nat} {t e1 : TypeId} {f0 f1 : Field} {v : Value} {d : DataW H} {p : List MemPlace} (hs : P.underlying t = some (.struct #[f0, f1])) (hone : oneCellFields P #[f0, f1] = true) (hC : P.cellsOf t = 2)
    (u0 : P.underlying f0.type = some (.int .i64)) (u1 : P.underlying f1.type = some (.slice e1)) (ue1 : P.underlying e1 = some (.int .i64)) (ce1 : P.cellsOf e1 = 1)
    (hv : Value.okWide P w .any b0 t v) (h : DataW.Trod enc P w 0 (fun _ => true) held t v d p) :
    ∃ (st : Int) (A : Option Addr) (n c : Nat) (zs : List Int), v = .agg #[.int .i64 st, .slice A n c] ∧ (Lit.int .i64 st).wf = true ∧
      (zs.length = n ∧ n ≤ maxLen ∧ Rd w w.heap.size A (zs.map (Value.int .i64)) ∧ (∀ z ∈ zs, (Lit.int .i64 z).wf = true)) := by
  obtain ⟨cs, rfl, hsz⟩ := okWide_struct hs hv
  obtain ⟨l⟩ := cs
  match l, hsz.trans hC with
  | [x0, x1], _ =>
    obtain ⟨fuel, hf⟩ := h
    obtain ⟨ys, n, _, hx, _, hlen, hg⟩ := DataW.trod_struct hs hf
    obtain ⟨o0, k0⟩ := hone_of hone 0 f0 rfl
    obtain ⟨o1, k1⟩ := hone_of hone 1 f1 rfl
    match ys, hlen with
    | [y0, y1], _ =>
      have g0 : DataW.trod enc P w 0 (fun _ => true) held n f0.type [x0] = some y0 := by simpa [Value.cells, o0, k0] using hg 0 f0 rfl
      have g1 : DataW.trod enc P w 0 (fun _ => true) held n f1.type [x1] = some y1 := by simpa [Value.cells, o1, k1] using hg 1 f1 rfl
      obtain ⟨z, hz, _, hwf⟩ := DataW.trod_int u0 g0
      obtain ⟨A1, n1, c1, zs, e1, a1, a2, a3, a4⟩ := rd_ints u1 ue1 ce1 g1
      injection e1 with e1
      subst e1
      have hz' : x0 = .int .i64 z := by simpa using hz
      subst hz'
      exact ⟨z, A1, n1, c1, zs, rfl, hwf, ⟨a1, a2, a3, a4⟩⟩
end

set_option maxHeartbeats 400000 in
theorem szInts (A : Option Addr) (n c : Nat) (left : Int) (w : World) (hm : n ≤ maxLen) (hl0 : 0 ≤ left) (hl1 : left ≤ 1048576) :
    Calls Try.prog 126 #[.slice A n c, .int .i64 left] w fun e w' => ∃ v : Int, e = .returned (.int .i64 v) ∧ w = w' ∧ -1 ≤ v ∧ v ≤ left ∧ (0 ≤ v → v + n ≤ left) := by
  unfold maxLen at hm
  by_cases hc : left - n < 0
  · go_enter Try.func126, Try.ntmps126
    go_wp2
    go_ret
    exact ⟨-1, rfl, rfl, by omega, by omega, by omega⟩
  · have hc' : 0 ≤ left - n := by omega
    clear hc
    go_enter Try.func126, Try.ntmps126
    go_wp2
    go_ret
    exact ⟨left - n, rfl, rfl, by omega, by omega, by omega⟩
def RtSz (left : Int) (n : Nat) (w : World) (e : Ending) (w' : World) : Prop := ∃ v : Int, e = .returned (.int .i64 v) ∧ Below w.heap.size w w' ∧ -1 ≤ v ∧ v ≤ left ∧ (0 ≤ v → v + n ≤ left)
set_option maxHeartbeats 400000 in
theorem szRt (st : Int) (A : Option Addr) (n c : Nat) (left : Int) (w : World) (hm : n ≤ maxLen) (hl0 : 0 ≤ left) (hl1 : left ≤ 1048576) :
    Calls Try.prog 34 #[.agg #[.int .i64 st, .slice A n c], .int .i64 left] w (RtSz left n w) := by
  have HB := Lib.hid ((Below.refl w.heap.size w).alloc (Nat.le_refl _) (Obj.cells #[.int .i64 st, .slice A n c] 41))
  have hm' := hm
  unfold maxLen at hm'
  have CS := Lib.hid (fun W => szInts A n c left W hm hl0 hl1)
  clear hm
  go_enter Try.func34, Try.ntmps34
  go_wp2_with fail
  refine (CS.out _).mono ?_
  rintro e w1 ⟨v, rfl, rfl, h0, h1, h2⟩
  have H2 := Lib.hid h2; clear h2
  by_cases hv : v < 0
  · go_wp2
    go_ret
    exact ⟨-1, rfl, HB.out, by omega, by omega, by omega⟩
  · have hv' : 0 ≤ v := by omega
    clear hv
    go_wp2
    go_ret
    exact ⟨v, rfl, HB.out, h0, h1, H2.out⟩
def RtOut (st : Int) (zs : List Int) (n : Nat) (w : World) (e : Ending) (w' : World) : Prop := ∃ g, e = .returned (.agg #[.int .i64 st, .slice (some ⟨g, 0, none⟩) n n]) ∧ w.heap.size ≤ g ∧
  w'.ownsRow w.heap.size 3 1 (.slice (some ⟨g, 0, none⟩) n n) n (zs.map (Value.int .i64)) ∧ Below w.heap.size w w'
set_option maxHeartbeats 1000000 in
theorem toRt (st : Int) (A : Option Addr) (n c : Nat) (zs : List Int) (w : World) (hn : zs.length = n) (hr : Rd w w.heap.size A (zs.map (Value.int .i64))) (hs : n ≤ 1048576) :
    Calls Try.prog 36 #[.agg #[.int .i64 st, .slice A n c]] w (RtOut st zs n w) := by
  have HN := Lib.hid hn; have HR := Lib.hid hr
  clear hn hr
  go_enter Try.func36, Try.ntmps36
  go_wp2_with fail
  have hb0 := (((Below.refl w.heap.size w).alloc (Nat.le_refl _) (Obj.cells #[.int .i64 st, .slice A n c] 41)).alloc (by simp) (Obj.cells #[.int .i64 0, .slice none 0 0] 45)).alloc (by simp; omega) (Obj.cells #[.int .i64 st, .slice none 0 0] 45)
  have HB0 := Lib.hid hb0
  refine (toIntS A n c zs _ HN.out (HR.out.moved hb0) hs).mono ?_
  clear hb0
  rintro e w2 ⟨g1, hg1, rfl, hown1, hb2⟩
  obtain ⟨hc, hf⟩ := bcell hb2
  have hz := hb2.size
  have hb02 : Below w.heap.size w w2 := HB0.out.trans (hb2.mono HB0.out.size)
  simp at hg1 hz
  have HO := Lib.hid (own_base hown1 (B' := w.heap.size) (by simp; omega))
  have HB2 := Lib.hid hb02
  clear hown1 hb02 hb2
  have hza : w.heap.size + 1 + 1 < w2.heap.size := by omega
  have hzb : w.heap.size + 1 < w2.heap.size := by omega
  have hzc : w.heap.size < w2.heap.size := by omega
  go_wp2
  refine bodyPost_ret (v := .agg #[.int .i64 st, .slice (some ⟨g1, 0, none⟩) n n]) (by simp [results, Try.results36, go_sem, hc, hz, hza, hzb, hzc]) rfl ⟨g1, rfl, by omega, ?_, ?_⟩
  · exact own_set (own_set (own_set HO.out (p := ⟨_, _, none⟩) (by simp; omega) _) (p := ⟨_, _, none⟩) (by simp; omega) _) (p := ⟨_, _, none⟩) (by simp; omega) _
  · exact ((HB2.out.setCell (p := ⟨_, _, none⟩) (by simp; omega) _).setCell (p := ⟨_, _, none⟩) (by simp) _).setCell (p := ⟨_, _, none⟩) (by simp) _

set_option maxHeartbeats 1000000 in
theorem eqRt (st : Int) (g g' n c c' : Nat) (zs : List Int) (w : World) (hn : zs.length = n) (hs : n ≤ 1048576) (hr : Rd w w.heap.size (some ⟨g, 0, none⟩) (zs.map (Value.int .i64))) (hr' : Rd w w.heap.size (some ⟨g', 0, none⟩) (zs.map (Value.int .i64))) :
    Calls Try.prog 38 #[.agg #[.int .i64 st, .slice (some ⟨g, 0, none⟩) n c], .agg #[.int .i64 st, .slice (some ⟨g', 0, none⟩) n c']] w fun e w' => e = .returned (.bool true) ∧ Below w.heap.size w w' := by
  have hb0 := ((Below.refl w.heap.size w).alloc (Nat.le_refl _) (Obj.cells #[.int .i64 st, .slice (some ⟨g, 0, none⟩) n c] 45)).alloc (by simp) (Obj.cells #[.int .i64 st, .slice (some ⟨g', 0, none⟩) n c'] 45)
  have HB := Lib.hid hb0
  have CE := Lib.hid (eqIntS g g' n c c' zs _ hn (hr.moved hb0) (hr'.moved hb0) hs)
  clear hn hr hr' hb0
  go_enter Try.func38, Try.ntmps38
  go_wp2_with fail
  refine CE.out.mono ?_
  rintro e w1 ⟨rfl, hb1⟩
  have HB1 := Lib.hid (HB.out.trans (hb1.mono HB.out.size))
  clear hb1
  go_wp2
  go_ret
  exact ⟨rfl, HB1.out⟩

/-- ints marked from k on. -/
def MarkK (k : Int) (n g : Nat) (w : World) (e : Ending) (w' : World) : Prop := e = .returned (.int .i64 (k + n)) ∧ Off (· = g) w w'
set_option maxHeartbeats 1000000 in
theorem markIntsK (g n c : Nat) (k : Int) (zs : List Int) (w : World) {B : Nat} (ho : w.ownsRow B 3 1 (.slice (some ⟨g, 0, none⟩) n c) n (zs.map (Value.int .i64))) (hn : n ≤ 1048576) (h0 : 0 ≤ k) (h1 : k ≤ 100000000) :
    Calls Try.prog 43 #[.slice (some ⟨g, 0, none⟩) n c, .int .i64 k] w (MarkK k n g w) := by
  have HO := Lib.hid ho; clear ho
  go_enter Try.func43, Try.ntmps43
  go_wp2
  go_loopw [1, 5] (fun q i wr => ∃ (j : Nat) (ys : List Value), j ≤ n ∧ i = .int .i64 j ∧ q = .int .i64 (k + j) ∧ Off (· = g) w wr ∧ wr.ownsRow B 3 1 (.slice (some ⟨g, 0, none⟩) n c) n ys) (fun _ i _ => n - (intOf i).toNat)
  case atStart => exact ⟨0, _, Nat.zero_le _, rfl, by simp, Off.refl _ _, HO.out⟩
  case round =>
    obtain ⟨j, ys, hj, rfl, rfl, hoff, hown⟩ := hrel
    have HF := Lib.hid hoff; clear hoff
    by_cases hlt : j < n
    · have hyl := hown.1
      have hold := hown.cellAt j (by omega)
      rw [List.getElem?_eq_getElem (by omega)] at hold
      have hfz := hown.frozenAt j
      have HST := Lib.hid (hown.stored j (.int .i64 (k + j))).1
      obtain ⟨old, ho⟩ : ∃ v, ys[j]'(by omega) = v := ⟨_, rfl⟩
      rw [ho] at hold
      clear hown hyl ho
      go_wp2
      go_roundw
      case rel => exact ⟨j + 1, _, by omega, by go_num, by go_num, HF.out.set_ (p := ⟨g, _, none⟩) rfl _, HST.out⟩
      case measure => simp [intOf]; omega
    · have hjn : j = n := by omega
      subst hjn
      clear hlt hown
      go_wp2
      go_ret
      exact ⟨rfl, HF.out⟩
theorem markRt (st : Int) (g n c : Nat) (k : Int) (zs : List Int) (w : World) {B : Nat} (ho : w.ownsRow B 3 1 (.slice (some ⟨g, 0, none⟩) n c) n (zs.map (Value.int .i64))) (hn : n ≤ 1048576) (h0 : 0 ≤ k) (h1 : k ≤ 100000000) :
    Calls Try.prog 42 #[.agg #[.int .i64 st, .slice (some ⟨g, 0, none⟩) n c], .int .i64 k] w (MarkK k n g w) := by
  have hb0 := (Below.refl w.heap.size w).alloc (Nat.le_refl _) (Obj.cells #[.int .i64 st, .slice (some ⟨g, 0, none⟩) n c] 45)
  have HB := Lib.hid hb0
  have CM := Lib.hid (markIntsK g n c k zs _ (ownB ho hb0) hn h0 h1)
  clear ho hb0
  go_enter Try.func42, Try.ntmps42
  go_wp2_with fail
  refine CM.out.mono ?_
  rintro e w1 ⟨rfl, hoff⟩
  have HF := Lib.hid ((Off.ofBelow HB.out).trans hoff)
  clear hoff
  go_wp2
  go_ret
  exact ⟨rfl, HF.out⟩

def MarkB (g1 g2 : Nat) (w : World) (e : Ending) (w' : World) : Prop := ∃ v : Int, e = .returned (.int .i64 v) ∧ 0 ≤ v ∧ v ≤ 50000000 ∧ Off (fun b => b = g1 ∨ b = g2) w w'
set_option maxHeartbeats 1000000 in
theorem markNetB (g1 g2 n1 n2 c1 c2 : Nat) (xs ys : List Value) (w : World) (ho1 : w.ownsRow 0 9 1 (.slice (some ⟨g1, 0, none⟩) n1 c1) n1 xs) (hs1 : n1 ≤ 1048576)
    (ho2 : w.ownsRow 0 172 4 (.slice (some ⟨g2, 0, none⟩) n2 c2) n2 ys) (hs2 : n2 ≤ 1048576) (hne : g1 ≠ g2) :
    Calls Try.prog 31 #[.agg #[.slice (some ⟨g1, 0, none⟩) n1 c1, .slice (some ⟨g2, 0, none⟩) n2 c2], .int .i64 1] w (MarkB g1 g2 w) := by
  have hb0 := (Below.refl w.heap.size w).alloc (Nat.le_refl _) (Obj.cells #[.slice (some ⟨g1, 0, none⟩) n1 c1, .slice (some ⟨g2, 0, none⟩) n2 c2] 32)
  have HB0 := Lib.hid hb0
  have HO1 := Lib.hid (ownB ho1 hb0); have HO2 := Lib.hid (ownB ho2 hb0)
  have hl1 := ho1.lt g1 rfl
  have hl2 := ho2.lt g2 rfl
  have HNE := Lib.hid hne
  clear hb0 ho1 ho2 hne
  go_enter Try.func31, Try.ntmps31
  go_wp2_with fail
  obtain ⟨W, hW⟩ : ∃ W, (w.alloc (Obj.cells #[.slice (some ⟨g1, 0, none⟩) n1 c1, .slice (some ⟨g2, 0, none⟩) n2 c2] 32)) = W := ⟨_, rfl⟩
  have hk1 : W.cell? ⟨w.heap.size, 1, none⟩ = some (.slice (some ⟨g2, 0, none⟩) n2 c2) := by rw [← hW]; simp [go_sem]
  have hz : w.heap.size < W.heap.size := by rw [← hW]; simp
  rw [hW] at HB0 HO1 HO2 ⊢
  clear hW
  refine (markStrS g1 n1 c1 1 _ W HO1.out hs1 (by omega) (by omega)).mono ?_
  rintro e w2 ⟨rfl, hof1, zs, hown1⟩
  have k1 := (hof1.cell (p := ⟨w.heap.size, 1, none⟩) hz (by show ¬ w.heap.size = g1; omega)).trans hk1
  have HO22 := Lib.hid (hof1.own HO2.out (fun h => HNE.out h.symm))
  have HF1 := Lib.hid hof1
  clear hof1 hown1 hk1 hz
  have e1 : (1 : Int) + (n1 : Int) ≤ 10000000 := by omega
  go_wp2_with fail
  refine (markFibS g2 n2 c2 (1 + n1) _ w2 HO22.out hs2 (by omega) (by omega)).mono ?_
  rintro e w3 ⟨rfl, hof2⟩
  have HF2 := Lib.hid hof2; clear hof2
  go_wp2
  go_ret
  exact ⟨_, rfl, by omega, by omega, ((Off.ofBelow HB0.out).trans (HF1.out.wider fun k h => .inl h)).trans (HF2.out.wider fun k h => .inr h)⟩

end Go.Proofs.Ytcbjdfgmkiodkaa
