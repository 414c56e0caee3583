/- Contracts of the law's helpers over a frame (copy, compare, size), and a frame as an argument. No condition but those typed. -/
import Derived.Test.YtgaankdmppoghabInts
import Derived.Test.YtgaankdmppoghabMk
import Derived.OneCell
import Derived.Deep.RegionHeld3
import Derived.Deep.DeepCutAuto
import Derived.Deep.DeepMust
namespace Go.Proofs.Ytgaankdmppoghab
open Go.ChangeShapes Go.WideShapes Go.ChangeAt Go.RowKit Go.Deep

section
variable {H : Type} {enc : TypeId × Value → H} {P : Program} {w : World} {held : Bool}
/-- a struct of two ints and a list of ints as an argument. -/
theorem open_fr {b0 : Nat} {t e1 : TypeId} {f0 f1 f2 : Field} {v : Value} {d : DataW H} {p : List MemPlace} (hs : P.underlying t = some (.struct #[f0, f1, f2])) (hone : oneCellFields P #[f0, f1, f2] = true) (hC : P.cellsOf t = 3)
    (u0 : P.underlying f0.type = some (.int .i64)) (u2 : P.underlying f1.type = some (.int .i64)) (u1 : P.underlying f2.type = some (.slice e1)) (ue1 : P.underlying e1 = some (.int .i64)) (ce1 : P.cellsOf e1 = 1)
    (hv : Value.okWide P w .any b0 t v) (h : DataW.Trod enc P w 0 (fun _ => true) held t v d p) :
    ∃ (st sp : Int) (A : Option Addr) (n c : Nat) (zs : List Int), v = .agg #[.int .i64 st, .int .i64 sp, .slice A n c] ∧
      (zs.length = n ∧ n ≤ maxLen ∧ Rd w w.heap.size A (zs.map (Value.int .i64)) ∧ (∀ z ∈ zs, (Lit.int .i64 z).wf = true)) := by
  obtain ⟨cs, rfl, hsz⟩ := okWide_struct hs hv
  obtain ⟨l⟩ := cs
  match l, hsz.trans hC with
  | [x0, x1, x2], _ =>
    obtain ⟨fuel, hf⟩ := h
    obtain ⟨ys, n, _, hx, _, hlen, hg⟩ := DataW.trod_struct hs hf
    obtain ⟨o0, k0⟩ := hone_of hone 0 f0 rfl
    obtain ⟨o1, k1⟩ := hone_of hone 1 f1 rfl
    obtain ⟨o2, k2⟩ := hone_of hone 2 f2 rfl
    match ys, hlen with
    | [y0, y1, y2], _ =>
      have g0 : DataW.trod enc P w 0 (fun _ => true) held n f0.type [x0] = some y0 := by simpa [Value.cells, o0, k0] using hg 0 f0 rfl
      have g1 : DataW.trod enc P w 0 (fun _ => true) held n f1.type [x1] = some y1 := by simpa [Value.cells, o1, k1] using hg 1 f1 rfl
      have g2 : DataW.trod enc P w 0 (fun _ => true) held n f2.type [x2] = some y2 := by simpa [Value.cells, o2, k2] using hg 2 f2 rfl
      obtain ⟨z, hz, _, _⟩ := DataW.trod_int u0 g0
      obtain ⟨z', hz', _, _⟩ := DataW.trod_int u2 g1
      obtain ⟨A1, n1, c1, zs, e1, a1, a2, a3, a4⟩ := rd_ints u1 ue1 ce1 g2
      injection e1 with e1
      subst e1
      have hz2 : x0 = .int .i64 z := by simpa using hz
      have hz3 : x1 = .int .i64 z' := by simpa using hz'
      subst hz2 hz3
      exact ⟨z, z', A1, n1, c1, zs, rfl, ⟨a1, a2, a3, a4⟩⟩
end

set_option maxHeartbeats 400000 in
theorem szInts (A : Option Addr) (n c : Nat) (left : Int) (w : World) (hm : n ≤ maxLen) (hl0 : 0 ≤ left) (hl1 : left ≤ 1048576) :
    Calls Try.prog 54 #[.slice A n c, .int .i64 left] w fun e w' => ∃ v : Int, e = .returned (.int .i64 v) ∧ w = w' ∧ -1 ≤ v ∧ v ≤ left ∧ (0 ≤ v → v + n ≤ left) := by
  unfold maxLen at hm
  by_cases hc : left - n < 0
  · go_enter Try.func54, Try.ntmps54
    go_wp2
    go_ret
    exact ⟨-1, rfl, rfl, by omega, by omega, by omega⟩
  · have hc' : 0 ≤ left - n := by omega
    clear hc
    go_enter Try.func54, Try.ntmps54
    go_wp2
    go_ret
    exact ⟨left - n, rfl, rfl, by omega, by omega, by omega⟩
def FrSz (left : Int) (n : Nat) (w : World) (e : Ending) (w' : World) : Prop := ∃ v : Int, e = .returned (.int .i64 v) ∧ Below w.heap.size w w' ∧ -1 ≤ v ∧ v ≤ left ∧ (0 ≤ v → v + n ≤ left)
set_option maxHeartbeats 400000 in
theorem szFr (st sp : Int) (A : Option Addr) (n c : Nat) (left : Int) (w : World) (hm : n ≤ maxLen) (hl0 : 0 ≤ left) (hl1 : left ≤ 1048576) :
    Calls Try.prog 11 #[.agg #[.int .i64 st, .int .i64 sp, .slice A n c], .int .i64 left] w (FrSz left n w) := by
  have HB := Lib.hid ((Below.refl w.heap.size w).alloc (Nat.le_refl _) (Obj.cells #[.int .i64 st, .int .i64 sp, .slice A n c] 24))
  have hm' := hm
  unfold maxLen at hm'
  have CS := Lib.hid (fun W => szInts A n c left W hm hl0 hl1)
  clear hm
  go_enter Try.func11, Try.ntmps11
  go_wp2_with fail
  refine (CS.out _).mono ?_
  rintro e w1 ⟨v, rfl, rfl, h0, h1, h2⟩
  have H2 := Lib.hid h2; clear h2
  by_cases hv : v < 0
  · go_wp2
    go_ret
    exact ⟨-1, rfl, HB.out, by omega, by omega, by omega⟩
  · have hv' : 0 ≤ v := by omega
    clear hv
    go_wp2
    go_ret
    exact ⟨v, rfl, HB.out, h0, h1, H2.out⟩
theorem own_setF {w : World} {B E s n c : Nat} {A : Option Addr} {xs : List Value} (h : w.ownsRow B E s (.slice A n c) n xs) {p : Addr} (hp : (Value.slice A n c).ownBlock ≠ some p.block) (u : Value) : (w.setCell p u).ownsRow B E s (.slice A n c) n xs := ownsRow_setCell_other h hp u
def FrOut (st sp : Int) (zs : List Int) (n : Nat) (w : World) (e : Ending) (w' : World) : Prop := ∃ g, e = .returned (.agg #[.int .i64 st, .int .i64 sp, .slice (some ⟨g, 0, none⟩) n n]) ∧ w.heap.size ≤ g ∧
  w'.ownsRow w.heap.size 3 1 (.slice (some ⟨g, 0, none⟩) n n) n (zs.map (Value.int .i64)) ∧ Below w.heap.size w w'
set_option maxHeartbeats 1000000 in
theorem toFr (st sp : Int) (A : Option Addr) (n c : Nat) (zs : List Int) (w : World) (hn : zs.length = n) (hr : Rd w w.heap.size A (zs.map (Value.int .i64))) (hs : n ≤ 1048576) :
    Calls Try.prog 13 #[.agg #[.int .i64 st, .int .i64 sp, .slice A n c]] w (FrOut st sp zs n w) := by
  have HN := Lib.hid hn; have HR := Lib.hid hr
  clear hn hr
  go_enter Try.func13, Try.ntmps13
  go_wp2_with fail
  have hb0 := (((Below.refl w.heap.size w).alloc (Nat.le_refl _) (Obj.cells #[.int .i64 st, .int .i64 sp, .slice A n c] 24)).alloc (by simp) (Obj.cells #[.int .i64 0, .int .i64 0, .slice none 0 0] 27)).alloc (by simp; omega) (Obj.cells #[.int .i64 st, .int .i64 sp, .slice none 0 0] 27)
  have HB0 := Lib.hid hb0
  refine (toIntS A n c zs _ HN.out (HR.out.moved hb0) hs).mono ?_
  clear hb0
  rintro e w2 ⟨g1, hg1, rfl, hown1, hb2⟩
  obtain ⟨hc, hf⟩ := bcell hb2
  have hz := hb2.size
  have hb02 : Below w.heap.size w w2 := HB0.out.trans (hb2.mono HB0.out.size)
  simp at hg1 hz
  have HO := Lib.hid (own_base_ hown1 (B' := w.heap.size) (by simp; omega))
  have HB2 := Lib.hid hb02
  clear hown1 hb02 hb2
  have hza : w.heap.size + 1 + 1 < w2.heap.size := by omega
  have hzb : w.heap.size + 1 < w2.heap.size := by omega
  have hzc : w.heap.size < w2.heap.size := by omega
  go_wp2
  refine bodyPost_ret (v := .agg #[.int .i64 st, .int .i64 sp, .slice (some ⟨g1, 0, none⟩) n n]) (by simp [results, Try.results13, go_sem, hc, hz, hza, hzb, hzc]) rfl ⟨g1, rfl, by omega, ?_, ?_⟩
  · exact own_setF (own_setF (own_setF (own_setF HO.out (p := ⟨_, _, none⟩) (by simp [Value.ownBlock]; omega) _) (p := ⟨_, _, none⟩) (by simp [Value.ownBlock]; omega) _) (p := ⟨_, _, none⟩) (by simp [Value.ownBlock]; omega) _) (p := ⟨_, _, none⟩) (by simp [Value.ownBlock]; omega) _
  · exact (((HB2.out.setCell (p := ⟨_, _, none⟩) (by simp; omega) _).setCell (p := ⟨_, _, none⟩) (by simp) _).setCell (p := ⟨_, _, none⟩) (by simp) _).setCell (p := ⟨_, _, none⟩) (by simp) _

set_option maxHeartbeats 1000000 in
theorem eqFr (st sp : Int) (g g' n c c' : Nat) (zs : List Int) (w : World) (hn : zs.length = n) (hs : n ≤ 1048576) (hr : Rd w w.heap.size (some ⟨g, 0, none⟩) (zs.map (Value.int .i64))) (hr' : Rd w w.heap.size (some ⟨g', 0, none⟩) (zs.map (Value.int .i64))) :
    Calls Try.prog 15 #[.agg #[.int .i64 st, .int .i64 sp, .slice (some ⟨g, 0, none⟩) n c], .agg #[.int .i64 st, .int .i64 sp, .slice (some ⟨g', 0, none⟩) n c']] w fun e w' => e = .returned (.bool true) ∧ Below w.heap.size w w' := by
  have hb0 := ((Below.refl w.heap.size w).alloc (Nat.le_refl _) (Obj.cells #[.int .i64 st, .int .i64 sp, .slice (some ⟨g, 0, none⟩) n c] 27)).alloc (by simp) (Obj.cells #[.int .i64 st, .int .i64 sp, .slice (some ⟨g', 0, none⟩) n c'] 27)
  have HB := Lib.hid hb0
  have CE := Lib.hid (eqIntS g g' n c c' zs _ hn (hr.moved hb0) (hr'.moved hb0) hs)
  clear hn hr hr' hb0
  go_enter Try.func15, Try.ntmps15
  go_wp2_with fail
  refine CE.out.mono ?_
  rintro e w1 ⟨rfl, hb1⟩
  have HB1 := Lib.hid (HB.out.trans (hb1.mono HB.out.size))
  clear hb1
  go_wp2
  go_ret
  exact ⟨rfl, HB1.out⟩

end Go.Proofs.Ytgaankdmppoghab
