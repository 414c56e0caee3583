/- Texts of one group, joined: RtS, Nest, BlkN, NeLt, NeRq, NeFr, NeRo, PlS, Nmk. No condition but those typed. -/
import Derived.Test.YtlgkjidginibdaaDoorGA
import Derived.Test.YtlgkjidginibdaaDoorGB
import Derived.Deep.RegionHeld3
import Derived.Deep.DeepCutAuto
import Derived.Deep.DeepMust
import Derived.WalkKit
import Derived.ProofKit
import Derived.LoopTactic
import Derived.Deep.QuietTactic
import Derived.BigQuiet
import Derived.IntWalk
namespace Go.Proofs.YtlgkjidginibdaaDoor
open Go.ChangeShapes Go.WideShapes Go.ChangeAt Go.RowKit Go.Deep

section
variable {H : Type} {enc : TypeId × Value → H} {P : Program} {w : World} {held : Bool}
/-- a struct of an int and a list of ints as an argument. -/
theorem open_rt {b0 : Nat} {t e1 : TypeId} {f0 f1 : Field} {v : Value} {d : DataW H} {p : List MemPlace} (hs : P.underlying t = some (.struct #[f0, f1])) (hone : oneCellFields P #[f0, f1] = true) (hC : P.cellsOf t = 2)
    (u0 : P.underlying f0.type = some (.int .i64)) (u1 : P.underlying f1.type = some (.slice e1)) (ue1 : P.underlying e1 = some (.int .i64)) (ce1 : P.cellsOf e1 = 1)
    (hv : Value.okWide P w .any b0 t v) (h : DataW.Trod enc P w 0 (fun _ => true) held t v d p) :
    ∃ (st : Int) (A : Option Addr) (n c : Nat) (zs : List Int), v = .agg #[.int .i64 st, .slice A n c] ∧ (Lit.int .i64 st).wf = true ∧
      (zs.length = n ∧ n ≤ maxLen ∧ Rd w w.heap.size A (zs.map (Value.int .i64)) ∧ (∀ z ∈ zs, (Lit.int .i64 z).wf = true)) := by
  obtain ⟨cs, rfl, hsz⟩ := okWide_struct hs hv
  obtain ⟨l⟩ := cs
  match l, hsz.trans hC with
  | [x0, x1], _ =>
    obtain ⟨fuel, hf⟩ := h
    obtain ⟨ys, n, _, hx, _, hlen, hg⟩ := DataW.trod_struct hs hf
    obtain ⟨o0, k0⟩ := hone_of hone 0 f0 rfl
    obtain ⟨o1, k1⟩ := hone_of hone 1 f1 rfl
    match ys, hlen with
    | [y0, y1], _ =>
      have g0 : DataW.trod enc P w 0 (fun _ => true) held n f0.type [x0] = some y0 := by simpa [Value.cells, o0, k0] using hg 0 f0 rfl
      have g1 : DataW.trod enc P w 0 (fun _ => true) held n f1.type [x1] = some y1 := by simpa [Value.cells, o1, k1] using hg 1 f1 rfl
      obtain ⟨z, hz, _, hwf⟩ := DataW.trod_int u0 g0
      obtain ⟨A1, n1, c1, zs, e1, a1, a2, a3, a4⟩ := rd_ints u1 ue1 ce1 g1
      injection e1 with e1
      subst e1
      have hz' : x0 = .int .i64 z := by simpa using hz
      subst hz'
      exact ⟨z, A1, n1, c1, zs, rfl, hwf, ⟨a1, a2, a3, a4⟩⟩
end

set_option maxHeartbeats 400000 in
theorem szInts (A : Option Addr) (n c : Nat) (left : Int) (w : World) (hm : n ≤ maxLen) (hl0 : 0 ≤ left) (hl1 : left ≤ 1048576) :
    Calls Tryd.prog 76 #[.slice A n c, .int .i64 left] w fun e w' => ∃ v : Int, e = .returned (.int .i64 v) ∧ w = w' ∧ -1 ≤ v ∧ v ≤ left ∧ (0 ≤ v → v + n ≤ left) := by
  unfold maxLen at hm
  by_cases hc : left - n < 0
  · go_enter Tryd.func76, Tryd.ntmps76
    go_wp2
    go_ret
    exact ⟨-1, rfl, rfl, by omega, by omega, by omega⟩
  · have hc' : 0 ≤ left - n := by omega
    clear hc
    go_enter Tryd.func76, Tryd.ntmps76
    go_wp2
    go_ret
    exact ⟨left - n, rfl, rfl, by omega, by omega, by omega⟩
def RtSz (left : Int) (n : Nat) (w : World) (e : Ending) (w' : World) : Prop := ∃ v : Int, e = .returned (.int .i64 v) ∧ Below w.heap.size w w' ∧ -1 ≤ v ∧ v ≤ left ∧ (0 ≤ v → v + n ≤ left)
set_option maxHeartbeats 400000 in
theorem szRt (st : Int) (A : Option Addr) (n c : Nat) (left : Int) (w : World) (hm : n ≤ maxLen) (hl0 : 0 ≤ left) (hl1 : left ≤ 1048576) :
    Calls Tryd.prog 54 #[.agg #[.int .i64 st, .slice A n c], .int .i64 left] w (RtSz left n w) := by
  have HB := Lib.hid ((Below.refl w.heap.size w).alloc (Nat.le_refl _) (Obj.cells #[.int .i64 st, .slice A n c] 54))
  have hm' := hm
  unfold maxLen at hm'
  have CS := Lib.hid (fun W => szInts A n c left W hm hl0 hl1)
  clear hm
  go_enter Tryd.func54, Tryd.ntmps54
  go_wp2_with fail
  refine (CS.out _).mono ?_
  rintro e w1 ⟨v, rfl, rfl, h0, h1, h2⟩
  have H2 := Lib.hid h2; clear h2
  by_cases hv : v < 0
  · go_wp2
    go_ret
    exact ⟨-1, rfl, HB.out, by omega, by omega, by omega⟩
  · have hv' : 0 ≤ v := by omega
    clear hv
    go_wp2
    go_ret
    exact ⟨v, rfl, HB.out, h0, h1, H2.out⟩
def RtOut (st : Int) (zs : List Int) (n : Nat) (w : World) (e : Ending) (w' : World) : Prop := ∃ g, e = .returned (.agg #[.int .i64 st, .slice (some ⟨g, 0, none⟩) n n]) ∧ w.heap.size ≤ g ∧
  w'.ownsRow w.heap.size 3 1 (.slice (some ⟨g, 0, none⟩) n n) n (zs.map (Value.int .i64)) ∧ Below w.heap.size w w'
set_option maxHeartbeats 1000000 in
theorem toRt (st : Int) (A : Option Addr) (n c : Nat) (zs : List Int) (w : World) (hn : zs.length = n) (hr : Rd w w.heap.size A (zs.map (Value.int .i64))) (hs : n ≤ 1048576) :
    Calls Tryd.prog 60 #[.agg #[.int .i64 st, .slice A n c]] w (RtOut st zs n w) := by
  have HN := Lib.hid hn; have HR := Lib.hid hr
  clear hn hr
  go_enter Tryd.func60, Tryd.ntmps60
  go_wp2_with fail
  have hb0 := (((Below.refl w.heap.size w).alloc (Nat.le_refl _) (Obj.cells #[.int .i64 st, .slice A n c] 54)).alloc (by simp) (Obj.cells #[.int .i64 0, .slice none 0 0] 64)).alloc (by simp; omega) (Obj.cells #[.int .i64 st, .slice none 0 0] 64)
  have HB0 := Lib.hid hb0
  refine (toIntS A n c zs _ HN.out (HR.out.moved hb0) hs).mono ?_
  clear hb0
  rintro e w2 ⟨g1, hg1, rfl, hown1, hb2⟩
  obtain ⟨hc, hf⟩ := bcell hb2
  have hz := hb2.size
  have hb02 : Below w.heap.size w w2 := HB0.out.trans (hb2.mono HB0.out.size)
  simp at hg1 hz
  have HO := Lib.hid (own_base hown1 (B' := w.heap.size) (by simp; omega))
  have HB2 := Lib.hid hb02
  clear hown1 hb02 hb2
  have hza : w.heap.size + 1 + 1 < w2.heap.size := by omega
  have hzb : w.heap.size + 1 < w2.heap.size := by omega
  have hzc : w.heap.size < w2.heap.size := by omega
  go_wp2
  refine bodyPost_ret (v := .agg #[.int .i64 st, .slice (some ⟨g1, 0, none⟩) n n]) (by simp [results, Tryd.results60, go_sem, hc, hz, hza, hzb, hzc]) rfl ⟨g1, rfl, by omega, ?_, ?_⟩
  · exact own_set (own_set (own_set HO.out (p := ⟨_, _, none⟩) (by simp; omega) _) (p := ⟨_, _, none⟩) (by simp; omega) _) (p := ⟨_, _, none⟩) (by simp; omega) _
  · exact ((HB2.out.setCell (p := ⟨_, _, none⟩) (by simp; omega) _).setCell (p := ⟨_, _, none⟩) (by simp) _).setCell (p := ⟨_, _, none⟩) (by simp) _

set_option maxHeartbeats 1000000 in
theorem eqRt (st : Int) (g g' n c c' : Nat) (zs : List Int) (w : World) (hn : zs.length = n) (hs : n ≤ 1048576) (hr : Rd w w.heap.size (some ⟨g, 0, none⟩) (zs.map (Value.int .i64))) (hr' : Rd w w.heap.size (some ⟨g', 0, none⟩) (zs.map (Value.int .i64))) :
    Calls Tryd.prog 68 #[.agg #[.int .i64 st, .slice (some ⟨g, 0, none⟩) n c], .agg #[.int .i64 st, .slice (some ⟨g', 0, none⟩) n c']] w fun e w' => e = .returned (.bool true) ∧ Below w.heap.size w w' := by
  have hb0 := ((Below.refl w.heap.size w).alloc (Nat.le_refl _) (Obj.cells #[.int .i64 st, .slice (some ⟨g, 0, none⟩) n c] 64)).alloc (by simp) (Obj.cells #[.int .i64 st, .slice (some ⟨g', 0, none⟩) n c'] 64)
  have HB := Lib.hid hb0
  have CE := Lib.hid (eqIntS g g' n c c' zs _ hn (hr.moved hb0) (hr'.moved hb0) hs)
  clear hn hr hr' hb0
  go_enter Tryd.func68, Tryd.ntmps68
  go_wp2_with fail
  refine CE.out.mono ?_
  rintro e w1 ⟨rfl, hb1⟩
  have HB1 := Lib.hid (HB.out.trans (hb1.mono HB.out.size))
  clear hb1
  go_wp2
  go_ret
  exact ⟨rfl, HB1.out⟩

/-- ints marked from k on. -/
def MarkK (k : Int) (n g : Nat) (w : World) (e : Ending) (w' : World) : Prop := e = .returned (.int .i64 (k + n)) ∧ Off (· = g) w w'
set_option maxHeartbeats 1000000 in
theorem markIntsK (g n c : Nat) (k : Int) (zs : List Int) (w : World) {B : Nat} (ho : w.ownsRow B 3 1 (.slice (some ⟨g, 0, none⟩) n c) n (zs.map (Value.int .i64))) (hn : n ≤ 1048576) (h0 : 0 ≤ k) (h1 : k ≤ 100000000) :
    Calls Tryd.prog 17 #[.slice (some ⟨g, 0, none⟩) n c, .int .i64 k] w (MarkK k n g w) := by
  have HO := Lib.hid ho; clear ho
  go_enter Tryd.func17, Tryd.ntmps17
  go_wp2
  go_loopw [1, 5] (fun q i wr => ∃ (j : Nat) (ys : List Value), j ≤ n ∧ i = .int .i64 j ∧ q = .int .i64 (k + j) ∧ Off (· = g) w wr ∧ wr.ownsRow B 3 1 (.slice (some ⟨g, 0, none⟩) n c) n ys) (fun _ i _ => n - (intOf i).toNat)
  case atStart => exact ⟨0, _, Nat.zero_le _, rfl, by simp, Off.refl _ _, HO.out⟩
  case round =>
    obtain ⟨j, ys, hj, rfl, rfl, hoff, hown⟩ := hrel
    have HF := Lib.hid hoff; clear hoff
    by_cases hlt : j < n
    · have hyl := hown.1
      have hold := hown.cellAt j (by omega)
      rw [List.getElem?_eq_getElem (by omega)] at hold
      have hfz := hown.frozenAt j
      have HST := Lib.hid (hown.stored j (.int .i64 (k + j))).1
      obtain ⟨old, ho⟩ : ∃ v, ys[j]'(by omega) = v := ⟨_, rfl⟩
      rw [ho] at hold
      clear hown hyl ho
      go_wp2
      go_roundw
      case rel => exact ⟨j + 1, _, by omega, by go_num, by go_num, HF.out.set_ (p := ⟨g, _, none⟩) rfl _, HST.out⟩
      case measure => simp [intOf]; omega
    · have hjn : j = n := by omega
      subst hjn
      clear hlt hown
      go_wp2
      go_ret
      exact ⟨rfl, HF.out⟩
def MarkB (g1 g2 : Nat) (w : World) (e : Ending) (w' : World) : Prop := ∃ v : Int, e = .returned (.int .i64 v) ∧ 0 ≤ v ∧ v ≤ 50000000 ∧ Off (fun b => b = g1 ∨ b = g2) w w'
set_option maxHeartbeats 1000000 in
theorem markNetB (g1 g2 n1 n2 c1 c2 : Nat) (xs ys : List Value) (w : World) (ho1 : w.ownsRow 0 9 1 (.slice (some ⟨g1, 0, none⟩) n1 c1) n1 xs) (hs1 : n1 ≤ 1048576)
    (ho2 : w.ownsRow 0 97 4 (.slice (some ⟨g2, 0, none⟩) n2 c2) n2 ys) (hs2 : n2 ≤ 1048576) (hne : g1 ≠ g2) :
    Calls Tryd.prog 15 #[.agg #[.slice (some ⟨g1, 0, none⟩) n1 c1, .slice (some ⟨g2, 0, none⟩) n2 c2], .int .i64 1] w (MarkB g1 g2 w) := by
  have hb0 := (Below.refl w.heap.size w).alloc (Nat.le_refl _) (Obj.cells #[.slice (some ⟨g1, 0, none⟩) n1 c1, .slice (some ⟨g2, 0, none⟩) n2 c2] 34)
  have HB0 := Lib.hid hb0
  have HO1 := Lib.hid (ownB ho1 hb0); have HO2 := Lib.hid (ownB ho2 hb0)
  have hl1 := ho1.lt g1 rfl
  have hl2 := ho2.lt g2 rfl
  have HNE := Lib.hid hne
  clear hb0 ho1 ho2 hne
  go_enter Tryd.func15, Tryd.ntmps15
  go_wp2_with fail
  obtain ⟨W, hW⟩ : ∃ W, (w.alloc (Obj.cells #[.slice (some ⟨g1, 0, none⟩) n1 c1, .slice (some ⟨g2, 0, none⟩) n2 c2] 34)) = W := ⟨_, rfl⟩
  have hk1 : W.cell? ⟨w.heap.size, 1, none⟩ = some (.slice (some ⟨g2, 0, none⟩) n2 c2) := by rw [← hW]; simp [go_sem]
  have hz : w.heap.size < W.heap.size := by rw [← hW]; simp
  rw [hW] at HB0 HO1 HO2 ⊢
  clear hW
  refine (markStrS g1 n1 c1 1 _ W HO1.out hs1 (by omega) (by omega)).mono ?_
  rintro e w2 ⟨rfl, hof1, zs, hown1⟩
  have k1 := (hof1.cell (p := ⟨w.heap.size, 1, none⟩) hz (by show ¬ w.heap.size = g1; omega)).trans hk1
  have HO22 := Lib.hid (hof1.own HO2.out (fun h => HNE.out h.symm))
  have HF1 := Lib.hid hof1
  clear hof1 hown1 hk1 hz
  have e1 : (1 : Int) + (n1 : Int) ≤ 10000000 := by omega
  go_wp2_with fail
  refine (markFibS g2 n2 c2 (1 + n1) _ w2 HO22.out hs2 (by omega) (by omega)).mono ?_
  rintro e w3 ⟨rfl, hof2⟩
  have HF2 := Lib.hid hof2; clear hof2
  go_wp2
  go_ret
  exact ⟨_, rfl, by omega, by omega, ((Off.ofBelow HB0.out).trans (HF1.out.wider fun k h => .inl h)).trans (HF2.out.wider fun k h => .inr h)⟩

end Go.Proofs.YtlgkjidginibdaaDoor

namespace Go.Proofs.YtlgkjidginibdaaDoor
open Go.ChangeShapes Go.WideShapes Go.ChangeAt Go.RowKit Go.Deep

theorem Rd.rowK {α : Type} {w : World} {B : Nat} {A : Option Addr} {g : α → List Value} {K : Nat} (hg : ∀ x, (g x).length = K) (h0 : 0 < K) {xs : List α} (h : Rd w B A (xs.flatMap g)) {i : Nat} (hi : i < xs.length) :
    ∃ ad, A = some ad ∧ ad.block < B ∧ ∀ j, j < K → w.cell? (ad.add (i * K + j)) = (g xs[i])[j]? := by
  have hget := fun j hj => flat_get g K xs (fun r _ => hg r) i j hj
  rw [List.getElem?_eq_getElem hi] at hget
  have hsome : ∀ j, j < K → ∃ u, (g xs[i])[j]? = some u := fun j hj => ⟨_, List.getElem?_eq_getElem (by rw [hg]; exact hj)⟩
  obtain ⟨u0, hu0⟩ := hsome 0 h0
  obtain ⟨ad, e, hb, _⟩ := h (i * K + 0) u0 ((hget 0 h0).trans hu0)
  refine ⟨ad, e, hb, fun j hj => ?_⟩
  obtain ⟨u, hu⟩ := hsome j hj
  obtain ⟨ad', e', _, hc⟩ := h (i * K + j) u ((hget j hj).trans hu)
  rw [e] at e'
  injection e' with e'
  subst e'
  rw [hc, hu]
/-- what make lays: the zero row again and again. -/
theorem madeK (z : Array Value) (n K : Nat) (hK : z.size = K) (h0 : 0 < K) : (madeCells z (n * K)).toList = (List.replicate n ()).flatMap fun _ => z.toList := by
  have hlen : ((List.replicate n ()).flatMap fun _ => z.toList).length = n * K := by
    rw [flat_len (fun _ => z.toList) K _ (fun _ _ => by simpa using hK), List.length_replicate]
  apply List.ext_getElem?
  intro j
  by_cases hj : j < n * K
  · have hi : j / K < n := (Nat.div_lt_iff_lt_mul h0).2 hj
    have hm : j % K < K := Nat.mod_lt _ h0
    have hje : j = j / K * K + j % K := by rw [Nat.mul_comm]; exact (Nat.div_add_mod j K).symm
    have hg := flat_get (fun _ : Unit => z.toList) K (List.replicate n ()) (fun _ _ => by simpa using hK) (j / K) (j % K) hm
    rw [← hje, List.getElem?_replicate, if_pos hi] at hg
    rw [hg]
    have : z[j % K]! = z[j % K]'(by omega) := by simp [hK, hm]
    simp [madeCells, hj, hK, hm]
  · rw [List.getElem?_eq_none (l := (madeCells z (n * K)).toList) (by rw [Array.length_toList, size_madeCells]; omega), List.getElem?_eq_none (by rw [hlen]; omega)]
section
variable {H : Type} {enc : TypeId × Value → H} {P : Program} {w : World} {held : Bool}
/-- a slice argument read row by row, by whatever reads one row. -/
theorem rd_rowsG {α : Type} (cells : α → List Value) (In : α → Prop) (K : Nat) {t e : TypeId} {fuel : Nat} {cs : List Value} {x : DataW H × List MemPlace} (ht : P.underlying t = some (.slice e)) (hC : P.cellsOf e = K) (h0 : 0 < K) (hg : ∀ r, (cells r).length = K)
    (hrow : ∀ (fuel : Nat) (cs : List Value) (x : DataW H × List MemPlace), DataW.trod enc P w 0 (fun _ => true) held fuel e cs = some x → ∃ r : α, cs = cells r ∧ In r) (h : DataW.trod enc P w 0 (fun _ => true) held fuel t cs = some x) :
    ∃ (A : Option Addr) (n c : Nat) (rows : List α), cs = [.slice A n c] ∧ rows.length = n ∧ n ≤ maxLen ∧ Rd w w.heap.size A (rows.flatMap cells) ∧ ∀ r ∈ rows, In r := by
  rcases open_slice ht h with ⟨rfl, _⟩ | ⟨a, len, cap, m, n, D, Pl, rfl, _, hl, hm, hmm, _, hx⟩
  · exact ⟨none, 0, 0, [], rfl, rfl, by unfold maxLen; omega, fun k u hu => by simp at hu, fun s hs => by simp at hs⟩
  · simp only [if_true] at hmm
    subst hmm
    have each : ∀ i, i < m → ∃ r : α, In r ∧ ∀ j, j < K → w.cell? (a.add (i * K + j)) = (cells r)[j]? := by
      intro i hi
      obtain ⟨cs', hc, ht'⟩ := hx i hi
      rw [hC] at hc
      obtain ⟨r, rfl, hin⟩ := hrow _ _ _ ht'
      obtain ⟨_, _, hat⟩ := World.cells?_some hc
      exact ⟨r, hin, fun j hj => by rw [← hat j hj, add_add]⟩
    have hlm : len ≤ m := hl
    have all : ∀ k, k ≤ len → ∃ rows : List α, rows.length = k ∧ (∀ r ∈ rows, In r) ∧ ∀ i (hi : i < rows.length), ∀ j, j < K → w.cell? (a.add (i * K + j)) = (cells rows[i])[j]? := by
      intro k
      induction k with
      | zero => exact fun _ => ⟨[], rfl, fun r hr => by simp at hr, fun i hi => by simp at hi⟩
      | succ k ih =>
        intro hk
        obtain ⟨rows, h1, h2, h3⟩ := ih (by omega)
        obtain ⟨r, h4, h5⟩ := each k (by omega)
        refine ⟨rows ++ [r], by simp [h1], fun q hq => ?_, fun i hi j hj => ?_⟩
        · rcases List.mem_append.1 hq with hq | hq
          · exact h2 q hq
          · rw [List.mem_singleton.1 hq]; exact h4
        · by_cases hir : i < rows.length
          · rw [List.getElem_append_left hir]; exact h3 i hir j hj
          · have e : i = k := by simp at hi; omega
            subst e
            rw [List.getElem_append_right (by omega)]
            simp only [h1, Nat.sub_self, List.getElem_cons_zero]
            exact h5 j hj
    obtain ⟨rows, h1, h2, h3⟩ := all len (Nat.le_refl _)
    refine ⟨some a, len, m, rows, rfl, h1, by omega, ?_, h2⟩
    intro p u hu
    have hlen := flat_len cells K rows (fun r _ => hg r)
    have hp : p < rows.length * K := by
      rw [← hlen]
      exact (List.getElem?_eq_some_iff.1 hu).1
    have hi : p / K < rows.length := (Nat.div_lt_iff_lt_mul h0).2 hp
    have hj : p % K < K := Nat.mod_lt _ h0
    have hpe : p = p / K * K + p % K := by rw [Nat.mul_comm]; exact (Nat.div_add_mod p K).symm
    have hget := flat_get cells K rows (fun r _ => hg r) (p / K) (p % K) hj
    rw [← hpe, hu, List.getElem?_eq_getElem hi] at hget
    have hcell := h3 (p / K) hi (p % K) hj
    rw [← hpe] at hcell
    have hcell' : w.cell? (a.add p) = some u := by rw [hcell, hget]; rfl
    exact ⟨a, rfl, by rw [← addBlock a p]; exact World.block_lt_of_cell? w _ hcell', hcell'⟩
theorem tr_int {t : TypeId} {fuel : Nat} {v : Value} {x : DataW H × List MemPlace} (ht : P.underlying t = some (.int .i64)) (h : DataW.trod enc P w 0 (fun _ => true) held fuel t [v] = some x) : ∃ z : Int, v = .int .i64 z ∧ (Lit.int .i64 z).wf = true := by
  obtain ⟨z, hz, _, hwf⟩ := DataW.trod_int ht h
  exact ⟨z, by simpa using hz, hwf⟩
/-- a struct of an int and a list of ints. -/
theorem tr_rt {t e1 : TypeId} {f0 f1 : Field} {fuel : Nat} {x0 x1 : Value} {x : DataW H × List MemPlace} (hs : P.underlying t = some (.struct #[f0, f1])) (o0 : f0.offset = 0) (k0 : P.cellsOf f0.type = 1) (o1 : f1.offset = 1) (k1 : P.cellsOf f1.type = 1)
    (u0 : P.underlying f0.type = some (.int .i64)) (u1 : P.underlying f1.type = some (.slice e1)) (ue1 : P.underlying e1 = some (.int .i64)) (ce1 : P.cellsOf e1 = 1)
    (h : DataW.trod enc P w 0 (fun _ => true) held fuel t [x0, x1] = some x) :
    ∃ (st : Int) (A : Option Addr) (n c : Nat) (zs : List Int), x0 = .int .i64 st ∧ x1 = .slice A n c ∧ (Lit.int .i64 st).wf = true ∧ (zs.length = n ∧ n ≤ maxLen ∧ Rd w w.heap.size A (zs.map (Value.int .i64)) ∧ (∀ z ∈ zs, (Lit.int .i64 z).wf = true)) := by
  obtain ⟨ys, n, _, hx, _, hlen, hg⟩ := DataW.trod_struct hs h
  match ys, hlen with
  | [y0, y1], _ =>
    have g0 : DataW.trod enc P w 0 (fun _ => true) held n f0.type [x0] = some y0 := by simpa [o0, k0] using hg 0 f0 rfl
    have g1 : DataW.trod enc P w 0 (fun _ => true) held n f1.type [x1] = some y1 := by simpa [o1, k1] using hg 1 f1 rfl
    obtain ⟨z, hz, hwf⟩ := tr_int u0 g0
    obtain ⟨A1, n1, c1, zs, e1, a⟩ := rd_ints u1 ue1 ce1 g1
    injection e1 with e1
    exact ⟨z, A1, n1, c1, zs, hz, e1, hwf, a⟩
/-- a struct of two ints. -/
theorem tr_q2 {t : TypeId} {f0 f1 : Field} {fuel : Nat} {x0 x1 : Value} {x : DataW H × List MemPlace} (hs : P.underlying t = some (.struct #[f0, f1])) (o0 : f0.offset = 0) (k0 : P.cellsOf f0.type = 1) (o1 : f1.offset = 1) (k1 : P.cellsOf f1.type = 1)
    (u0 : P.underlying f0.type = some (.int .i64)) (u1 : P.underlying f1.type = some (.int .i64)) (h : DataW.trod enc P w 0 (fun _ => true) held fuel t [x0, x1] = some x) :
    ∃ a b : Int, x0 = .int .i64 a ∧ x1 = .int .i64 b ∧ (Lit.int .i64 a).wf = true ∧ (Lit.int .i64 b).wf = true := by
  obtain ⟨ys, n, _, hx, _, hlen, hg⟩ := DataW.trod_struct hs h
  match ys, hlen with
  | [y0, y1], _ =>
    have g0 : DataW.trod enc P w 0 (fun _ => true) held n f0.type [x0] = some y0 := by simpa [o0, k0] using hg 0 f0 rfl
    have g1 : DataW.trod enc P w 0 (fun _ => true) held n f1.type [x1] = some y1 := by simpa [o1, k1] using hg 1 f1 rfl
    obtain ⟨a, ha, hwa⟩ := tr_int u0 g0
    obtain ⟨b, hb, hwb⟩ := tr_int u1 g1
    exact ⟨a, b, ha, hb, hwa, hwb⟩
end
/-- rows filled from the front, the rest as make lays it. -/
def fillG {α : Type} (cells : α → List Value) (z : List Value) (ys : List α) (m : Nat) : List Value := ys.flatMap cells ++ (List.replicate m ()).flatMap fun _ => z
theorem fillG_pre {α : Type} {cells : α → List Value} {K : Nat} (hg : ∀ x, (cells x).length = K) (ys : List α) : (ys.flatMap cells).length = ys.length * K := flat_len cells K ys (fun r _ => hg r)
theorem fillG_get {α : Type} {cells : α → List Value} {K : Nat} (hg : ∀ x, (cells x).length = K) {z : List Value} (hz : z.length = K) (ys : List α) (m j : Nat) (hm : 0 < m) (hj : j < K) : (fillG cells z ys m)[ys.length * K + j]? = z[j]? := by
  unfold fillG
  rw [List.getElem?_append_right (by rw [fillG_pre hg]; omega), fillG_pre hg, Nat.add_sub_cancel_left]
  have := flat_get (fun _ : Unit => z) K (List.replicate m ()) (fun _ _ => hz) 0 j hj
  rw [Nat.zero_mul, Nat.zero_add, List.getElem?_replicate, if_pos hm] at this
  exact this
theorem ownOff {w w' : World} {S : Nat → Prop} {B E s n g c : Nat} {xs : List Value} (h : Off S w w') (ho : w.ownsRow B E s (.slice (some ⟨g, 0, none⟩) n c) n xs) (hs : ¬ S g) : w'.ownsRow B E s (.slice (some ⟨g, 0, none⟩) n c) n xs := Off.own h ho hs
end Go.Proofs.YtlgkjidginibdaaDoor

namespace Go.Proofs.YtlgkjidginibdaaDoor
open Go.ChangeShapes Go.WideShapes Go.ChangeAt Go.RowKit

def blkP (a b : Int) : Prop := 0 ≤ a ∧ 1 ≤ b ∧ a + b ≤ 24
set_option maxHeartbeats 400000 in
theorem toBlk (x y : Int) (w : World) :
    Calls Tryd.prog 61 #[.agg #[.int .i64 x, .int .i64 y]] w fun e w' => e = .returned (.agg #[.int .i64 x, .int .i64 y]) ∧ Below w.heap.size w w' := by
  go_enter Tryd.func61, Tryd.ntmps61
  go_wp2
  exact bodyPost_ret (v := .agg #[.int .i64 x, .int .i64 y]) (by simp [results, Tryd.results61, go_sem]) rfl ⟨rfl, (((Below.refl _ _).alloc (Nat.le_refl _) _).alloc (by simp) _).alloc (by simp; omega) _⟩

set_option maxHeartbeats 1000000 in
theorem specBlk (a b : Int) (w : World) : Calls Tryd.prog 82 #[.agg #[.int .i64 a, .int .i64 b]] w (RetP (.bool (pb (blkP a b))) w) := by
  have HB := Lib.hid ((Below.refl w.heap.size w).alloc (Nat.le_refl _) (Obj.cells #[.int .i64 a, .int .i64 b] 65))
  by_cases h1 : 0 ≤ a ∧ a ≤ 23
  · have C1 := Lib.hid (fun W => in_yes a 0 23 W h1.1 h1.2)
    obtain ⟨h1a, h1b⟩ := h1
    by_cases h2 : 1 ≤ b ∧ b ≤ 24 - a
    · have HR : Hid ((.bool true : Value) = .bool (pb (blkP a b))) := Lib.hid (by rw [pb_true (show blkP a b from ⟨h1a, h2.1, by omega⟩)])
      have C2 := Lib.hid (fun W => in_yes b 1 (24 - a) W h2.1 h2.2)
      clear h2
      go_enter Tryd.func82, Tryd.ntmps82
      go_wp2_with fail
      refine (C1.out _).mono ?_
      rintro e w' ⟨rfl, rfl⟩
      go_wp2_with fail
      refine (C2.out _).mono ?_
      rintro e w' ⟨rfl, rfl⟩
      go_wp2
      go_ret
      exact retP HR.out HB.out
    · have HR : Hid ((.bool false : Value) = .bool (pb (blkP a b))) := Lib.hid (by rw [pb_false (show ¬ blkP a b from fun h => h2 ⟨h.2.1, by have := h.2.2; omega⟩)])
      have C2 := Lib.hid (fun W => in_no b 1 (24 - a) W (by omega))
      clear h2
      go_enter Tryd.func82, Tryd.ntmps82
      go_wp2_with fail
      refine (C1.out _).mono ?_
      rintro e w' ⟨rfl, rfl⟩
      go_wp2_with fail
      refine (C2.out _).mono ?_
      rintro e w' ⟨rfl, rfl⟩
      go_wp2
      go_ret
      exact retP HR.out HB.out
  · have HR : Hid ((.bool false : Value) = .bool (pb (blkP a b))) := Lib.hid (by rw [pb_false (show ¬ blkP a b from fun h => h1 ⟨h.1, by have h3 := h.2.1; have h4 := h.2.2; omega⟩)])
    have C1 := Lib.hid (fun W => in_no a 0 23 W (by omega))
    clear h1
    go_enter Tryd.func82, Tryd.ntmps82
    go_wp2_with fail
    refine (C1.out _).mono ?_
    rintro e w' ⟨rfl, rfl⟩
    go_wp2
    go_ret
    exact retP HR.out HB.out

set_option maxHeartbeats 1000000 in
theorem implBlk (a b : Int) (w : World) : Calls Tryd.prog 91 #[.agg #[.int .i64 a, .int .i64 b]] w (RetP (.bool (pb (blkP a b))) w) := by
  have HB := Lib.hid ((Below.refl w.heap.size w).alloc (Nat.le_refl _) (Obj.cells #[.int .i64 a, .int .i64 b] 65))
  by_cases h1 : 0 ≤ a
  · by_cases h2 : 1 ≤ b
    · by_cases h3 : b ≤ 24
      · have e1 : IntKind.i64.wrap (24 - b) = 24 - b := IntWalk.i64_in _ (by omega)
        by_cases h4 : a ≤ 24 - b
        · have HR : Hid ((.bool true : Value) = .bool (pb (blkP a b))) := Lib.hid (by rw [pb_true (show blkP a b from ⟨h1, h2, by omega⟩)])
          go_enter Tryd.func91, Tryd.ntmps91
          go_wp2
          go_ret
          exact retP HR.out HB.out
        · have HR : Hid ((.bool false : Value) = .bool (pb (blkP a b))) := Lib.hid (by rw [pb_false (show ¬ blkP a b from fun h => h4 (by have := h.2.2; omega))])
          have q : decide (a ≤ 24 - b) = false := decide_eq_false h4
          clear h4
          go_enter Tryd.func91, Tryd.ntmps91
          go_wp2
          go_ret
          exact retP HR.out HB.out
      · have HR : Hid ((.bool false : Value) = .bool (pb (blkP a b))) := Lib.hid (by rw [pb_false (show ¬ blkP a b from fun h => h3 (by have h4 := h.1; have := h.2.2; omega))])
        have q : decide (b ≤ 24) = false := decide_eq_false h3
        clear h3
        go_enter Tryd.func91, Tryd.ntmps91
        go_wp2
        go_ret
        exact retP HR.out HB.out
    · have HR : Hid ((.bool false : Value) = .bool (pb (blkP a b))) := Lib.hid (by rw [pb_false (show ¬ blkP a b from fun h => h2 h.2.1)])
      have q : decide (1 ≤ b) = false := decide_eq_false h2
      clear h2
      go_enter Tryd.func91, Tryd.ntmps91
      go_wp2
      go_ret
      exact retP HR.out HB.out
  · have HR : Hid ((.bool false : Value) = .bool (pb (blkP a b))) := Lib.hid (by rw [pb_false (show ¬ blkP a b from fun h => h1 h.1)])
    have q : decide (0 ≤ a) = false := decide_eq_false h1
    clear h1
    go_enter Tryd.func91, Tryd.ntmps91
    go_wp2
    go_ret
    exact retP HR.out HB.out

def bitsV (a b : Int) : Int := wrap64 (wrap64 (wrap64 (2 ^ b.toNat) - 1) * 2 ^ a.toNat)
set_option maxHeartbeats 1000000 in
theorem specBits (a b : Int) (w : World) (h : blkP a b) : Calls Tryd.prog 58 #[.agg #[.int .i64 a, .int .i64 b]] w (RetP (.int .i64 (bitsV a b)) w) := by
  obtain ⟨h1, h2, h3⟩ := h
  have h4 : b ≤ 24 := by omega
  have h5 : a ≤ 23 := by omega
  go_enter Tryd.func58, Tryd.ntmps58
  go_wp2
  go_ret
  exact retP rfl ((Below.refl _ _).alloc (Nat.le_refl _) _)
set_option maxHeartbeats 1000000 in
theorem implBits (a b : Int) (w : World) (h : blkP a b) : Calls Tryd.prog 66 #[.agg #[.int .i64 a, .int .i64 b]] w (RetP (.int .i64 (bitsV a b)) w) := by
  obtain ⟨h1, h2, h3⟩ := h
  have h4 : b ≤ 24 := by omega
  have h5 : a ≤ 23 := by omega
  go_enter Tryd.func66, Tryd.ntmps66
  go_wp2
  go_quiet (fail)
  go_wp2
  go_ret
  exact retP rfl (drewN_below ((Below.refl _ _).alloc (Nat.le_refl _) _) _)

noncomputable def maskB (a b : Int) : Bool := pb (blkP a b)
noncomputable def maskI (a b : Int) : Int := if maskB a b then bitsV a b else 0
noncomputable def maskR (a b : Int) : Value := .tuple #[.int .i64 (maskI a b), .bool (maskB a b)]

end Go.Proofs.YtlgkjidginibdaaDoor

namespace Go.Proofs.YtlgkjidginibdaaDoor
open Go.ChangeShapes Go.WideShapes Go.ChangeAt Go.RowKit Go.Deep

/-- a struct as it lies in memory. -/
structure Lt where
  p0 : Int
  p1 : Int
  A : Option Addr
  n : Nat
  c : Nat
  zs : List Int
  q0 : Int
  q1 : Int
def Lt.cells (x : Lt) : List Value := [.int .i64 x.p0, .int .i64 x.p1, .slice x.A x.n x.c, .int .i64 x.q0, .int .i64 x.q1]
theorem Lt.cells_len (x : Lt) : x.cells.length = 5 := rfl
/-- what it says. -/
structure LtD where
  p0 : Int
  p1 : Int
  zs : List Int
  q0 : Int
  q1 : Int
def Lt.d (x : Lt) : LtD := ⟨x.p0, x.p1, x.zs, x.q0, x.q1⟩
def LtIn (w : World) (x : Lt) : Prop := x.zs.length = x.n ∧ x.n ≤ maxLen ∧ Rd w w.heap.size x.A (x.zs.map (Value.int .i64))
def LtAt (w : World) (x : Lt) : Prop := x.zs.length = x.n ∧ x.n ≤ 1048576 ∧ Rd w w.heap.size x.A (x.zs.map (Value.int .i64))
theorem LtIn.moved {w w' : World} {x : Lt} (h : LtIn w x) (hb : Below w.heap.size w w') : LtIn w' x := ⟨h.1, h.2.1, h.2.2.moved hb⟩
theorem LtAt.moved {w w' : World} {x : Lt} (h : LtAt w x) (hb : Below w.heap.size w w') : LtAt w' x := ⟨h.1, h.2.1, h.2.2.moved hb⟩
theorem LtAt.zs {w : World} {x : Lt} (h : LtAt w x) : x.d.zs.length = x.n := h.1
def Lttot (xs : List Lt) : Nat := (xs.map Lt.n).sum
theorem Lttot_snoc (xs : List Lt) (k : Nat) (h : k < xs.length) : Lttot (xs.take (k + 1)) = Lttot (xs.take k) + xs[k].n := by
  unfold Lttot; rw [List.take_succ_eq_append_getElem h, List.map_append, List.sum_append]; simp
theorem Lttot_le {xs : List Lt} {x : Lt} (h : x ∈ xs) : x.n ≤ Lttot xs := by
  induction xs with
  | nil => simp at h
  | cons y ys ih =>
    have e : Lttot (y :: ys) = y.n + Lttot ys := by unfold Lttot; simp
    rcases List.mem_cons.1 h with rfl | h
    · omega
    · have := ih h; omega
theorem Rd.lt {w : World} {B : Nat} {A : Option Addr} {xs : List Lt} (h : Rd w B A (xs.flatMap Lt.cells)) {k : Nat} (hk : k < xs.length) :
    ∃ ad, A = some ad ∧ ad.block < B ∧ w.cell? (ad.add (k * 5)) = some (.int .i64 xs[k].p0) ∧ w.cell? ⟨(ad.add (k * 5)).block, (ad.add (k * 5)).off + 1, none⟩ = some (.int .i64 xs[k].p1) ∧ w.cell? ⟨(ad.add (k * 5)).block, (ad.add (k * 5)).off + 2, none⟩ = some (.slice xs[k].A xs[k].n xs[k].c) ∧ w.cell? ⟨(ad.add (k * 5)).block, (ad.add (k * 5)).off + 3, none⟩ = some (.int .i64 xs[k].q0) ∧ w.cell? ⟨(ad.add (k * 5)).block, (ad.add (k * 5)).off + 4, none⟩ = some (.int .i64 xs[k].q1) := by
  obtain ⟨ad, e, hb, hc⟩ := h.rowK Lt.cells_len (by decide) hk
  have h0 := hc 0 (by decide)
  rw [Nat.add_zero] at h0
  have h1 := hc 1 (by decide)
  rw [add_next] at h1
  have h2 := hc 2 (by decide)
  rw [add_next] at h2
  have h3 := hc 3 (by decide)
  rw [add_next] at h3
  have h4 := hc 4 (by decide)
  rw [add_next] at h4
  exact ⟨ad, e, hb, h0, h1, h2, h3, h4⟩
theorem Rd.ltc {w : World} {B b o : Nat} {xs : List Lt} (h : Rd w B (some ⟨b, o, none⟩) (xs.flatMap Lt.cells)) {k : Nat} (hk : k < xs.length) :
    b < B ∧ w.cell? ⟨b, o + k * 5, none⟩ = some (.int .i64 xs[k].p0) ∧ w.cell? ⟨b, o + k * 5 + 1, none⟩ = some (.int .i64 xs[k].p1) ∧ w.cell? ⟨b, o + k * 5 + 2, none⟩ = some (.slice xs[k].A xs[k].n xs[k].c) ∧ w.cell? ⟨b, o + k * 5 + 3, none⟩ = some (.int .i64 xs[k].q0) ∧ w.cell? ⟨b, o + k * 5 + 4, none⟩ = some (.int .i64 xs[k].q1) := by
  obtain ⟨ad, e, hb, h0, h1, h2, h3, h4⟩ := h.lt hk
  injection e with e; subst e
  have ea : (⟨b, o, none⟩ : Addr).add (k * 5) = ⟨b, o + k * 5, none⟩ := by unfold Addr.add; by_cases h : k * 5 = 0 <;> simp [h]
  rw [ea] at h0 h1 h2 h3 h4
  exact ⟨hb, h0, h1, h2, h3, h4⟩
section
variable {H : Type} {enc : TypeId × Value → H} {w : World} {held : Bool}
end
def LtSz (left : Int) (n : Nat) (w : World) (e : Ending) (w' : World) : Prop := ∃ v : Int, e = .returned (.int .i64 v) ∧ Below w.heap.size w w' ∧ -1 ≤ v ∧ v ≤ left ∧ (0 ≤ v → v + n ≤ left)
def LtOut (x : Lt) (w : World) (e : Ending) (w' : World) : Prop := ∃ g, e = .returned (.agg #[.int .i64 x.p0, .int .i64 x.p1, .slice (some ⟨g, 0, none⟩) x.n x.n, .int .i64 x.q0, .int .i64 x.q1]) ∧ w.heap.size ≤ g ∧
  w'.ownsRow w.heap.size 3 1 (.slice (some ⟨g, 0, none⟩) x.n x.n) x.n (x.zs.map (Value.int .i64)) ∧ Below w.heap.size w w'
/-- a copy's row: its ints in a block of their own. -/
def LtOwn (B g0 : Nat) (w : World) (y : Lt) : Prop := ∃ q, y.A = some ⟨q, 0, none⟩ ∧ y.c = y.n ∧ y.zs.length = y.n ∧ y.n ≤ 1048576 ∧ q ≠ g0 ∧ w.ownsRow B 3 1 (.slice (some ⟨q, 0, none⟩) y.n y.n) y.n (y.zs.map (Value.int .i64))
theorem LtOwn.at_ {B g0 : Nat} {w : World} {y : Lt} (h : LtOwn B g0 w y) : LtAt w y := by
  obtain ⟨q, e, e2, h1, h2, _, ho⟩ := h
  exact ⟨h1, h2, by rw [e]; exact Rd.ofOwnK ho⟩
theorem LtOwn.moved {B g0 : Nat} {w w' : World} {y : Lt} (h : LtOwn B g0 w y) (hb : Below w.heap.size w w') : LtOwn B g0 w' y := by
  obtain ⟨q, e, e2, h1, h2, h3, ho⟩ := h
  exact ⟨q, e, e2, h1, h2, h3, ownB ho hb⟩
theorem LtOwn.base {B B' g0 : Nat} {w : World} {y : Lt} (h : LtOwn B g0 w y) (hB : B' ≤ B) : LtOwn B' g0 w y := by
  obtain ⟨q, e, e2, h1, h2, h3, ho⟩ := h
  exact ⟨q, e, e2, h1, h2, h3, own_base ho hB⟩
theorem LtOwn.set_ {B g0 : Nat} {w : World} {y : Lt} (h : LtOwn B g0 w y) (o : Nat) (u : Value) : LtOwn B g0 (w.setCell ⟨g0, o, none⟩ u) y := by
  obtain ⟨q, e, e2, h1, h2, h3, ho⟩ := h
  exact ⟨q, e, e2, h1, h2, h3, own_set ho (p := ⟨g0, o, none⟩) (fun h => h3 h.symm) u⟩
def Ltz : List Value := [.int .i64 0, .int .i64 0, .slice none 0 0, .int .i64 0, .int .i64 0]
theorem Lt_set (ys : List Lt) (m : Nat) (y : Lt) (hm : 0 < m) : (((((fillG Lt.cells Ltz ys m).set (ys.length * 5) (.int .i64 y.p0)).set (ys.length * 5 + 1) (.int .i64 y.p1)).set (ys.length * 5 + 2) (.slice y.A y.n y.c)).set (ys.length * 5 + 3) (.int .i64 y.q0)).set (ys.length * 5 + 4) (.int .i64 y.q1) = fillG Lt.cells Ltz (ys ++ [y]) (m - 1) := by
  obtain ⟨m, rfl⟩ : ∃ j, m = j + 1 := ⟨m - 1, by omega⟩
  have hp := fillG_pre Lt.cells_len ys
  unfold fillG
  rw [set_pre0 _ _ _ _ hp, set_pre _ _ _ _ hp, set_pre _ _ _ _ hp, set_pre _ _ _ _ hp, set_pre _ _ _ _ hp, List.replicate_succ, Nat.add_sub_cancel]
  simp only [Ltz, Lt.cells, List.flatMap_append, List.flatMap_cons, List.flatMap_nil, List.append_nil, List.append_assoc, List.set_cons_zero, List.set_cons_succ, List.cons_append, List.nil_append]
theorem Lt_snoc {α β : Type} {f : α → β} {xs : List α} {ys : List α} {k : Nat} (h : ys.map f = (xs.take k).map f) (hk : k < xs.length) {y : α} (hy : f y = f xs[k]) : (ys ++ [y]).map f = (xs.take (k + 1)).map f := by
  rw [List.take_succ_eq_append_getElem hk, List.map_append, List.map_append, h]; simp [hy]
set_option maxHeartbeats 400000 in
theorem eqBlk (x y : Int) (w : World) :
    Calls Tryd.prog 69 #[.agg #[.int .i64 x, .int .i64 y], .agg #[.int .i64 x, .int .i64 y]] w fun e w' => e = .returned (.bool true) ∧ Below w.heap.size w w' := by
  go_enter Tryd.func69, Tryd.ntmps69
  go_wp2
  go_ret
  exact ⟨rfl, ((Below.refl _ _).alloc (Nat.le_refl _) _).alloc (by simp) _⟩
theorem Lt_same {x y : Lt} (h : x.d = y.d) : x.p0 = y.p0 ∧ x.p1 = y.p1 ∧ x.zs = y.zs ∧ x.q0 = y.q0 ∧ x.q1 = y.q1 := by
  unfold Lt.d at h
  injection h with e0 e1 e2 e3 e4
  exact ⟨e0, e1, e2, e3, e4⟩
end Go.Proofs.YtlgkjidginibdaaDoor

namespace Go.Proofs.YtlgkjidginibdaaDoor
open Go.ChangeShapes Go.WideShapes Go.ChangeAt Go.RowKit Go.Deep

/-- a struct as it lies in memory. -/
structure Rq where
  p0 : Int
  A : Option Addr
  n : Nat
  c : Nat
  zs : List Int
  q0 : Int
def Rq.cells (x : Rq) : List Value := [.int .i64 x.p0, .slice x.A x.n x.c, .int .i64 x.q0]
theorem Rq.cells_len (x : Rq) : x.cells.length = 3 := rfl
/-- what it says. -/
structure RqD where
  p0 : Int
  zs : List Int
  q0 : Int
def Rq.d (x : Rq) : RqD := ⟨x.p0, x.zs, x.q0⟩
def RqIn (w : World) (x : Rq) : Prop := x.zs.length = x.n ∧ x.n ≤ maxLen ∧ Rd w w.heap.size x.A (x.zs.map (Value.int .i64))
def RqAt (w : World) (x : Rq) : Prop := x.zs.length = x.n ∧ x.n ≤ 1048576 ∧ Rd w w.heap.size x.A (x.zs.map (Value.int .i64))
theorem RqIn.moved {w w' : World} {x : Rq} (h : RqIn w x) (hb : Below w.heap.size w w') : RqIn w' x := ⟨h.1, h.2.1, h.2.2.moved hb⟩
theorem RqAt.moved {w w' : World} {x : Rq} (h : RqAt w x) (hb : Below w.heap.size w w') : RqAt w' x := ⟨h.1, h.2.1, h.2.2.moved hb⟩
theorem RqAt.zs {w : World} {x : Rq} (h : RqAt w x) : x.d.zs.length = x.n := h.1
def Rqtot (xs : List Rq) : Nat := (xs.map Rq.n).sum
theorem Rqtot_snoc (xs : List Rq) (k : Nat) (h : k < xs.length) : Rqtot (xs.take (k + 1)) = Rqtot (xs.take k) + xs[k].n := by
  unfold Rqtot; rw [List.take_succ_eq_append_getElem h, List.map_append, List.sum_append]; simp
theorem Rqtot_le {xs : List Rq} {x : Rq} (h : x ∈ xs) : x.n ≤ Rqtot xs := by
  induction xs with
  | nil => simp at h
  | cons y ys ih =>
    have e : Rqtot (y :: ys) = y.n + Rqtot ys := by unfold Rqtot; simp
    rcases List.mem_cons.1 h with rfl | h
    · omega
    · have := ih h; omega
theorem Rd.rq {w : World} {B : Nat} {A : Option Addr} {xs : List Rq} (h : Rd w B A (xs.flatMap Rq.cells)) {k : Nat} (hk : k < xs.length) :
    ∃ ad, A = some ad ∧ ad.block < B ∧ w.cell? (ad.add (k * 3)) = some (.int .i64 xs[k].p0) ∧ w.cell? ⟨(ad.add (k * 3)).block, (ad.add (k * 3)).off + 1, none⟩ = some (.slice xs[k].A xs[k].n xs[k].c) ∧ w.cell? ⟨(ad.add (k * 3)).block, (ad.add (k * 3)).off + 2, none⟩ = some (.int .i64 xs[k].q0) := by
  obtain ⟨ad, e, hb, hc⟩ := h.rowK Rq.cells_len (by decide) hk
  have h0 := hc 0 (by decide)
  rw [Nat.add_zero] at h0
  have h1 := hc 1 (by decide)
  rw [add_next] at h1
  have h2 := hc 2 (by decide)
  rw [add_next] at h2
  exact ⟨ad, e, hb, h0, h1, h2⟩
theorem Rd.rqc {w : World} {B b o : Nat} {xs : List Rq} (h : Rd w B (some ⟨b, o, none⟩) (xs.flatMap Rq.cells)) {k : Nat} (hk : k < xs.length) :
    b < B ∧ w.cell? ⟨b, o + k * 3, none⟩ = some (.int .i64 xs[k].p0) ∧ w.cell? ⟨b, o + k * 3 + 1, none⟩ = some (.slice xs[k].A xs[k].n xs[k].c) ∧ w.cell? ⟨b, o + k * 3 + 2, none⟩ = some (.int .i64 xs[k].q0) := by
  obtain ⟨ad, e, hb, h0, h1, h2⟩ := h.rq hk
  injection e with e; subst e
  have ea : (⟨b, o, none⟩ : Addr).add (k * 3) = ⟨b, o + k * 3, none⟩ := by unfold Addr.add; by_cases h : k * 3 = 0 <;> simp [h]
  rw [ea] at h0 h1 h2
  exact ⟨hb, h0, h1, h2⟩
section
variable {H : Type} {enc : TypeId × Value → H} {w : World} {held : Bool}
end
def RqSz (left : Int) (n : Nat) (w : World) (e : Ending) (w' : World) : Prop := ∃ v : Int, e = .returned (.int .i64 v) ∧ Below w.heap.size w w' ∧ -1 ≤ v ∧ v ≤ left ∧ (0 ≤ v → v + n ≤ left)
def RqOut (x : Rq) (w : World) (e : Ending) (w' : World) : Prop := ∃ g, e = .returned (.agg #[.int .i64 x.p0, .slice (some ⟨g, 0, none⟩) x.n x.n, .int .i64 x.q0]) ∧ w.heap.size ≤ g ∧
  w'.ownsRow w.heap.size 3 1 (.slice (some ⟨g, 0, none⟩) x.n x.n) x.n (x.zs.map (Value.int .i64)) ∧ Below w.heap.size w w'
/-- a copy's row: its ints in a block of their own. -/
def RqOwn (B g0 : Nat) (w : World) (y : Rq) : Prop := ∃ q, y.A = some ⟨q, 0, none⟩ ∧ y.c = y.n ∧ y.zs.length = y.n ∧ y.n ≤ 1048576 ∧ q ≠ g0 ∧ w.ownsRow B 3 1 (.slice (some ⟨q, 0, none⟩) y.n y.n) y.n (y.zs.map (Value.int .i64))
theorem RqOwn.at_ {B g0 : Nat} {w : World} {y : Rq} (h : RqOwn B g0 w y) : RqAt w y := by
  obtain ⟨q, e, e2, h1, h2, _, ho⟩ := h
  exact ⟨h1, h2, by rw [e]; exact Rd.ofOwnK ho⟩
theorem RqOwn.moved {B g0 : Nat} {w w' : World} {y : Rq} (h : RqOwn B g0 w y) (hb : Below w.heap.size w w') : RqOwn B g0 w' y := by
  obtain ⟨q, e, e2, h1, h2, h3, ho⟩ := h
  exact ⟨q, e, e2, h1, h2, h3, ownB ho hb⟩
theorem RqOwn.base {B B' g0 : Nat} {w : World} {y : Rq} (h : RqOwn B g0 w y) (hB : B' ≤ B) : RqOwn B' g0 w y := by
  obtain ⟨q, e, e2, h1, h2, h3, ho⟩ := h
  exact ⟨q, e, e2, h1, h2, h3, own_base ho hB⟩
theorem RqOwn.set_ {B g0 : Nat} {w : World} {y : Rq} (h : RqOwn B g0 w y) (o : Nat) (u : Value) : RqOwn B g0 (w.setCell ⟨g0, o, none⟩ u) y := by
  obtain ⟨q, e, e2, h1, h2, h3, ho⟩ := h
  exact ⟨q, e, e2, h1, h2, h3, own_set ho (p := ⟨g0, o, none⟩) (fun h => h3 h.symm) u⟩
def Rqz : List Value := [.int .i64 0, .slice none 0 0, .int .i64 0]
theorem Rq_set (ys : List Rq) (m : Nat) (y : Rq) (hm : 0 < m) : (((fillG Rq.cells Rqz ys m).set (ys.length * 3) (.int .i64 y.p0)).set (ys.length * 3 + 1) (.slice y.A y.n y.c)).set (ys.length * 3 + 2) (.int .i64 y.q0) = fillG Rq.cells Rqz (ys ++ [y]) (m - 1) := by
  obtain ⟨m, rfl⟩ : ∃ j, m = j + 1 := ⟨m - 1, by omega⟩
  have hp := fillG_pre Rq.cells_len ys
  unfold fillG
  rw [set_pre0 _ _ _ _ hp, set_pre _ _ _ _ hp, set_pre _ _ _ _ hp, List.replicate_succ, Nat.add_sub_cancel]
  simp only [Rqz, Rq.cells, List.flatMap_append, List.flatMap_cons, List.flatMap_nil, List.append_nil, List.append_assoc, List.set_cons_zero, List.set_cons_succ, List.cons_append, List.nil_append]
theorem Rq_snoc {α β : Type} {f : α → β} {xs : List α} {ys : List α} {k : Nat} (h : ys.map f = (xs.take k).map f) (hk : k < xs.length) {y : α} (hy : f y = f xs[k]) : (ys ++ [y]).map f = (xs.take (k + 1)).map f := by
  rw [List.take_succ_eq_append_getElem hk, List.map_append, List.map_append, h]; simp [hy]
theorem Rq_same {x y : Rq} (h : x.d = y.d) : x.p0 = y.p0 ∧ x.zs = y.zs ∧ x.q0 = y.q0 := by
  unfold Rq.d at h
  injection h with e0 e1 e2
  exact ⟨e0, e1, e2⟩
end Go.Proofs.YtlgkjidginibdaaDoor

namespace Go.Proofs.YtlgkjidginibdaaDoor
open Go.ChangeShapes Go.WideShapes Go.ChangeAt Go.RowKit Go.Deep

/-- a struct as it lies in memory. -/
structure Fr where
  p0 : Int
  p1 : Int
  A : Option Addr
  n : Nat
  c : Nat
  zs : List Int
def Fr.cells (x : Fr) : List Value := [.int .i64 x.p0, .int .i64 x.p1, .slice x.A x.n x.c]
theorem Fr.cells_len (x : Fr) : x.cells.length = 3 := rfl
/-- what it says. -/
structure FrD where
  p0 : Int
  p1 : Int
  zs : List Int
def Fr.d (x : Fr) : FrD := ⟨x.p0, x.p1, x.zs⟩
def FrIn (w : World) (x : Fr) : Prop := x.zs.length = x.n ∧ x.n ≤ maxLen ∧ Rd w w.heap.size x.A (x.zs.map (Value.int .i64))
def FrAt (w : World) (x : Fr) : Prop := x.zs.length = x.n ∧ x.n ≤ 1048576 ∧ Rd w w.heap.size x.A (x.zs.map (Value.int .i64))
theorem FrIn.moved {w w' : World} {x : Fr} (h : FrIn w x) (hb : Below w.heap.size w w') : FrIn w' x := ⟨h.1, h.2.1, h.2.2.moved hb⟩
theorem FrAt.moved {w w' : World} {x : Fr} (h : FrAt w x) (hb : Below w.heap.size w w') : FrAt w' x := ⟨h.1, h.2.1, h.2.2.moved hb⟩
theorem FrAt.zs {w : World} {x : Fr} (h : FrAt w x) : x.d.zs.length = x.n := h.1
def Frtot (xs : List Fr) : Nat := (xs.map Fr.n).sum
theorem Frtot_snoc (xs : List Fr) (k : Nat) (h : k < xs.length) : Frtot (xs.take (k + 1)) = Frtot (xs.take k) + xs[k].n := by
  unfold Frtot; rw [List.take_succ_eq_append_getElem h, List.map_append, List.sum_append]; simp
theorem Frtot_le {xs : List Fr} {x : Fr} (h : x ∈ xs) : x.n ≤ Frtot xs := by
  induction xs with
  | nil => simp at h
  | cons y ys ih =>
    have e : Frtot (y :: ys) = y.n + Frtot ys := by unfold Frtot; simp
    rcases List.mem_cons.1 h with rfl | h
    · omega
    · have := ih h; omega
theorem Rd.fr {w : World} {B : Nat} {A : Option Addr} {xs : List Fr} (h : Rd w B A (xs.flatMap Fr.cells)) {k : Nat} (hk : k < xs.length) :
    ∃ ad, A = some ad ∧ ad.block < B ∧ w.cell? (ad.add (k * 3)) = some (.int .i64 xs[k].p0) ∧ w.cell? ⟨(ad.add (k * 3)).block, (ad.add (k * 3)).off + 1, none⟩ = some (.int .i64 xs[k].p1) ∧ w.cell? ⟨(ad.add (k * 3)).block, (ad.add (k * 3)).off + 2, none⟩ = some (.slice xs[k].A xs[k].n xs[k].c) := by
  obtain ⟨ad, e, hb, hc⟩ := h.rowK Fr.cells_len (by decide) hk
  have h0 := hc 0 (by decide)
  rw [Nat.add_zero] at h0
  have h1 := hc 1 (by decide)
  rw [add_next] at h1
  have h2 := hc 2 (by decide)
  rw [add_next] at h2
  exact ⟨ad, e, hb, h0, h1, h2⟩
theorem Rd.frc {w : World} {B b o : Nat} {xs : List Fr} (h : Rd w B (some ⟨b, o, none⟩) (xs.flatMap Fr.cells)) {k : Nat} (hk : k < xs.length) :
    b < B ∧ w.cell? ⟨b, o + k * 3, none⟩ = some (.int .i64 xs[k].p0) ∧ w.cell? ⟨b, o + k * 3 + 1, none⟩ = some (.int .i64 xs[k].p1) ∧ w.cell? ⟨b, o + k * 3 + 2, none⟩ = some (.slice xs[k].A xs[k].n xs[k].c) := by
  obtain ⟨ad, e, hb, h0, h1, h2⟩ := h.fr hk
  injection e with e; subst e
  have ea : (⟨b, o, none⟩ : Addr).add (k * 3) = ⟨b, o + k * 3, none⟩ := by unfold Addr.add; by_cases h : k * 3 = 0 <;> simp [h]
  rw [ea] at h0 h1 h2
  exact ⟨hb, h0, h1, h2⟩
section
variable {H : Type} {enc : TypeId × Value → H} {w : World} {held : Bool}
end
def FrSz (left : Int) (n : Nat) (w : World) (e : Ending) (w' : World) : Prop := ∃ v : Int, e = .returned (.int .i64 v) ∧ Below w.heap.size w w' ∧ -1 ≤ v ∧ v ≤ left ∧ (0 ≤ v → v + n ≤ left)
def FrOut (x : Fr) (w : World) (e : Ending) (w' : World) : Prop := ∃ g, e = .returned (.agg #[.int .i64 x.p0, .int .i64 x.p1, .slice (some ⟨g, 0, none⟩) x.n x.n]) ∧ w.heap.size ≤ g ∧
  w'.ownsRow w.heap.size 3 1 (.slice (some ⟨g, 0, none⟩) x.n x.n) x.n (x.zs.map (Value.int .i64)) ∧ Below w.heap.size w w'
/-- a copy's row: its ints in a block of their own. -/
def FrOwn (B g0 : Nat) (w : World) (y : Fr) : Prop := ∃ q, y.A = some ⟨q, 0, none⟩ ∧ y.c = y.n ∧ y.zs.length = y.n ∧ y.n ≤ 1048576 ∧ q ≠ g0 ∧ w.ownsRow B 3 1 (.slice (some ⟨q, 0, none⟩) y.n y.n) y.n (y.zs.map (Value.int .i64))
theorem FrOwn.at_ {B g0 : Nat} {w : World} {y : Fr} (h : FrOwn B g0 w y) : FrAt w y := by
  obtain ⟨q, e, e2, h1, h2, _, ho⟩ := h
  exact ⟨h1, h2, by rw [e]; exact Rd.ofOwnK ho⟩
theorem FrOwn.moved {B g0 : Nat} {w w' : World} {y : Fr} (h : FrOwn B g0 w y) (hb : Below w.heap.size w w') : FrOwn B g0 w' y := by
  obtain ⟨q, e, e2, h1, h2, h3, ho⟩ := h
  exact ⟨q, e, e2, h1, h2, h3, ownB ho hb⟩
theorem FrOwn.base {B B' g0 : Nat} {w : World} {y : Fr} (h : FrOwn B g0 w y) (hB : B' ≤ B) : FrOwn B' g0 w y := by
  obtain ⟨q, e, e2, h1, h2, h3, ho⟩ := h
  exact ⟨q, e, e2, h1, h2, h3, own_base ho hB⟩
theorem FrOwn.set_ {B g0 : Nat} {w : World} {y : Fr} (h : FrOwn B g0 w y) (o : Nat) (u : Value) : FrOwn B g0 (w.setCell ⟨g0, o, none⟩ u) y := by
  obtain ⟨q, e, e2, h1, h2, h3, ho⟩ := h
  exact ⟨q, e, e2, h1, h2, h3, own_set ho (p := ⟨g0, o, none⟩) (fun h => h3 h.symm) u⟩
def Frz : List Value := [.int .i64 0, .int .i64 0, .slice none 0 0]
theorem Fr_set (ys : List Fr) (m : Nat) (y : Fr) (hm : 0 < m) : (((fillG Fr.cells Frz ys m).set (ys.length * 3) (.int .i64 y.p0)).set (ys.length * 3 + 1) (.int .i64 y.p1)).set (ys.length * 3 + 2) (.slice y.A y.n y.c) = fillG Fr.cells Frz (ys ++ [y]) (m - 1) := by
  obtain ⟨m, rfl⟩ : ∃ j, m = j + 1 := ⟨m - 1, by omega⟩
  have hp := fillG_pre Fr.cells_len ys
  unfold fillG
  rw [set_pre0 _ _ _ _ hp, set_pre _ _ _ _ hp, set_pre _ _ _ _ hp, List.replicate_succ, Nat.add_sub_cancel]
  simp only [Frz, Fr.cells, List.flatMap_append, List.flatMap_cons, List.flatMap_nil, List.append_nil, List.append_assoc, List.set_cons_zero, List.set_cons_succ, List.cons_append, List.nil_append]
theorem Fr_snoc {α β : Type} {f : α → β} {xs : List α} {ys : List α} {k : Nat} (h : ys.map f = (xs.take k).map f) (hk : k < xs.length) {y : α} (hy : f y = f xs[k]) : (ys ++ [y]).map f = (xs.take (k + 1)).map f := by
  rw [List.take_succ_eq_append_getElem hk, List.map_append, List.map_append, h]; simp [hy]
theorem Fr_same {x y : Fr} (h : x.d = y.d) : x.p0 = y.p0 ∧ x.p1 = y.p1 ∧ x.zs = y.zs := by
  unfold Fr.d at h
  injection h with e0 e1 e2
  exact ⟨e0, e1, e2⟩
end Go.Proofs.YtlgkjidginibdaaDoor

namespace Go.Proofs.YtlgkjidginibdaaDoor
open Go.ChangeShapes Go.WideShapes Go.ChangeAt Go.RowKit Go.Deep

/-- a struct as it lies in memory. -/
structure Ro where
  p0 : Int
  A : Option Addr
  n : Nat
  c : Nat
  zs : List Int
def Ro.cells (x : Ro) : List Value := [.int .i64 x.p0, .slice x.A x.n x.c]
theorem Ro.cells_len (x : Ro) : x.cells.length = 2 := rfl
/-- what it says. -/
structure RoD where
  p0 : Int
  zs : List Int
def Ro.d (x : Ro) : RoD := ⟨x.p0, x.zs⟩
def RoIn (w : World) (x : Ro) : Prop := x.zs.length = x.n ∧ x.n ≤ maxLen ∧ Rd w w.heap.size x.A (x.zs.map (Value.int .i64))
def RoAt (w : World) (x : Ro) : Prop := x.zs.length = x.n ∧ x.n ≤ 1048576 ∧ Rd w w.heap.size x.A (x.zs.map (Value.int .i64))
theorem RoIn.moved {w w' : World} {x : Ro} (h : RoIn w x) (hb : Below w.heap.size w w') : RoIn w' x := ⟨h.1, h.2.1, h.2.2.moved hb⟩
theorem RoAt.moved {w w' : World} {x : Ro} (h : RoAt w x) (hb : Below w.heap.size w w') : RoAt w' x := ⟨h.1, h.2.1, h.2.2.moved hb⟩
theorem RoAt.zs {w : World} {x : Ro} (h : RoAt w x) : x.d.zs.length = x.n := h.1
def Rotot (xs : List Ro) : Nat := (xs.map Ro.n).sum
theorem Rotot_snoc (xs : List Ro) (k : Nat) (h : k < xs.length) : Rotot (xs.take (k + 1)) = Rotot (xs.take k) + xs[k].n := by
  unfold Rotot; rw [List.take_succ_eq_append_getElem h, List.map_append, List.sum_append]; simp
theorem Rotot_le {xs : List Ro} {x : Ro} (h : x ∈ xs) : x.n ≤ Rotot xs := by
  induction xs with
  | nil => simp at h
  | cons y ys ih =>
    have e : Rotot (y :: ys) = y.n + Rotot ys := by unfold Rotot; simp
    rcases List.mem_cons.1 h with rfl | h
    · omega
    · have := ih h; omega
theorem Rd.ro {w : World} {B : Nat} {A : Option Addr} {xs : List Ro} (h : Rd w B A (xs.flatMap Ro.cells)) {k : Nat} (hk : k < xs.length) :
    ∃ ad, A = some ad ∧ ad.block < B ∧ w.cell? (ad.add (k * 2)) = some (.int .i64 xs[k].p0) ∧ w.cell? ⟨(ad.add (k * 2)).block, (ad.add (k * 2)).off + 1, none⟩ = some (.slice xs[k].A xs[k].n xs[k].c) := by
  obtain ⟨ad, e, hb, hc⟩ := h.rowK Ro.cells_len (by decide) hk
  have h0 := hc 0 (by decide)
  rw [Nat.add_zero] at h0
  have h1 := hc 1 (by decide)
  rw [add_next] at h1
  exact ⟨ad, e, hb, h0, h1⟩
theorem Rd.roc {w : World} {B b o : Nat} {xs : List Ro} (h : Rd w B (some ⟨b, o, none⟩) (xs.flatMap Ro.cells)) {k : Nat} (hk : k < xs.length) :
    b < B ∧ w.cell? ⟨b, o + k * 2, none⟩ = some (.int .i64 xs[k].p0) ∧ w.cell? ⟨b, o + k * 2 + 1, none⟩ = some (.slice xs[k].A xs[k].n xs[k].c) := by
  obtain ⟨ad, e, hb, h0, h1⟩ := h.ro hk
  injection e with e; subst e
  have ea : (⟨b, o, none⟩ : Addr).add (k * 2) = ⟨b, o + k * 2, none⟩ := by unfold Addr.add; by_cases h : k * 2 = 0 <;> simp [h]
  rw [ea] at h0 h1
  exact ⟨hb, h0, h1⟩
section
variable {H : Type} {enc : TypeId × Value → H} {w : World} {held : Bool}
set_option maxRecDepth 100000 in
theorem trod_Ro {fuel : Nat} {cs : List Value} {x : DataW H × List MemPlace} (h : DataW.trod enc Tryd.prog w 0 (fun _ => true) held fuel 54 cs = some x) : ∃ r : Ro, cs = r.cells ∧ RoIn w r := by
  obtain ⟨ys, n, _, _, hl, hlen, hg⟩ := DataW.trod_struct Tryd.underlying54 h
  have hC : Tryd.prog.cellsOf 54 = 2 := by kernel_rfl
  rw [hC] at hl
  match cs, hl with
  | [x0, x1], _ =>
    have g0 := hg 0 _ rfl
    have hs0 : ∃ y, ys[0]? = some y := ⟨_, List.getElem?_eq_getElem (by rw [hlen]; decide)⟩
    obtain ⟨y0, hy0⟩ := hs0
    rw [hy0] at g0
    have g0' : DataW.trod enc Tryd.prog w 0 (fun _ => true) held n _ [x0] = some y0 := g0
    obtain ⟨z0, rfl, _⟩ := tr_int Tryd.underlying3 g0'
    have g1 := hg 1 _ rfl
    have hs1 : ∃ y, ys[1]? = some y := ⟨_, List.getElem?_eq_getElem (by rw [hlen]; decide)⟩
    obtain ⟨y1, hy1⟩ := hs1
    rw [hy1] at g1
    have g1' : DataW.trod enc Tryd.prog w 0 (fun _ => true) held n _ [x1] = some y1 := g1
    obtain ⟨A, nn, c, zs, e1, hz1, hz2, hz3, _⟩ := rd_ints Tryd.underlying29 Tryd.underlying3 (by kernel_rfl) g1'
    injection e1 with e1; subst e1
    exact ⟨⟨z0, A, nn, c, zs⟩, rfl, hz1, hz2, hz3⟩
end
def RoSz (left : Int) (n : Nat) (w : World) (e : Ending) (w' : World) : Prop := ∃ v : Int, e = .returned (.int .i64 v) ∧ Below w.heap.size w w' ∧ -1 ≤ v ∧ v ≤ left ∧ (0 ≤ v → v + n ≤ left)
/-- a copy's row: its ints in a block of their own. -/
def RoOwn (B g0 : Nat) (w : World) (y : Ro) : Prop := ∃ q, y.A = some ⟨q, 0, none⟩ ∧ y.c = y.n ∧ y.zs.length = y.n ∧ y.n ≤ 1048576 ∧ q ≠ g0 ∧ w.ownsRow B 3 1 (.slice (some ⟨q, 0, none⟩) y.n y.n) y.n (y.zs.map (Value.int .i64))
theorem RoOwn.at_ {B g0 : Nat} {w : World} {y : Ro} (h : RoOwn B g0 w y) : RoAt w y := by
  obtain ⟨q, e, e2, h1, h2, _, ho⟩ := h
  exact ⟨h1, h2, by rw [e]; exact Rd.ofOwnK ho⟩
theorem RoOwn.moved {B g0 : Nat} {w w' : World} {y : Ro} (h : RoOwn B g0 w y) (hb : Below w.heap.size w w') : RoOwn B g0 w' y := by
  obtain ⟨q, e, e2, h1, h2, h3, ho⟩ := h
  exact ⟨q, e, e2, h1, h2, h3, ownB ho hb⟩
theorem RoOwn.base {B B' g0 : Nat} {w : World} {y : Ro} (h : RoOwn B g0 w y) (hB : B' ≤ B) : RoOwn B' g0 w y := by
  obtain ⟨q, e, e2, h1, h2, h3, ho⟩ := h
  exact ⟨q, e, e2, h1, h2, h3, own_base ho hB⟩
theorem RoOwn.set_ {B g0 : Nat} {w : World} {y : Ro} (h : RoOwn B g0 w y) (o : Nat) (u : Value) : RoOwn B g0 (w.setCell ⟨g0, o, none⟩ u) y := by
  obtain ⟨q, e, e2, h1, h2, h3, ho⟩ := h
  exact ⟨q, e, e2, h1, h2, h3, own_set ho (p := ⟨g0, o, none⟩) (fun h => h3 h.symm) u⟩
/-- a copied slice: row and inner rows of the call's own, no two inner rows in one block. -/
structure Ros (B g n : Nat) (ys : List Ro) (w : World) : Prop where
  len : ys.length = n
  row : w.ownsRow B 64 2 (.slice (some ⟨g, 0, none⟩) n n) n (ys.flatMap Ro.cells)
  own : ∀ y ∈ ys, RoOwn B g w y
  apart : ys.Pairwise fun y y' => y.A ≠ y'.A
theorem Ros.moved {B g n : Nat} {ys : List Ro} {w w' : World} (h : Ros B g n ys w) (hb : Below w.heap.size w w') : Ros B g n ys w' := ⟨h.len, ownB h.row hb, fun y hy => (h.own y hy).moved hb, h.apart⟩
theorem Ros.base {B B' g n : Nat} {ys : List Ro} {w : World} (h : Ros B g n ys w) (hB : B' ≤ B) : Ros B' g n ys w := ⟨h.len, own_base h.row hB, fun y hy => (h.own y hy).base hB, h.apart⟩
theorem Ros.rd {B g n : Nat} {ys : List Ro} {w : World} (h : Ros B g n ys w) : Rd w w.heap.size (some ⟨g, 0, none⟩) (ys.flatMap Ro.cells) := Rd.ofOwnK h.row
theorem Ros.at_ {B g n : Nat} {ys : List Ro} {w : World} (h : Ros B g n ys w) : ∀ y ∈ ys, RoAt w y := fun y hy => (h.own y hy).at_
theorem Tryd.inf_Ro : (Tryd.prog.info? 64).map (fun i => (i.zero, i.size, i.bytes)) = some (some (.agg #[.int .i64 0, .slice none 0 0]), 2, 32) := by kernel_rfl
def Roz : List Value := [.int .i64 0, .slice none 0 0]
theorem Ro_set (ys : List Ro) (m : Nat) (y : Ro) (hm : 0 < m) : ((fillG Ro.cells Roz ys m).set (ys.length * 2) (.int .i64 y.p0)).set (ys.length * 2 + 1) (.slice y.A y.n y.c) = fillG Ro.cells Roz (ys ++ [y]) (m - 1) := by
  obtain ⟨m, rfl⟩ : ∃ j, m = j + 1 := ⟨m - 1, by omega⟩
  have hp := fillG_pre Ro.cells_len ys
  unfold fillG
  rw [set_pre0 _ _ _ _ hp, set_pre _ _ _ _ hp, List.replicate_succ, Nat.add_sub_cancel]
  simp only [Roz, Ro.cells, List.flatMap_append, List.flatMap_cons, List.flatMap_nil, List.append_nil, List.append_assoc, List.set_cons_zero, List.set_cons_succ, List.cons_append, List.nil_append]
def RosOut (xs : List Ro) (n : Nat) (w : World) (e : Ending) (w' : World) : Prop := ∃ (g : Nat) (ys : List Ro), e = .returned (.slice (some ⟨g, 0, none⟩) n n) ∧ w.heap.size ≤ g ∧ ys.map Ro.d = xs.map Ro.d ∧ Ros w.heap.size g n ys w' ∧ Below w.heap.size w w'
theorem Ro_snoc {α β : Type} {f : α → β} {xs : List α} {ys : List α} {k : Nat} (h : ys.map f = (xs.take k).map f) (hk : k < xs.length) {y : α} (hy : f y = f xs[k]) : (ys ++ [y]).map f = (xs.take (k + 1)).map f := by
  rw [List.take_succ_eq_append_getElem hk, List.map_append, List.map_append, h]; simp [hy]
theorem Ro_same {x y : Ro} (h : x.d = y.d) : x.p0 = y.p0 ∧ x.zs = y.zs := by
  unfold Ro.d at h
  injection h with e0 e1
  exact ⟨e0, e1⟩
end Go.Proofs.YtlgkjidginibdaaDoor

namespace Go.Proofs.YtlgkjidginibdaaDoor
open Go.ChangeShapes Go.WideShapes Go.ChangeAt Go.RowKit Go.Deep

section
variable {H : Type} {enc : TypeId × Value → H} {w : World} {held : Bool}
end
def PlSz (left : Int) (m : Nat) (w : World) (e : Ending) (w' : World) : Prop := ∃ v : Int, e = .returned (.int .i64 v) ∧ Below w.heap.size w w' ∧ -1 ≤ v ∧ v ≤ left ∧ (0 ≤ v → v + m ≤ left)
end Go.Proofs.YtlgkjidginibdaaDoor

namespace Go.Proofs.YtlgkjidginibdaaDoor
open Go.ChangeShapes Go.WideShapes Go.ChangeAt Go.RowKit

/-- a mark's answer: a number; nothing outside of a stretch of blocks has changed. -/
def MarkR (B E : Nat) (top : Int) (w : World) (e : Ending) (w' : World) : Prop := ∃ v : Int, e = .returned (.int .i64 v) ∧ 0 ≤ v ∧ v ≤ top ∧ Off (fun b => B ≤ b ∧ b < E) w w'
set_option maxHeartbeats 1000000 in
theorem markIntsW (g n c : Nat) (k : Int) (zs : List Int) (w : World) {B : Nat} (ho : w.ownsRow B 3 1 (.slice (some ⟨g, 0, none⟩) n c) n (zs.map (Value.int .i64))) (hn : n ≤ 1048576) (h0 : 0 ≤ k) (h1 : k ≤ 10000000000000) :
    Calls Tryd.prog 17 #[.slice (some ⟨g, 0, none⟩) n c, .int .i64 k] w (MarkK k n g w) := by
  have HO := Lib.hid ho; clear ho
  go_enter Tryd.func17, Tryd.ntmps17
  go_wp2
  go_loopw [1, 5] (fun q i wr => ∃ (j : Nat) (ys : List Value), j ≤ n ∧ i = .int .i64 j ∧ q = .int .i64 (k + j) ∧ Off (· = g) w wr ∧ wr.ownsRow B 3 1 (.slice (some ⟨g, 0, none⟩) n c) n ys) (fun _ i _ => n - (intOf i).toNat)
  case atStart => exact ⟨0, _, Nat.zero_le _, rfl, by simp, Off.refl _ _, HO.out⟩
  case round =>
    obtain ⟨j, ys, hj, rfl, rfl, hoff, hown⟩ := hrel
    have HF := Lib.hid hoff; clear hoff
    by_cases hlt : j < n
    · have hyl := hown.1
      have hold := hown.cellAt j (by omega)
      rw [List.getElem?_eq_getElem (by omega)] at hold
      have hfz := hown.frozenAt j
      have HST := Lib.hid (hown.stored j (.int .i64 (k + j))).1
      obtain ⟨old, ho⟩ : ∃ v, ys[j]'(by omega) = v := ⟨_, rfl⟩
      rw [ho] at hold
      clear hown hyl ho
      go_wp2
      go_roundw
      case rel => exact ⟨j + 1, _, by omega, by go_num, by go_num, HF.out.set_ (p := ⟨g, _, none⟩) rfl _, HST.out⟩
      case measure => simp [intOf]; omega
    · have hjn : j = n := by omega
      subst hjn
      clear hlt hown
      go_wp2
      go_ret
      exact ⟨rfl, HF.out⟩
/-- the cells that hold the slices. -/
def LtKeep (ys : List Lt) (cs : List Value) : Prop := ∀ i (h : i < ys.length), cs[i * 5 + 2]? = some (.slice ys[i].A ys[i].n ys[i].c)
theorem Lt_keep0 (ys : List Lt) : LtKeep ys (ys.flatMap Lt.cells) := fun i h => by
  have h9 := flat_get Lt.cells 5 ys (fun _ _ => rfl) i 2 (by decide)
  rw [h9, List.getElem?_eq_getElem h]; rfl
theorem Lt_keep1 {ys : List Lt} {cs : List Value} (h : LtKeep ys cs) {o : Nat} (v : Value) (hne : ∀ i, o ≠ i * 5 + 2) : LtKeep ys (cs.set o v) := fun i hi => by rw [List.getElem?_set_ne (hne i)]; exact h i hi
theorem LtOwn.off {S : Nat → Prop} {B g0 : Nat} {w w' : World} {y : Lt} (h : LtOwn B g0 w y) (hoff : Off S w w') (hS : ∀ q, y.A = some ⟨q, 0, none⟩ → ¬ S q) : LtOwn B g0 w' y := by
  obtain ⟨q, e, e2, h1, h2, h3, ho⟩ := h
  exact ⟨q, e, e2, h1, h2, h3, hoff.own ho (hS q e)⟩
/-- the cells that hold the slices. -/
def FrKeep (ys : List Fr) (cs : List Value) : Prop := ∀ i (h : i < ys.length), cs[i * 3 + 2]? = some (.slice ys[i].A ys[i].n ys[i].c)
theorem Fr_keep0 (ys : List Fr) : FrKeep ys (ys.flatMap Fr.cells) := fun i h => by
  have h9 := flat_get Fr.cells 3 ys (fun _ _ => rfl) i 2 (by decide)
  rw [h9, List.getElem?_eq_getElem h]; rfl
theorem Fr_keep1 {ys : List Fr} {cs : List Value} (h : FrKeep ys cs) {o : Nat} (v : Value) (hne : ∀ i, o ≠ i * 3 + 2) : FrKeep ys (cs.set o v) := fun i hi => by rw [List.getElem?_set_ne (hne i)]; exact h i hi
theorem FrOwn.off {S : Nat → Prop} {B g0 : Nat} {w w' : World} {y : Fr} (h : FrOwn B g0 w y) (hoff : Off S w w') (hS : ∀ q, y.A = some ⟨q, 0, none⟩ → ¬ S q) : FrOwn B g0 w' y := by
  obtain ⟨q, e, e2, h1, h2, h3, ho⟩ := h
  exact ⟨q, e, e2, h1, h2, h3, hoff.own ho (hS q e)⟩
/-- the cells that hold the slices. -/
def RoKeep (ys : List Ro) (cs : List Value) : Prop := ∀ i (h : i < ys.length), cs[i * 2 + 1]? = some (.slice ys[i].A ys[i].n ys[i].c)
theorem Ro_keep0 (ys : List Ro) : RoKeep ys (ys.flatMap Ro.cells) := fun i h => by
  have h9 := flat_get Ro.cells 2 ys (fun _ _ => rfl) i 1 (by decide)
  rw [h9, List.getElem?_eq_getElem h]; rfl
theorem Ro_keep1 {ys : List Ro} {cs : List Value} (h : RoKeep ys cs) {o : Nat} (v : Value) (hne : ∀ i, o ≠ i * 2 + 1) : RoKeep ys (cs.set o v) := fun i hi => by rw [List.getElem?_set_ne (hne i)]; exact h i hi
theorem RoOwn.off {S : Nat → Prop} {B g0 : Nat} {w w' : World} {y : Ro} (h : RoOwn B g0 w y) (hoff : Off S w w') (hS : ∀ q, y.A = some ⟨q, 0, none⟩ → ¬ S q) : RoOwn B g0 w' y := by
  obtain ⟨q, e, e2, h1, h2, h3, ho⟩ := h
  exact ⟨q, e, e2, h1, h2, h3, hoff.own ho (hS q e)⟩
theorem Ros.off {S : Nat → Prop} {B g n : Nat} {ys : List Ro} {w w' : World} (h : Ros B g n ys w) (hoff : Off S w w') (hg : ¬ S g) (hq : ∀ y ∈ ys, ∀ q, y.A = some ⟨q, 0, none⟩ → ¬ S q) : Ros B g n ys w' :=
  ⟨h.len, hoff.own h.row hg, fun y hy => (h.own y hy).off hoff (hq y hy), h.apart⟩
/-- where the blocks lie. -/
theorem Ros.lies {B g n : Nat} {ys : List Ro} {w : World} (h : Ros B g n ys w) : (B ≤ g ∧ g < w.heap.size) ∧ ∀ y ∈ ys, ∀ q, y.A = some ⟨q, 0, none⟩ → B ≤ q ∧ q < w.heap.size := by
  refine ⟨h.row.lt g rfl, fun y hy q e => ?_⟩
  obtain ⟨q', e', _, _, _, _, ho⟩ := h.own y hy
  rw [e'] at e
  injection e with e; injection e with e
  subst e
  exact ho.lt q' rfl
end Go.Proofs.YtlgkjidginibdaaDoor
