/- Texts of one group, joined: RtS, Nest, BlkN, NeLt, NeRq, NeFr, NeRo, PlS, Nmk. No condition but those typed. -/
import Derived.Test.YtlgkjidginibdaaGA
import Derived.Test.YtlgkjidginibdaaGB
import Derived.Deep.RegionHeld3
import Derived.Deep.DeepCutAuto
import Derived.Deep.DeepMust
import Derived.WalkKit
import Derived.ProofKit
import Derived.LoopTactic
import Derived.Deep.QuietTactic
import Derived.BigQuiet
import Derived.IntWalk
namespace Go.Proofs.Ytlgkjidginibdaa
open Go.ChangeShapes Go.WideShapes Go.ChangeAt Go.RowKit Go.Deep

section
variable {H : Type} {enc : TypeId × Value → H} {P : Program} {w : World} {held : Bool}
/-- a struct of an int and a list of ints as an argument. -/
theorem open_rt {b0 : Nat} {t e1 : TypeId} {f0 f1 : Field} {v : Value} {d : DataW H} {p : List MemPlace} (hs : P.underlying t = some (.struct #[f0, f1])) (hone : oneCellFields P #[f0, f1] = true) (hC : P.cellsOf t = 2)
    (u0 : P.underlying f0.type = some (.int .i64)) (u1 : P.underlying f1.type = some (.slice e1)) (ue1 : P.underlying e1 = some (.int .i64)) (ce1 : P.cellsOf e1 = 1)
    (hv : Value.okWide P w .any b0 t v) (h : DataW.Trod enc P w 0 (fun _ => true) held t v d p) :
    ∃ (st : Int) (A : Option Addr) (n c : Nat) (zs : List Int), v = .agg #[.int .i64 st, .slice A n c] ∧ (Lit.int .i64 st).wf = true ∧
      (zs.length = n ∧ n ≤ maxLen ∧ Rd w w.heap.size A (zs.map (Value.int .i64)) ∧ (∀ z ∈ zs, (Lit.int .i64 z).wf = true)) := by
  obtain ⟨cs, rfl, hsz⟩ := okWide_struct hs hv
  obtain ⟨l⟩ := cs
  match l, hsz.trans hC with
  | [x0, x1], _ =>
    obtain ⟨fuel, hf⟩ := h
    obtain ⟨ys, n, _, hx, _, hlen, hg⟩ := DataW.trod_struct hs hf
    obtain ⟨o0, k0⟩ := hone_of hone 0 f0 rfl
    obtain ⟨o1, k1⟩ := hone_of hone 1 f1 rfl
    match ys, hlen with
    | [y0, y1], _ =>
      have g0 : DataW.trod enc P w 0 (fun _ => true) held n f0.type [x0] = some y0 := by simpa [Value.cells, o0, k0] using hg 0 f0 rfl
      have g1 : DataW.trod enc P w 0 (fun _ => true) held n f1.type [x1] = some y1 := by simpa [Value.cells, o1, k1] using hg 1 f1 rfl
      obtain ⟨z, hz, _, hwf⟩ := DataW.trod_int u0 g0
      obtain ⟨A1, n1, c1, zs, e1, a1, a2, a3, a4⟩ := rd_ints u1 ue1 ce1 g1
      injection e1 with e1
      subst e1
      have hz' : x0 = .int .i64 z := by simpa using hz
      subst hz'
      exact ⟨z, A1, n1, c1, zs, rfl, hwf, ⟨a1, a2, a3, a4⟩⟩
end

set_option maxHeartbeats 400000 in
theorem szInts (A : Option Addr) (n c : Nat) (left : Int) (w : World) (hm : n ≤ maxLen) (hl0 : 0 ≤ left) (hl1 : left ≤ 1048576) :
    Calls Try.prog 110 #[.slice A n c, .int .i64 left] w fun e w' => ∃ v : Int, e = .returned (.int .i64 v) ∧ w = w' ∧ -1 ≤ v ∧ v ≤ left ∧ (0 ≤ v → v + n ≤ left) := by
  unfold maxLen at hm
  by_cases hc : left - n < 0
  · go_enter Try.func110, Try.ntmps110
    go_wp2
    go_ret
    exact ⟨-1, rfl, rfl, by omega, by omega, by omega⟩
  · have hc' : 0 ≤ left - n := by omega
    clear hc
    go_enter Try.func110, Try.ntmps110
    go_wp2
    go_ret
    exact ⟨left - n, rfl, rfl, by omega, by omega, by omega⟩
def RtSz (left : Int) (n : Nat) (w : World) (e : Ending) (w' : World) : Prop := ∃ v : Int, e = .returned (.int .i64 v) ∧ Below w.heap.size w w' ∧ -1 ≤ v ∧ v ≤ left ∧ (0 ≤ v → v + n ≤ left)
set_option maxHeartbeats 400000 in
theorem szRt (st : Int) (A : Option Addr) (n c : Nat) (left : Int) (w : World) (hm : n ≤ maxLen) (hl0 : 0 ≤ left) (hl1 : left ≤ 1048576) :
    Calls Try.prog 39 #[.agg #[.int .i64 st, .slice A n c], .int .i64 left] w (RtSz left n w) := by
  have HB := Lib.hid ((Below.refl w.heap.size w).alloc (Nat.le_refl _) (Obj.cells #[.int .i64 st, .slice A n c] 28))
  have hm' := hm
  unfold maxLen at hm'
  have CS := Lib.hid (fun W => szInts A n c left W hm hl0 hl1)
  clear hm
  go_enter Try.func39, Try.ntmps39
  go_wp2_with fail
  refine (CS.out _).mono ?_
  rintro e w1 ⟨v, rfl, rfl, h0, h1, h2⟩
  have H2 := Lib.hid h2; clear h2
  by_cases hv : v < 0
  · go_wp2
    go_ret
    exact ⟨-1, rfl, HB.out, by omega, by omega, by omega⟩
  · have hv' : 0 ≤ v := by omega
    clear hv
    go_wp2
    go_ret
    exact ⟨v, rfl, HB.out, h0, h1, H2.out⟩
def RtOut (st : Int) (zs : List Int) (n : Nat) (w : World) (e : Ending) (w' : World) : Prop := ∃ g, e = .returned (.agg #[.int .i64 st, .slice (some ⟨g, 0, none⟩) n n]) ∧ w.heap.size ≤ g ∧
  w'.ownsRow w.heap.size 3 1 (.slice (some ⟨g, 0, none⟩) n n) n (zs.map (Value.int .i64)) ∧ Below w.heap.size w w'
set_option maxHeartbeats 1000000 in
theorem toRt (st : Int) (A : Option Addr) (n c : Nat) (zs : List Int) (w : World) (hn : zs.length = n) (hr : Rd w w.heap.size A (zs.map (Value.int .i64))) (hs : n ≤ 1048576) :
    Calls Try.prog 41 #[.agg #[.int .i64 st, .slice A n c]] w (RtOut st zs n w) := by
  have HN := Lib.hid hn; have HR := Lib.hid hr
  clear hn hr
  go_enter Try.func41, Try.ntmps41
  go_wp2_with fail
  have hb0 := (((Below.refl w.heap.size w).alloc (Nat.le_refl _) (Obj.cells #[.int .i64 st, .slice A n c] 28)).alloc (by simp) (Obj.cells #[.int .i64 0, .slice none 0 0] 41)).alloc (by simp; omega) (Obj.cells #[.int .i64 st, .slice none 0 0] 41)
  have HB0 := Lib.hid hb0
  refine (toIntS A n c zs _ HN.out (HR.out.moved hb0) hs).mono ?_
  clear hb0
  rintro e w2 ⟨g1, hg1, rfl, hown1, hb2⟩
  obtain ⟨hc, hf⟩ := bcell hb2
  have hz := hb2.size
  have hb02 : Below w.heap.size w w2 := HB0.out.trans (hb2.mono HB0.out.size)
  simp at hg1 hz
  have HO := Lib.hid (own_base hown1 (B' := w.heap.size) (by simp; omega))
  have HB2 := Lib.hid hb02
  clear hown1 hb02 hb2
  have hza : w.heap.size + 1 + 1 < w2.heap.size := by omega
  have hzb : w.heap.size + 1 < w2.heap.size := by omega
  have hzc : w.heap.size < w2.heap.size := by omega
  go_wp2
  refine bodyPost_ret (v := .agg #[.int .i64 st, .slice (some ⟨g1, 0, none⟩) n n]) (by simp [results, Try.results41, go_sem, hc, hz, hza, hzb, hzc]) rfl ⟨g1, rfl, by omega, ?_, ?_⟩
  · exact own_set (own_set (own_set HO.out (p := ⟨_, _, none⟩) (by simp; omega) _) (p := ⟨_, _, none⟩) (by simp; omega) _) (p := ⟨_, _, none⟩) (by simp; omega) _
  · exact ((HB2.out.setCell (p := ⟨_, _, none⟩) (by simp; omega) _).setCell (p := ⟨_, _, none⟩) (by simp) _).setCell (p := ⟨_, _, none⟩) (by simp) _

set_option maxHeartbeats 1000000 in
theorem eqRt (st : Int) (g g' n c c' : Nat) (zs : List Int) (w : World) (hn : zs.length = n) (hs : n ≤ 1048576) (hr : Rd w w.heap.size (some ⟨g, 0, none⟩) (zs.map (Value.int .i64))) (hr' : Rd w w.heap.size (some ⟨g', 0, none⟩) (zs.map (Value.int .i64))) :
    Calls Try.prog 44 #[.agg #[.int .i64 st, .slice (some ⟨g, 0, none⟩) n c], .agg #[.int .i64 st, .slice (some ⟨g', 0, none⟩) n c']] w fun e w' => e = .returned (.bool true) ∧ Below w.heap.size w w' := by
  have hb0 := ((Below.refl w.heap.size w).alloc (Nat.le_refl _) (Obj.cells #[.int .i64 st, .slice (some ⟨g, 0, none⟩) n c] 41)).alloc (by simp) (Obj.cells #[.int .i64 st, .slice (some ⟨g', 0, none⟩) n c'] 41)
  have HB := Lib.hid hb0
  have CE := Lib.hid (eqIntS g g' n c c' zs _ hn (hr.moved hb0) (hr'.moved hb0) hs)
  clear hn hr hr' hb0
  go_enter Try.func44, Try.ntmps44
  go_wp2_with fail
  refine CE.out.mono ?_
  rintro e w1 ⟨rfl, hb1⟩
  have HB1 := Lib.hid (HB.out.trans (hb1.mono HB.out.size))
  clear hb1
  go_wp2
  go_ret
  exact ⟨rfl, HB1.out⟩

/-- ints marked from k on. -/
def MarkK (k : Int) (n g : Nat) (w : World) (e : Ending) (w' : World) : Prop := e = .returned (.int .i64 (k + n)) ∧ Off (· = g) w w'
set_option maxHeartbeats 1000000 in
theorem markIntsK (g n c : Nat) (k : Int) (zs : List Int) (w : World) {B : Nat} (ho : w.ownsRow B 3 1 (.slice (some ⟨g, 0, none⟩) n c) n (zs.map (Value.int .i64))) (hn : n ≤ 1048576) (h0 : 0 ≤ k) (h1 : k ≤ 100000000) :
    Calls Try.prog 65 #[.slice (some ⟨g, 0, none⟩) n c, .int .i64 k] w (MarkK k n g w) := by
  have HO := Lib.hid ho; clear ho
  go_enter Try.func65, Try.ntmps65
  go_wp2
  go_loopw [1, 5] (fun q i wr => ∃ (j : Nat) (ys : List Value), j ≤ n ∧ i = .int .i64 j ∧ q = .int .i64 (k + j) ∧ Off (· = g) w wr ∧ wr.ownsRow B 3 1 (.slice (some ⟨g, 0, none⟩) n c) n ys) (fun _ i _ => n - (intOf i).toNat)
  case atStart => exact ⟨0, _, Nat.zero_le _, rfl, by simp, Off.refl _ _, HO.out⟩
  case round =>
    obtain ⟨j, ys, hj, rfl, rfl, hoff, hown⟩ := hrel
    have HF := Lib.hid hoff; clear hoff
    by_cases hlt : j < n
    · have hyl := hown.1
      have hold := hown.cellAt j (by omega)
      rw [List.getElem?_eq_getElem (by omega)] at hold
      have hfz := hown.frozenAt j
      have HST := Lib.hid (hown.stored j (.int .i64 (k + j))).1
      obtain ⟨old, ho⟩ : ∃ v, ys[j]'(by omega) = v := ⟨_, rfl⟩
      rw [ho] at hold
      clear hown hyl ho
      go_wp2
      go_roundw
      case rel => exact ⟨j + 1, _, by omega, by go_num, by go_num, HF.out.set_ (p := ⟨g, _, none⟩) rfl _, HST.out⟩
      case measure => simp [intOf]; omega
    · have hjn : j = n := by omega
      subst hjn
      clear hlt hown
      go_wp2
      go_ret
      exact ⟨rfl, HF.out⟩
theorem markRt (st : Int) (g n c : Nat) (k : Int) (zs : List Int) (w : World) {B : Nat} (ho : w.ownsRow B 3 1 (.slice (some ⟨g, 0, none⟩) n c) n (zs.map (Value.int .i64))) (hn : n ≤ 1048576) (h0 : 0 ≤ k) (h1 : k ≤ 100000000) :
    Calls Try.prog 45 #[.agg #[.int .i64 st, .slice (some ⟨g, 0, none⟩) n c], .int .i64 k] w (MarkK k n g w) := by
  have hb0 := (Below.refl w.heap.size w).alloc (Nat.le_refl _) (Obj.cells #[.int .i64 st, .slice (some ⟨g, 0, none⟩) n c] 41)
  have HB := Lib.hid hb0
  have CM := Lib.hid (markIntsK g n c k zs _ (ownB ho hb0) hn h0 h1)
  clear ho hb0
  go_enter Try.func45, Try.ntmps45
  go_wp2_with fail
  refine CM.out.mono ?_
  rintro e w1 ⟨rfl, hoff⟩
  have HF := Lib.hid ((Off.ofBelow HB.out).trans hoff)
  clear hoff
  go_wp2
  go_ret
  exact ⟨rfl, HF.out⟩

def MarkB (g1 g2 : Nat) (w : World) (e : Ending) (w' : World) : Prop := ∃ v : Int, e = .returned (.int .i64 v) ∧ 0 ≤ v ∧ v ≤ 50000000 ∧ Off (fun b => b = g1 ∨ b = g2) w w'
set_option maxHeartbeats 1000000 in
theorem markNetB (g1 g2 n1 n2 c1 c2 : Nat) (xs ys : List Value) (w : World) (ho1 : w.ownsRow 0 9 1 (.slice (some ⟨g1, 0, none⟩) n1 c1) n1 xs) (hs1 : n1 ≤ 1048576)
    (ho2 : w.ownsRow 0 201 4 (.slice (some ⟨g2, 0, none⟩) n2 c2) n2 ys) (hs2 : n2 ≤ 1048576) (hne : g1 ≠ g2) :
    Calls Try.prog 27 #[.agg #[.slice (some ⟨g1, 0, none⟩) n1 c1, .slice (some ⟨g2, 0, none⟩) n2 c2], .int .i64 1] w (MarkB g1 g2 w) := by
  have hb0 := (Below.refl w.heap.size w).alloc (Nat.le_refl _) (Obj.cells #[.slice (some ⟨g1, 0, none⟩) n1 c1, .slice (some ⟨g2, 0, none⟩) n2 c2] 39)
  have HB0 := Lib.hid hb0
  have HO1 := Lib.hid (ownB ho1 hb0); have HO2 := Lib.hid (ownB ho2 hb0)
  have hl1 := ho1.lt g1 rfl
  have hl2 := ho2.lt g2 rfl
  have HNE := Lib.hid hne
  clear hb0 ho1 ho2 hne
  go_enter Try.func27, Try.ntmps27
  go_wp2_with fail
  obtain ⟨W, hW⟩ : ∃ W, (w.alloc (Obj.cells #[.slice (some ⟨g1, 0, none⟩) n1 c1, .slice (some ⟨g2, 0, none⟩) n2 c2] 39)) = W := ⟨_, rfl⟩
  have hk1 : W.cell? ⟨w.heap.size, 1, none⟩ = some (.slice (some ⟨g2, 0, none⟩) n2 c2) := by rw [← hW]; simp [go_sem]
  have hz : w.heap.size < W.heap.size := by rw [← hW]; simp
  rw [hW] at HB0 HO1 HO2 ⊢
  clear hW
  refine (markStrS g1 n1 c1 1 _ W HO1.out hs1 (by omega) (by omega)).mono ?_
  rintro e w2 ⟨rfl, hof1, zs, hown1⟩
  have k1 := (hof1.cell (p := ⟨w.heap.size, 1, none⟩) hz (by show ¬ w.heap.size = g1; omega)).trans hk1
  have HO22 := Lib.hid (hof1.own HO2.out (fun h => HNE.out h.symm))
  have HF1 := Lib.hid hof1
  clear hof1 hown1 hk1 hz
  have e1 : (1 : Int) + (n1 : Int) ≤ 10000000 := by omega
  go_wp2_with fail
  refine (markFibS g2 n2 c2 (1 + n1) _ w2 HO22.out hs2 (by omega) (by omega)).mono ?_
  rintro e w3 ⟨rfl, hof2⟩
  have HF2 := Lib.hid hof2; clear hof2
  go_wp2
  go_ret
  exact ⟨_, rfl, by omega, by omega, ((Off.ofBelow HB0.out).trans (HF1.out.wider fun k h => .inl h)).trans (HF2.out.wider fun k h => .inr h)⟩

end Go.Proofs.Ytlgkjidginibdaa

namespace Go.Proofs.Ytlgkjidginibdaa
open Go.ChangeShapes Go.WideShapes Go.ChangeAt Go.RowKit Go.Deep

theorem Rd.rowK {α : Type} {w : World} {B : Nat} {A : Option Addr} {g : α → List Value} {K : Nat} (hg : ∀ x, (g x).length = K) (h0 : 0 < K) {xs : List α} (h : Rd w B A (xs.flatMap g)) {i : Nat} (hi : i < xs.length) :
    ∃ ad, A = some ad ∧ ad.block < B ∧ ∀ j, j < K → w.cell? (ad.add (i * K + j)) = (g xs[i])[j]? := by
  have hget := fun j hj => flat_get g K xs (fun r _ => hg r) i j hj
  rw [List.getElem?_eq_getElem hi] at hget
  have hsome : ∀ j, j < K → ∃ u, (g xs[i])[j]? = some u := fun j hj => ⟨_, List.getElem?_eq_getElem (by rw [hg]; exact hj)⟩
  obtain ⟨u0, hu0⟩ := hsome 0 h0
  obtain ⟨ad, e, hb, _⟩ := h (i * K + 0) u0 ((hget 0 h0).trans hu0)
  refine ⟨ad, e, hb, fun j hj => ?_⟩
  obtain ⟨u, hu⟩ := hsome j hj
  obtain ⟨ad', e', _, hc⟩ := h (i * K + j) u ((hget j hj).trans hu)
  rw [e] at e'
  injection e' with e'
  subst e'
  rw [hc, hu]
/-- what make lays: the zero row again and again. -/
theorem madeK (z : Array Value) (n K : Nat) (hK : z.size = K) (h0 : 0 < K) : (madeCells z (n * K)).toList = (List.replicate n ()).flatMap fun _ => z.toList := by
  have hlen : ((List.replicate n ()).flatMap fun _ => z.toList).length = n * K := by
    rw [flat_len (fun _ => z.toList) K _ (fun _ _ => by simpa using hK), List.length_replicate]
  apply List.ext_getElem?
  intro j
  by_cases hj : j < n * K
  · have hi : j / K < n := (Nat.div_lt_iff_lt_mul h0).2 hj
    have hm : j % K < K := Nat.mod_lt _ h0
    have hje : j = j / K * K + j % K := by rw [Nat.mul_comm]; exact (Nat.div_add_mod j K).symm
    have hg := flat_get (fun _ : Unit => z.toList) K (List.replicate n ()) (fun _ _ => by simpa using hK) (j / K) (j % K) hm
    rw [← hje, List.getElem?_replicate, if_pos hi] at hg
    rw [hg]
    have : z[j % K]! = z[j % K]'(by omega) := by simp [hK, hm]
    simp [madeCells, hj, hK, hm]
  · rw [List.getElem?_eq_none (l := (madeCells z (n * K)).toList) (by rw [Array.length_toList, size_madeCells]; omega), List.getElem?_eq_none (by rw [hlen]; omega)]
section
variable {H : Type} {enc : TypeId × Value → H} {P : Program} {w : World} {held : Bool}
/-- a slice argument read row by row, by whatever reads one row. -/
theorem rd_rowsG {α : Type} (cells : α → List Value) (In : α → Prop) (K : Nat) {t e : TypeId} {fuel : Nat} {cs : List Value} {x : DataW H × List MemPlace} (ht : P.underlying t = some (.slice e)) (hC : P.cellsOf e = K) (h0 : 0 < K) (hg : ∀ r, (cells r).length = K)
    (hrow : ∀ (fuel : Nat) (cs : List Value) (x : DataW H × List MemPlace), DataW.trod enc P w 0 (fun _ => true) held fuel e cs = some x → ∃ r : α, cs = cells r ∧ In r) (h : DataW.trod enc P w 0 (fun _ => true) held fuel t cs = some x) :
    ∃ (A : Option Addr) (n c : Nat) (rows : List α), cs = [.slice A n c] ∧ rows.length = n ∧ n ≤ maxLen ∧ Rd w w.heap.size A (rows.flatMap cells) ∧ ∀ r ∈ rows, In r := by
  rcases open_slice ht h with ⟨rfl, _⟩ | ⟨a, len, cap, m, n, D, Pl, rfl, _, hl, hm, hmm, _, hx⟩
  · exact ⟨none, 0, 0, [], rfl, rfl, by unfold maxLen; omega, fun k u hu => by simp at hu, fun s hs => by simp at hs⟩
  · simp only [if_true] at hmm
    subst hmm
    have each : ∀ i, i < m → ∃ r : α, In r ∧ ∀ j, j < K → w.cell? (a.add (i * K + j)) = (cells r)[j]? := by
      intro i hi
      obtain ⟨cs', hc, ht'⟩ := hx i hi
      rw [hC] at hc
      obtain ⟨r, rfl, hin⟩ := hrow _ _ _ ht'
      obtain ⟨_, _, hat⟩ := World.cells?_some hc
      exact ⟨r, hin, fun j hj => by rw [← hat j hj, add_add]⟩
    have hlm : len ≤ m := hl
    have all : ∀ k, k ≤ len → ∃ rows : List α, rows.length = k ∧ (∀ r ∈ rows, In r) ∧ ∀ i (hi : i < rows.length), ∀ j, j < K → w.cell? (a.add (i * K + j)) = (cells rows[i])[j]? := by
      intro k
      induction k with
      | zero => exact fun _ => ⟨[], rfl, fun r hr => by simp at hr, fun i hi => by simp at hi⟩
      | succ k ih =>
        intro hk
        obtain ⟨rows, h1, h2, h3⟩ := ih (by omega)
        obtain ⟨r, h4, h5⟩ := each k (by omega)
        refine ⟨rows ++ [r], by simp [h1], fun q hq => ?_, fun i hi j hj => ?_⟩
        · rcases List.mem_append.1 hq with hq | hq
          · exact h2 q hq
          · rw [List.mem_singleton.1 hq]; exact h4
        · by_cases hir : i < rows.length
          · rw [List.getElem_append_left hir]; exact h3 i hir j hj
          · have e : i = k := by simp at hi; omega
            subst e
            rw [List.getElem_append_right (by omega)]
            simp only [h1, Nat.sub_self, List.getElem_cons_zero]
            exact h5 j hj
    obtain ⟨rows, h1, h2, h3⟩ := all len (Nat.le_refl _)
    refine ⟨some a, len, m, rows, rfl, h1, by omega, ?_, h2⟩
    intro p u hu
    have hlen := flat_len cells K rows (fun r _ => hg r)
    have hp : p < rows.length * K := by
      rw [← hlen]
      exact (List.getElem?_eq_some_iff.1 hu).1
    have hi : p / K < rows.length := (Nat.div_lt_iff_lt_mul h0).2 hp
    have hj : p % K < K := Nat.mod_lt _ h0
    have hpe : p = p / K * K + p % K := by rw [Nat.mul_comm]; exact (Nat.div_add_mod p K).symm
    have hget := flat_get cells K rows (fun r _ => hg r) (p / K) (p % K) hj
    rw [← hpe, hu, List.getElem?_eq_getElem hi] at hget
    have hcell := h3 (p / K) hi (p % K) hj
    rw [← hpe] at hcell
    have hcell' : w.cell? (a.add p) = some u := by rw [hcell, hget]; rfl
    exact ⟨a, rfl, by rw [← addBlock a p]; exact World.block_lt_of_cell? w _ hcell', hcell'⟩
theorem tr_int {t : TypeId} {fuel : Nat} {v : Value} {x : DataW H × List MemPlace} (ht : P.underlying t = some (.int .i64)) (h : DataW.trod enc P w 0 (fun _ => true) held fuel t [v] = some x) : ∃ z : Int, v = .int .i64 z ∧ (Lit.int .i64 z).wf = true := by
  obtain ⟨z, hz, _, hwf⟩ := DataW.trod_int ht h
  exact ⟨z, by simpa using hz, hwf⟩
/-- a struct of an int and a list of ints. -/
theorem tr_rt {t e1 : TypeId} {f0 f1 : Field} {fuel : Nat} {x0 x1 : Value} {x : DataW H × List MemPlace} (hs : P.underlying t = some (.struct #[f0, f1])) (o0 : f0.offset = 0) (k0 : P.cellsOf f0.type = 1) (o1 : f1.offset = 1) (k1 : P.cellsOf f1.type = 1)
    (u0 : P.underlying f0.type = some (.int .i64)) (u1 : P.underlying f1.type = some (.slice e1)) (ue1 : P.underlying e1 = some (.int .i64)) (ce1 : P.cellsOf e1 = 1)
    (h : DataW.trod enc P w 0 (fun _ => true) held fuel t [x0, x1] = some x) :
    ∃ (st : Int) (A : Option Addr) (n c : Nat) (zs : List Int), x0 = .int .i64 st ∧ x1 = .slice A n c ∧ (Lit.int .i64 st).wf = true ∧ (zs.length = n ∧ n ≤ maxLen ∧ Rd w w.heap.size A (zs.map (Value.int .i64)) ∧ (∀ z ∈ zs, (Lit.int .i64 z).wf = true)) := by
  obtain ⟨ys, n, _, hx, _, hlen, hg⟩ := DataW.trod_struct hs h
  match ys, hlen with
  | [y0, y1], _ =>
    have g0 : DataW.trod enc P w 0 (fun _ => true) held n f0.type [x0] = some y0 := by simpa [o0, k0] using hg 0 f0 rfl
    have g1 : DataW.trod enc P w 0 (fun _ => true) held n f1.type [x1] = some y1 := by simpa [o1, k1] using hg 1 f1 rfl
    obtain ⟨z, hz, hwf⟩ := tr_int u0 g0
    obtain ⟨A1, n1, c1, zs, e1, a⟩ := rd_ints u1 ue1 ce1 g1
    injection e1 with e1
    exact ⟨z, A1, n1, c1, zs, hz, e1, hwf, a⟩
/-- a struct of two ints. -/
theorem tr_q2 {t : TypeId} {f0 f1 : Field} {fuel : Nat} {x0 x1 : Value} {x : DataW H × List MemPlace} (hs : P.underlying t = some (.struct #[f0, f1])) (o0 : f0.offset = 0) (k0 : P.cellsOf f0.type = 1) (o1 : f1.offset = 1) (k1 : P.cellsOf f1.type = 1)
    (u0 : P.underlying f0.type = some (.int .i64)) (u1 : P.underlying f1.type = some (.int .i64)) (h : DataW.trod enc P w 0 (fun _ => true) held fuel t [x0, x1] = some x) :
    ∃ a b : Int, x0 = .int .i64 a ∧ x1 = .int .i64 b ∧ (Lit.int .i64 a).wf = true ∧ (Lit.int .i64 b).wf = true := by
  obtain ⟨ys, n, _, hx, _, hlen, hg⟩ := DataW.trod_struct hs h
  match ys, hlen with
  | [y0, y1], _ =>
    have g0 : DataW.trod enc P w 0 (fun _ => true) held n f0.type [x0] = some y0 := by simpa [o0, k0] using hg 0 f0 rfl
    have g1 : DataW.trod enc P w 0 (fun _ => true) held n f1.type [x1] = some y1 := by simpa [o1, k1] using hg 1 f1 rfl
    obtain ⟨a, ha, hwa⟩ := tr_int u0 g0
    obtain ⟨b, hb, hwb⟩ := tr_int u1 g1
    exact ⟨a, b, ha, hb, hwa, hwb⟩
end
/-- rows filled from the front, the rest as make lays it. -/
def fillG {α : Type} (cells : α → List Value) (z : List Value) (ys : List α) (m : Nat) : List Value := ys.flatMap cells ++ (List.replicate m ()).flatMap fun _ => z
theorem fillG_pre {α : Type} {cells : α → List Value} {K : Nat} (hg : ∀ x, (cells x).length = K) (ys : List α) : (ys.flatMap cells).length = ys.length * K := flat_len cells K ys (fun r _ => hg r)
theorem fillG_get {α : Type} {cells : α → List Value} {K : Nat} (hg : ∀ x, (cells x).length = K) {z : List Value} (hz : z.length = K) (ys : List α) (m j : Nat) (hm : 0 < m) (hj : j < K) : (fillG cells z ys m)[ys.length * K + j]? = z[j]? := by
  unfold fillG
  rw [List.getElem?_append_right (by rw [fillG_pre hg]; omega), fillG_pre hg, Nat.add_sub_cancel_left]
  have := flat_get (fun _ : Unit => z) K (List.replicate m ()) (fun _ _ => hz) 0 j hj
  rw [Nat.zero_mul, Nat.zero_add, List.getElem?_replicate, if_pos hm] at this
  exact this
theorem ownOff {w w' : World} {S : Nat → Prop} {B E s n g c : Nat} {xs : List Value} (h : Off S w w') (ho : w.ownsRow B E s (.slice (some ⟨g, 0, none⟩) n c) n xs) (hs : ¬ S g) : w'.ownsRow B E s (.slice (some ⟨g, 0, none⟩) n c) n xs := Off.own h ho hs
end Go.Proofs.Ytlgkjidginibdaa

namespace Go.Proofs.Ytlgkjidginibdaa
open Go.ChangeShapes Go.WideShapes Go.ChangeAt Go.RowKit

def blkP (a b : Int) : Prop := 0 ≤ a ∧ 1 ≤ b ∧ a + b ≤ 24
set_option maxHeartbeats 400000 in
theorem toBlk (x y : Int) (w : World) :
    Calls Try.prog 42 #[.agg #[.int .i64 x, .int .i64 y]] w fun e w' => e = .returned (.agg #[.int .i64 x, .int .i64 y]) ∧ Below w.heap.size w w' := by
  go_enter Try.func42, Try.ntmps42
  go_wp2
  exact bodyPost_ret (v := .agg #[.int .i64 x, .int .i64 y]) (by simp [results, Try.results42, go_sem]) rfl ⟨rfl, (((Below.refl _ _).alloc (Nat.le_refl _) _).alloc (by simp) _).alloc (by simp; omega) _⟩

set_option maxHeartbeats 1000000 in
theorem specBlk (a b : Int) (w : World) : Calls Try.prog 153 #[.agg #[.int .i64 a, .int .i64 b]] w (RetP (.bool (pb (blkP a b))) w) := by
  have HB := Lib.hid ((Below.refl w.heap.size w).alloc (Nat.le_refl _) (Obj.cells #[.int .i64 a, .int .i64 b] 42))
  by_cases h1 : 0 ≤ a ∧ a ≤ 23
  · have C1 := Lib.hid (fun W => in_yes a 0 23 W h1.1 h1.2)
    obtain ⟨h1a, h1b⟩ := h1
    by_cases h2 : 1 ≤ b ∧ b ≤ 24 - a
    · have HR : Hid ((.bool true : Value) = .bool (pb (blkP a b))) := Lib.hid (by rw [pb_true (show blkP a b from ⟨h1a, h2.1, by omega⟩)])
      have C2 := Lib.hid (fun W => in_yes b 1 (24 - a) W h2.1 h2.2)
      clear h2
      go_enter Try.func153, Try.ntmps153
      go_wp2_with fail
      refine (C1.out _).mono ?_
      rintro e w' ⟨rfl, rfl⟩
      go_wp2_with fail
      refine (C2.out _).mono ?_
      rintro e w' ⟨rfl, rfl⟩
      go_wp2
      go_ret
      exact retP HR.out HB.out
    · have HR : Hid ((.bool false : Value) = .bool (pb (blkP a b))) := Lib.hid (by rw [pb_false (show ¬ blkP a b from fun h => h2 ⟨h.2.1, by have := h.2.2; omega⟩)])
      have C2 := Lib.hid (fun W => in_no b 1 (24 - a) W (by omega))
      clear h2
      go_enter Try.func153, Try.ntmps153
      go_wp2_with fail
      refine (C1.out _).mono ?_
      rintro e w' ⟨rfl, rfl⟩
      go_wp2_with fail
      refine (C2.out _).mono ?_
      rintro e w' ⟨rfl, rfl⟩
      go_wp2
      go_ret
      exact retP HR.out HB.out
  · have HR : Hid ((.bool false : Value) = .bool (pb (blkP a b))) := Lib.hid (by rw [pb_false (show ¬ blkP a b from fun h => h1 ⟨h.1, by have h3 := h.2.1; have h4 := h.2.2; omega⟩)])
    have C1 := Lib.hid (fun W => in_no a 0 23 W (by omega))
    clear h1
    go_enter Try.func153, Try.ntmps153
    go_wp2_with fail
    refine (C1.out _).mono ?_
    rintro e w' ⟨rfl, rfl⟩
    go_wp2
    go_ret
    exact retP HR.out HB.out

set_option maxHeartbeats 1000000 in
theorem implBlk (a b : Int) (w : World) : Calls Try.prog 163 #[.agg #[.int .i64 a, .int .i64 b]] w (RetP (.bool (pb (blkP a b))) w) := by
  have HB := Lib.hid ((Below.refl w.heap.size w).alloc (Nat.le_refl _) (Obj.cells #[.int .i64 a, .int .i64 b] 42))
  by_cases h1 : 0 ≤ a
  · by_cases h2 : 1 ≤ b
    · by_cases h3 : b ≤ 24
      · have e1 : IntKind.i64.wrap (24 - b) = 24 - b := IntWalk.i64_in _ (by omega)
        by_cases h4 : a ≤ 24 - b
        · have HR : Hid ((.bool true : Value) = .bool (pb (blkP a b))) := Lib.hid (by rw [pb_true (show blkP a b from ⟨h1, h2, by omega⟩)])
          go_enter Try.func163, Try.ntmps163
          go_wp2
          go_ret
          exact retP HR.out HB.out
        · have HR : Hid ((.bool false : Value) = .bool (pb (blkP a b))) := Lib.hid (by rw [pb_false (show ¬ blkP a b from fun h => h4 (by have := h.2.2; omega))])
          have q : decide (a ≤ 24 - b) = false := decide_eq_false h4
          clear h4
          go_enter Try.func163, Try.ntmps163
          go_wp2
          go_ret
          exact retP HR.out HB.out
      · have HR : Hid ((.bool false : Value) = .bool (pb (blkP a b))) := Lib.hid (by rw [pb_false (show ¬ blkP a b from fun h => h3 (by have h4 := h.1; have := h.2.2; omega))])
        have q : decide (b ≤ 24) = false := decide_eq_false h3
        clear h3
        go_enter Try.func163, Try.ntmps163
        go_wp2
        go_ret
        exact retP HR.out HB.out
    · have HR : Hid ((.bool false : Value) = .bool (pb (blkP a b))) := Lib.hid (by rw [pb_false (show ¬ blkP a b from fun h => h2 h.2.1)])
      have q : decide (1 ≤ b) = false := decide_eq_false h2
      clear h2
      go_enter Try.func163, Try.ntmps163
      go_wp2
      go_ret
      exact retP HR.out HB.out
  · have HR : Hid ((.bool false : Value) = .bool (pb (blkP a b))) := Lib.hid (by rw [pb_false (show ¬ blkP a b from fun h => h1 h.1)])
    have q : decide (0 ≤ a) = false := decide_eq_false h1
    clear h1
    go_enter Try.func163, Try.ntmps163
    go_wp2
    go_ret
    exact retP HR.out HB.out

def bitsV (a b : Int) : Int := wrap64 (wrap64 (wrap64 (2 ^ b.toNat) - 1) * 2 ^ a.toNat)
set_option maxHeartbeats 1000000 in
theorem specBits (a b : Int) (w : World) (h : blkP a b) : Calls Try.prog 207 #[.agg #[.int .i64 a, .int .i64 b]] w (RetP (.int .i64 (bitsV a b)) w) := by
  obtain ⟨h1, h2, h3⟩ := h
  have h4 : b ≤ 24 := by omega
  have h5 : a ≤ 23 := by omega
  go_enter Try.func207, Try.ntmps207
  go_wp2
  go_ret
  exact retP rfl ((Below.refl _ _).alloc (Nat.le_refl _) _)
set_option maxHeartbeats 1000000 in
theorem implBits (a b : Int) (w : World) (h : blkP a b) : Calls Try.prog 215 #[.agg #[.int .i64 a, .int .i64 b]] w (RetP (.int .i64 (bitsV a b)) w) := by
  obtain ⟨h1, h2, h3⟩ := h
  have h4 : b ≤ 24 := by omega
  have h5 : a ≤ 23 := by omega
  go_enter Try.func215, Try.ntmps215
  go_wp2
  go_quiet (fail)
  go_wp2
  go_ret
  exact retP rfl (drewN_below ((Below.refl _ _).alloc (Nat.le_refl _) _) _)

noncomputable def maskB (a b : Int) : Bool := pb (blkP a b)
noncomputable def maskI (a b : Int) : Int := if maskB a b then bitsV a b else 0
noncomputable def maskR (a b : Int) : Value := .tuple #[.int .i64 (maskI a b), .bool (maskB a b)]

end Go.Proofs.Ytlgkjidginibdaa

namespace Go.Proofs.Ytlgkjidginibdaa
open Go.ChangeShapes Go.WideShapes Go.ChangeAt Go.RowKit Go.Deep

/-- a struct as it lies in memory. -/
structure Lt where
  p0 : Int
  p1 : Int
  A : Option Addr
  n : Nat
  c : Nat
  zs : List Int
  q0 : Int
  q1 : Int
def Lt.cells (x : Lt) : List Value := [.int .i64 x.p0, .int .i64 x.p1, .slice x.A x.n x.c, .int .i64 x.q0, .int .i64 x.q1]
theorem Lt.cells_len (x : Lt) : x.cells.length = 5 := rfl
/-- what it says. -/
structure LtD where
  p0 : Int
  p1 : Int
  zs : List Int
  q0 : Int
  q1 : Int
def Lt.d (x : Lt) : LtD := ⟨x.p0, x.p1, x.zs, x.q0, x.q1⟩
def LtIn (w : World) (x : Lt) : Prop := x.zs.length = x.n ∧ x.n ≤ maxLen ∧ Rd w w.heap.size x.A (x.zs.map (Value.int .i64))
def LtAt (w : World) (x : Lt) : Prop := x.zs.length = x.n ∧ x.n ≤ 1048576 ∧ Rd w w.heap.size x.A (x.zs.map (Value.int .i64))
theorem LtIn.moved {w w' : World} {x : Lt} (h : LtIn w x) (hb : Below w.heap.size w w') : LtIn w' x := ⟨h.1, h.2.1, h.2.2.moved hb⟩
theorem LtAt.moved {w w' : World} {x : Lt} (h : LtAt w x) (hb : Below w.heap.size w w') : LtAt w' x := ⟨h.1, h.2.1, h.2.2.moved hb⟩
theorem LtAt.zs {w : World} {x : Lt} (h : LtAt w x) : x.d.zs.length = x.n := h.1
def Lttot (xs : List Lt) : Nat := (xs.map Lt.n).sum
theorem Lttot_snoc (xs : List Lt) (k : Nat) (h : k < xs.length) : Lttot (xs.take (k + 1)) = Lttot (xs.take k) + xs[k].n := by
  unfold Lttot; rw [List.take_succ_eq_append_getElem h, List.map_append, List.sum_append]; simp
theorem Lttot_le {xs : List Lt} {x : Lt} (h : x ∈ xs) : x.n ≤ Lttot xs := by
  induction xs with
  | nil => simp at h
  | cons y ys ih =>
    have e : Lttot (y :: ys) = y.n + Lttot ys := by unfold Lttot; simp
    rcases List.mem_cons.1 h with rfl | h
    · omega
    · have := ih h; omega
theorem Rd.lt {w : World} {B : Nat} {A : Option Addr} {xs : List Lt} (h : Rd w B A (xs.flatMap Lt.cells)) {k : Nat} (hk : k < xs.length) :
    ∃ ad, A = some ad ∧ ad.block < B ∧ w.cell? (ad.add (k * 5)) = some (.int .i64 xs[k].p0) ∧ w.cell? ⟨(ad.add (k * 5)).block, (ad.add (k * 5)).off + 1, none⟩ = some (.int .i64 xs[k].p1) ∧ w.cell? ⟨(ad.add (k * 5)).block, (ad.add (k * 5)).off + 2, none⟩ = some (.slice xs[k].A xs[k].n xs[k].c) ∧ w.cell? ⟨(ad.add (k * 5)).block, (ad.add (k * 5)).off + 3, none⟩ = some (.int .i64 xs[k].q0) ∧ w.cell? ⟨(ad.add (k * 5)).block, (ad.add (k * 5)).off + 4, none⟩ = some (.int .i64 xs[k].q1) := by
  obtain ⟨ad, e, hb, hc⟩ := h.rowK Lt.cells_len (by decide) hk
  have h0 := hc 0 (by decide)
  rw [Nat.add_zero] at h0
  have h1 := hc 1 (by decide)
  rw [add_next] at h1
  have h2 := hc 2 (by decide)
  rw [add_next] at h2
  have h3 := hc 3 (by decide)
  rw [add_next] at h3
  have h4 := hc 4 (by decide)
  rw [add_next] at h4
  exact ⟨ad, e, hb, h0, h1, h2, h3, h4⟩
theorem Rd.ltc {w : World} {B b o : Nat} {xs : List Lt} (h : Rd w B (some ⟨b, o, none⟩) (xs.flatMap Lt.cells)) {k : Nat} (hk : k < xs.length) :
    b < B ∧ w.cell? ⟨b, o + k * 5, none⟩ = some (.int .i64 xs[k].p0) ∧ w.cell? ⟨b, o + k * 5 + 1, none⟩ = some (.int .i64 xs[k].p1) ∧ w.cell? ⟨b, o + k * 5 + 2, none⟩ = some (.slice xs[k].A xs[k].n xs[k].c) ∧ w.cell? ⟨b, o + k * 5 + 3, none⟩ = some (.int .i64 xs[k].q0) ∧ w.cell? ⟨b, o + k * 5 + 4, none⟩ = some (.int .i64 xs[k].q1) := by
  obtain ⟨ad, e, hb, h0, h1, h2, h3, h4⟩ := h.lt hk
  injection e with e; subst e
  have ea : (⟨b, o, none⟩ : Addr).add (k * 5) = ⟨b, o + k * 5, none⟩ := by unfold Addr.add; by_cases h : k * 5 = 0 <;> simp [h]
  rw [ea] at h0 h1 h2 h3 h4
  exact ⟨hb, h0, h1, h2, h3, h4⟩
section
variable {H : Type} {enc : TypeId × Value → H} {w : World} {held : Bool}
set_option maxRecDepth 100000 in
theorem trod_Lt {fuel : Nat} {cs : List Value} {x : DataW H × List MemPlace} (h : DataW.trod enc Try.prog w 0 (fun _ => true) held fuel 230 cs = some x) : ∃ r : Lt, cs = r.cells ∧ LtIn w r := by
  obtain ⟨ys, n, _, _, hl, hlen, hg⟩ := DataW.trod_struct Try.underlying230 h
  have hC : Try.prog.cellsOf 230 = 5 := by kernel_rfl
  rw [hC] at hl
  match cs, hl with
  | [x0, x1, x2, x3, x4], _ =>
    have g0 := hg 0 _ rfl
    have hs0 : ∃ y, ys[0]? = some y := ⟨_, List.getElem?_eq_getElem (by rw [hlen]; decide)⟩
    obtain ⟨y0, hy0⟩ := hs0
    rw [hy0] at g0
    have g0' : DataW.trod enc Try.prog w 0 (fun _ => true) held n _ [x0] = some y0 := g0
    obtain ⟨z0, rfl, _⟩ := tr_int Try.underlying3 g0'
    have g1 := hg 1 _ rfl
    have hs1 : ∃ y, ys[1]? = some y := ⟨_, List.getElem?_eq_getElem (by rw [hlen]; decide)⟩
    obtain ⟨y1, hy1⟩ := hs1
    rw [hy1] at g1
    have g1' : DataW.trod enc Try.prog w 0 (fun _ => true) held n _ [x1, x2] = some y1 := g1
    obtain ⟨st, A, nn, c, zs, rfl, rfl, _, hz1, hz2, hz3, _⟩ := tr_rt Try.underlying28 rfl (by kernel_rfl) rfl (by kernel_rfl) Try.underlying3 Try.underlying26 Try.underlying3 (by kernel_rfl) g1'
    have g2 := hg 2 _ rfl
    have hs2 : ∃ y, ys[2]? = some y := ⟨_, List.getElem?_eq_getElem (by rw [hlen]; decide)⟩
    obtain ⟨y2, hy2⟩ := hs2
    rw [hy2] at g2
    have g2' : DataW.trod enc Try.prog w 0 (fun _ => true) held n _ [x3, x4] = some y2 := g2
    obtain ⟨a, b, rfl, rfl, _, _⟩ := tr_q2 Try.underlying30 rfl (by kernel_rfl) rfl (by kernel_rfl) Try.underlying3 Try.underlying3 g2'
    exact ⟨⟨z0, st, A, nn, c, zs, a, b⟩, rfl, hz1, hz2, hz3⟩
theorem rd_lts {fuel : Nat} {cs : List Value} {x : DataW H × List MemPlace} (h : DataW.trod enc Try.prog w 0 (fun _ => true) held fuel 61 cs = some x) :
    ∃ (A : Option Addr) (n c : Nat) (rows : List Lt), cs = [.slice A n c] ∧ rows.length = n ∧ n ≤ maxLen ∧ Rd w w.heap.size A (rows.flatMap Lt.cells) ∧ ∀ r ∈ rows, LtIn w r :=
  rd_rowsG Lt.cells (LtIn w) 5 Try.underlying61 (by kernel_rfl) (by decide) Lt.cells_len (fun _ _ _ h => trod_Lt h) h
end
def LtSz (left : Int) (n : Nat) (w : World) (e : Ending) (w' : World) : Prop := ∃ v : Int, e = .returned (.int .i64 v) ∧ Below w.heap.size w w' ∧ -1 ≤ v ∧ v ≤ left ∧ (0 ≤ v → v + n ≤ left)
set_option maxHeartbeats 400000 in
theorem szLt (x : Lt) (left : Int) (w : World) (hm : x.n ≤ maxLen) (hl0 : 0 ≤ left) (hl1 : left ≤ 1048576) :
    Calls Try.prog 174 #[.agg #[.int .i64 x.p0, .int .i64 x.p1, .slice x.A x.n x.c, .int .i64 x.q0, .int .i64 x.q1], .int .i64 left] w (LtSz left x.n w) := by
  have HB := Lib.hid ((Below.refl w.heap.size w).alloc (Nat.le_refl _) (Obj.cells #[.int .i64 x.p0, .int .i64 x.p1, .slice x.A x.n x.c, .int .i64 x.q0, .int .i64 x.q1] 230))
  have hm' := hm
  unfold maxLen at hm'
  have CS := Lib.hid (fun W => szRt x.p1 x.A x.n x.c left W hm hl0 hl1)
  obtain ⟨p0, p1, A, n, c, zs, q0, q1⟩ := x
  clear hm
  go_enter Try.func174, Try.ntmps174
  go_wp2_with fail
  refine (CS.out _).mono ?_
  rintro e w1 ⟨v, rfl, hb1, h0, h1, h2⟩
  have H2 := Lib.hid h2; clear h2
  have HB2 := Lib.hid (HB.out.trans (hb1.mono HB.out.size)); clear HB hb1; have HB := HB2; clear HB2
  by_cases hv : v < 0
  · go_wp2
    go_ret
    exact ⟨-1, rfl, HB.out, by omega, by omega, by omega⟩
  · have hv' : 0 ≤ v := by omega
    clear hv
    go_wp2
    go_ret
    exact ⟨v, rfl, HB.out, h0, h1, H2.out⟩
set_option maxRecDepth 100000 in
set_option maxHeartbeats 1000000 in
theorem szLts (A : Option Addr) (n c : Nat) (left : Int) (xs : List Lt) (w : World) (hn : xs.length = n) (hm : n ≤ maxLen) (hr : Rd w w.heap.size A (xs.flatMap Lt.cells)) (hin : ∀ x ∈ xs, LtIn w x) (hl0 : 0 ≤ left) (hl1 : left ≤ 1048576) :
    Calls Try.prog 100 #[.slice A n c, .int .i64 left] w (LtSz left (n + Lttot xs) w) := by
  unfold maxLen at hm
  by_cases hc : left - n < 0
  · go_enter Try.func100, Try.ntmps100
    go_wp2
    go_ret
    exact ⟨-1, rfl, Below.refl _ _, by omega, by omega, by omega⟩
  have hc' : 0 ≤ left - n := by omega
  have HN := Lib.hid hn; have HR := Lib.hid hr; have HIN := Lib.hid hin
  clear hc hn hr hin
  go_enter Try.func100, Try.ntmps100
  go_wp2
  go_loopw [1, 5] (fun l i wr => ∃ (k : Nat) (v : Int), k ≤ n ∧ i = .int .i64 k ∧ l = .int .i64 v ∧ 0 ≤ v ∧ v ≤ left ∧ Hid (v + n + Lttot (xs.take k) ≤ left) ∧ Below w.heap.size w wr) (fun _ i _ => n - (intOf i).toNat)
  case atStart => exact ⟨0, left - n, Nat.zero_le _, rfl, rfl, hc', by omega, Lib.hid (by simp [Lttot]), Below.refl _ _⟩
  case round =>
    obtain ⟨k, v, hk, rfl, rfl, hv0, hv1, HV, hb⟩ := hrel
    by_cases hlt : k < n
    case neg =>
      have HE : Hid (v + (n + Lttot xs : Nat) ≤ left) := Lib.hid (by
        have h1 := HV.out
        rw [List.take_of_length_le (by have := HN.out; omega)] at h1
        omega)
      go_wp2
      go_ret
      exact ⟨v, rfl, hb, by omega, hv1, fun _ => HE.out⟩
    case pos =>
    have hks : k < xs.length := by have := HN.out; omega
    have hx := HIN.out xs[k] (List.getElem_mem hks)
    obtain ⟨ad, rfl, hbl, h0, h1, h2, h3, h4⟩ := HR.out.lt hks
    rw [← hb.cell (by rw [addBlock]; exact hbl)] at h0
    rw [← hb.cell (by simp only [addBlock]; exact hbl)] at h1 h2 h3 h4
    have HTS := Lib.hid (Lttot_snoc xs k hks)
    have CS := Lib.hid (szLt xs[k] v wr hx.2.1 hv0 (by omega))
    generalize xs[k]'hks = x at h0 h1 h2 h3 h4 HTS CS
    obtain ⟨p0, p1, A, nn, c, zs, q0, q1⟩ := x
    simp only at h0 h1 h2 h3 h4
    clear hx
    go_wp2_with fail
    refine CS.out.mono ?_
    rintro e w2 ⟨u, rfl, hb2, hu0, hu1, hu2⟩
    have HB2 := Lib.hid (hb.trans (hb2.mono hb.size))
    have HU := Lib.hid hu2
    clear hb2 hu2
    by_cases hneg : u < 0
    · go_wp2
      go_ret
      exact ⟨-1, rfl, HB2.out, by omega, by omega, by omega⟩
    · have hpos : 0 ≤ u := by omega
      have HV2 : Hid (u + n + Lttot (xs.take (k + 1)) ≤ left) := Lib.hid (by have h1 := HV.out; have h2 := HU.out hpos; have h3 := HTS.out; (try simp only at h2); (try simp only at h3); omega)
      clear hneg
      go_wp2
      go_roundw
      case rel => exact ⟨k + 1, u, by omega, by go_num, rfl, hpos, by omega, HV2, HB2.out⟩
      case measure => simp [intOf]; omega
def LtOut (x : Lt) (w : World) (e : Ending) (w' : World) : Prop := ∃ g, e = .returned (.agg #[.int .i64 x.p0, .int .i64 x.p1, .slice (some ⟨g, 0, none⟩) x.n x.n, .int .i64 x.q0, .int .i64 x.q1]) ∧ w.heap.size ≤ g ∧
  w'.ownsRow w.heap.size 3 1 (.slice (some ⟨g, 0, none⟩) x.n x.n) x.n (x.zs.map (Value.int .i64)) ∧ Below w.heap.size w w'
set_option maxRecDepth 100000 in
set_option maxHeartbeats 2000000 in
theorem toLt (x : Lt) (w : World) (hn : x.zs.length = x.n) (hr : Rd w w.heap.size x.A (x.zs.map (Value.int .i64))) (hs : x.n ≤ 1048576) :
    Calls Try.prog 179 #[.agg #[.int .i64 x.p0, .int .i64 x.p1, .slice x.A x.n x.c, .int .i64 x.q0, .int .i64 x.q1]] w (LtOut x w) := by
  obtain ⟨p0, p1, A, n, c, zs, q0, q1⟩ := x
  simp only at hn hr hs ⊢
  have HN := Lib.hid hn; have HR := Lib.hid hr
  clear hn hr
  go_enter Try.func179, Try.ntmps179
  go_wp2_with fail
  have hb0 := (((Below.refl w.heap.size w).alloc (Nat.le_refl _) (Obj.cells #[.int .i64 p0, .int .i64 p1, .slice A n c, .int .i64 q0, .int .i64 q1] 230)).alloc (by simp) (Obj.cells #[.int .i64 0, .int .i64 0, .slice none 0 0, .int .i64 0, .int .i64 0] 155)).alloc (by simp; omega) (Obj.cells #[.int .i64 p0, .int .i64 0, .slice none 0 0, .int .i64 0, .int .i64 0] 155)
  have HB0 := Lib.hid hb0
  refine (toRt p1 A n c zs _ HN.out (HR.out.moved hb0) hs).mono ?_
  clear hb0
  rintro e w2 ⟨g1, rfl, hg1, hown1, hb2⟩
  obtain ⟨hc, hf⟩ := bcell hb2
  have hz := hb2.size
  have hb02 : Below w.heap.size w w2 := HB0.out.trans (hb2.mono HB0.out.size)
  simp at hg1 hz
  have HO := Lib.hid (own_base hown1 (B' := w.heap.size) (by simp; omega))
  have HB2 := Lib.hid hb02
  clear hown1 hb02 hb2
  have hza : w.heap.size + 1 + 1 < w2.heap.size := by omega
  have hzb : w.heap.size + 1 < w2.heap.size := by omega
  have hzc : w.heap.size < w2.heap.size := by omega
  go_wp2_with fail
  have hb3 := (HB2.out.setCell (p := ⟨w.heap.size + 1 + 1, 1, none⟩) (by simp; omega) (.int .i64 p1)).setCell (p := ⟨w.heap.size + 1 + 1, 2, none⟩) (by simp; omega) (.slice (some ⟨g1, 0, none⟩) n n)
  refine (toBlk q0 q1 _).mono ?_
  rintro e w4 ⟨rfl, hb4⟩
  obtain ⟨hc4, hf4⟩ := bcell hb4
  have hz4 := hb4.size
  have hb04 : Below w.heap.size w w4 := hb3.trans (hb4.mono hb3.size)
  have HB4 := Lib.hid hb04
  have HO4 := Lib.hid (ownB (own_set (own_set HO.out (p := ⟨w.heap.size + 1 + 1, 1, none⟩) (by simp; omega) (.int .i64 p1)) (p := ⟨w.heap.size + 1 + 1, 2, none⟩) (by simp; omega) (.slice (some ⟨g1, 0, none⟩) n n)) hb4)
  clear hb04 hb3 HO HB2
  simp at hz4
  go_wp2
  refine bodyPost_ret (v := .agg #[.int .i64 p0, .int .i64 p1, .slice (some ⟨g1, 0, none⟩) n n, .int .i64 q0, .int .i64 q1]) (by simp [results, Try.results179, go_sem, hc4, hc, hz4, hz, hza, hzb, hzc]) rfl ⟨g1, rfl, by omega, ?_, ?_⟩
  · repeat (first | with_reducible exact HO4.out | refine own_set ?_ (p := ⟨_, _, none⟩) (by simp; omega) _)
  · repeat (first | with_reducible exact HB4.out | refine Below.setCell ?_ (p := ⟨_, _, none⟩) (by simp; omega) _ | refine Below.setCell ?_ (p := ⟨_, _, none⟩) (by simp) _)
/-- a copy's row: its ints in a block of their own. -/
def LtOwn (B g0 : Nat) (w : World) (y : Lt) : Prop := ∃ q, y.A = some ⟨q, 0, none⟩ ∧ y.c = y.n ∧ y.zs.length = y.n ∧ y.n ≤ 1048576 ∧ q ≠ g0 ∧ w.ownsRow B 3 1 (.slice (some ⟨q, 0, none⟩) y.n y.n) y.n (y.zs.map (Value.int .i64))
theorem LtOwn.at_ {B g0 : Nat} {w : World} {y : Lt} (h : LtOwn B g0 w y) : LtAt w y := by
  obtain ⟨q, e, e2, h1, h2, _, ho⟩ := h
  exact ⟨h1, h2, by rw [e]; exact Rd.ofOwnK ho⟩
theorem LtOwn.moved {B g0 : Nat} {w w' : World} {y : Lt} (h : LtOwn B g0 w y) (hb : Below w.heap.size w w') : LtOwn B g0 w' y := by
  obtain ⟨q, e, e2, h1, h2, h3, ho⟩ := h
  exact ⟨q, e, e2, h1, h2, h3, ownB ho hb⟩
theorem LtOwn.base {B B' g0 : Nat} {w : World} {y : Lt} (h : LtOwn B g0 w y) (hB : B' ≤ B) : LtOwn B' g0 w y := by
  obtain ⟨q, e, e2, h1, h2, h3, ho⟩ := h
  exact ⟨q, e, e2, h1, h2, h3, own_base ho hB⟩
theorem LtOwn.set_ {B g0 : Nat} {w : World} {y : Lt} (h : LtOwn B g0 w y) (o : Nat) (u : Value) : LtOwn B g0 (w.setCell ⟨g0, o, none⟩ u) y := by
  obtain ⟨q, e, e2, h1, h2, h3, ho⟩ := h
  exact ⟨q, e, e2, h1, h2, h3, own_set ho (p := ⟨g0, o, none⟩) (fun h => h3 h.symm) u⟩
/-- a copied slice: row and inner rows of the call's own, no two inner rows in one block. -/
structure Lts (B g n : Nat) (ys : List Lt) (w : World) : Prop where
  len : ys.length = n
  row : w.ownsRow B 155 5 (.slice (some ⟨g, 0, none⟩) n n) n (ys.flatMap Lt.cells)
  own : ∀ y ∈ ys, LtOwn B g w y
  apart : ys.Pairwise fun y y' => y.A ≠ y'.A
theorem Lts.moved {B g n : Nat} {ys : List Lt} {w w' : World} (h : Lts B g n ys w) (hb : Below w.heap.size w w') : Lts B g n ys w' := ⟨h.len, ownB h.row hb, fun y hy => (h.own y hy).moved hb, h.apart⟩
theorem Lts.base {B B' g n : Nat} {ys : List Lt} {w : World} (h : Lts B g n ys w) (hB : B' ≤ B) : Lts B' g n ys w := ⟨h.len, own_base h.row hB, fun y hy => (h.own y hy).base hB, h.apart⟩
theorem Lts.rd {B g n : Nat} {ys : List Lt} {w : World} (h : Lts B g n ys w) : Rd w w.heap.size (some ⟨g, 0, none⟩) (ys.flatMap Lt.cells) := Rd.ofOwnK h.row
theorem Lts.at_ {B g n : Nat} {ys : List Lt} {w : World} (h : Lts B g n ys w) : ∀ y ∈ ys, LtAt w y := fun y hy => (h.own y hy).at_
theorem Try.inf_Lt : (Try.prog.info? 155).map (fun i => (i.zero, i.size, i.bytes)) = some (some (.agg #[.int .i64 0, .int .i64 0, .slice none 0 0, .int .i64 0, .int .i64 0]), 5, 56) := by kernel_rfl
def Ltz : List Value := [.int .i64 0, .int .i64 0, .slice none 0 0, .int .i64 0, .int .i64 0]
theorem Lt_set (ys : List Lt) (m : Nat) (y : Lt) (hm : 0 < m) : (((((fillG Lt.cells Ltz ys m).set (ys.length * 5) (.int .i64 y.p0)).set (ys.length * 5 + 1) (.int .i64 y.p1)).set (ys.length * 5 + 2) (.slice y.A y.n y.c)).set (ys.length * 5 + 3) (.int .i64 y.q0)).set (ys.length * 5 + 4) (.int .i64 y.q1) = fillG Lt.cells Ltz (ys ++ [y]) (m - 1) := by
  obtain ⟨m, rfl⟩ : ∃ j, m = j + 1 := ⟨m - 1, by omega⟩
  have hp := fillG_pre Lt.cells_len ys
  unfold fillG
  rw [set_pre0 _ _ _ _ hp, set_pre _ _ _ _ hp, set_pre _ _ _ _ hp, set_pre _ _ _ _ hp, set_pre _ _ _ _ hp, List.replicate_succ, Nat.add_sub_cancel]
  simp only [Ltz, Lt.cells, List.flatMap_append, List.flatMap_cons, List.flatMap_nil, List.append_nil, List.append_assoc, List.set_cons_zero, List.set_cons_succ, List.cons_append, List.nil_append]
def LtsOut (xs : List Lt) (n : Nat) (w : World) (e : Ending) (w' : World) : Prop := ∃ (g : Nat) (ys : List Lt), e = .returned (.slice (some ⟨g, 0, none⟩) n n) ∧ w.heap.size ≤ g ∧ ys.map Lt.d = xs.map Lt.d ∧ Lts w.heap.size g n ys w' ∧ Below w.heap.size w w'
theorem Lt_snoc {α β : Type} {f : α → β} {xs : List α} {ys : List α} {k : Nat} (h : ys.map f = (xs.take k).map f) (hk : k < xs.length) {y : α} (hy : f y = f xs[k]) : (ys ++ [y]).map f = (xs.take (k + 1)).map f := by
  rw [List.take_succ_eq_append_getElem hk, List.map_append, List.map_append, h]; simp [hy]
set_option maxRecDepth 100000 in
set_option maxHeartbeats 4000000 in
theorem toLts (A : Option Addr) (n c : Nat) (xs : List Lt) (w : World) (hn : xs.length = n) (hr : Rd w w.heap.size A (xs.flatMap Lt.cells)) (hin : ∀ x ∈ xs, LtAt w x) (hsz : n ≤ 1048576) :
    Calls Try.prog 104 #[.slice A n c] w (LtsOut xs n w) := by
  obtain ⟨i0, hi, hz0, hz1, hz2⟩ := info_parts Try.inf_Lt
  have HN := Lib.hid hn; have HR := Lib.hid hr; have HIN := Lib.hid hin
  clear hn hr hin
  go_enter Try.func104, Try.ntmps104
  go_wp2_with (at_make; refine wpList_make_full _ rfl _ _ 65 rfl w.heap.size 155 i0 _ 5 Try.underlying65 hi hz0 hz1 .i64 .i64 n n n rfl rfl rfl rfl (by rw [hz2]; omega) (by unfold maxLen; omega) (Nat.le_refl _) ?_)
  intro w1 hown hgrow
  have hb1 : Below w.heap.size w w1 := (Below.refl _ _).grown hgrow (Nat.le_refl _) (fun k h => by cases h)
  clear hgrow
  have hown0 : Hid (w1.ownsRow w.heap.size 155 5 (.slice (some ⟨w.heap.size, 0, none⟩) n n) n (fillG Lt.cells Ltz [] n)) := Lib.hid (by rw [madeK _ n 5 rfl (by decide)] at hown; exact hown)
  clear hown hi hz0 hz1 hz2
  go_wp2
  go_loopw [4] (fun i wr => ∃ (k : Nat) (ys : List Lt), k ≤ n ∧ i = .int .i64 k ∧ Hid (ys.length = k) ∧ Hid (ys.map Lt.d = (xs.take k).map Lt.d) ∧ Hid (wr.ownsRow w.heap.size 155 5 (.slice (some ⟨w.heap.size, 0, none⟩) n n) n (fillG Lt.cells Ltz ys (n - k))) ∧ Hid (∀ y ∈ ys, LtOwn w.heap.size w.heap.size wr y) ∧ Hid (ys.Pairwise fun y y' => y.A ≠ y'.A) ∧ Below w.heap.size w wr) (fun i _ => n - (intOf i).toNat)
  case atStart => exact ⟨0, [], Nat.zero_le _, rfl, Lib.hid rfl, Lib.hid rfl, hown0, Lib.hid (fun y hy => by simp at hy), Lib.hid List.Pairwise.nil, hb1⟩
  case round =>
    clear hown0 hb1
    obtain ⟨k, ys, hk, rfl, HYL, HYD, HO, HY, HP, hb⟩ := hrel
    by_cases hlt : k < n
    case neg =>
      have hkn : k = n := by omega
      have HF : Hid (Lts w.heap.size w.heap.size n ys wr) := Lib.hid ⟨HYL.out.trans hkn, by
        have := HO.out
        rw [hkn, Nat.sub_self] at this
        simpa [fillG] using this, HY.out, HP.out⟩
      have HD : Hid (ys.map Lt.d = xs.map Lt.d) := Lib.hid (by rw [HYD.out, List.take_of_length_le (by have := HN.out; omega)])
      clear hkn
      go_wp2
      go_ret
      exact ⟨_, ys, rfl, Nat.le_refl _, HD.out, HF.out, hb⟩
    case pos =>
    have hks : k < xs.length := by have := HN.out; omega
    have hx := HIN.out xs[k] (List.getElem_mem hks)
    obtain ⟨ad, rfl, hbl, h0, h1, h2, h3, h4⟩ := HR.out.lt hks
    rw [← hb.cell (by rw [addBlock]; exact hbl)] at h0
    rw [← hb.cell (by simp only [addBlock]; exact hbl)] at h1 h2 h3 h4
    obtain ⟨x, hxe⟩ : ∃ x, xs[k]'hks = x := ⟨_, rfl⟩
    rw [hxe] at hx h0 h1 h2 h3 h4
    have HXE := Lib.hid hxe
    have HXN := Lib.hid hx.1; have HXS := Lib.hid hx.2.1
    have HXR := Lib.hid (hx.2.2.moved hb)
    have CT : Hid (Calls Try.prog 179 #[.agg #[.int .i64 x.p0, .int .i64 x.p1, .slice x.A x.n x.c, .int .i64 x.q0, .int .i64 x.q1]] wr (LtOut x wr)) := Lib.hid (toLt x wr HXN.out HXR.out HXS.out)
    clear hx hxe
    go_wp2_with fail
    refine CT.out.mono ?_
    rintro e w2 ⟨g3, rfl, hg3, hown3, hb2⟩
    have hown := ownB HO.out hb2
    have hb' : Hid (Below w.heap.size w w2) := Lib.hid (hb.trans (hb2.mono hb.size))
    have HBZ := Lib.hid hb.size
    have hyl := HYL.out
    have HNE : Hid (g3 ≠ w.heap.size) := Lib.hid (by
      have h1 := (HO.out.lt w.heap.size rfl).2
      omega)
    have HNEW : Hid (∀ y ∈ ys, y.A ≠ some ⟨g3, 0, none⟩) := Lib.hid (fun y hy e => by
      obtain ⟨q, e1, _, _, _, _, ho⟩ := HY.out y hy
      have h1 := (ho.lt q rfl).2
      rw [e1] at e
      injection e with e; injection e with e
      omega)
    have HY2 := Lib.hid (fun y hy => (HY.out y hy).moved hb2)
    have HO3 := Lib.hid (own_base hown3 (B' := w.heap.size) HBZ.out)
    clear h0 h1 h2 h3 h4 hb2 hown3
    have hold0 : w2.cell? ⟨w.heap.size, k * 5, none⟩ = some (.int .i64 0) := by
      have h9 := hown.cellAt (k * 5) (by omega)
      have h8 := fillG_get Lt.cells_len (z := Ltz) rfl ys (n - k) 0 (by omega) (by decide)
      rw [hyl] at h8
      rw [h9]; exact h8
    have hfz0 := hown.frozenAt (k * 5)
    have hold1 : w2.cell? ⟨w.heap.size, k * 5 + 1, none⟩ = some (.int .i64 0) := by
      have h9 := hown.cellAt (k * 5 + 1) (by omega)
      have h8 := fillG_get Lt.cells_len (z := Ltz) rfl ys (n - k) 1 (by omega) (by decide)
      rw [hyl] at h8
      rw [h9]; exact h8
    have hfz1 := hown.frozenAt (k * 5 + 1)
    have hold2 : w2.cell? ⟨w.heap.size, k * 5 + 2, none⟩ = some (.slice none 0 0) := by
      have h9 := hown.cellAt (k * 5 + 2) (by omega)
      have h8 := fillG_get Lt.cells_len (z := Ltz) rfl ys (n - k) 2 (by omega) (by decide)
      rw [hyl] at h8
      rw [h9]; exact h8
    have hfz2 := hown.frozenAt (k * 5 + 2)
    have hold3 : w2.cell? ⟨w.heap.size, k * 5 + 3, none⟩ = some (.int .i64 0) := by
      have h9 := hown.cellAt (k * 5 + 3) (by omega)
      have h8 := fillG_get Lt.cells_len (z := Ltz) rfl ys (n - k) 3 (by omega) (by decide)
      rw [hyl] at h8
      rw [h9]; exact h8
    have hfz3 := hown.frozenAt (k * 5 + 3)
    have hold4 : w2.cell? ⟨w.heap.size, k * 5 + 4, none⟩ = some (.int .i64 0) := by
      have h9 := hown.cellAt (k * 5 + 4) (by omega)
      have h8 := fillG_get Lt.cells_len (z := Ltz) rfl ys (n - k) 4 (by omega) (by decide)
      rw [hyl] at h8
      rw [h9]; exact h8
    have hfz4 := hown.frozenAt (k * 5 + 4)
    have hset := Lt_set ys (n - k) (Lt.mk x.p0 x.p1 (some ⟨g3, 0, none⟩) x.n x.n x.zs x.q0 x.q1) (by omega)
    rw [hyl] at hset
    have HST : Hid (((((((w2).setCell ⟨w.heap.size, k * 5, none⟩ (.int .i64 x.p0)).setCell ⟨w.heap.size, k * 5 + 1, none⟩ (.int .i64 x.p1)).setCell ⟨w.heap.size, k * 5 + 2, none⟩ (.slice (some ⟨g3, 0, none⟩) x.n x.n)).setCell ⟨w.heap.size, k * 5 + 3, none⟩ (.int .i64 x.q0)).setCell ⟨w.heap.size, k * 5 + 4, none⟩ (.int .i64 x.q1)).ownsRow w.heap.size 155 5 (.slice (some ⟨w.heap.size, 0, none⟩) n n) n (fillG Lt.cells Ltz (ys ++ [(Lt.mk x.p0 x.p1 (some ⟨g3, 0, none⟩) x.n x.n x.zs x.q0 x.q1)]) (n - (k + 1)))) := Lib.hid (by
      have h9 := ((((((((((hown).stored (k * 5) (.int .i64 x.p0)).1).stored (k * 5 + 1) (.int .i64 x.p1)).1).stored (k * 5 + 2) (.slice (some ⟨g3, 0, none⟩) x.n x.n)).1).stored (k * 5 + 3) (.int .i64 x.q0)).1).stored (k * 5 + 4) (.int .i64 x.q1)).1
      rw [hset] at h9
      exact h9)
    have HYS : Hid (∀ y ∈ ys ++ [(Lt.mk x.p0 x.p1 (some ⟨g3, 0, none⟩) x.n x.n x.zs x.q0 x.q1)], LtOwn w.heap.size w.heap.size ((((((w2).setCell ⟨w.heap.size, k * 5, none⟩ (.int .i64 x.p0)).setCell ⟨w.heap.size, k * 5 + 1, none⟩ (.int .i64 x.p1)).setCell ⟨w.heap.size, k * 5 + 2, none⟩ (.slice (some ⟨g3, 0, none⟩) x.n x.n)).setCell ⟨w.heap.size, k * 5 + 3, none⟩ (.int .i64 x.q0)).setCell ⟨w.heap.size, k * 5 + 4, none⟩ (.int .i64 x.q1)) y) := Lib.hid (fun y hy => by
      have h9 : LtOwn w.heap.size w.heap.size w2 y := by
        rcases List.mem_append.1 hy with hy | hy
        · exact HY2.out y hy
        · rw [List.mem_singleton.1 hy]
          exact ⟨g3, rfl, rfl, HXN.out, HXS.out, HNE.out, HO3.out⟩
      exact (((((h9).set_ _ _).set_ _ _).set_ _ _).set_ _ _).set_ _ _)
    have HPS : Hid ((ys ++ [(Lt.mk x.p0 x.p1 (some ⟨g3, 0, none⟩) x.n x.n x.zs x.q0 x.q1)]).Pairwise fun y y' => y.A ≠ y'.A) := Lib.hid (List.pairwise_append.2 ⟨HP.out, List.pairwise_singleton _ _, fun y hy y' hy' => by rw [List.mem_singleton.1 hy']; exact HNEW.out y hy⟩)
    have HYDS : Hid ((ys ++ [(Lt.mk x.p0 x.p1 (some ⟨g3, 0, none⟩) x.n x.n x.zs x.q0 x.q1)]).map Lt.d = (xs.take (k + 1)).map Lt.d) := Lib.hid (Lt_snoc HYD.out hks (by rw [HXE.out]; rfl))
    have HYLS : Hid ((ys ++ [(Lt.mk x.p0 x.p1 (some ⟨g3, 0, none⟩) x.n x.n x.zs x.q0 x.q1)]).length = k + 1) := Lib.hid (by rw [List.length_append, hyl]; rfl)
    have HBS : Hid (Below w.heap.size w ((((((w2).setCell ⟨w.heap.size, k * 5, none⟩ (.int .i64 x.p0)).setCell ⟨w.heap.size, k * 5 + 1, none⟩ (.int .i64 x.p1)).setCell ⟨w.heap.size, k * 5 + 2, none⟩ (.slice (some ⟨g3, 0, none⟩) x.n x.n)).setCell ⟨w.heap.size, k * 5 + 3, none⟩ (.int .i64 x.q0)).setCell ⟨w.heap.size, k * 5 + 4, none⟩ (.int .i64 x.q1))) := Lib.hid ((((((hb'.out).setCell (p := ⟨w.heap.size, k * 5, none⟩) (Nat.le_refl _) _).setCell (p := ⟨w.heap.size, k * 5 + 1, none⟩) (Nat.le_refl _) _).setCell (p := ⟨w.heap.size, k * 5 + 2, none⟩) (Nat.le_refl _) _).setCell (p := ⟨w.heap.size, k * 5 + 3, none⟩) (Nat.le_refl _) _).setCell (p := ⟨w.heap.size, k * 5 + 4, none⟩) (Nat.le_refl _) _)
    clear hset hown hyl HO HY HO3 HNEW
    go_wp2
    go_roundw
    case rel => exact ⟨k + 1, _, by omega, by go_num, HYLS, HYDS, HST, HYS, HPS, HBS.out⟩
    case measure => simp [intOf]; omega
set_option maxHeartbeats 400000 in
theorem eqBlk (x y : Int) (w : World) :
    Calls Try.prog 90 #[.agg #[.int .i64 x, .int .i64 y], .agg #[.int .i64 x, .int .i64 y]] w fun e w' => e = .returned (.bool true) ∧ Below w.heap.size w w' := by
  go_enter Try.func90, Try.ntmps90
  go_wp2
  go_ret
  exact ⟨rfl, ((Below.refl _ _).alloc (Nat.le_refl _) _).alloc (by simp) _⟩
set_option maxHeartbeats 1000000 in
theorem eqLt (p0 p1 q0 q1 : Int) (g g' n c c' : Nat) (zs : List Int) (w : World) (hn : zs.length = n) (hs : n ≤ 1048576) (hr : Rd w w.heap.size (some ⟨g, 0, none⟩) (zs.map (Value.int .i64))) (hr' : Rd w w.heap.size (some ⟨g', 0, none⟩) (zs.map (Value.int .i64))) :
    Calls Try.prog 182 #[.agg #[.int .i64 p0, .int .i64 p1, .slice (some ⟨g, 0, none⟩) n c, .int .i64 q0, .int .i64 q1], .agg #[.int .i64 p0, .int .i64 p1, .slice (some ⟨g', 0, none⟩) n c', .int .i64 q0, .int .i64 q1]] w fun e w' => e = .returned (.bool true) ∧ Below w.heap.size w w' := by
  have hb0 := ((Below.refl w.heap.size w).alloc (Nat.le_refl _) (Obj.cells #[.int .i64 p0, .int .i64 p1, .slice (some ⟨g, 0, none⟩) n c, .int .i64 q0, .int .i64 q1] 155)).alloc (by simp) (Obj.cells #[.int .i64 p0, .int .i64 p1, .slice (some ⟨g', 0, none⟩) n c', .int .i64 q0, .int .i64 q1] 155)
  have HB := Lib.hid hb0
  have CE := Lib.hid (eqRt p1 g g' n c c' zs _ hn hs (hr.moved hb0) (hr'.moved hb0))
  have hz0 : ∀ W : World, Below (w.heap.size + 1 + 1) ((w.alloc (Obj.cells #[.int .i64 p0, .int .i64 p1, .slice (some ⟨g, 0, none⟩) n c, .int .i64 q0, .int .i64 q1] 155)).alloc (Obj.cells #[.int .i64 p0, .int .i64 p1, .slice (some ⟨g', 0, none⟩) n c', .int .i64 q0, .int .i64 q1] 155)) W → True := fun _ _ => trivial
  clear hz0 hn hr hr' hb0
  go_enter Try.func182, Try.ntmps182
  go_wp2_with fail
  obtain ⟨W0, hW0⟩ : ∃ W0, (w.alloc (Obj.cells #[.int .i64 p0, .int .i64 p1, .slice (some ⟨g, 0, none⟩) n c, .int .i64 q0, .int .i64 q1] 155)).alloc (Obj.cells #[.int .i64 p0, .int .i64 p1, .slice (some ⟨g', 0, none⟩) n c', .int .i64 q0, .int .i64 q1] 155) = W0 := ⟨_, rfl⟩
  rw [hW0] at CE HB ⊢
  have k0_3 : W0.cell? ⟨w.heap.size, 3, none⟩ = some (.int .i64 q0) := by rw [← hW0]; simp [go_sem]
  have k0_4 : W0.cell? ⟨w.heap.size, 4, none⟩ = some (.int .i64 q1) := by rw [← hW0]; simp [go_sem]
  have k1_3 : W0.cell? ⟨w.heap.size + 1, 3, none⟩ = some (.int .i64 q0) := by rw [← hW0]; simp [go_sem]
  have k1_4 : W0.cell? ⟨w.heap.size + 1, 4, none⟩ = some (.int .i64 q1) := by rw [← hW0]; simp [go_sem]
  have hz : w.heap.size + 1 < W0.heap.size := by rw [← hW0]; simp
  clear hW0
  refine CE.out.mono ?_
  rintro e w1 ⟨rfl, hb1⟩
  have HB1 := Lib.hid (HB.out.trans (hb1.mono HB.out.size))
  have l0_3 := (hb1.cell (p := ⟨w.heap.size, 3, none⟩) (by show w.heap.size < _; omega)).trans k0_3
  have l0_4 := (hb1.cell (p := ⟨w.heap.size, 4, none⟩) (by show w.heap.size < _; omega)).trans k0_4
  have l1_3 := (hb1.cell (p := ⟨w.heap.size + 1, 3, none⟩) (by show w.heap.size + 1 < _; omega)).trans k1_3
  have l1_4 := (hb1.cell (p := ⟨w.heap.size + 1, 4, none⟩) (by show w.heap.size + 1 < _; omega)).trans k1_4
  clear hb1
  go_wp2_with fail
  refine (eqBlk q0 q1 _).mono ?_
  rintro e w2 ⟨rfl, hb2⟩
  have HB2 := Lib.hid (HB1.out.trans (hb2.mono HB1.out.size)); clear HB1 hb2; have HB1 := HB2; clear HB2
  go_wp2
  go_ret
  exact ⟨rfl, HB1.out⟩
theorem Lt_same {x y : Lt} (h : x.d = y.d) : x.p0 = y.p0 ∧ x.p1 = y.p1 ∧ x.zs = y.zs ∧ x.q0 = y.q0 ∧ x.q1 = y.q1 := by
  unfold Lt.d at h
  injection h with e0 e1 e2 e3 e4
  exact ⟨e0, e1, e2, e3, e4⟩
set_option maxRecDepth 100000 in
set_option maxHeartbeats 4000000 in
theorem eqLts (g g' n B B' : Nat) (xs ys : List Lt) (w : World) (hx : Lts B g n xs w) (hy : Lts B' g' n ys w) (hd : xs.map Lt.d = ys.map Lt.d) (hs : n ≤ 1048576) :
    Calls Try.prog 107 #[.slice (some ⟨g, 0, none⟩) n n, .slice (some ⟨g', 0, none⟩) n n] w fun e w' => e = .returned (.bool true) ∧ Below w.heap.size w w' := by
  have HX := Lib.hid hx; have HYY := Lib.hid hy; have HD := Lib.hid hd
  clear hx hy hd
  go_enter Try.func107, Try.ntmps107
  go_wp2
  go_loopw [5] (fun i wr => ∃ k : Nat, k ≤ n ∧ i = .int .i64 k ∧ Below w.heap.size w wr) (fun i _ => n - (intOf i).toNat)
  case atStart => exact ⟨0, Nat.zero_le _, rfl, Below.refl _ _⟩
  case round =>
    obtain ⟨k, hk, rfl, hb⟩ := hrel
    by_cases hlt : k < n
    case neg =>
      go_wp2
      go_ret
      exact ⟨rfl, hb⟩
    case pos =>
    have hkx : k < xs.length := by have := HX.out.len; omega
    have hky : k < ys.length := by have := HYY.out.len; omega
    obtain ⟨hg, c0, c1, c2, c3, c4⟩ := (HX.out.rd.over hb).ltc hkx
    obtain ⟨hg', d0, d1, d2, d3, d4⟩ := (HYY.out.rd.over hb).ltc hky
    rw [Nat.zero_add] at c0 d0 c1 d1 c2 d2 c3 d3 c4 d4
    have hox := HX.out.own xs[k] (List.getElem_mem hkx)
    have hoy := HYY.out.own ys[k] (List.getElem_mem hky)
    have hde : xs[k].d = ys[k].d := by
      have h9 := congrArg (fun l => l[k]?) HD.out
      simpa [hkx, hky] using h9
    have hsm := Lt_same hde
    generalize xs[k]'hkx = x at c0 c1 c2 c3 c4 hox hsm
    generalize ys[k]'hky = y at d0 d1 d2 d3 d4 hoy hsm
    obtain ⟨p0, p1, A1, m, cc1, zs, q0, q1⟩ := x
    obtain ⟨p0', p1', A2, n1', cc2, zs', q0', q1'⟩ := y
    obtain ⟨a1, e1, e2, e3, e4, _, ho1⟩ := hox
    obtain ⟨a2, e5, e6, e7, e8, _, ho2⟩ := hoy
    simp only at e1 e2 e3 e4 ho1 e5 e6 e7 e8 ho2 hsm
    obtain ⟨rfl, rfl, rfl, rfl, rfl⟩ := hsm
    have e2s := e2.symm; have e6s := e6.symm
    subst e1 e5 e2s e6s
    have em : m = n1' := by rw [← e3, ← e7]
    subst em
    have HZN := Lib.hid e3; have HZS := Lib.hid e4
    have HZ1 := Lib.hid (Rd.ofOwnK ho1)
    have HZ2 := Lib.hid (Rd.ofOwnK ho2)
    clear e3 e4 e7 e8 ho1 ho2 hde hkx hky
    go_wp2
    have hbd : Bel w wr.drew := Bel.of hb.drew
    go_region_held3 (fun U => U.cell? ⟨g, k * 5, none⟩ = some (.int .i64 p0) ∧ U.cell? ⟨g, k * 5 + 1, none⟩ = some (.int .i64 p1) ∧ U.cell? ⟨g, k * 5 + 2, none⟩ = some (.slice (some ⟨a1, 0, none⟩) m m) ∧ U.cell? ⟨g, k * 5 + 3, none⟩ = some (.int .i64 q0) ∧ U.cell? ⟨g, k * 5 + 4, none⟩ = some (.int .i64 q1) ∧ U.cell? ⟨g', k * 5, none⟩ = some (.int .i64 p0) ∧ U.cell? ⟨g', k * 5 + 1, none⟩ = some (.int .i64 p1) ∧ U.cell? ⟨g', k * 5 + 2, none⟩ = some (.slice (some ⟨a2, 0, none⟩) m m) ∧ U.cell? ⟨g', k * 5 + 3, none⟩ = some (.int .i64 q0) ∧ U.cell? ⟨g', k * 5 + 4, none⟩ = some (.int .i64 q1) ∧ Bel w U)
      (first | go_keep | (go_split_ands; (refine ⟨?_, ?_, ?_, ?_, ?_, ?_, ?_, ?_, ?_, ?_, ?_⟩ <;> first | assumption | exact Bel.step (by assumption) hb2 | exact (Bel.at_ (by assumption) hb2 (by assumption)).trans (by assumption))))
      (first | (go_at_call 182; go_split_ands; refine (eqLt p0 p1 q0 q1 a1 a2 m m m zs _ HZN.out HZS.out (HZ1.out.moved (Bel.out (by assumption))) (HZ2.out.moved (Bel.out (by assumption)))).mono ?_; rintro e w2 ⟨rfl, hb2⟩))
    all_goals
      go_wp2
      go_roundw
      case rel => (go_split_ands; exact ⟨k + 1, by omega, by go_num, Bel.out (by assumption)⟩)
      case measure => simp [intOf]; omega
end Go.Proofs.Ytlgkjidginibdaa

namespace Go.Proofs.Ytlgkjidginibdaa
open Go.ChangeShapes Go.WideShapes Go.ChangeAt Go.RowKit Go.Deep

/-- a struct as it lies in memory. -/
structure Rq where
  p0 : Int
  A : Option Addr
  n : Nat
  c : Nat
  zs : List Int
  q0 : Int
def Rq.cells (x : Rq) : List Value := [.int .i64 x.p0, .slice x.A x.n x.c, .int .i64 x.q0]
theorem Rq.cells_len (x : Rq) : x.cells.length = 3 := rfl
/-- what it says. -/
structure RqD where
  p0 : Int
  zs : List Int
  q0 : Int
def Rq.d (x : Rq) : RqD := ⟨x.p0, x.zs, x.q0⟩
def RqIn (w : World) (x : Rq) : Prop := x.zs.length = x.n ∧ x.n ≤ maxLen ∧ Rd w w.heap.size x.A (x.zs.map (Value.int .i64))
def RqAt (w : World) (x : Rq) : Prop := x.zs.length = x.n ∧ x.n ≤ 1048576 ∧ Rd w w.heap.size x.A (x.zs.map (Value.int .i64))
theorem RqIn.moved {w w' : World} {x : Rq} (h : RqIn w x) (hb : Below w.heap.size w w') : RqIn w' x := ⟨h.1, h.2.1, h.2.2.moved hb⟩
theorem RqAt.moved {w w' : World} {x : Rq} (h : RqAt w x) (hb : Below w.heap.size w w') : RqAt w' x := ⟨h.1, h.2.1, h.2.2.moved hb⟩
theorem RqAt.zs {w : World} {x : Rq} (h : RqAt w x) : x.d.zs.length = x.n := h.1
def Rqtot (xs : List Rq) : Nat := (xs.map Rq.n).sum
theorem Rqtot_snoc (xs : List Rq) (k : Nat) (h : k < xs.length) : Rqtot (xs.take (k + 1)) = Rqtot (xs.take k) + xs[k].n := by
  unfold Rqtot; rw [List.take_succ_eq_append_getElem h, List.map_append, List.sum_append]; simp
theorem Rqtot_le {xs : List Rq} {x : Rq} (h : x ∈ xs) : x.n ≤ Rqtot xs := by
  induction xs with
  | nil => simp at h
  | cons y ys ih =>
    have e : Rqtot (y :: ys) = y.n + Rqtot ys := by unfold Rqtot; simp
    rcases List.mem_cons.1 h with rfl | h
    · omega
    · have := ih h; omega
theorem Rd.rq {w : World} {B : Nat} {A : Option Addr} {xs : List Rq} (h : Rd w B A (xs.flatMap Rq.cells)) {k : Nat} (hk : k < xs.length) :
    ∃ ad, A = some ad ∧ ad.block < B ∧ w.cell? (ad.add (k * 3)) = some (.int .i64 xs[k].p0) ∧ w.cell? ⟨(ad.add (k * 3)).block, (ad.add (k * 3)).off + 1, none⟩ = some (.slice xs[k].A xs[k].n xs[k].c) ∧ w.cell? ⟨(ad.add (k * 3)).block, (ad.add (k * 3)).off + 2, none⟩ = some (.int .i64 xs[k].q0) := by
  obtain ⟨ad, e, hb, hc⟩ := h.rowK Rq.cells_len (by decide) hk
  have h0 := hc 0 (by decide)
  rw [Nat.add_zero] at h0
  have h1 := hc 1 (by decide)
  rw [add_next] at h1
  have h2 := hc 2 (by decide)
  rw [add_next] at h2
  exact ⟨ad, e, hb, h0, h1, h2⟩
theorem Rd.rqc {w : World} {B b o : Nat} {xs : List Rq} (h : Rd w B (some ⟨b, o, none⟩) (xs.flatMap Rq.cells)) {k : Nat} (hk : k < xs.length) :
    b < B ∧ w.cell? ⟨b, o + k * 3, none⟩ = some (.int .i64 xs[k].p0) ∧ w.cell? ⟨b, o + k * 3 + 1, none⟩ = some (.slice xs[k].A xs[k].n xs[k].c) ∧ w.cell? ⟨b, o + k * 3 + 2, none⟩ = some (.int .i64 xs[k].q0) := by
  obtain ⟨ad, e, hb, h0, h1, h2⟩ := h.rq hk
  injection e with e; subst e
  have ea : (⟨b, o, none⟩ : Addr).add (k * 3) = ⟨b, o + k * 3, none⟩ := by unfold Addr.add; by_cases h : k * 3 = 0 <;> simp [h]
  rw [ea] at h0 h1 h2
  exact ⟨hb, h0, h1, h2⟩
section
variable {H : Type} {enc : TypeId × Value → H} {w : World} {held : Bool}
end
def RqSz (left : Int) (n : Nat) (w : World) (e : Ending) (w' : World) : Prop := ∃ v : Int, e = .returned (.int .i64 v) ∧ Below w.heap.size w w' ∧ -1 ≤ v ∧ v ≤ left ∧ (0 ≤ v → v + n ≤ left)
def RqOut (x : Rq) (w : World) (e : Ending) (w' : World) : Prop := ∃ g, e = .returned (.agg #[.int .i64 x.p0, .slice (some ⟨g, 0, none⟩) x.n x.n, .int .i64 x.q0]) ∧ w.heap.size ≤ g ∧
  w'.ownsRow w.heap.size 3 1 (.slice (some ⟨g, 0, none⟩) x.n x.n) x.n (x.zs.map (Value.int .i64)) ∧ Below w.heap.size w w'
/-- a copy's row: its ints in a block of their own. -/
def RqOwn (B g0 : Nat) (w : World) (y : Rq) : Prop := ∃ q, y.A = some ⟨q, 0, none⟩ ∧ y.c = y.n ∧ y.zs.length = y.n ∧ y.n ≤ 1048576 ∧ q ≠ g0 ∧ w.ownsRow B 3 1 (.slice (some ⟨q, 0, none⟩) y.n y.n) y.n (y.zs.map (Value.int .i64))
theorem RqOwn.at_ {B g0 : Nat} {w : World} {y : Rq} (h : RqOwn B g0 w y) : RqAt w y := by
  obtain ⟨q, e, e2, h1, h2, _, ho⟩ := h
  exact ⟨h1, h2, by rw [e]; exact Rd.ofOwnK ho⟩
theorem RqOwn.moved {B g0 : Nat} {w w' : World} {y : Rq} (h : RqOwn B g0 w y) (hb : Below w.heap.size w w') : RqOwn B g0 w' y := by
  obtain ⟨q, e, e2, h1, h2, h3, ho⟩ := h
  exact ⟨q, e, e2, h1, h2, h3, ownB ho hb⟩
theorem RqOwn.base {B B' g0 : Nat} {w : World} {y : Rq} (h : RqOwn B g0 w y) (hB : B' ≤ B) : RqOwn B' g0 w y := by
  obtain ⟨q, e, e2, h1, h2, h3, ho⟩ := h
  exact ⟨q, e, e2, h1, h2, h3, own_base ho hB⟩
theorem RqOwn.set_ {B g0 : Nat} {w : World} {y : Rq} (h : RqOwn B g0 w y) (o : Nat) (u : Value) : RqOwn B g0 (w.setCell ⟨g0, o, none⟩ u) y := by
  obtain ⟨q, e, e2, h1, h2, h3, ho⟩ := h
  exact ⟨q, e, e2, h1, h2, h3, own_set ho (p := ⟨g0, o, none⟩) (fun h => h3 h.symm) u⟩
def Rqz : List Value := [.int .i64 0, .slice none 0 0, .int .i64 0]
theorem Rq_set (ys : List Rq) (m : Nat) (y : Rq) (hm : 0 < m) : (((fillG Rq.cells Rqz ys m).set (ys.length * 3) (.int .i64 y.p0)).set (ys.length * 3 + 1) (.slice y.A y.n y.c)).set (ys.length * 3 + 2) (.int .i64 y.q0) = fillG Rq.cells Rqz (ys ++ [y]) (m - 1) := by
  obtain ⟨m, rfl⟩ : ∃ j, m = j + 1 := ⟨m - 1, by omega⟩
  have hp := fillG_pre Rq.cells_len ys
  unfold fillG
  rw [set_pre0 _ _ _ _ hp, set_pre _ _ _ _ hp, set_pre _ _ _ _ hp, List.replicate_succ, Nat.add_sub_cancel]
  simp only [Rqz, Rq.cells, List.flatMap_append, List.flatMap_cons, List.flatMap_nil, List.append_nil, List.append_assoc, List.set_cons_zero, List.set_cons_succ, List.cons_append, List.nil_append]
theorem Rq_snoc {α β : Type} {f : α → β} {xs : List α} {ys : List α} {k : Nat} (h : ys.map f = (xs.take k).map f) (hk : k < xs.length) {y : α} (hy : f y = f xs[k]) : (ys ++ [y]).map f = (xs.take (k + 1)).map f := by
  rw [List.take_succ_eq_append_getElem hk, List.map_append, List.map_append, h]; simp [hy]
theorem Rq_same {x y : Rq} (h : x.d = y.d) : x.p0 = y.p0 ∧ x.zs = y.zs ∧ x.q0 = y.q0 := by
  unfold Rq.d at h
  injection h with e0 e1 e2
  exact ⟨e0, e1, e2⟩
end Go.Proofs.Ytlgkjidginibdaa

namespace Go.Proofs.Ytlgkjidginibdaa
open Go.ChangeShapes Go.WideShapes Go.ChangeAt Go.RowKit Go.Deep

/-- a struct as it lies in memory. -/
structure Fr where
  p0 : Int
  p1 : Int
  A : Option Addr
  n : Nat
  c : Nat
  zs : List Int
def Fr.cells (x : Fr) : List Value := [.int .i64 x.p0, .int .i64 x.p1, .slice x.A x.n x.c]
theorem Fr.cells_len (x : Fr) : x.cells.length = 3 := rfl
/-- what it says. -/
structure FrD where
  p0 : Int
  p1 : Int
  zs : List Int
def Fr.d (x : Fr) : FrD := ⟨x.p0, x.p1, x.zs⟩
def FrIn (w : World) (x : Fr) : Prop := x.zs.length = x.n ∧ x.n ≤ maxLen ∧ Rd w w.heap.size x.A (x.zs.map (Value.int .i64))
def FrAt (w : World) (x : Fr) : Prop := x.zs.length = x.n ∧ x.n ≤ 1048576 ∧ Rd w w.heap.size x.A (x.zs.map (Value.int .i64))
theorem FrIn.moved {w w' : World} {x : Fr} (h : FrIn w x) (hb : Below w.heap.size w w') : FrIn w' x := ⟨h.1, h.2.1, h.2.2.moved hb⟩
theorem FrAt.moved {w w' : World} {x : Fr} (h : FrAt w x) (hb : Below w.heap.size w w') : FrAt w' x := ⟨h.1, h.2.1, h.2.2.moved hb⟩
theorem FrAt.zs {w : World} {x : Fr} (h : FrAt w x) : x.d.zs.length = x.n := h.1
def Frtot (xs : List Fr) : Nat := (xs.map Fr.n).sum
theorem Frtot_snoc (xs : List Fr) (k : Nat) (h : k < xs.length) : Frtot (xs.take (k + 1)) = Frtot (xs.take k) + xs[k].n := by
  unfold Frtot; rw [List.take_succ_eq_append_getElem h, List.map_append, List.sum_append]; simp
theorem Frtot_le {xs : List Fr} {x : Fr} (h : x ∈ xs) : x.n ≤ Frtot xs := by
  induction xs with
  | nil => simp at h
  | cons y ys ih =>
    have e : Frtot (y :: ys) = y.n + Frtot ys := by unfold Frtot; simp
    rcases List.mem_cons.1 h with rfl | h
    · omega
    · have := ih h; omega
theorem Rd.fr {w : World} {B : Nat} {A : Option Addr} {xs : List Fr} (h : Rd w B A (xs.flatMap Fr.cells)) {k : Nat} (hk : k < xs.length) :
    ∃ ad, A = some ad ∧ ad.block < B ∧ w.cell? (ad.add (k * 3)) = some (.int .i64 xs[k].p0) ∧ w.cell? ⟨(ad.add (k * 3)).block, (ad.add (k * 3)).off + 1, none⟩ = some (.int .i64 xs[k].p1) ∧ w.cell? ⟨(ad.add (k * 3)).block, (ad.add (k * 3)).off + 2, none⟩ = some (.slice xs[k].A xs[k].n xs[k].c) := by
  obtain ⟨ad, e, hb, hc⟩ := h.rowK Fr.cells_len (by decide) hk
  have h0 := hc 0 (by decide)
  rw [Nat.add_zero] at h0
  have h1 := hc 1 (by decide)
  rw [add_next] at h1
  have h2 := hc 2 (by decide)
  rw [add_next] at h2
  exact ⟨ad, e, hb, h0, h1, h2⟩
theorem Rd.frc {w : World} {B b o : Nat} {xs : List Fr} (h : Rd w B (some ⟨b, o, none⟩) (xs.flatMap Fr.cells)) {k : Nat} (hk : k < xs.length) :
    b < B ∧ w.cell? ⟨b, o + k * 3, none⟩ = some (.int .i64 xs[k].p0) ∧ w.cell? ⟨b, o + k * 3 + 1, none⟩ = some (.int .i64 xs[k].p1) ∧ w.cell? ⟨b, o + k * 3 + 2, none⟩ = some (.slice xs[k].A xs[k].n xs[k].c) := by
  obtain ⟨ad, e, hb, h0, h1, h2⟩ := h.fr hk
  injection e with e; subst e
  have ea : (⟨b, o, none⟩ : Addr).add (k * 3) = ⟨b, o + k * 3, none⟩ := by unfold Addr.add; by_cases h : k * 3 = 0 <;> simp [h]
  rw [ea] at h0 h1 h2
  exact ⟨hb, h0, h1, h2⟩
section
variable {H : Type} {enc : TypeId × Value → H} {w : World} {held : Bool}
end
def FrSz (left : Int) (n : Nat) (w : World) (e : Ending) (w' : World) : Prop := ∃ v : Int, e = .returned (.int .i64 v) ∧ Below w.heap.size w w' ∧ -1 ≤ v ∧ v ≤ left ∧ (0 ≤ v → v + n ≤ left)
def FrOut (x : Fr) (w : World) (e : Ending) (w' : World) : Prop := ∃ g, e = .returned (.agg #[.int .i64 x.p0, .int .i64 x.p1, .slice (some ⟨g, 0, none⟩) x.n x.n]) ∧ w.heap.size ≤ g ∧
  w'.ownsRow w.heap.size 3 1 (.slice (some ⟨g, 0, none⟩) x.n x.n) x.n (x.zs.map (Value.int .i64)) ∧ Below w.heap.size w w'
/-- a copy's row: its ints in a block of their own. -/
def FrOwn (B g0 : Nat) (w : World) (y : Fr) : Prop := ∃ q, y.A = some ⟨q, 0, none⟩ ∧ y.c = y.n ∧ y.zs.length = y.n ∧ y.n ≤ 1048576 ∧ q ≠ g0 ∧ w.ownsRow B 3 1 (.slice (some ⟨q, 0, none⟩) y.n y.n) y.n (y.zs.map (Value.int .i64))
theorem FrOwn.at_ {B g0 : Nat} {w : World} {y : Fr} (h : FrOwn B g0 w y) : FrAt w y := by
  obtain ⟨q, e, e2, h1, h2, _, ho⟩ := h
  exact ⟨h1, h2, by rw [e]; exact Rd.ofOwnK ho⟩
theorem FrOwn.moved {B g0 : Nat} {w w' : World} {y : Fr} (h : FrOwn B g0 w y) (hb : Below w.heap.size w w') : FrOwn B g0 w' y := by
  obtain ⟨q, e, e2, h1, h2, h3, ho⟩ := h
  exact ⟨q, e, e2, h1, h2, h3, ownB ho hb⟩
theorem FrOwn.base {B B' g0 : Nat} {w : World} {y : Fr} (h : FrOwn B g0 w y) (hB : B' ≤ B) : FrOwn B' g0 w y := by
  obtain ⟨q, e, e2, h1, h2, h3, ho⟩ := h
  exact ⟨q, e, e2, h1, h2, h3, own_base ho hB⟩
theorem FrOwn.set_ {B g0 : Nat} {w : World} {y : Fr} (h : FrOwn B g0 w y) (o : Nat) (u : Value) : FrOwn B g0 (w.setCell ⟨g0, o, none⟩ u) y := by
  obtain ⟨q, e, e2, h1, h2, h3, ho⟩ := h
  exact ⟨q, e, e2, h1, h2, h3, own_set ho (p := ⟨g0, o, none⟩) (fun h => h3 h.symm) u⟩
/-- a copied slice: row and inner rows of the call's own, no two inner rows in one block. -/
structure Frs (B g n : Nat) (ys : List Fr) (w : World) : Prop where
  len : ys.length = n
  row : w.ownsRow B 194 3 (.slice (some ⟨g, 0, none⟩) n n) n (ys.flatMap Fr.cells)
  own : ∀ y ∈ ys, FrOwn B g w y
  apart : ys.Pairwise fun y y' => y.A ≠ y'.A
theorem Frs.moved {B g n : Nat} {ys : List Fr} {w w' : World} (h : Frs B g n ys w) (hb : Below w.heap.size w w') : Frs B g n ys w' := ⟨h.len, ownB h.row hb, fun y hy => (h.own y hy).moved hb, h.apart⟩
theorem Frs.base {B B' g n : Nat} {ys : List Fr} {w : World} (h : Frs B g n ys w) (hB : B' ≤ B) : Frs B' g n ys w := ⟨h.len, own_base h.row hB, fun y hy => (h.own y hy).base hB, h.apart⟩
theorem Frs.rd {B g n : Nat} {ys : List Fr} {w : World} (h : Frs B g n ys w) : Rd w w.heap.size (some ⟨g, 0, none⟩) (ys.flatMap Fr.cells) := Rd.ofOwnK h.row
theorem Frs.at_ {B g n : Nat} {ys : List Fr} {w : World} (h : Frs B g n ys w) : ∀ y ∈ ys, FrAt w y := fun y hy => (h.own y hy).at_
theorem Try.inf_Fr : (Try.prog.info? 194).map (fun i => (i.zero, i.size, i.bytes)) = some (some (.agg #[.int .i64 0, .int .i64 0, .slice none 0 0]), 3, 40) := by kernel_rfl
def Frz : List Value := [.int .i64 0, .int .i64 0, .slice none 0 0]
theorem Fr_set (ys : List Fr) (m : Nat) (y : Fr) (hm : 0 < m) : (((fillG Fr.cells Frz ys m).set (ys.length * 3) (.int .i64 y.p0)).set (ys.length * 3 + 1) (.int .i64 y.p1)).set (ys.length * 3 + 2) (.slice y.A y.n y.c) = fillG Fr.cells Frz (ys ++ [y]) (m - 1) := by
  obtain ⟨m, rfl⟩ : ∃ j, m = j + 1 := ⟨m - 1, by omega⟩
  have hp := fillG_pre Fr.cells_len ys
  unfold fillG
  rw [set_pre0 _ _ _ _ hp, set_pre _ _ _ _ hp, set_pre _ _ _ _ hp, List.replicate_succ, Nat.add_sub_cancel]
  simp only [Frz, Fr.cells, List.flatMap_append, List.flatMap_cons, List.flatMap_nil, List.append_nil, List.append_assoc, List.set_cons_zero, List.set_cons_succ, List.cons_append, List.nil_append]
def FrsOut (xs : List Fr) (n : Nat) (w : World) (e : Ending) (w' : World) : Prop := ∃ (g : Nat) (ys : List Fr), e = .returned (.slice (some ⟨g, 0, none⟩) n n) ∧ w.heap.size ≤ g ∧ ys.map Fr.d = xs.map Fr.d ∧ Frs w.heap.size g n ys w' ∧ Below w.heap.size w w'
theorem Fr_snoc {α β : Type} {f : α → β} {xs : List α} {ys : List α} {k : Nat} (h : ys.map f = (xs.take k).map f) (hk : k < xs.length) {y : α} (hy : f y = f xs[k]) : (ys ++ [y]).map f = (xs.take (k + 1)).map f := by
  rw [List.take_succ_eq_append_getElem hk, List.map_append, List.map_append, h]; simp [hy]
set_option maxHeartbeats 1000000 in
theorem eqFr (p0 p1 : Int) (g g' n c c' : Nat) (zs : List Int) (w : World) (hn : zs.length = n) (hs : n ≤ 1048576) (hr : Rd w w.heap.size (some ⟨g, 0, none⟩) (zs.map (Value.int .i64))) (hr' : Rd w w.heap.size (some ⟨g', 0, none⟩) (zs.map (Value.int .i64))) :
    Calls Try.prog 147 #[.agg #[.int .i64 p0, .int .i64 p1, .slice (some ⟨g, 0, none⟩) n c], .agg #[.int .i64 p0, .int .i64 p1, .slice (some ⟨g', 0, none⟩) n c']] w fun e w' => e = .returned (.bool true) ∧ Below w.heap.size w w' := by
  have hb0 := ((Below.refl w.heap.size w).alloc (Nat.le_refl _) (Obj.cells #[.int .i64 p0, .int .i64 p1, .slice (some ⟨g, 0, none⟩) n c] 194)).alloc (by simp) (Obj.cells #[.int .i64 p0, .int .i64 p1, .slice (some ⟨g', 0, none⟩) n c'] 194)
  have HB := Lib.hid hb0
  have CE := Lib.hid (eqIntS g g' n c c' zs _ hn (hr.moved hb0) (hr'.moved hb0) hs)
  have hz0 : ∀ W : World, Below (w.heap.size + 1 + 1) ((w.alloc (Obj.cells #[.int .i64 p0, .int .i64 p1, .slice (some ⟨g, 0, none⟩) n c] 194)).alloc (Obj.cells #[.int .i64 p0, .int .i64 p1, .slice (some ⟨g', 0, none⟩) n c'] 194)) W → True := fun _ _ => trivial
  clear hz0 hn hr hr' hb0
  go_enter Try.func147, Try.ntmps147
  go_wp2_with fail
  obtain ⟨W0, hW0⟩ : ∃ W0, (w.alloc (Obj.cells #[.int .i64 p0, .int .i64 p1, .slice (some ⟨g, 0, none⟩) n c] 194)).alloc (Obj.cells #[.int .i64 p0, .int .i64 p1, .slice (some ⟨g', 0, none⟩) n c'] 194) = W0 := ⟨_, rfl⟩
  rw [hW0] at CE HB ⊢

  have hz : w.heap.size + 1 < W0.heap.size := by rw [← hW0]; simp
  clear hW0
  refine CE.out.mono ?_
  rintro e w1 ⟨rfl, hb1⟩
  have HB1 := Lib.hid (HB.out.trans (hb1.mono HB.out.size))

  clear hb1
  go_wp2
  go_ret
  exact ⟨rfl, HB1.out⟩
theorem Fr_same {x y : Fr} (h : x.d = y.d) : x.p0 = y.p0 ∧ x.p1 = y.p1 ∧ x.zs = y.zs := by
  unfold Fr.d at h
  injection h with e0 e1 e2
  exact ⟨e0, e1, e2⟩
set_option maxRecDepth 100000 in
set_option maxHeartbeats 4000000 in
theorem eqFrs (g g' n B B' : Nat) (xs ys : List Fr) (w : World) (hx : Frs B g n xs w) (hy : Frs B' g' n ys w) (hd : xs.map Fr.d = ys.map Fr.d) (hs : n ≤ 1048576) :
    Calls Try.prog 75 #[.slice (some ⟨g, 0, none⟩) n n, .slice (some ⟨g', 0, none⟩) n n] w fun e w' => e = .returned (.bool true) ∧ Below w.heap.size w w' := by
  have HX := Lib.hid hx; have HYY := Lib.hid hy; have HD := Lib.hid hd
  clear hx hy hd
  go_enter Try.func75, Try.ntmps75
  go_wp2
  go_loopw [5] (fun i wr => ∃ k : Nat, k ≤ n ∧ i = .int .i64 k ∧ Below w.heap.size w wr) (fun i _ => n - (intOf i).toNat)
  case atStart => exact ⟨0, Nat.zero_le _, rfl, Below.refl _ _⟩
  case round =>
    obtain ⟨k, hk, rfl, hb⟩ := hrel
    by_cases hlt : k < n
    case neg =>
      go_wp2
      go_ret
      exact ⟨rfl, hb⟩
    case pos =>
    have hkx : k < xs.length := by have := HX.out.len; omega
    have hky : k < ys.length := by have := HYY.out.len; omega
    obtain ⟨hg, c0, c1, c2⟩ := (HX.out.rd.over hb).frc hkx
    obtain ⟨hg', d0, d1, d2⟩ := (HYY.out.rd.over hb).frc hky
    rw [Nat.zero_add] at c0 d0 c1 d1 c2 d2
    have hox := HX.out.own xs[k] (List.getElem_mem hkx)
    have hoy := HYY.out.own ys[k] (List.getElem_mem hky)
    have hde : xs[k].d = ys[k].d := by
      have h9 := congrArg (fun l => l[k]?) HD.out
      simpa [hkx, hky] using h9
    have hsm := Fr_same hde
    generalize xs[k]'hkx = x at c0 c1 c2 hox hsm
    generalize ys[k]'hky = y at d0 d1 d2 hoy hsm
    obtain ⟨p0, p1, A1, m, cc1, zs⟩ := x
    obtain ⟨p0', p1', A2, n1', cc2, zs'⟩ := y
    obtain ⟨a1, e1, e2, e3, e4, _, ho1⟩ := hox
    obtain ⟨a2, e5, e6, e7, e8, _, ho2⟩ := hoy
    simp only at e1 e2 e3 e4 ho1 e5 e6 e7 e8 ho2 hsm
    obtain ⟨rfl, rfl, rfl⟩ := hsm
    have e2s := e2.symm; have e6s := e6.symm
    subst e1 e5 e2s e6s
    have em : m = n1' := by rw [← e3, ← e7]
    subst em
    have HZN := Lib.hid e3; have HZS := Lib.hid e4
    have HZ1 := Lib.hid (Rd.ofOwnK ho1)
    have HZ2 := Lib.hid (Rd.ofOwnK ho2)
    clear e3 e4 e7 e8 ho1 ho2 hde hkx hky
    go_wp2
    have hbd : Bel w wr.drew := Bel.of hb.drew
    go_region_held3 (fun U => U.cell? ⟨g, k * 3, none⟩ = some (.int .i64 p0) ∧ U.cell? ⟨g, k * 3 + 1, none⟩ = some (.int .i64 p1) ∧ U.cell? ⟨g, k * 3 + 2, none⟩ = some (.slice (some ⟨a1, 0, none⟩) m m) ∧ U.cell? ⟨g', k * 3, none⟩ = some (.int .i64 p0) ∧ U.cell? ⟨g', k * 3 + 1, none⟩ = some (.int .i64 p1) ∧ U.cell? ⟨g', k * 3 + 2, none⟩ = some (.slice (some ⟨a2, 0, none⟩) m m) ∧ Bel w U)
      (first | go_keep | (go_split_ands; (refine ⟨?_, ?_, ?_, ?_, ?_, ?_, ?_⟩ <;> first | assumption | exact Bel.step (by assumption) hb2 | exact (Bel.at_ (by assumption) hb2 (by assumption)).trans (by assumption))))
      (first | (go_at_call 147; go_split_ands; refine (eqFr p0 p1 a1 a2 m m m zs _ HZN.out HZS.out (HZ1.out.moved (Bel.out (by assumption))) (HZ2.out.moved (Bel.out (by assumption)))).mono ?_; rintro e w2 ⟨rfl, hb2⟩))
    all_goals
      go_wp2
      go_roundw
      case rel => (go_split_ands; exact ⟨k + 1, by omega, by go_num, Bel.out (by assumption)⟩)
      case measure => simp [intOf]; omega
end Go.Proofs.Ytlgkjidginibdaa

namespace Go.Proofs.Ytlgkjidginibdaa
open Go.ChangeShapes Go.WideShapes Go.ChangeAt Go.RowKit Go.Deep

/-- a struct as it lies in memory. -/
structure Ro where
  p0 : Int
  A : Option Addr
  n : Nat
  c : Nat
  zs : List Int
def Ro.cells (x : Ro) : List Value := [.int .i64 x.p0, .slice x.A x.n x.c]
theorem Ro.cells_len (x : Ro) : x.cells.length = 2 := rfl
/-- what it says. -/
structure RoD where
  p0 : Int
  zs : List Int
def Ro.d (x : Ro) : RoD := ⟨x.p0, x.zs⟩
def RoIn (w : World) (x : Ro) : Prop := x.zs.length = x.n ∧ x.n ≤ maxLen ∧ Rd w w.heap.size x.A (x.zs.map (Value.int .i64))
def RoAt (w : World) (x : Ro) : Prop := x.zs.length = x.n ∧ x.n ≤ 1048576 ∧ Rd w w.heap.size x.A (x.zs.map (Value.int .i64))
theorem RoIn.moved {w w' : World} {x : Ro} (h : RoIn w x) (hb : Below w.heap.size w w') : RoIn w' x := ⟨h.1, h.2.1, h.2.2.moved hb⟩
theorem RoAt.moved {w w' : World} {x : Ro} (h : RoAt w x) (hb : Below w.heap.size w w') : RoAt w' x := ⟨h.1, h.2.1, h.2.2.moved hb⟩
theorem RoAt.zs {w : World} {x : Ro} (h : RoAt w x) : x.d.zs.length = x.n := h.1
def Rotot (xs : List Ro) : Nat := (xs.map Ro.n).sum
theorem Rotot_snoc (xs : List Ro) (k : Nat) (h : k < xs.length) : Rotot (xs.take (k + 1)) = Rotot (xs.take k) + xs[k].n := by
  unfold Rotot; rw [List.take_succ_eq_append_getElem h, List.map_append, List.sum_append]; simp
theorem Rotot_le {xs : List Ro} {x : Ro} (h : x ∈ xs) : x.n ≤ Rotot xs := by
  induction xs with
  | nil => simp at h
  | cons y ys ih =>
    have e : Rotot (y :: ys) = y.n + Rotot ys := by unfold Rotot; simp
    rcases List.mem_cons.1 h with rfl | h
    · omega
    · have := ih h; omega
theorem Rd.ro {w : World} {B : Nat} {A : Option Addr} {xs : List Ro} (h : Rd w B A (xs.flatMap Ro.cells)) {k : Nat} (hk : k < xs.length) :
    ∃ ad, A = some ad ∧ ad.block < B ∧ w.cell? (ad.add (k * 2)) = some (.int .i64 xs[k].p0) ∧ w.cell? ⟨(ad.add (k * 2)).block, (ad.add (k * 2)).off + 1, none⟩ = some (.slice xs[k].A xs[k].n xs[k].c) := by
  obtain ⟨ad, e, hb, hc⟩ := h.rowK Ro.cells_len (by decide) hk
  have h0 := hc 0 (by decide)
  rw [Nat.add_zero] at h0
  have h1 := hc 1 (by decide)
  rw [add_next] at h1
  exact ⟨ad, e, hb, h0, h1⟩
theorem Rd.roc {w : World} {B b o : Nat} {xs : List Ro} (h : Rd w B (some ⟨b, o, none⟩) (xs.flatMap Ro.cells)) {k : Nat} (hk : k < xs.length) :
    b < B ∧ w.cell? ⟨b, o + k * 2, none⟩ = some (.int .i64 xs[k].p0) ∧ w.cell? ⟨b, o + k * 2 + 1, none⟩ = some (.slice xs[k].A xs[k].n xs[k].c) := by
  obtain ⟨ad, e, hb, h0, h1⟩ := h.ro hk
  injection e with e; subst e
  have ea : (⟨b, o, none⟩ : Addr).add (k * 2) = ⟨b, o + k * 2, none⟩ := by unfold Addr.add; by_cases h : k * 2 = 0 <;> simp [h]
  rw [ea] at h0 h1
  exact ⟨hb, h0, h1⟩
section
variable {H : Type} {enc : TypeId × Value → H} {w : World} {held : Bool}
set_option maxRecDepth 100000 in
theorem trod_Ro {fuel : Nat} {cs : List Value} {x : DataW H × List MemPlace} (h : DataW.trod enc Try.prog w 0 (fun _ => true) held fuel 28 cs = some x) : ∃ r : Ro, cs = r.cells ∧ RoIn w r := by
  obtain ⟨ys, n, _, _, hl, hlen, hg⟩ := DataW.trod_struct Try.underlying28 h
  have hC : Try.prog.cellsOf 28 = 2 := by kernel_rfl
  rw [hC] at hl
  match cs, hl with
  | [x0, x1], _ =>
    have g0 := hg 0 _ rfl
    have hs0 : ∃ y, ys[0]? = some y := ⟨_, List.getElem?_eq_getElem (by rw [hlen]; decide)⟩
    obtain ⟨y0, hy0⟩ := hs0
    rw [hy0] at g0
    have g0' : DataW.trod enc Try.prog w 0 (fun _ => true) held n _ [x0] = some y0 := g0
    obtain ⟨z0, rfl, _⟩ := tr_int Try.underlying3 g0'
    have g1 := hg 1 _ rfl
    have hs1 : ∃ y, ys[1]? = some y := ⟨_, List.getElem?_eq_getElem (by rw [hlen]; decide)⟩
    obtain ⟨y1, hy1⟩ := hs1
    rw [hy1] at g1
    have g1' : DataW.trod enc Try.prog w 0 (fun _ => true) held n _ [x1] = some y1 := g1
    obtain ⟨A, nn, c, zs, e1, hz1, hz2, hz3, _⟩ := rd_ints Try.underlying26 Try.underlying3 (by kernel_rfl) g1'
    injection e1 with e1; subst e1
    exact ⟨⟨z0, A, nn, c, zs⟩, rfl, hz1, hz2, hz3⟩
end
def RoSz (left : Int) (n : Nat) (w : World) (e : Ending) (w' : World) : Prop := ∃ v : Int, e = .returned (.int .i64 v) ∧ Below w.heap.size w w' ∧ -1 ≤ v ∧ v ≤ left ∧ (0 ≤ v → v + n ≤ left)
/-- a copy's row: its ints in a block of their own. -/
def RoOwn (B g0 : Nat) (w : World) (y : Ro) : Prop := ∃ q, y.A = some ⟨q, 0, none⟩ ∧ y.c = y.n ∧ y.zs.length = y.n ∧ y.n ≤ 1048576 ∧ q ≠ g0 ∧ w.ownsRow B 3 1 (.slice (some ⟨q, 0, none⟩) y.n y.n) y.n (y.zs.map (Value.int .i64))
theorem RoOwn.at_ {B g0 : Nat} {w : World} {y : Ro} (h : RoOwn B g0 w y) : RoAt w y := by
  obtain ⟨q, e, e2, h1, h2, _, ho⟩ := h
  exact ⟨h1, h2, by rw [e]; exact Rd.ofOwnK ho⟩
theorem RoOwn.moved {B g0 : Nat} {w w' : World} {y : Ro} (h : RoOwn B g0 w y) (hb : Below w.heap.size w w') : RoOwn B g0 w' y := by
  obtain ⟨q, e, e2, h1, h2, h3, ho⟩ := h
  exact ⟨q, e, e2, h1, h2, h3, ownB ho hb⟩
theorem RoOwn.base {B B' g0 : Nat} {w : World} {y : Ro} (h : RoOwn B g0 w y) (hB : B' ≤ B) : RoOwn B' g0 w y := by
  obtain ⟨q, e, e2, h1, h2, h3, ho⟩ := h
  exact ⟨q, e, e2, h1, h2, h3, own_base ho hB⟩
theorem RoOwn.set_ {B g0 : Nat} {w : World} {y : Ro} (h : RoOwn B g0 w y) (o : Nat) (u : Value) : RoOwn B g0 (w.setCell ⟨g0, o, none⟩ u) y := by
  obtain ⟨q, e, e2, h1, h2, h3, ho⟩ := h
  exact ⟨q, e, e2, h1, h2, h3, own_set ho (p := ⟨g0, o, none⟩) (fun h => h3 h.symm) u⟩
/-- a copied slice: row and inner rows of the call's own, no two inner rows in one block. -/
structure Ros (B g n : Nat) (ys : List Ro) (w : World) : Prop where
  len : ys.length = n
  row : w.ownsRow B 41 2 (.slice (some ⟨g, 0, none⟩) n n) n (ys.flatMap Ro.cells)
  own : ∀ y ∈ ys, RoOwn B g w y
  apart : ys.Pairwise fun y y' => y.A ≠ y'.A
theorem Ros.moved {B g n : Nat} {ys : List Ro} {w w' : World} (h : Ros B g n ys w) (hb : Below w.heap.size w w') : Ros B g n ys w' := ⟨h.len, ownB h.row hb, fun y hy => (h.own y hy).moved hb, h.apart⟩
theorem Ros.base {B B' g n : Nat} {ys : List Ro} {w : World} (h : Ros B g n ys w) (hB : B' ≤ B) : Ros B' g n ys w := ⟨h.len, own_base h.row hB, fun y hy => (h.own y hy).base hB, h.apart⟩
theorem Ros.rd {B g n : Nat} {ys : List Ro} {w : World} (h : Ros B g n ys w) : Rd w w.heap.size (some ⟨g, 0, none⟩) (ys.flatMap Ro.cells) := Rd.ofOwnK h.row
theorem Ros.at_ {B g n : Nat} {ys : List Ro} {w : World} (h : Ros B g n ys w) : ∀ y ∈ ys, RoAt w y := fun y hy => (h.own y hy).at_
theorem Try.inf_Ro : (Try.prog.info? 41).map (fun i => (i.zero, i.size, i.bytes)) = some (some (.agg #[.int .i64 0, .slice none 0 0]), 2, 32) := by kernel_rfl
def Roz : List Value := [.int .i64 0, .slice none 0 0]
theorem Ro_set (ys : List Ro) (m : Nat) (y : Ro) (hm : 0 < m) : ((fillG Ro.cells Roz ys m).set (ys.length * 2) (.int .i64 y.p0)).set (ys.length * 2 + 1) (.slice y.A y.n y.c) = fillG Ro.cells Roz (ys ++ [y]) (m - 1) := by
  obtain ⟨m, rfl⟩ : ∃ j, m = j + 1 := ⟨m - 1, by omega⟩
  have hp := fillG_pre Ro.cells_len ys
  unfold fillG
  rw [set_pre0 _ _ _ _ hp, set_pre _ _ _ _ hp, List.replicate_succ, Nat.add_sub_cancel]
  simp only [Roz, Ro.cells, List.flatMap_append, List.flatMap_cons, List.flatMap_nil, List.append_nil, List.append_assoc, List.set_cons_zero, List.set_cons_succ, List.cons_append, List.nil_append]
def RosOut (xs : List Ro) (n : Nat) (w : World) (e : Ending) (w' : World) : Prop := ∃ (g : Nat) (ys : List Ro), e = .returned (.slice (some ⟨g, 0, none⟩) n n) ∧ w.heap.size ≤ g ∧ ys.map Ro.d = xs.map Ro.d ∧ Ros w.heap.size g n ys w' ∧ Below w.heap.size w w'
theorem Ro_snoc {α β : Type} {f : α → β} {xs : List α} {ys : List α} {k : Nat} (h : ys.map f = (xs.take k).map f) (hk : k < xs.length) {y : α} (hy : f y = f xs[k]) : (ys ++ [y]).map f = (xs.take (k + 1)).map f := by
  rw [List.take_succ_eq_append_getElem hk, List.map_append, List.map_append, h]; simp [hy]
theorem Ro_same {x y : Ro} (h : x.d = y.d) : x.p0 = y.p0 ∧ x.zs = y.zs := by
  unfold Ro.d at h
  injection h with e0 e1
  exact ⟨e0, e1⟩
end Go.Proofs.Ytlgkjidginibdaa

namespace Go.Proofs.Ytlgkjidginibdaa
open Go.ChangeShapes Go.WideShapes Go.ChangeAt Go.RowKit Go.Deep

section
variable {H : Type} {enc : TypeId × Value → H} {w : World} {held : Bool}
set_option maxRecDepth 100000 in
theorem open_plan {b0 : Nat} {v : Value} {d : DataW H} {p : List MemPlace} (hv : Value.okWide Try.prog w .any b0 63 v) (h : DataW.Trod enc Try.prog w 0 (fun _ => true) held 63 v d p) :
    ∃ (A1 : Option Addr) (n1 c1 : Nat) (ss : List ByteArray) (A2 : Option Addr) (n2 c2 : Nat) (qs : List Q4) (A3 : Option Addr) (n3 c3 : Nat) (ls : List Lt), v = .agg #[.slice A1 n1 c1, .slice A2 n2 c2, .slice A3 n3 c3] ∧
      (ss.length = n1 ∧ n1 ≤ maxLen ∧ Rd w w.heap.size A1 (ss.map Value.string) ∧ (∀ s ∈ ss, s.size ≤ maxLen)) ∧
      (qs.length = n2 ∧ n2 ≤ maxLen ∧ Rd w w.heap.size A2 (qs.flatMap Q4.cells) ∧ (∀ q ∈ qs, q.wf)) ∧
      (ls.length = n3 ∧ n3 ≤ maxLen ∧ Rd w w.heap.size A3 (ls.flatMap Lt.cells) ∧ (∀ x ∈ ls, LtIn w x)) := by
  obtain ⟨cs, rfl, hsz⟩ := okWide_struct Try.underlying63 hv
  have hC : Try.prog.cellsOf 63 = 3 := by kernel_rfl
  obtain ⟨l⟩ := cs
  match l, hsz.trans hC with
  | [x0, x1, x2], _ =>
    obtain ⟨fuel, hf⟩ := h
    obtain ⟨ys, n, _, _, _, hlen, hg⟩ := DataW.trod_struct Try.underlying63 hf
    have g0 := hg 0 _ rfl
    obtain ⟨y0, hy0⟩ : ∃ y, ys[0]? = some y := ⟨_, List.getElem?_eq_getElem (by rw [hlen]; decide)⟩
    rw [hy0] at g0
    have g0' : DataW.trod enc Try.prog w 0 (fun _ => true) held n 25 [x0, x1] = some y0 := g0
    have g1 := hg 1 _ rfl
    obtain ⟨y1, hy1⟩ : ∃ y, ys[1]? = some y := ⟨_, List.getElem?_eq_getElem (by rw [hlen]; decide)⟩
    rw [hy1] at g1
    have g1' : DataW.trod enc Try.prog w 0 (fun _ => true) held n 61 [x2] = some y1 := g1
    obtain ⟨zs, m, _, _, _, hlen2, hk⟩ := DataW.trod_struct Try.underlying25 g0'
    have k0 := hk 0 _ rfl
    obtain ⟨u0, hu0⟩ : ∃ y, zs[0]? = some y := ⟨_, List.getElem?_eq_getElem (by rw [hlen2]; decide)⟩
    rw [hu0] at k0
    have k0' : DataW.trod enc Try.prog w 0 (fun _ => true) held m 22 [x0] = some u0 := k0
    have k1 := hk 1 _ rfl
    obtain ⟨u1, hu1⟩ : ∃ y, zs[1]? = some y := ⟨_, List.getElem?_eq_getElem (by rw [hlen2]; decide)⟩
    rw [hu1] at k1
    have k1' : DataW.trod enc Try.prog w 0 (fun _ => true) held m 23 [x1] = some u1 := k1
    obtain ⟨A1, n1, c1, ss, e1, a⟩ := rd_strs Try.underlying22 Try.underlying9 (by kernel_rfl) k0'
    obtain ⟨A2, n2, c2, qs, e2, b⟩ := rd_q4s Try.underlying23 Try.underlying209 (by kernel_rfl) (by kernel_rfl) rfl (hint_of Try.underlying3 (by decide +kernel)) k1'
    obtain ⟨A3, n3, c3, ls, e3, c⟩ := rd_lts g1'
    injection e1 with e1; injection e2 with e2; injection e3 with e3
    subst e1 e2 e3
    exact ⟨A1, n1, c1, ss, A2, n2, c2, qs, A3, n3, c3, ls, rfl, a, b, c⟩
end
def PlSz (left : Int) (m : Nat) (w : World) (e : Ending) (w' : World) : Prop := ∃ v : Int, e = .returned (.int .i64 v) ∧ Below w.heap.size w w' ∧ -1 ≤ v ∧ v ≤ left ∧ (0 ≤ v → v + m ≤ left)
set_option maxRecDepth 100000 in
set_option maxHeartbeats 1000000 in
theorem szPl (A1 A2 A3 : Option Addr) (n1 c1 n2 c2 n3 c3 : Nat) (left : Int) (ss : List ByteArray) (fs : List Q4) (ls : List Lt) (w : World) (hn1 : ss.length = n1) (hm1 : n1 ≤ maxLen) (hr1 : Rd w w.heap.size A1 (ss.map Value.string)) (hws : ∀ s ∈ ss, s.size ≤ maxLen)
    (hm2 : n2 ≤ maxLen) (hn3 : ls.length = n3) (hm3 : n3 ≤ maxLen) (hr3 : Rd w w.heap.size A3 (ls.flatMap Lt.cells)) (hi3 : ∀ x ∈ ls, LtIn w x) (hl0 : 0 ≤ left) (hl1 : left ≤ 1048576) :
    Calls Try.prog 30 #[.agg #[.slice A1 n1 c1, .slice A2 n2 c2, .slice A3 n3 c3], .int .i64 left] w (PlSz left (n1 + n2 + totS ss + n3 + Lttot ls) w) := by
  have HN1 := Lib.hid hn1; have HR1 := Lib.hid hr1; have HWS := Lib.hid hws; have HN3 := Lib.hid hn3; have HR3 := Lib.hid hr3; have HI3 := Lib.hid hi3; have HM1 := Lib.hid hm1; have HM2 := Lib.hid hm2; have HM3 := Lib.hid hm3
  clear hn1 hr1 hws hn3 hr3 hi3 hm1 hm2 hm3
  go_enter Try.func30, Try.ntmps30
  go_wp2_with fail
  obtain ⟨W, hW⟩ : ∃ W, w.alloc (Obj.cells #[.slice A1 n1 c1, .slice A2 n2 c2, .slice A3 n3 c3] 63) = W := ⟨_, rfl⟩
  have hb0 : Below w.heap.size w W := by rw [← hW]; exact (Below.refl _ _).alloc (Nat.le_refl _) _
  have hk2 : W.cell? ⟨w.heap.size, 2, none⟩ = some (.slice A3 n3 c3) := by rw [← hW]; simp [go_sem]
  have hz : w.heap.size < W.heap.size := by rw [← hW]; simp
  rw [hW]
  have HB0 := Lib.hid hb0; have HZ := Lib.hid hz; have HK2 := Lib.hid hk2
  clear hW hb0 hz hk2
  refine (szNet A1 A2 n1 c1 n2 c2 left ss fs W HN1.out HM1.out (HR1.out.moved HB0.out) HWS.out HM2.out hl0 hl1).mono ?_
  rintro e w2 ⟨v, rfl, hb2, hv0, hv1, hv2⟩
  have HB2 := Lib.hid (HB0.out.trans (hb2.mono HB0.out.size))
  have hk2 := (hb2.cell (p := ⟨w.heap.size, 2, none⟩) HZ.out).trans HK2.out
  clear hb2
  by_cases hneg : v < 0
  · go_wp2
    go_ret
    exact ⟨-1, rfl, HB2.out, by omega, by omega, by omega⟩
  have hpos : 0 ≤ v := by omega
  have HV2 := Lib.hid (hv2 hpos)
  clear hneg hv2
  go_wp2_with fail
  refine (szLts A3 n3 c3 v ls w2 HN3.out HM3.out (HR3.out.moved HB2.out) (fun x hx => (HI3.out x hx).moved HB2.out) hpos (by omega)).mono ?_
  rintro e w3 ⟨u, rfl, hb3, hu0, hu1, hu2⟩
  have HB3 := Lib.hid (HB2.out.trans (hb3.mono HB2.out.size))
  clear hb3
  by_cases hneg : u < 0
  · go_wp2
    go_ret
    exact ⟨-1, rfl, HB3.out, by omega, by omega, by omega⟩
  have hpo : 0 ≤ u := by omega
  have HU2 := Lib.hid (hu2 hpo)
  clear hneg hu2
  go_wp2
  go_ret
  exact ⟨u, rfl, HB3.out, by omega, by omega, fun _ => by have h1 := HV2.out; have h2 := HU2.out; omega⟩
def PlOut (ss : List ByteArray) (fs : List Q4) (ls : List Lt) (n1 n2 n3 : Nat) (w : World) (e : Ending) (w' : World) : Prop :=
  ∃ (g1 g2 g3 : Nat) (ys : List Lt), e = .returned (.agg #[.slice (some ⟨g1, 0, none⟩) n1 n1, .slice (some ⟨g2, 0, none⟩) n2 n2, .slice (some ⟨g3, 0, none⟩) n3 n3]) ∧
    w'.ownsRow w.heap.size 9 1 (.slice (some ⟨g1, 0, none⟩) n1 n1) n1 (ss.map Value.string) ∧
    w'.ownsRow w.heap.size 201 4 (.slice (some ⟨g2, 0, none⟩) n2 n2) n2 (fs.flatMap Q4.cells) ∧ w.heap.size ≤ g3 ∧ ys.map Lt.d = ls.map Lt.d ∧ Lts w.heap.size g3 n3 ys w' ∧ Below w.heap.size w w'
theorem Lts.set_ {B g n b o : Nat} {ys : List Lt} {w : World} (h : Lts B g n ys w) (hb : b < B) (u : Value) : Lts B g n ys (w.setCell ⟨b, o, none⟩ u) := by
  refine ⟨h.len, own_set h.row (p := ⟨b, o, none⟩) (fun e => by have e2 : b = g := e; have := (h.row.lt g rfl).1; omega) u, fun y hy => ?_, h.apart⟩
  obtain ⟨q, e, e2, h1, h2, h3, ho⟩ := h.own y hy
  exact ⟨q, e, e2, h1, h2, h3, own_set ho (p := ⟨b, o, none⟩) (fun e => by have e2 : b = q := e; have := (ho.lt q rfl).1; omega) u⟩
set_option maxRecDepth 100000 in
set_option maxHeartbeats 1000000 in
theorem toPl (A1 A2 A3 : Option Addr) (n1 c1 n2 c2 n3 c3 : Nat) (ss : List ByteArray) (fs : List Q4) (ls : List Lt) (w : World) (hn1 : ss.length = n1) (hr1 : Rd w w.heap.size A1 (ss.map Value.string)) (hs1 : n1 ≤ 1048576)
    (hn2 : fs.length = n2) (hr2 : Rd w w.heap.size A2 (fs.flatMap Q4.cells)) (hs2 : n2 ≤ 1048576) (hn3 : ls.length = n3) (hr3 : Rd w w.heap.size A3 (ls.flatMap Lt.cells)) (hi3 : ∀ x ∈ ls, LtAt w x) (hs3 : n3 ≤ 1048576) :
    Calls Try.prog 32 #[.agg #[.slice A1 n1 c1, .slice A2 n2 c2, .slice A3 n3 c3]] w (PlOut ss fs ls n1 n2 n3 w) := by
  have HN1 := Lib.hid hn1; have HR1 := Lib.hid hr1; have HN2 := Lib.hid hn2; have HR2 := Lib.hid hr2; have HN3 := Lib.hid hn3; have HR3 := Lib.hid hr3; have HI3 := Lib.hid hi3
  clear hn1 hr1 hn2 hr2 hn3 hr3 hi3
  go_enter Try.func32, Try.ntmps32
  go_wp2_with fail
  obtain ⟨W, hW⟩ : ∃ W, ((w.alloc (Obj.cells #[.slice A1 n1 c1, .slice A2 n2 c2, .slice A3 n3 c3] 63)).alloc (Obj.cells #[.slice none 0 0, .slice none 0 0, .slice none 0 0] 67)).alloc (Obj.cells #[.slice none 0 0, .slice none 0 0, .slice none 0 0] 67) = W := ⟨_, rfl⟩
  have hb0 : Below w.heap.size w W := by rw [← hW]; exact (((Below.refl _ _).alloc (Nat.le_refl _) _).alloc (by simp) _).alloc (by simp; omega) _
  have hk2 : W.cell? ⟨w.heap.size, 2, none⟩ = some (.slice A3 n3 c3) := by rw [← hW]; simp [go_sem]
  have hsz : W.heap.size = w.heap.size + 1 + 1 + 1 := by rw [← hW]; simp
  have HC : Hid (∀ j, j < 3 → W.cell? ⟨w.heap.size + 1 + 1, j, none⟩ = some (.slice none 0 0)) := Lib.hid (by
    intro j hj
    rw [← hW]
    match j, hj with
    | 0, _ => simp [go_sem]
    | 1, _ => simp [go_sem]
    | 2, _ => simp [go_sem])
  have HFZ : Hid (∀ j, W.frozen? ⟨w.heap.size + 1 + 1, j, none⟩ = false) := Lib.hid (by intro j; rw [← hW]; simp [go_sem])
  have HRZ : Hid (∀ j, W.frozen? ⟨w.heap.size + 1, j, none⟩ = false) := Lib.hid (by intro j; rw [← hW]; simp [go_sem])
  have HRC : Hid (∀ j, j < 3 → W.cell? ⟨w.heap.size + 1, j, none⟩ = some (.slice none 0 0)) := Lib.hid (by
    intro j hj
    rw [← hW]
    match j, hj with
    | 0, _ => simp [go_sem]
    | 1, _ => simp [go_sem]
    | 2, _ => simp [go_sem])
  rw [hW]
  have HB0 := Lib.hid hb0; have HK2 := Lib.hid hk2; have HSZ := Lib.hid hsz
  clear hW hb0 hk2 hsz
  refine (toNet A1 A2 n1 c1 n2 c2 ss fs W HN1.out (HR1.out.moved HB0.out) hs1 HN2.out (HR2.out.moved HB0.out) hs2).mono ?_
  rintro e w2 ⟨g1, g2, rfl, ho1, ho2, hb2⟩
  have HB2 := Lib.hid (HB0.out.trans (hb2.mono HB0.out.size))
  have hsz := HSZ.out
  have hk2 := (hb2.cell (p := ⟨w.heap.size, 2, none⟩) (by show w.heap.size < _; omega)).trans HK2.out
  have hsz2 := hb2.size
  have q0 := (hb2.cell (p := ⟨w.heap.size + 1 + 1, 0, none⟩) (by show w.heap.size + 1 + 1 < _; omega)).trans (HC.out 0 (by omega))
  have q1 := (hb2.cell (p := ⟨w.heap.size + 1 + 1, 1, none⟩) (by show w.heap.size + 1 + 1 < _; omega)).trans (HC.out 1 (by omega))
  have q2 := (hb2.cell (p := ⟨w.heap.size + 1 + 1, 2, none⟩) (by show w.heap.size + 1 + 1 < _; omega)).trans (HC.out 2 (by omega))
  have f0 := (hb2.frozen (p := ⟨w.heap.size + 1 + 1, 0, none⟩) (by show w.heap.size + 1 + 1 < _; omega)).trans (HFZ.out 0)
  have f1 := (hb2.frozen (p := ⟨w.heap.size + 1 + 1, 1, none⟩) (by show w.heap.size + 1 + 1 < _; omega)).trans (HFZ.out 1)
  have f2 := (hb2.frozen (p := ⟨w.heap.size + 1 + 1, 2, none⟩) (by show w.heap.size + 1 + 1 < _; omega)).trans (HFZ.out 2)
  have HG1 := Lib.hid (ho1.lt g1 rfl); have HG2 := Lib.hid (ho2.lt g2 rfl)
  have HO1 := Lib.hid (own_base ho1 (B' := w.heap.size) (by omega)); have HO2 := Lib.hid (own_base ho2 (B' := w.heap.size) (by omega))
  have hz2 : w.heap.size + 1 + 1 < w2.heap.size := by omega
  have hz1 : w.heap.size < w2.heap.size := by omega
  have HRC2 : Hid (∀ j, j < 3 → w2.cell? ⟨w.heap.size + 1, j, none⟩ = some (.slice none 0 0)) := Lib.hid (fun j hj => (hb2.cell (p := ⟨w.heap.size + 1, j, none⟩) (by show w.heap.size + 1 < _; omega)).trans (HRC.out j hj))
  have HRZ2 : Hid (∀ j, w2.frozen? ⟨w.heap.size + 1, j, none⟩ = false) := Lib.hid (fun j => (hb2.frozen (p := ⟨w.heap.size + 1, j, none⟩) (by show w.heap.size + 1 < _; omega)).trans (HRZ.out j))
  clear ho1 ho2 hb2 hsz hsz2
  have HBS := Lib.hid ((HB2.out.setCell (p := ⟨w.heap.size + 1 + 1, 0, none⟩) (by show w.heap.size ≤ w.heap.size + 1 + 1; omega) (.slice (some ⟨g1, 0, none⟩) n1 n1)).setCell (p := ⟨w.heap.size + 1 + 1, 1, none⟩) (by show w.heap.size ≤ w.heap.size + 1 + 1; omega) (.slice (some ⟨g2, 0, none⟩) n2 n2))
  go_wp2_with fail
  obtain ⟨X, hX⟩ : ∃ X, (w2.setCell ⟨w.heap.size + 1 + 1, 0, none⟩ (.slice (some ⟨g1, 0, none⟩) n1 n1)).setCell ⟨w.heap.size + 1 + 1, 1, none⟩ (.slice (some ⟨g2, 0, none⟩) n2 n2) = X := ⟨_, rfl⟩
  have HX0 : Hid (X.cell? ⟨w.heap.size + 1 + 1, 0, none⟩ = some (.slice (some ⟨g1, 0, none⟩) n1 n1)) := Lib.hid (by rw [← hX]; simp [go_sem, q0, q1, hz2])
  have HX1 : Hid (X.cell? ⟨w.heap.size + 1 + 1, 1, none⟩ = some (.slice (some ⟨g2, 0, none⟩) n2 n2)) := Lib.hid (by rw [← hX]; simp [go_sem, q0, q1, hz2])
  have HX2 : Hid (X.cell? ⟨w.heap.size + 1 + 1, 2, none⟩ = some (.slice none 0 0)) := Lib.hid (by rw [← hX]; simp [go_sem, q2, hz2])
  have HXF : Hid (X.frozen? ⟨w.heap.size + 1 + 1, 2, none⟩ = false) := Lib.hid (by rw [← hX]; simp [go_sem, f2, hz2])
  have HXZ : Hid (w.heap.size + 1 + 1 < X.heap.size) := Lib.hid (by rw [← hX]; simpa using hz2)
  have HRC3 : Hid (∀ j, j < 3 → X.cell? ⟨w.heap.size + 1, j, none⟩ = some (.slice none 0 0)) := Lib.hid (by intro j hj; rw [← hX]; simp [go_sem, HRC2.out j hj])
  have HRZ3 : Hid (∀ j, X.frozen? ⟨w.heap.size + 1, j, none⟩ = false) := Lib.hid (by intro j; rw [← hX]; simp [go_sem, HRZ2.out j])
  have HP1 : Hid (X.ownsRow w.heap.size 9 1 (.slice (some ⟨g1, 0, none⟩) n1 n1) n1 (ss.map Value.string)) := Lib.hid (by
    rw [← hX]
    exact own_set (own_set HO1.out (p := ⟨_, _, none⟩) (by have h1 := HG1.out; have h2 := HSZ.out; show w.heap.size + 1 + 1 ≠ g1; omega) _) (p := ⟨_, _, none⟩) (by have h1 := HG1.out; have h2 := HSZ.out; show w.heap.size + 1 + 1 ≠ g1; omega) _)
  have HP2 : Hid (X.ownsRow w.heap.size 201 4 (.slice (some ⟨g2, 0, none⟩) n2 n2) n2 (fs.flatMap Q4.cells)) := Lib.hid (by
    rw [← hX]
    exact own_set (own_set HO2.out (p := ⟨_, _, none⟩) (by have h1 := HG2.out; have h2 := HSZ.out; show w.heap.size + 1 + 1 ≠ g2; omega) _) (p := ⟨_, _, none⟩) (by have h1 := HG2.out; have h2 := HSZ.out; show w.heap.size + 1 + 1 ≠ g2; omega) _)
  rw [hX] at HBS ⊢
  clear hX q0 q1 q2 f0 f1 f2 hk2 hz2 hz1
  refine (toLts A3 n3 c3 ls X HN3.out (HR3.out.moved HBS.out) (fun x hx => (HI3.out x hx).moved HBS.out) hs3).mono ?_
  rintro e w3 ⟨g3, ys, rfl, hg3, hd, hT, hb3⟩
  have HB3 := Lib.hid (HBS.out.trans (hb3.mono HBS.out.size))
  have hz0 := HXZ.out
  have q0 := (hb3.cell (p := ⟨w.heap.size + 1 + 1, 0, none⟩) hz0).trans HX0.out
  have q1 := (hb3.cell (p := ⟨w.heap.size + 1 + 1, 1, none⟩) hz0).trans HX1.out
  have q2 := (hb3.cell (p := ⟨w.heap.size + 1 + 1, 2, none⟩) hz0).trans HX2.out
  have f2 := (hb3.frozen (p := ⟨w.heap.size + 1 + 1, 2, none⟩) hz0).trans HXF.out
  have r0 := (hb3.cell (p := ⟨w.heap.size + 1, 0, none⟩) (by show w.heap.size + 1 < _; omega)).trans (HRC3.out 0 (by omega))
  have r1 := (hb3.cell (p := ⟨w.heap.size + 1, 1, none⟩) (by show w.heap.size + 1 < _; omega)).trans (HRC3.out 1 (by omega))
  have r2 := (hb3.cell (p := ⟨w.heap.size + 1, 2, none⟩) (by show w.heap.size + 1 < _; omega)).trans (HRC3.out 2 (by omega))
  have z0_ := (hb3.frozen (p := ⟨w.heap.size + 1, 0, none⟩) (by show w.heap.size + 1 < _; omega)).trans (HRZ3.out 0)
  have z1_ := (hb3.frozen (p := ⟨w.heap.size + 1, 1, none⟩) (by show w.heap.size + 1 < _; omega)).trans (HRZ3.out 1)
  have z2_ := (hb3.frozen (p := ⟨w.heap.size + 1, 2, none⟩) (by show w.heap.size + 1 < _; omega)).trans (HRZ3.out 2)
  have HR1 := Lib.hid (ownB HP1.out hb3); have HR2 := Lib.hid (ownB HP2.out hb3)
  have hz3 : w.heap.size + 1 + 1 < w3.heap.size := Nat.lt_of_lt_of_le hz0 hb3.size
  have hza : w.heap.size + 1 < w3.heap.size := by omega
  have HT := Lib.hid hT; have HD := Lib.hid hd
  have hg3' : w.heap.size ≤ g3 := by omega
  clear hT hd hb3 hz0
  go_wp2
  refine bodyPost_ret (v := .agg #[.slice (some ⟨g1, 0, none⟩) n1 n1, .slice (some ⟨g2, 0, none⟩) n2 n2, .slice (some ⟨g3, 0, none⟩) n3 n3]) (by simp [results, Try.results32, go_sem, q0, q1, q2, r0, r1, r2, hz3, hza]) rfl ⟨g1, g2, g3, ys, rfl, ?_, ?_, hg3', HD.out, ?_, ?_⟩
  · repeat (first | with_reducible exact HR1.out | refine own_set ?_ (p := ⟨_, _, none⟩) (by have h1 := HG1.out; have h2 := HSZ.out; first | (show w.heap.size + 1 + 1 ≠ g1; omega) | (show w.heap.size + 1 ≠ g1; omega)) _)
  · repeat (first | with_reducible exact HR2.out | refine own_set ?_ (p := ⟨_, _, none⟩) (by have h1 := HG2.out; have h2 := HSZ.out; first | (show w.heap.size + 1 + 1 ≠ g2; omega) | (show w.heap.size + 1 ≠ g2; omega)) _)
  · have h9 : Lts X.heap.size g3 n3 ys w3 := HT.out
    refine Lts.base ?_ (B := X.heap.size) (by have := HXZ.out; omega)
    repeat (first | with_reducible exact h9 | refine Lts.set_ ?_ (by have := HXZ.out; omega) _)
  · repeat (first | with_reducible exact HB3.out | refine Below.setCell ?_ (p := ⟨_, _, none⟩) (by first | (show w.heap.size ≤ w.heap.size + 1 + 1; omega) | (show w.heap.size ≤ w.heap.size + 1; omega)) _)
set_option maxRecDepth 100000 in
set_option maxHeartbeats 1000000 in
theorem eqPl (g1 g2 g3 g1' g2' g3' n1 n2 n3 : Nat) (ss : List ByteArray) (fs : List Q4) (xs ys : List Lt) (w : World) {B B' : Nat} (hn1 : ss.length = n1) (hs1 : n1 ≤ 1048576) (hn2 : fs.length = n2) (hs2 : n2 ≤ 1048576)
    (hr1 : Rd w w.heap.size (some ⟨g1, 0, none⟩) (ss.map Value.string)) (hr1' : Rd w w.heap.size (some ⟨g1', 0, none⟩) (ss.map Value.string))
    (hr2 : Rd w w.heap.size (some ⟨g2, 0, none⟩) (fs.flatMap Q4.cells)) (hr2' : Rd w w.heap.size (some ⟨g2', 0, none⟩) (fs.flatMap Q4.cells))
    (hx : Lts B g3 n3 xs w) (hy : Lts B' g3' n3 ys w) (hd : xs.map Lt.d = ys.map Lt.d) (hs3 : n3 ≤ 1048576) :
    Calls Try.prog 35 #[.agg #[.slice (some ⟨g1, 0, none⟩) n1 n1, .slice (some ⟨g2, 0, none⟩) n2 n2, .slice (some ⟨g3, 0, none⟩) n3 n3], .agg #[.slice (some ⟨g1', 0, none⟩) n1 n1, .slice (some ⟨g2', 0, none⟩) n2 n2, .slice (some ⟨g3', 0, none⟩) n3 n3]] w fun e w' => e = .returned (.bool true) ∧ Below w.heap.size w w' := by
  have HN1 := Lib.hid hn1; have HN2 := Lib.hid hn2; have HR1 := Lib.hid hr1; have HR1' := Lib.hid hr1'; have HR2 := Lib.hid hr2; have HR2' := Lib.hid hr2'; have HX := Lib.hid hx; have HY := Lib.hid hy; have HD := Lib.hid hd
  clear hn1 hn2 hr1 hr1' hr2 hr2' hx hy hd
  go_enter Try.func35, Try.ntmps35
  go_wp2_with fail
  obtain ⟨W, hW⟩ : ∃ W, (w.alloc (Obj.cells #[.slice (some ⟨g1, 0, none⟩) n1 n1, .slice (some ⟨g2, 0, none⟩) n2 n2, .slice (some ⟨g3, 0, none⟩) n3 n3] 67)).alloc (Obj.cells #[.slice (some ⟨g1', 0, none⟩) n1 n1, .slice (some ⟨g2', 0, none⟩) n2 n2, .slice (some ⟨g3', 0, none⟩) n3 n3] 67) = W := ⟨_, rfl⟩
  have hb0 : Below w.heap.size w W := by rw [← hW]; exact ((Below.refl _ _).alloc (Nat.le_refl _) _).alloc (by simp) _
  have hk0 : W.cell? ⟨w.heap.size, 2, none⟩ = some (.slice (some ⟨g3, 0, none⟩) n3 n3) := by rw [← hW]; simp [go_sem]
  have hk1 : W.cell? ⟨w.heap.size + 1, 2, none⟩ = some (.slice (some ⟨g3', 0, none⟩) n3 n3) := by rw [← hW]; simp [go_sem]
  have hz : w.heap.size + 1 < W.heap.size := by rw [← hW]; simp
  rw [hW]
  have HB0 := Lib.hid hb0
  clear hW hb0
  refine (eqNet g1 g2 g1' g2' n1 n2 n1 n2 n1 n2 ss fs W HN1.out hs1 HN2.out hs2 (HR1.out.moved HB0.out) (HR1'.out.moved HB0.out) (HR2.out.moved HB0.out) (HR2'.out.moved HB0.out)).mono ?_
  rintro e w2 ⟨rfl, hb2⟩
  have HB2 := Lib.hid (HB0.out.trans (hb2.mono HB0.out.size))
  have l0 := (hb2.cell (p := ⟨w.heap.size, 2, none⟩) (by show w.heap.size < _; omega)).trans hk0
  have l1 := (hb2.cell (p := ⟨w.heap.size + 1, 2, none⟩) hz).trans hk1
  clear hb2 hk0 hk1 hz
  go_wp2_with fail
  refine (eqLts g3 g3' n3 B B' xs ys w2 (HX.out.moved HB2.out) (HY.out.moved HB2.out) HD.out hs3).mono ?_
  rintro e w3 ⟨rfl, hb3⟩
  have HB3 := Lib.hid (HB2.out.trans (hb3.mono HB2.out.size))
  clear hb3
  go_wp2
  go_ret
  exact ⟨rfl, HB3.out⟩
end Go.Proofs.Ytlgkjidginibdaa

namespace Go.Proofs.Ytlgkjidginibdaa
open Go.ChangeShapes Go.WideShapes Go.ChangeAt Go.RowKit

/-- a mark's answer: a number; nothing outside of a stretch of blocks has changed. -/
def MarkR (B E : Nat) (top : Int) (w : World) (e : Ending) (w' : World) : Prop := ∃ v : Int, e = .returned (.int .i64 v) ∧ 0 ≤ v ∧ v ≤ top ∧ Off (fun b => B ≤ b ∧ b < E) w w'
set_option maxHeartbeats 1000000 in
theorem markIntsW (g n c : Nat) (k : Int) (zs : List Int) (w : World) {B : Nat} (ho : w.ownsRow B 3 1 (.slice (some ⟨g, 0, none⟩) n c) n (zs.map (Value.int .i64))) (hn : n ≤ 1048576) (h0 : 0 ≤ k) (h1 : k ≤ 10000000000000) :
    Calls Try.prog 65 #[.slice (some ⟨g, 0, none⟩) n c, .int .i64 k] w (MarkK k n g w) := by
  have HO := Lib.hid ho; clear ho
  go_enter Try.func65, Try.ntmps65
  go_wp2
  go_loopw [1, 5] (fun q i wr => ∃ (j : Nat) (ys : List Value), j ≤ n ∧ i = .int .i64 j ∧ q = .int .i64 (k + j) ∧ Off (· = g) w wr ∧ wr.ownsRow B 3 1 (.slice (some ⟨g, 0, none⟩) n c) n ys) (fun _ i _ => n - (intOf i).toNat)
  case atStart => exact ⟨0, _, Nat.zero_le _, rfl, by simp, Off.refl _ _, HO.out⟩
  case round =>
    obtain ⟨j, ys, hj, rfl, rfl, hoff, hown⟩ := hrel
    have HF := Lib.hid hoff; clear hoff
    by_cases hlt : j < n
    · have hyl := hown.1
      have hold := hown.cellAt j (by omega)
      rw [List.getElem?_eq_getElem (by omega)] at hold
      have hfz := hown.frozenAt j
      have HST := Lib.hid (hown.stored j (.int .i64 (k + j))).1
      obtain ⟨old, ho⟩ : ∃ v, ys[j]'(by omega) = v := ⟨_, rfl⟩
      rw [ho] at hold
      clear hown hyl ho
      go_wp2
      go_roundw
      case rel => exact ⟨j + 1, _, by omega, by go_num, by go_num, HF.out.set_ (p := ⟨g, _, none⟩) rfl _, HST.out⟩
      case measure => simp [intOf]; omega
    · have hjn : j = n := by omega
      subst hjn
      clear hlt hown
      go_wp2
      go_ret
      exact ⟨rfl, HF.out⟩
/-- the cells that hold the slices. -/
def LtKeep (ys : List Lt) (cs : List Value) : Prop := ∀ i (h : i < ys.length), cs[i * 5 + 2]? = some (.slice ys[i].A ys[i].n ys[i].c)
theorem Lt_keep0 (ys : List Lt) : LtKeep ys (ys.flatMap Lt.cells) := fun i h => by
  have h9 := flat_get Lt.cells 5 ys (fun _ _ => rfl) i 2 (by decide)
  rw [h9, List.getElem?_eq_getElem h]; rfl
theorem Lt_keep1 {ys : List Lt} {cs : List Value} (h : LtKeep ys cs) {o : Nat} (v : Value) (hne : ∀ i, o ≠ i * 5 + 2) : LtKeep ys (cs.set o v) := fun i hi => by rw [List.getElem?_set_ne (hne i)]; exact h i hi
theorem LtOwn.off {S : Nat → Prop} {B g0 : Nat} {w w' : World} {y : Lt} (h : LtOwn B g0 w y) (hoff : Off S w w') (hS : ∀ q, y.A = some ⟨q, 0, none⟩ → ¬ S q) : LtOwn B g0 w' y := by
  obtain ⟨q, e, e2, h1, h2, h3, ho⟩ := h
  exact ⟨q, e, e2, h1, h2, h3, hoff.own ho (hS q e)⟩
theorem Lts.off {S : Nat → Prop} {B g n : Nat} {ys : List Lt} {w w' : World} (h : Lts B g n ys w) (hoff : Off S w w') (hg : ¬ S g) (hq : ∀ y ∈ ys, ∀ q, y.A = some ⟨q, 0, none⟩ → ¬ S q) : Lts B g n ys w' :=
  ⟨h.len, hoff.own h.row hg, fun y hy => (h.own y hy).off hoff (hq y hy), h.apart⟩
/-- where the blocks lie. -/
theorem Lts.lies {B g n : Nat} {ys : List Lt} {w : World} (h : Lts B g n ys w) : (B ≤ g ∧ g < w.heap.size) ∧ ∀ y ∈ ys, ∀ q, y.A = some ⟨q, 0, none⟩ → B ≤ q ∧ q < w.heap.size := by
  refine ⟨h.row.lt g rfl, fun y hy q e => ?_⟩
  obtain ⟨q', e', _, _, _, _, ho⟩ := h.own y hy
  rw [e'] at e
  injection e with e; injection e with e
  subst e
  exact ho.lt q' rfl
set_option maxRecDepth 100000 in
set_option maxHeartbeats 4000000 in
theorem markLts {B g n E : Nat} {ys : List Lt} (k : Int) (w : World) (h : Lts B g n ys w) (hgE : g < E) (hqE : ∀ y ∈ ys, ∀ q, y.A = some ⟨q, 0, none⟩ → q < E) (hs : n ≤ 1048576) (h0 : 0 ≤ k) (h1 : k ≤ 90000000) :
    Calls Try.prog 108 #[.slice (some ⟨g, 0, none⟩) n n, .int .i64 k] w (MarkR B E 2000000000000 w) := by
  have HX := Lib.hid h; have HQE := Lib.hid hqE
  have hbg := (h.row.lt g rfl).1
  have HGE := Lib.hid (show B ≤ g ∧ g < E from ⟨hbg, hgE⟩)
  clear h hqE hbg hgE
  go_enter Try.func108, Try.ntmps108
  go_wp2
  go_loopw [1, 5] (fun z i wr => ∃ (j : Nat) (v : Int) (cs : List Value), j ≤ n ∧ i = .int .i64 j ∧ z = .int .i64 v ∧ 0 ≤ v ∧ v ≤ k + 1048590 * (j : Int) ∧ Hid (LtKeep ys cs) ∧ Hid (wr.ownsRow B 155 5 (.slice (some ⟨g, 0, none⟩) n n) n cs) ∧ Hid (∀ i (h : i < ys.length), j ≤ i → LtOwn B g wr ys[i]) ∧ Hid (Off (fun b => B ≤ b ∧ b < E) w wr)) (fun _ i _ => n - (intOf i).toNat)
  case atStart => exact ⟨0, k, _, Nat.zero_le _, rfl, rfl, h0, by omega, Lib.hid (Lt_keep0 ys), Lib.hid HX.out.row, Lib.hid (fun i h _ => HX.out.own _ (List.getElem_mem h)), Lib.hid (Off.refl _ _)⟩
  case round =>
    obtain ⟨j, v, cs, hj, rfl, rfl, hv0, hv1, HK, HR, HO, HF⟩ := hrel
    by_cases hlt : j < n
    case neg =>
      go_wp2
      go_ret
      exact ⟨v, rfl, hv0, by omega, HF.out⟩
    case pos =>
    have hjl : j < ys.length := by have := HX.out.len; omega
    have hcl : cs.length = n * 5 := HR.out.1
    obtain ⟨v0, c0⟩ : ∃ u, wr.cell? ⟨g, j * 5, none⟩ = some u := by
      have h9 := HR.out.cellAt (j * 5) (by omega)
      rw [List.getElem?_eq_getElem (by omega)] at h9
      exact ⟨_, h9⟩
    have z0 := HR.out.frozenAt (j * 5)
    obtain ⟨v1, c1⟩ : ∃ u, wr.cell? ⟨g, j * 5 + 1, none⟩ = some u := by
      have h9 := HR.out.cellAt (j * 5 + 1) (by omega)
      rw [List.getElem?_eq_getElem (by omega)] at h9
      exact ⟨_, h9⟩
    have z1 := HR.out.frozenAt (j * 5 + 1)
    have qs_ := (HR.out.cellAt (j * 5 + 2) (by omega)).trans (HK.out j hjl)
    obtain ⟨y, hy⟩ : ∃ y, ys[j]'hjl = y := ⟨_, rfl⟩
    have hoy := HO.out j hjl (Nat.le_refl _)
    have hqq := HQE.out _ (List.getElem_mem hjl)
    have HAP := Lib.hid (fun i (h : i < ys.length) (hji : j < i) => List.pairwise_iff_getElem.1 HX.out.apart j i hjl h hji)
    rw [hy] at hoy qs_ hqq HAP
    have HOC : Hid (∀ i (h : i < ys.length), j < i → LtOwn B g ((wr.setCell ⟨g, j * 5, none⟩ (.int .i64 (v))).setCell ⟨g, j * 5 + 1, none⟩ (.int .i64 (v + 1))) ys[i]) := Lib.hid (fun i h hji => (((HO.out i h (Nat.le_of_lt hji)).set_ _ _).set_ _ _))
    have hoc : LtOwn B g ((wr.setCell ⟨g, j * 5, none⟩ (.int .i64 (v))).setCell ⟨g, j * 5 + 1, none⟩ (.int .i64 (v + 1))) y := ((hoy.set_ _ _).set_ _ _)
    have HRC : Hid (((wr.setCell ⟨g, j * 5, none⟩ (.int .i64 (v))).setCell ⟨g, j * 5 + 1, none⟩ (.int .i64 (v + 1))).ownsRow B 155 5 (.slice (some ⟨g, 0, none⟩) n n) n ((cs.set (j * 5) (.int .i64 (v))).set (j * 5 + 1) (.int .i64 (v + 1)))) := Lib.hid (((HR.out.stored (j * 5) (.int .i64 (v))).1.stored (j * 5 + 1) (.int .i64 (v + 1))).1)
    have HKC : Hid (LtKeep ys ((cs.set (j * 5) (.int .i64 (v))).set (j * 5 + 1) (.int .i64 (v + 1)))) := Lib.hid ((Lt_keep1 (Lt_keep1 HK.out _ (fun i => by omega)) _ (fun i => by omega)))
    have HFC : Hid (Off (fun b => B ≤ b ∧ b < E) w ((wr.setCell ⟨g, j * 5, none⟩ (.int .i64 (v))).setCell ⟨g, j * 5 + 1, none⟩ (.int .i64 (v + 1)))) := Lib.hid (((HF.out.set_ (p := ⟨g, _, none⟩) HGE.out _).set_ (p := ⟨g, _, none⟩) HGE.out _))
    clear hoy hy hjl hcl HO HK HF
    obtain ⟨p0, p1, A, m, c, zs, q0, q1⟩ := y
    obtain ⟨q, e1, e2, e3, e4, e5, ho⟩ := hoc
    simp only at e1 e2 e3 e4 ho qs_ hqq HAP
    subst e1
    have e2s := e2.symm
    subst e2s
    have hqe := hqq q rfl
    have hbq := (ho.lt q rfl).1
    have HNE := Lib.hid e5
    have CM := Lib.hid (markIntsW q m m (v + 1 + 1) zs _ ho e4 (by omega) (by omega))
    have HAQ : Hid (∀ i (h : i < ys.length), j < i → ∀ q', ys[i].A = some ⟨q', 0, none⟩ → ¬ q' = q) := Lib.hid (fun i h hji q' e1 e2 => HAP.out i h hji (by rw [e1, e2]))
    clear ho hqq HAP e3 e5
    go_wp2_with fail
    refine CM.out.mono ?_
    rintro e w2 ⟨rfl, hoff⟩
    have HR2 := Lib.hid (hoff.own HRC.out (fun h => HNE.out h.symm))
    have HO2 : Hid (∀ i (h : i < ys.length), j < i → LtOwn B g w2 ys[i]) := Lib.hid (fun i h hji => (HOC.out i h hji).off hoff (fun q' e1 e2 => HAQ.out i h hji q' e1 e2))
    have HF2 : Hid (Off (fun b => B ≤ b ∧ b < E) w w2) := Lib.hid (HFC.out.trans (hoff.wider (fun b e => by have e' : b = q := e; rw [e']; exact ⟨hbq, hqe⟩)))
    clear hoff c0 z0 c1 z1 qs_
    have hcl2 : ((cs.set (j * 5) (.int .i64 (v))).set (j * 5 + 1) (.int .i64 (v + 1))).length = n * 5 := HR2.out.1
    obtain ⟨u0, d0⟩ : ∃ u, w2.cell? ⟨g, j * 5 + 3, none⟩ = some u := by
      have h9 := HR2.out.cellAt (j * 5 + 3) (by omega)
      rw [List.getElem?_eq_getElem (by omega)] at h9
      exact ⟨_, h9⟩
    have y0 := HR2.out.frozenAt (j * 5 + 3)
    obtain ⟨u1, d1⟩ : ∃ u, w2.cell? ⟨g, j * 5 + 4, none⟩ = some u := by
      have h9 := HR2.out.cellAt (j * 5 + 4) (by omega)
      rw [List.getElem?_eq_getElem (by omega)] at h9
      exact ⟨_, h9⟩
    have y1 := HR2.out.frozenAt (j * 5 + 4)
    have HB2 : ∃ b0 : Int, v + 1 + 1 + (m : Int) = b0 := ⟨_, rfl⟩
    obtain ⟨b0, hb0⟩ := HB2
    have hb1 : 0 ≤ b0 := by omega
    have hb2 : b0 ≤ k + 1048590 * (j : Int) + 1048580 := by omega
    rw [hb0]
    clear hb0 hcl2
    have HR3 := Lib.hid (((HR2.out.stored (j * 5 + 3) (.int .i64 (b0))).1.stored (j * 5 + 4) (.int .i64 (b0 + 1))).1)
    go_wp2
    go_roundw
    case rel => exact ⟨j + 1, _, _, by omega, by go_num, rfl, by omega, by omega, Lib.hid (Lt_keep1 (Lt_keep1 HKC.out _ (fun i => by omega)) _ (fun i => by omega)), HR3, Lib.hid (fun i h hji => (((HO2.out i h (by omega)).set_ _ _).set_ _ _)), Lib.hid ((HF2.out.set_ (p := ⟨g, _, none⟩) HGE.out _).set_ (p := ⟨g, _, none⟩) HGE.out _)⟩
    case measure => simp [intOf]; omega
/-- the cells that hold the slices. -/
def FrKeep (ys : List Fr) (cs : List Value) : Prop := ∀ i (h : i < ys.length), cs[i * 3 + 2]? = some (.slice ys[i].A ys[i].n ys[i].c)
theorem Fr_keep0 (ys : List Fr) : FrKeep ys (ys.flatMap Fr.cells) := fun i h => by
  have h9 := flat_get Fr.cells 3 ys (fun _ _ => rfl) i 2 (by decide)
  rw [h9, List.getElem?_eq_getElem h]; rfl
theorem Fr_keep1 {ys : List Fr} {cs : List Value} (h : FrKeep ys cs) {o : Nat} (v : Value) (hne : ∀ i, o ≠ i * 3 + 2) : FrKeep ys (cs.set o v) := fun i hi => by rw [List.getElem?_set_ne (hne i)]; exact h i hi
theorem FrOwn.off {S : Nat → Prop} {B g0 : Nat} {w w' : World} {y : Fr} (h : FrOwn B g0 w y) (hoff : Off S w w') (hS : ∀ q, y.A = some ⟨q, 0, none⟩ → ¬ S q) : FrOwn B g0 w' y := by
  obtain ⟨q, e, e2, h1, h2, h3, ho⟩ := h
  exact ⟨q, e, e2, h1, h2, h3, hoff.own ho (hS q e)⟩
theorem Frs.off {S : Nat → Prop} {B g n : Nat} {ys : List Fr} {w w' : World} (h : Frs B g n ys w) (hoff : Off S w w') (hg : ¬ S g) (hq : ∀ y ∈ ys, ∀ q, y.A = some ⟨q, 0, none⟩ → ¬ S q) : Frs B g n ys w' :=
  ⟨h.len, hoff.own h.row hg, fun y hy => (h.own y hy).off hoff (hq y hy), h.apart⟩
/-- where the blocks lie. -/
theorem Frs.lies {B g n : Nat} {ys : List Fr} {w : World} (h : Frs B g n ys w) : (B ≤ g ∧ g < w.heap.size) ∧ ∀ y ∈ ys, ∀ q, y.A = some ⟨q, 0, none⟩ → B ≤ q ∧ q < w.heap.size := by
  refine ⟨h.row.lt g rfl, fun y hy q e => ?_⟩
  obtain ⟨q', e', _, _, _, _, ho⟩ := h.own y hy
  rw [e'] at e
  injection e with e; injection e with e
  subst e
  exact ho.lt q' rfl
set_option maxRecDepth 100000 in
set_option maxHeartbeats 4000000 in
theorem markFrs {B g n E : Nat} {ys : List Fr} (k : Int) (w : World) (h : Frs B g n ys w) (hgE : g < E) (hqE : ∀ y ∈ ys, ∀ q, y.A = some ⟨q, 0, none⟩ → q < E) (hs : n ≤ 1048576) (h0 : 0 ≤ k) (h1 : k ≤ 90000000) :
    Calls Try.prog 76 #[.slice (some ⟨g, 0, none⟩) n n, .int .i64 k] w (MarkR B E 2000000000000 w) := by
  have HX := Lib.hid h; have HQE := Lib.hid hqE
  have hbg := (h.row.lt g rfl).1
  have HGE := Lib.hid (show B ≤ g ∧ g < E from ⟨hbg, hgE⟩)
  clear h hqE hbg hgE
  go_enter Try.func76, Try.ntmps76
  go_wp2
  go_loopw [1, 5] (fun z i wr => ∃ (j : Nat) (v : Int) (cs : List Value), j ≤ n ∧ i = .int .i64 j ∧ z = .int .i64 v ∧ 0 ≤ v ∧ v ≤ k + 1048590 * (j : Int) ∧ Hid (FrKeep ys cs) ∧ Hid (wr.ownsRow B 194 3 (.slice (some ⟨g, 0, none⟩) n n) n cs) ∧ Hid (∀ i (h : i < ys.length), j ≤ i → FrOwn B g wr ys[i]) ∧ Hid (Off (fun b => B ≤ b ∧ b < E) w wr)) (fun _ i _ => n - (intOf i).toNat)
  case atStart => exact ⟨0, k, _, Nat.zero_le _, rfl, rfl, h0, by omega, Lib.hid (Fr_keep0 ys), Lib.hid HX.out.row, Lib.hid (fun i h _ => HX.out.own _ (List.getElem_mem h)), Lib.hid (Off.refl _ _)⟩
  case round =>
    obtain ⟨j, v, cs, hj, rfl, rfl, hv0, hv1, HK, HR, HO, HF⟩ := hrel
    by_cases hlt : j < n
    case neg =>
      go_wp2
      go_ret
      exact ⟨v, rfl, hv0, by omega, HF.out⟩
    case pos =>
    have hjl : j < ys.length := by have := HX.out.len; omega
    have hcl : cs.length = n * 3 := HR.out.1
    obtain ⟨v0, c0⟩ : ∃ u, wr.cell? ⟨g, j * 3, none⟩ = some u := by
      have h9 := HR.out.cellAt (j * 3) (by omega)
      rw [List.getElem?_eq_getElem (by omega)] at h9
      exact ⟨_, h9⟩
    have z0 := HR.out.frozenAt (j * 3)
    obtain ⟨v1, c1⟩ : ∃ u, wr.cell? ⟨g, j * 3 + 1, none⟩ = some u := by
      have h9 := HR.out.cellAt (j * 3 + 1) (by omega)
      rw [List.getElem?_eq_getElem (by omega)] at h9
      exact ⟨_, h9⟩
    have z1 := HR.out.frozenAt (j * 3 + 1)
    have qs_ := (HR.out.cellAt (j * 3 + 2) (by omega)).trans (HK.out j hjl)
    obtain ⟨y, hy⟩ : ∃ y, ys[j]'hjl = y := ⟨_, rfl⟩
    have hoy := HO.out j hjl (Nat.le_refl _)
    have hqq := HQE.out _ (List.getElem_mem hjl)
    have HAP := Lib.hid (fun i (h : i < ys.length) (hji : j < i) => List.pairwise_iff_getElem.1 HX.out.apart j i hjl h hji)
    rw [hy] at hoy qs_ hqq HAP
    have HOC : Hid (∀ i (h : i < ys.length), j < i → FrOwn B g ((wr.setCell ⟨g, j * 3, none⟩ (.int .i64 (v))).setCell ⟨g, j * 3 + 1, none⟩ (.int .i64 (v + 1))) ys[i]) := Lib.hid (fun i h hji => (((HO.out i h (Nat.le_of_lt hji)).set_ _ _).set_ _ _))
    have hoc : FrOwn B g ((wr.setCell ⟨g, j * 3, none⟩ (.int .i64 (v))).setCell ⟨g, j * 3 + 1, none⟩ (.int .i64 (v + 1))) y := ((hoy.set_ _ _).set_ _ _)
    have HRC : Hid (((wr.setCell ⟨g, j * 3, none⟩ (.int .i64 (v))).setCell ⟨g, j * 3 + 1, none⟩ (.int .i64 (v + 1))).ownsRow B 194 3 (.slice (some ⟨g, 0, none⟩) n n) n ((cs.set (j * 3) (.int .i64 (v))).set (j * 3 + 1) (.int .i64 (v + 1)))) := Lib.hid (((HR.out.stored (j * 3) (.int .i64 (v))).1.stored (j * 3 + 1) (.int .i64 (v + 1))).1)
    have HKC : Hid (FrKeep ys ((cs.set (j * 3) (.int .i64 (v))).set (j * 3 + 1) (.int .i64 (v + 1)))) := Lib.hid ((Fr_keep1 (Fr_keep1 HK.out _ (fun i => by omega)) _ (fun i => by omega)))
    have HFC : Hid (Off (fun b => B ≤ b ∧ b < E) w ((wr.setCell ⟨g, j * 3, none⟩ (.int .i64 (v))).setCell ⟨g, j * 3 + 1, none⟩ (.int .i64 (v + 1)))) := Lib.hid (((HF.out.set_ (p := ⟨g, _, none⟩) HGE.out _).set_ (p := ⟨g, _, none⟩) HGE.out _))
    clear hoy hy hjl hcl HO HK HF
    obtain ⟨p0, p1, A, m, c, zs⟩ := y
    obtain ⟨q, e1, e2, e3, e4, e5, ho⟩ := hoc
    simp only at e1 e2 e3 e4 ho qs_ hqq HAP
    subst e1
    have e2s := e2.symm
    subst e2s
    have hqe := hqq q rfl
    have hbq := (ho.lt q rfl).1
    have HNE := Lib.hid e5
    have CM := Lib.hid (markIntsW q m m (v + 1 + 1) zs _ ho e4 (by omega) (by omega))
    have HAQ : Hid (∀ i (h : i < ys.length), j < i → ∀ q', ys[i].A = some ⟨q', 0, none⟩ → ¬ q' = q) := Lib.hid (fun i h hji q' e1 e2 => HAP.out i h hji (by rw [e1, e2]))
    clear ho hqq HAP e3 e5
    go_wp2_with fail
    refine CM.out.mono ?_
    rintro e w2 ⟨rfl, hoff⟩
    have HR2 := Lib.hid (hoff.own HRC.out (fun h => HNE.out h.symm))
    have HO2 : Hid (∀ i (h : i < ys.length), j < i → FrOwn B g w2 ys[i]) := Lib.hid (fun i h hji => (HOC.out i h hji).off hoff (fun q' e1 e2 => HAQ.out i h hji q' e1 e2))
    have HF2 : Hid (Off (fun b => B ≤ b ∧ b < E) w w2) := Lib.hid (HFC.out.trans (hoff.wider (fun b e => by have e' : b = q := e; rw [e']; exact ⟨hbq, hqe⟩)))
    clear hoff c0 z0 c1 z1 qs_
    go_wp2
    go_roundw
    case rel => exact ⟨j + 1, _, _, by omega, by go_num, rfl, by omega, by omega, HKC, HR2, Lib.hid (fun i h hji => HO2.out i h (by omega)), HF2⟩
    case measure => simp [intOf]; omega
/-- the cells that hold the slices. -/
def RoKeep (ys : List Ro) (cs : List Value) : Prop := ∀ i (h : i < ys.length), cs[i * 2 + 1]? = some (.slice ys[i].A ys[i].n ys[i].c)
theorem Ro_keep0 (ys : List Ro) : RoKeep ys (ys.flatMap Ro.cells) := fun i h => by
  have h9 := flat_get Ro.cells 2 ys (fun _ _ => rfl) i 1 (by decide)
  rw [h9, List.getElem?_eq_getElem h]; rfl
theorem Ro_keep1 {ys : List Ro} {cs : List Value} (h : RoKeep ys cs) {o : Nat} (v : Value) (hne : ∀ i, o ≠ i * 2 + 1) : RoKeep ys (cs.set o v) := fun i hi => by rw [List.getElem?_set_ne (hne i)]; exact h i hi
theorem RoOwn.off {S : Nat → Prop} {B g0 : Nat} {w w' : World} {y : Ro} (h : RoOwn B g0 w y) (hoff : Off S w w') (hS : ∀ q, y.A = some ⟨q, 0, none⟩ → ¬ S q) : RoOwn B g0 w' y := by
  obtain ⟨q, e, e2, h1, h2, h3, ho⟩ := h
  exact ⟨q, e, e2, h1, h2, h3, hoff.own ho (hS q e)⟩
theorem Ros.off {S : Nat → Prop} {B g n : Nat} {ys : List Ro} {w w' : World} (h : Ros B g n ys w) (hoff : Off S w w') (hg : ¬ S g) (hq : ∀ y ∈ ys, ∀ q, y.A = some ⟨q, 0, none⟩ → ¬ S q) : Ros B g n ys w' :=
  ⟨h.len, hoff.own h.row hg, fun y hy => (h.own y hy).off hoff (hq y hy), h.apart⟩
/-- where the blocks lie. -/
theorem Ros.lies {B g n : Nat} {ys : List Ro} {w : World} (h : Ros B g n ys w) : (B ≤ g ∧ g < w.heap.size) ∧ ∀ y ∈ ys, ∀ q, y.A = some ⟨q, 0, none⟩ → B ≤ q ∧ q < w.heap.size := by
  refine ⟨h.row.lt g rfl, fun y hy q e => ?_⟩
  obtain ⟨q', e', _, _, _, _, ho⟩ := h.own y hy
  rw [e'] at e
  injection e with e; injection e with e
  subst e
  exact ho.lt q' rfl
set_option maxRecDepth 100000 in
set_option maxHeartbeats 2000000 in
theorem markPl {B g1 g2 g3 n1 n2 n3 c1 c2 E : Nat} {xs zs : List Value} {ys : List Lt} (w : World) (ho1 : w.ownsRow B 9 1 (.slice (some ⟨g1, 0, none⟩) n1 c1) n1 xs) (hs1 : n1 ≤ 1048576)
    (ho2 : w.ownsRow B 201 4 (.slice (some ⟨g2, 0, none⟩) n2 c2) n2 zs) (hs2 : n2 ≤ 1048576) (h : Lts B g3 n3 ys w) (hs3 : n3 ≤ 1048576) (h1E : g1 < E) (h2E : g2 < E) (h3E : g3 < E) (hqE : ∀ y ∈ ys, ∀ q, y.A = some ⟨q, 0, none⟩ → q < E) :
    Calls Try.prog 36 #[.agg #[.slice (some ⟨g1, 0, none⟩) n1 c1, .slice (some ⟨g2, 0, none⟩) n2 c2, .slice (some ⟨g3, 0, none⟩) n3 n3], .int .i64 1] w (MarkR B E 2000000000000 w) := by
  have hb0 := (Below.refl w.heap.size w).alloc (Nat.le_refl _) (Obj.cells #[.slice (some ⟨g1, 0, none⟩) n1 c1, .slice (some ⟨g2, 0, none⟩) n2 c2, .slice (some ⟨g3, 0, none⟩) n3 n3] 67)
  have HB0 := Lib.hid hb0
  have HO1 := Lib.hid (ownB ho1 hb0); have HO2 := Lib.hid (ownB ho2 hb0); have HX := Lib.hid (h.moved hb0)
  have hl1 := ho1.lt g1 rfl
  have hl2 := ho2.lt g2 rfl
  have HL := Lib.hid (show (B ≤ g1 ∧ g1 < E) ∧ (B ≤ g2 ∧ g2 < E) from ⟨⟨hl1.1, h1E⟩, ⟨hl2.1, h2E⟩⟩)
  have HNE := Lib.hid (rows_apart ho1 ho2 (by decide))
  have HN1 := Lib.hid (rows_apart ho1 h.row (by decide))
  have HN2 := Lib.hid (rows_apart ho2 h.row (by decide))
  have HNQ : Hid (∀ y ∈ ys, ∀ q, y.A = some ⟨q, 0, none⟩ → ¬ (q = g1 ∨ q = g2)) := Lib.hid (fun y hy q e hc => by
    obtain ⟨q', e', _, _, _, _, ho⟩ := h.own y hy
    rw [e'] at e
    injection e with e; injection e with e
    subst e
    rcases hc with hc | hc
    · exact rows_apart ho1 ho (by decide) hc.symm
    · exact rows_apart ho2 ho (by decide) hc.symm)
  have HQE := Lib.hid hqE
  clear hb0 ho1 ho2 h hqE h1E h2E
  go_enter Try.func36, Try.ntmps36
  go_wp2_with fail
  obtain ⟨W, hW⟩ : ∃ W, (w.alloc (Obj.cells #[.slice (some ⟨g1, 0, none⟩) n1 c1, .slice (some ⟨g2, 0, none⟩) n2 c2, .slice (some ⟨g3, 0, none⟩) n3 n3] 67)) = W := ⟨_, rfl⟩
  have hk1 : W.cell? ⟨w.heap.size, 2, none⟩ = some (.slice (some ⟨g3, 0, none⟩) n3 n3) := by rw [← hW]; simp [go_sem]
  have hz : w.heap.size < W.heap.size := by rw [← hW]; simp
  rw [hW] at HB0 HO1 HO2 HX ⊢
  clear hW
  refine (markNetB g1 g2 n1 n2 c1 c2 _ _ W (own_base HO1.out (Nat.zero_le _)) hs1 (own_base HO2.out (Nat.zero_le _)) hs2 HNE.out).mono ?_
  rintro e w2 ⟨v, rfl, hv0, hv1, hof⟩
  have k1 := (hof.cell (p := ⟨w.heap.size, 2, none⟩) hz (by show ¬ (w.heap.size = g1 ∨ w.heap.size = g2); omega)).trans hk1
  have HX2 := Lib.hid (HX.out.off hof (fun h => by rcases h with h | h; exact HN1.out h.symm; exact HN2.out h.symm) HNQ.out)
  have HF1 : Hid (Off (fun b => B ≤ b ∧ b < E) w w2) := Lib.hid ((Off.ofBelow HB0.out).trans (hof.wider (fun b h => by rcases h with h | h <;> rw [h]; exact HL.out.1; exact HL.out.2)))
  have CM := Lib.hid (markLts v w2 HX2.out h3E HQE.out hs3 hv0 (by omega))
  clear hof hk1 hz hl1 hl2
  go_wp2_with fail
  refine CM.out.mono ?_
  rintro e w3 ⟨u, rfl, hu0, hu1, hof2⟩
  have HF2 := Lib.hid hof2; clear hof2
  go_wp2
  go_ret
  exact ⟨u, rfl, hu0, hu1, HF1.out.trans HF2.out⟩
end Go.Proofs.Ytlgkjidginibdaa
