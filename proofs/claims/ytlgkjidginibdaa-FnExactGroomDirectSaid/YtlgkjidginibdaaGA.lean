/- Texts of one group, joined: Rd, Arg, Fill, All, Ints, StrS, FibS, NetM, NetS, FmtV, Name, FibV, Region, NetV, NetI, NetA. No condition but those typed. -/
import Derived.Test.YtlgkjidginibdaaRows
import Derived.WalkKit
import Derived.ProofKit
import Derived.LoopTactic
import Derived.Lib.Hide
import Derived.OwnWalk
import Derived.Below
import Derived.Laws.OwnMore
import Derived.Deep.Draws
import Derived.SliceStrings
import Derived.Outline
import Derived.ChangeSlices
import Derived.ChangeArms
import Derived.Deep.Slices
import Derived.Deep.Fields
import Derived.OpenShut
import Derived.Deep.QuietTactic
import Derived.BigQuiet
import Derived.IntWalk
import Derived.WalkLawsBesides
import Derived.Deep.RegionHeld3
import Derived.Test.YtlgkjidginibdaaShelf
import Derived.StillTailTactics
import Derived.Lib.SlicesS
namespace Go.Proofs.Ytlgkjidginibdaa
open Go.ChangeShapes Go.WideShapes Go.ChangeAt Go.RowKit

/-- the cells at A read as xs; each lies below block B. -/
def Rd (w : World) (B : Nat) (A : Option Addr) (xs : List Value) : Prop :=
  ∀ k u, xs[k]? = some u → ∃ ad, A = some ad ∧ ad.block < B ∧ w.cell? (ad.add k) = some u

theorem addBlock (a : Addr) (n : Nat) : (a.add n).block = a.block := by unfold Addr.add; split <;> rfl

theorem Rd.got {w : World} {B : Nat} {A : Option Addr} {xs : List Value} (h : Rd w B A xs) {k : Nat} (hk : k < xs.length) :
    ∃ ad, A = some ad ∧ ad.block < B ∧ w.cell? (ad.add k) = some xs[k] := h k _ (List.getElem?_eq_getElem hk)
theorem Rd.over {w w' : World} {B : Nat} {A : Option Addr} {xs : List Value} (h : Rd w B A xs) (hb : Below B w w') : Rd w' B A xs := by
  intro k u hu
  obtain ⟨ad, e, hl, hc⟩ := h k u hu
  exact ⟨ad, e, hl, by rw [hb.cell (by rw [addBlock]; exact hl)]; exact hc⟩
theorem Rd.wider {w : World} {B B' : Nat} {A : Option Addr} {xs : List Value} (h : Rd w B A xs) (hB : B ≤ B') : Rd w B' A xs := by
  intro k u hu
  obtain ⟨ad, e, hl, hc⟩ := h k u hu
  exact ⟨ad, e, by omega, hc⟩
theorem Rd.draws {w : World} {B : Nat} {A : Option Addr} {xs : List Value} (h : Rd w B A xs) (n : Nat) : Rd (w.drewN n) B A xs := h
theorem Rd.ofOwn {w : World} {base : Nat} {E : TypeId} {A : Option Addr} {n c : Nat} {xs : List Value} (h : w.ownsRow base E 1 (.slice A n c) n xs) : Rd w w.heap.size A xs := by
  intro k u hu
  have hlt := h.lt
  rcases A with _ | ad
  · rcases h.2 with ⟨_, h0⟩ | ⟨g, cap, cur, hv, _⟩
    · subst h0
      have : xs = [] := List.eq_nil_of_length_eq_zero (by simpa using h.1)
      subst this; simp at hu
    · simp at hv
  · have hc := h.cells (g := ad.block) rfl k u hu
    obtain ⟨_, hl⟩ := hlt ad.block rfl
    rcases h.2 with ⟨h0, _⟩ | ⟨g, cap, cur, hv, _⟩
    · simp at h0
    · simp only [Value.slice.injEq, Option.some.injEq] at hv
      obtain ⟨rfl, _, _⟩ := hv
      exact ⟨_, rfl, hl, hc⟩
theorem drewN_below {B : Nat} {a w : World} (h : Below B a w) (n : Nat) : Below B a (w.drewN n) := ⟨h.os, h.tape, h.output, h.size, h.block⟩
theorem strGet (ss : List ByteArray) (k : Nat) (h : k < ss.length) : (ss.map Value.string)[k]'(by simpa using h) = .string ss[k] := by simp
end Go.Proofs.Ytlgkjidginibdaa

namespace Go.Proofs.Ytlgkjidginibdaa
open Go.ChangeShapes Go.WideShapes Go.ChangeAt Go.RowKit Go.Deep

theorem flat_get {α β : Type} (g : α → List β) (k : Nat) : ∀ rows : List α, (∀ r ∈ rows, (g r).length = k) → ∀ i j, j < k → (rows.flatMap g)[i * k + j]? = rows[i]?.bind fun r => (g r)[j]?
  | [], _, i, j, _ => by simp
  | r :: rest, h, 0, j, hj => by
    have hr := h r (by simp)
    rw [List.flatMap_cons, Nat.zero_mul, Nat.zero_add, List.getElem?_append_left (by omega)]; rfl
  | r :: rest, h, i + 1, j, hj => by
    have hr := h r (by simp)
    rw [List.flatMap_cons, List.getElem?_append_right (by rw [Nat.succ_mul]; omega), hr, show (i + 1) * k + j - k = i * k + j by rw [Nat.succ_mul]; omega]
    rw [flat_get g k rest (fun x hx => h x (List.mem_cons_of_mem _ hx)) i j hj]; rfl
theorem flat_len {α β : Type} (g : α → List β) (k : Nat) : ∀ rows : List α, (∀ r ∈ rows, (g r).length = k) → (rows.flatMap g).length = rows.length * k
  | [], _ => by simp
  | r :: rest, h => by
    rw [List.flatMap_cons, List.length_append, h r (by simp), flat_len g k rest (fun x hx => h x (List.mem_cons_of_mem _ hx)), List.length_cons, Nat.succ_mul]; omega

/-- a struct of four ints. -/
structure Q4 where
  a : Int
  b : Int
  c : Int
  d : Int
def Q4.cells (q : Q4) : List Value := [.int .i64 q.a, .int .i64 q.b, .int .i64 q.c, .int .i64 q.d]
/-- a struct of two ints. -/
structure Q2 where
  a : Int
  b : Int
def Q2.cells (q : Q2) : List Value := [.int .i64 q.a, .int .i64 q.b]

theorem add_next (a : Addr) (m j : Nat) : a.add (m + (j + 1)) = ⟨(a.add m).block, (a.add m).off + (j + 1), none⟩ := by
  unfold Addr.add
  by_cases h : m = 0
  · simp [h]
  · simp [h]; omega
theorem Rd.q4 {w : World} {B : Nat} {A : Option Addr} {qs : List Q4} (h : Rd w B A (qs.flatMap Q4.cells)) {k : Nat} (hk : k < qs.length) :
    ∃ ad, A = some ad ∧ ad.block < B ∧ w.cell? (ad.add (k * 4)) = some (.int .i64 qs[k].a) ∧ w.cell? ⟨(ad.add (k * 4)).block, (ad.add (k * 4)).off + 1, none⟩ = some (.int .i64 qs[k].b) ∧
      w.cell? ⟨(ad.add (k * 4)).block, (ad.add (k * 4)).off + 2, none⟩ = some (.int .i64 qs[k].c) ∧ w.cell? ⟨(ad.add (k * 4)).block, (ad.add (k * 4)).off + 3, none⟩ = some (.int .i64 qs[k].d) := by
  have g := fun j hj => flat_get Q4.cells 4 qs (fun _ _ => rfl) k j hj
  rw [List.getElem?_eq_getElem hk] at g
  obtain ⟨ad, e, hb, h0⟩ := h (k * 4 + 0) _ (g 0 (by omega))
  obtain ⟨ad1, e1, _, h1⟩ := h (k * 4 + 1) _ (g 1 (by omega))
  obtain ⟨ad2, e2, _, h2⟩ := h (k * 4 + 2) _ (g 2 (by omega))
  obtain ⟨ad3, e3, _, h3⟩ := h (k * 4 + 3) _ (g 3 (by omega))
  subst e
  injection e1 with e1; injection e2 with e2; injection e3 with e3
  subst e1 e2 e3
  rw [add_next] at h1 h2 h3
  exact ⟨_, rfl, hb, h0, h1, h2, h3⟩
theorem Rd.q2 {w : World} {B : Nat} {A : Option Addr} {qs : List Q2} (h : Rd w B A (qs.flatMap Q2.cells)) {k : Nat} (hk : k < qs.length) :
    ∃ ad, A = some ad ∧ ad.block < B ∧ w.cell? (ad.add (k * 2)) = some (.int .i64 qs[k].a) ∧ w.cell? ⟨(ad.add (k * 2)).block, (ad.add (k * 2)).off + 1, none⟩ = some (.int .i64 qs[k].b) := by
  have g := fun j hj => flat_get Q2.cells 2 qs (fun _ _ => rfl) k j hj
  rw [List.getElem?_eq_getElem hk] at g
  obtain ⟨ad, e, hb, h0⟩ := h (k * 2 + 0) _ (g 0 (by omega))
  obtain ⟨ad1, e1, _, h1⟩ := h (k * 2 + 1) _ (g 1 (by omega))
  subst e
  injection e1 with e1
  subst e1
  rw [add_next] at h1
  exact ⟨_, rfl, hb, h0, h1⟩
/-- the same at a block and an offset. -/
theorem Rd.q4c {w : World} {B b o : Nat} {qs : List Q4} (h : Rd w B (some ⟨b, o, none⟩) (qs.flatMap Q4.cells)) {k : Nat} (hk : k < qs.length) :
    b < B ∧ w.cell? ⟨b, o + k * 4, none⟩ = some (.int .i64 qs[k].a) ∧ w.cell? ⟨b, o + k * 4 + 1, none⟩ = some (.int .i64 qs[k].b) ∧
      w.cell? ⟨b, o + k * 4 + 2, none⟩ = some (.int .i64 qs[k].c) ∧ w.cell? ⟨b, o + k * 4 + 3, none⟩ = some (.int .i64 qs[k].d) := by
  obtain ⟨ad, e, hb, h0, h1, h2, h3⟩ := h.q4 hk
  injection e with e; subst e
  have ea : (⟨b, o, none⟩ : Addr).add (k * 4) = ⟨b, o + k * 4, none⟩ := by unfold Addr.add; by_cases h : k * 4 = 0 <;> simp [h]
  rw [ea] at h0 h1 h2 h3
  exact ⟨hb, h0, h1, h2, h3⟩
theorem Rd.q2c {w : World} {B b o : Nat} {qs : List Q2} (h : Rd w B (some ⟨b, o, none⟩) (qs.flatMap Q2.cells)) {k : Nat} (hk : k < qs.length) :
    b < B ∧ w.cell? ⟨b, o + k * 2, none⟩ = some (.int .i64 qs[k].a) ∧ w.cell? ⟨b, o + k * 2 + 1, none⟩ = some (.int .i64 qs[k].b) := by
  obtain ⟨ad, e, hb, h0, h1⟩ := h.q2 hk
  injection e with e; subst e
  have ea : (⟨b, o, none⟩ : Addr).add (k * 2) = ⟨b, o + k * 2, none⟩ := by unfold Addr.add; by_cases h : k * 2 = 0 <;> simp [h]
  rw [ea] at h0 h1
  exact ⟨hb, h0, h1⟩
theorem Rd.ofOwnK {w : World} {base s : Nat} {E : TypeId} {A : Option Addr} {n c : Nat} {xs : List Value} (h : w.ownsRow base E s (.slice A n c) n xs) : Rd w w.heap.size A xs := by
  intro k u hu
  have hlt := h.lt
  rcases A with _ | ad
  · rcases h.2 with ⟨_, h0⟩ | ⟨g, cap, cur, hv, _⟩
    · subst h0
      have : xs = [] := List.eq_nil_of_length_eq_zero (by simpa using h.1)
      subst this; simp at hu
    · simp at hv
  · have hc := h.cells (g := ad.block) rfl k u hu
    obtain ⟨_, hl⟩ := hlt ad.block rfl
    rcases h.2 with ⟨h0, _⟩ | ⟨g, cap, cur, hv, _⟩
    · simp at h0
    · simp only [Value.slice.injEq, Option.some.injEq] at hv
      obtain ⟨rfl, _, _⟩ := hv
      exact ⟨_, rfl, hl, hc⟩

theorem hint_of {P : Program} {fs : Array Field} {T : TypeId} (hT : P.underlying T = some (.int .i64)) (h : (fs.all fun f => f.type == T) = true) (j : Nat) (f : Field) (hj : fs[j]? = some f) : P.underlying f.type = some (.int .i64) := by
  obtain ⟨hlt, rfl⟩ := Array.getElem?_eq_some_iff.1 hj
  have := (Array.all_eq_true.1 h) j hlt
  have e : fs[j].type = T := by simpa using this
  rw [e]; exact hT

section
variable {H : Type} {enc : TypeId × Value → H} {P : Program} {w : World} {held : Bool}

theorem rd_strs {t e : TypeId} {fuel : Nat} {cs : List Value} {x : DataW H × List MemPlace} (ht : P.underlying t = some (.slice e)) (he : P.underlying e = some .string) (hc : P.cellsOf e = 1)
    (h : DataW.trod enc P w 0 (fun _ => true) held fuel t cs = some x) :
    ∃ (A : Option Addr) (n c : Nat) (ss : List ByteArray), cs = [.slice A n c] ∧ ss.length = n ∧ n ≤ maxLen ∧ Rd w w.heap.size A (ss.map Value.string) ∧ (∀ s ∈ ss, s.size ≤ maxLen) := by
  rcases open_strings ht he hc h with ⟨rfl, _⟩ | ⟨a, len, cap, ss, rfl, _, hl, hm, hz, _, hcell, hws⟩
  · exact ⟨none, 0, 0, [], rfl, rfl, by unfold maxLen; omega, fun k u hu => by simp at hu, fun s hs => by simp at hs⟩
  · simp only [if_true] at hz
    refine ⟨some a, len, cap, ss.take len, rfl, by simp; omega, by omega, ?_, fun s hs => hws s (List.mem_of_mem_take hs)⟩
    intro k u hu
    rw [List.getElem?_map, List.getElem?_take] at hu
    by_cases hk : k < len
    · rw [if_pos hk, List.getElem?_eq_getElem (by omega)] at hu
      simp only [Option.map_some, Option.some.injEq] at hu
      subst hu
      have hc := hcell k (by omega)
      rw [List.getD_eq_getElem?_getD, List.getElem?_eq_getElem (by omega)] at hc
      exact ⟨a, rfl, by rw [← addBlock a k]; exact World.block_lt_of_cell? w _ hc, hc⟩
    · rw [if_neg hk] at hu; simp at hu

theorem rd_ints {t e : TypeId} {q : IntKind} {fuel : Nat} {cs : List Value} {x : DataW H × List MemPlace} (ht : P.underlying t = some (.slice e)) (he : P.underlying e = some (.int q)) (hc : P.cellsOf e = 1)
    (h : DataW.trod enc P w 0 (fun _ => true) held fuel t cs = some x) :
    ∃ (A : Option Addr) (n c : Nat) (zs : List Int), cs = [.slice A n c] ∧ zs.length = n ∧ n ≤ maxLen ∧ Rd w w.heap.size A (zs.map (Value.int q)) ∧ (∀ z ∈ zs, (Lit.int q z).wf = true) := by
  rcases open_ints ht he hc h with ⟨rfl, _⟩ | ⟨a, len, cap, zs, rfl, _, hl, hm, hz, _, hcell, hws⟩
  · exact ⟨none, 0, 0, [], rfl, rfl, by unfold maxLen; omega, fun k u hu => by simp at hu, fun s hs => by simp at hs⟩
  · simp only [if_true] at hz
    refine ⟨some a, len, cap, zs.take len, rfl, by simp; omega, by omega, ?_, fun s hs => hws s (List.mem_of_mem_take hs)⟩
    intro k u hu
    rw [List.getElem?_map, List.getElem?_take] at hu
    by_cases hk : k < len
    · rw [if_pos hk, List.getElem?_eq_getElem (by omega)] at hu
      simp only [Option.map_some, Option.some.injEq] at hu
      subst hu
      have hc := hcell k (by omega)
      rw [List.getD_eq_getElem?_getD, List.getElem?_eq_getElem (by omega)] at hc
      exact ⟨a, rfl, by rw [← addBlock a k]; exact World.block_lt_of_cell? w _ hc, hc⟩
    · rw [if_neg hk] at hu; simp at hu

/-- a struct of one-cell ints, its cells. -/
theorem trod_row {e : TypeId} {fs : Array Field} {fuel : Nat} {cs : List Value} {x : DataW H × List MemPlace} (he : P.underlying e = some (.struct fs)) (hone : oneCellFields P fs = true) (hC : P.cellsOf e = fs.size)
    (hint : ∀ (j : Nat) (f : Field), fs[j]? = some f → P.underlying f.type = some (.int .i64)) (h : DataW.trod enc P w 0 (fun _ => true) held fuel e cs = some x) :
    ∃ r : List Int, r.length = fs.size ∧ cs = r.map (Value.int .i64) ∧ (∀ z ∈ r, (Lit.int .i64 z).wf = true) := by
  obtain ⟨ys, n, _, _, hl, _, hf⟩ := DataW.trod_struct he h
  have each : ∀ j, j < fs.size → ∃ z, cs[j]? = some (.int .i64 z) ∧ (Lit.int .i64 z).wf = true := by
    intro j hj
    have hfj : fs[j]? = some fs[j] := Array.getElem?_eq_getElem hj
    obtain ⟨ho, hk⟩ := hone_of hone j _ hfj
    have h1 := hf j _ hfj
    rw [ho, hk] at h1
    have hcj : j < cs.length := by omega
    have e1 : (cs.drop j).take 1 = [cs[j]] := by rw [List.drop_eq_getElem_cons hcj]; rfl
    rw [e1] at h1
    rcases hy : ys[j]? with _ | y
    · rw [hy] at h1
      have : fs.size ≤ j := by
        have := List.getElem?_eq_none_iff.1 hy
        omega
      omega
    · rw [hy] at h1
      obtain ⟨z, hz, _, hwf⟩ := DataW.trod_int (hint j _ hfj) h1
      refine ⟨z, ?_, hwf⟩
      rw [List.getElem?_eq_getElem hcj]
      simpa using hz
  refine ⟨cs.map fun v => match v with | .int .i64 z => z | _ => 0, by simp; omega, ?_, ?_⟩
  · apply List.ext_getElem?
    intro j
    by_cases hj : j < fs.size
    · obtain ⟨z, hz, _⟩ := each j hj
      simp [hz]
    · rw [List.getElem?_eq_none (by omega), List.getElem?_eq_none (by simp; omega)]
  · intro z hz
    obtain ⟨v, hv, rfl⟩ := List.mem_map.1 hz
    obtain ⟨j, hj, rfl⟩ := List.getElem_of_mem hv
    obtain ⟨z, hz, hwf⟩ := each j (by omega)
    rw [List.getElem?_eq_getElem hj] at hz
    injection hz with hz
    rw [hz]; exact hwf

theorem rd_rows {t e : TypeId} {fs : Array Field} {fuel : Nat} {cs : List Value} {x : DataW H × List MemPlace} (ht : P.underlying t = some (.slice e)) (he : P.underlying e = some (.struct fs)) (hone : oneCellFields P fs = true) (hC : P.cellsOf e = fs.size)
    (h0 : 0 < fs.size) (hint : ∀ (j : Nat) (f : Field), fs[j]? = some f → P.underlying f.type = some (.int .i64)) (h : DataW.trod enc P w 0 (fun _ => true) held fuel t cs = some x) :
    ∃ (A : Option Addr) (n c : Nat) (rows : List (List Int)), cs = [.slice A n c] ∧ rows.length = n ∧ n ≤ maxLen ∧ Rd w w.heap.size A (rows.flatMap fun r => r.map (Value.int .i64)) ∧
      (∀ r ∈ rows, r.length = fs.size ∧ ∀ z ∈ r, (Lit.int .i64 z).wf = true) := by
  rcases open_slice ht h with ⟨rfl, _⟩ | ⟨a, len, cap, m, n, D, Pl, rfl, _, hl, hm, hmm, _, hx⟩
  · exact ⟨none, 0, 0, [], rfl, rfl, by unfold maxLen; omega, fun k u hu => by simp at hu, fun s hs => by simp at hs⟩
  · simp only [if_true] at hmm
    subst hmm
    have each : ∀ i, i < m → ∃ r : List Int, r.length = fs.size ∧ (∀ z ∈ r, (Lit.int .i64 z).wf = true) ∧ ∀ j, j < fs.size → w.cell? (a.add (i * fs.size + j)) = (r.map (Value.int .i64))[j]? := by
      intro i hi
      obtain ⟨cs', hc, ht'⟩ := hx i hi
      rw [hC] at hc
      obtain ⟨r, hr, rfl, hwf⟩ := trod_row he hone hC hint ht'
      obtain ⟨_, _, hat⟩ := World.cells?_some hc
      exact ⟨r, hr, hwf, fun j hj => by rw [← hat j hj, add_add]⟩
    let F : Nat → List Int := fun i => if hi : i < m then Classical.choose (each i hi) else []
    have hF : ∀ i, i < m → (F i).length = fs.size ∧ (∀ z ∈ F i, (Lit.int .i64 z).wf = true) ∧ ∀ j, j < fs.size → w.cell? (a.add (i * fs.size + j)) = ((F i).map (Value.int .i64))[j]? := by
      intro i hi
      have := Classical.choose_spec (each i hi)
      simp only [F, dif_pos hi]
      exact this
    have hlm : len ≤ m := hl
    have hrow : ∀ r ∈ (List.range len).map F, r.length = fs.size ∧ ∀ z ∈ r, (Lit.int .i64 z).wf = true := by
      intro r hr
      obtain ⟨i, hi, rfl⟩ := List.mem_map.1 hr
      have hi' : i < m := by have := List.mem_range.1 hi; omega
      exact ⟨(hF i hi').1, (hF i hi').2.1⟩
    refine ⟨some a, len, m, (List.range len).map F, rfl, by simp, by omega, ?_, hrow⟩
    intro p u hu
    have hlen := flat_len (fun r : List Int => r.map (Value.int .i64)) fs.size ((List.range len).map F) (fun r hr => by simp [(hrow r hr).1])
    have hp : p < ((List.range len).map F).length * fs.size := by
      rw [← hlen]
      exact (List.getElem?_eq_some_iff.1 hu).1
    simp only [List.length_map, List.length_range] at hp
    have hi : p / fs.size < len := (Nat.div_lt_iff_lt_mul h0).2 hp
    have hj : p % fs.size < fs.size := Nat.mod_lt _ h0
    have hpe : p = p / fs.size * fs.size + p % fs.size := by rw [Nat.mul_comm]; exact (Nat.div_add_mod p fs.size).symm
    have hget := flat_get (fun r : List Int => r.map (Value.int .i64)) fs.size ((List.range len).map F) (fun r hr => by simp [(hrow r hr).1]) (p / fs.size) (p % fs.size) hj
    rw [← hpe, hu] at hget
    have hcell := (hF _ (show p / fs.size < m by omega)).2.2 _ hj
    rw [← hpe] at hcell
    have hri : ((List.range len).map F)[p / fs.size]? = some (F (p / fs.size)) := by
      rw [List.getElem?_map, List.getElem?_range hi]; rfl
    rw [hri] at hget
    have hcell' : w.cell? (a.add p) = some u := by rw [hcell, hget]; rfl
    exact ⟨a, rfl, by rw [← addBlock a p]; exact World.block_lt_of_cell? w _ hcell', hcell'⟩

theorem rows4 : ∀ rows : List (List Int), (∀ r ∈ rows, r.length = 4) → ∃ qs : List Q4, rows = qs.map fun q => [q.a, q.b, q.c, q.d]
  | [], _ => ⟨[], rfl⟩
  | r :: rest, h => by
    obtain ⟨qs, hq⟩ := rows4 rest (fun x hx => h x (List.mem_cons_of_mem _ hx))
    have hr := h r (by simp)
    match r, hr with
    | [a, b, c, d], _ => exact ⟨⟨a, b, c, d⟩ :: qs, by rw [hq]; rfl⟩
theorem rows2 : ∀ rows : List (List Int), (∀ r ∈ rows, r.length = 2) → ∃ qs : List Q2, rows = qs.map fun q => [q.a, q.b]
  | [], _ => ⟨[], rfl⟩
  | r :: rest, h => by
    obtain ⟨qs, hq⟩ := rows2 rest (fun x hx => h x (List.mem_cons_of_mem _ hx))
    have hr := h r (by simp)
    match r, hr with
    | [a, b], _ => exact ⟨⟨a, b⟩ :: qs, by rw [hq]; rfl⟩
def i64s (z : Int) : Prop := (Lit.int .i64 z).wf = true
def Q4.wf (q : Q4) : Prop := i64s q.a ∧ i64s q.b ∧ i64s q.c ∧ i64s q.d
def Q2.wf (q : Q2) : Prop := i64s q.a ∧ i64s q.b

theorem rd_q4s {t e : TypeId} {fs : Array Field} {fuel : Nat} {cs : List Value} {x : DataW H × List MemPlace} (ht : P.underlying t = some (.slice e)) (he : P.underlying e = some (.struct fs)) (hone : oneCellFields P fs = true) (hC : P.cellsOf e = 4)
    (h4 : fs.size = 4) (hint : ∀ (j : Nat) (f : Field), fs[j]? = some f → P.underlying f.type = some (.int .i64)) (h : DataW.trod enc P w 0 (fun _ => true) held fuel t cs = some x) :
    ∃ (A : Option Addr) (n c : Nat) (qs : List Q4), cs = [.slice A n c] ∧ qs.length = n ∧ n ≤ maxLen ∧ Rd w w.heap.size A (qs.flatMap Q4.cells) ∧ (∀ q ∈ qs, q.wf) := by
  obtain ⟨A, n, c, rows, e1, e2, e3, e4, e5⟩ := rd_rows ht he hone (hC.trans h4.symm) (by omega) hint h
  obtain ⟨qs, rfl⟩ := rows4 rows (fun r hr => by rw [(e5 r hr).1, h4])
  refine ⟨A, n, c, qs, e1, by simpa using e2, e3, ?_, ?_⟩
  · rw [List.flatMap_map] at e4; exact e4
  · intro q hq
    have := (e5 [q.a, q.b, q.c, q.d] (List.mem_map.2 ⟨q, hq, rfl⟩)).2
    exact ⟨this _ (by simp), this _ (by simp), this _ (by simp), this _ (by simp)⟩
theorem rd_q2s {t e : TypeId} {fs : Array Field} {fuel : Nat} {cs : List Value} {x : DataW H × List MemPlace} (ht : P.underlying t = some (.slice e)) (he : P.underlying e = some (.struct fs)) (hone : oneCellFields P fs = true) (hC : P.cellsOf e = 2)
    (h2 : fs.size = 2) (hint : ∀ (j : Nat) (f : Field), fs[j]? = some f → P.underlying f.type = some (.int .i64)) (h : DataW.trod enc P w 0 (fun _ => true) held fuel t cs = some x) :
    ∃ (A : Option Addr) (n c : Nat) (qs : List Q2), cs = [.slice A n c] ∧ qs.length = n ∧ n ≤ maxLen ∧ Rd w w.heap.size A (qs.flatMap Q2.cells) ∧ (∀ q ∈ qs, q.wf) := by
  obtain ⟨A, n, c, rows, e1, e2, e3, e4, e5⟩ := rd_rows ht he hone (hC.trans h2.symm) (by omega) hint h
  obtain ⟨qs, rfl⟩ := rows2 rows (fun r hr => by rw [(e5 r hr).1, h2])
  refine ⟨A, n, c, qs, e1, by simpa using e2, e3, ?_, ?_⟩
  · rw [List.flatMap_map] at e4; exact e4
  · intro q hq
    have := (e5 [q.a, q.b] (List.mem_map.2 ⟨q, hq, rfl⟩)).2
    exact ⟨this _ (by simp), this _ (by simp)⟩
/-- a struct of two ints as an argument. -/
theorem open_q2 {b0 : Nat} {t : TypeId} {fs : Array Field} {v : Value} {d : DataW H} {p : List MemPlace} (hs : P.underlying t = some (.struct fs)) (hone : oneCellFields P fs = true) (hC : P.cellsOf t = 2) (h2 : fs.size = 2)
    (hint : ∀ (j : Nat) (f : Field), fs[j]? = some f → P.underlying f.type = some (.int .i64)) (hv : Value.okWide P w .any b0 t v) (h : DataW.Trod enc P w 0 (fun _ => true) held t v d p) :
    ∃ q : Q2, v = .agg #[.int .i64 q.a, .int .i64 q.b] ∧ q.wf := by
  obtain ⟨cs, rfl, hsz⟩ := okWide_struct hs hv
  obtain ⟨fuel, hf⟩ := h
  obtain ⟨r, hr, hcs, hwf⟩ := trod_row hs hone (hC.trans h2.symm) hint hf
  rw [h2] at hr
  match r, hr with
  | [a, b], _ =>
    refine ⟨⟨a, b⟩, ?_, hwf _ (by simp), hwf _ (by simp)⟩
    obtain ⟨l⟩ := cs
    simp only [Value.cells] at hcs
    congr 1
    apply Array.toList_inj.1
    simpa using hcs
theorem open_q4 {b0 : Nat} {t : TypeId} {fs : Array Field} {v : Value} {d : DataW H} {p : List MemPlace} (hs : P.underlying t = some (.struct fs)) (hone : oneCellFields P fs = true) (hC : P.cellsOf t = 4) (h4 : fs.size = 4)
    (hint : ∀ (j : Nat) (f : Field), fs[j]? = some f → P.underlying f.type = some (.int .i64)) (hv : Value.okWide P w .any b0 t v) (h : DataW.Trod enc P w 0 (fun _ => true) held t v d p) :
    ∃ q : Q4, v = .agg #[.int .i64 q.a, .int .i64 q.b, .int .i64 q.c, .int .i64 q.d] ∧ q.wf := by
  obtain ⟨cs, rfl, hsz⟩ := okWide_struct hs hv
  obtain ⟨fuel, hf⟩ := h
  obtain ⟨r, hr, hcs, hwf⟩ := trod_row hs hone (hC.trans h4.symm) hint hf
  rw [h4] at hr
  match r, hr with
  | [a, b, c, d], _ =>
    refine ⟨⟨a, b, c, d⟩, ?_, hwf _ (by simp), hwf _ (by simp), hwf _ (by simp), hwf _ (by simp)⟩
    obtain ⟨l⟩ := cs
    simp only [Value.cells] at hcs
    congr 1
    apply Array.toList_inj.1
    simpa using hcs
/-- a struct of a list of strings and a list of structs of four ints as an argument. -/
theorem open_net {b0 : Nat} {t e0 e1 : TypeId} {f0 f1 : Field} {fs : Array Field} {v : Value} {d : DataW H} {p : List MemPlace} (hs : P.underlying t = some (.struct #[f0, f1])) (hone : oneCellFields P #[f0, f1] = true) (hC : P.cellsOf t = 2)
    (u0 : P.underlying f0.type = some (.slice e0)) (ue0 : P.underlying e0 = some .string) (ce0 : P.cellsOf e0 = 1)
    (u1 : P.underlying f1.type = some (.slice e1)) (ue1 : P.underlying e1 = some (.struct fs)) (hone1 : oneCellFields P fs = true) (hC1 : P.cellsOf e1 = 4) (h4 : fs.size = 4)
    (hint : ∀ (j : Nat) (f : Field), fs[j]? = some f → P.underlying f.type = some (.int .i64)) (hv : Value.okWide P w .any b0 t v) (h : DataW.Trod enc P w 0 (fun _ => true) held t v d p) :
    ∃ (A1 : Option Addr) (n1 c1 : Nat) (ss : List ByteArray) (A2 : Option Addr) (n2 c2 : Nat) (qs : List Q4), v = .agg #[.slice A1 n1 c1, .slice A2 n2 c2] ∧
      (ss.length = n1 ∧ n1 ≤ maxLen ∧ Rd w w.heap.size A1 (ss.map Value.string) ∧ (∀ s ∈ ss, s.size ≤ maxLen)) ∧
      (qs.length = n2 ∧ n2 ≤ maxLen ∧ Rd w w.heap.size A2 (qs.flatMap Q4.cells) ∧ (∀ q ∈ qs, q.wf)) := by
  obtain ⟨cs, rfl, hsz⟩ := okWide_struct hs hv
  obtain ⟨l⟩ := cs
  match l, hsz.trans hC with
  | [x0, x1], _ =>
    obtain ⟨fuel, hf⟩ := h
    obtain ⟨ys, n, _, hx, _, hlen, hg⟩ := DataW.trod_struct hs hf
    obtain ⟨o0, k0⟩ := hone_of hone 0 f0 rfl
    obtain ⟨o1, k1⟩ := hone_of hone 1 f1 rfl
    match ys, hlen with
    | [y0, y1], _ =>
      have g0 : DataW.trod enc P w 0 (fun _ => true) held n f0.type [x0] = some y0 := by simpa [Value.cells, o0, k0] using hg 0 f0 rfl
      have g1 : DataW.trod enc P w 0 (fun _ => true) held n f1.type [x1] = some y1 := by simpa [Value.cells, o1, k1] using hg 1 f1 rfl
      obtain ⟨A1, n1, c1, ss, e1, a1, a2, a3, a4⟩ := rd_strs u0 ue0 ce0 g0
      obtain ⟨A2, n2, c2, qs, e2, b1, b2, b3, b4⟩ := rd_q4s u1 ue1 hone1 hC1 h4 hint g1
      injection e1 with e1; injection e2 with e2
      subst e1 e2
      exact ⟨A1, n1, c1, ss, A2, n2, c2, qs, rfl, ⟨a1, a2, a3, a4⟩, ⟨b1, b2, b3, b4⟩⟩
end
end Go.Proofs.Ytlgkjidginibdaa

namespace Go.Proofs.Ytlgkjidginibdaa
open Go.RowKit
theorem ownB {w w' : World} {B e size n : Nat} {v : Value} {xs : List Value} (h : w.ownsRow B e size v n xs) (hb : Below w.heap.size w w') : w'.ownsRow B e size v n xs := by
  refine ⟨h.1, ?_⟩
  rcases h.2 with hn | ⟨g, cap, cur, rfl, hg, hgg, rest⟩
  · exact .inl hn
  · exact .inr ⟨g, cap, cur, rfl, hg, (hb.block g (Array.getElem?_eq_some_iff.1 hgg).1).trans hgg, rest⟩
/-- nothing that w held has changed in W. -/
def Bel (w W : World) : Prop := Below w.heap.size w W
theorem Bel.step {w W w2 : World} (h : Bel w W) (hb2 : Below W.heap.size W w2) : Bel w w2 := Below.trans h (hb2.mono (Below.size h))
theorem Bel.at_ {w W w2 : World} {g o : Nat} (h : Bel w W) (hb2 : Below W.heap.size W w2) (hg : g < w.heap.size) : w2.cell? ⟨g, o, none⟩ = W.cell? ⟨g, o, none⟩ :=
  hb2.cell (p := ⟨g, o, none⟩) (Nat.lt_of_lt_of_le hg (Below.size h))
theorem Bel.of {w W : World} (h : Below w.heap.size w W) : Bel w W := h
theorem Bel.out {w W : World} (h : Bel w W) : Below w.heap.size w W := h
theorem bcell {W w1 : World} (hb : Below W.heap.size W w1) : (∀ b o, b < W.heap.size → w1.cell? ⟨b, o, none⟩ = W.cell? ⟨b, o, none⟩) ∧ (∀ b o, b < W.heap.size → w1.frozen? ⟨b, o, none⟩ = W.frozen? ⟨b, o, none⟩) :=
  ⟨fun b o h => hb.cell (p := ⟨b, o, none⟩) h, fun b o h => hb.frozen (p := ⟨b, o, none⟩) h⟩
theorem Rd.moved {w w' : World} {A : Option Addr} {xs : List Value} (h : Rd w w.heap.size A xs) (hb : Below w.heap.size w w') : Rd w' w'.heap.size A xs := (h.over hb).wider hb.size
abbrev z0 : Value := .int .i64 0
theorem made2 (n : Nat) : (madeCells #[z0, z0] (n * 2)).toList = List.replicate (n * 2) z0 := by
  apply List.ext_getElem?
  intro j
  by_cases hj : j < n * 2
  · have h2 : j % 2 = 0 ∨ j % 2 = 1 := by omega
    rcases h2 with h | h <;> simp [madeCells, hj, h]
  · simp [madeCells, hj]
theorem made4 (n : Nat) : (madeCells #[z0, z0, z0, z0] (n * 4)).toList = List.replicate (n * 4) z0 := by
  apply List.ext_getElem?
  intro j
  by_cases hj : j < n * 4
  · have h2 : j % 4 = 0 ∨ j % 4 = 1 ∨ j % 4 = 2 ∨ j % 4 = 3 := by omega
    rcases h2 with h | h | h | h <;> simp [madeCells, hj, h]
  · simp [madeCells, hj]
def fill {α : Type} (g : α → List Value) (s : Nat) (xs : List α) (k n : Nat) : List Value := (xs.take k).flatMap g ++ List.replicate ((n - k) * s) z0
theorem fill_pre {α : Type} (g : α → List Value) (s : Nat) (xs : List α) (k n : Nat) (hg : ∀ x, (g x).length = s) (hn : xs.length = n) (hk : k < n) : ((xs.take k).flatMap g).length = k * s := by
  rw [flat_len g s _ (fun r _ => hg r), List.length_take]; congr 1; omega
theorem fill_get {α : Type} (g : α → List Value) (s : Nat) (xs : List α) (k n j : Nat) (hg : ∀ x, (g x).length = s) (hn : xs.length = n) (hk : k < n) (hj : j < s) : (fill g s xs k n)[k * s + j]? = some z0 := by
  have hp := fill_pre g s xs k n hg hn hk
  have h1 : s ≤ (n - k) * s := Nat.le_mul_of_pos_left s (by omega)
  unfold fill
  rw [List.getElem?_append_right (by omega), List.getElem?_replicate, if_pos (by omega)]
theorem fill_get0 {α : Type} (g : α → List Value) (s : Nat) (xs : List α) (k n : Nat) (hg : ∀ x, (g x).length = s) (hn : xs.length = n) (hk : k < n) (hj : 0 < s) : (fill g s xs k n)[k * s]? = some z0 := fill_get g s xs k n 0 hg hn hk hj
theorem fill_all {α : Type} (g : α → List Value) (s : Nat) (xs : List α) (n : Nat) (hn : xs.length = n) : fill g s xs n n = xs.flatMap g := by
  unfold fill; rw [List.take_of_length_le (by omega), Nat.sub_self, Nat.zero_mul, List.replicate_zero, List.append_nil]
theorem fill_zero {α : Type} (g : α → List Value) (s : Nat) (xs : List α) (n : Nat) : fill g s xs 0 n = List.replicate (n * s) z0 := by
  unfold fill; simp
theorem set_pre (p r : List Value) (m : Nat) (u : Value) (hp : p.length = m) (j : Nat) : (p ++ r).set (m + j) u = p ++ r.set j u := by
  rw [List.set_append_right _ _ (by omega), hp, Nat.add_sub_cancel_left]
theorem set_pre0 (p r : List Value) (m : Nat) (u : Value) (hp : p.length = m) : (p ++ r).set m u = p ++ r.set 0 u := set_pre p r m u hp 0
theorem fill_set2 (xs : List Q2) (k n : Nat) (hn : xs.length = n) (hk : k < n) :
    ((fill Q2.cells 2 xs k n).set (k * 2) (.int .i64 (xs[k]'(by omega)).a)).set (k * 2 + 1) (.int .i64 (xs[k]'(by omega)).b) = fill Q2.cells 2 xs (k + 1) n := by
  have hp := fill_pre Q2.cells 2 xs k n (fun _ => rfl) hn hk
  have e : (n - k) * 2 = (n - (k + 1)) * 2 + 1 + 1 := by omega
  unfold fill
  rw [set_pre0 _ _ _ _ hp, set_pre _ _ _ _ hp, e, List.replicate_succ, List.replicate_succ, List.take_succ_eq_append_getElem (by omega)]
  simp only [Q2.cells, List.flatMap_append, List.flatMap_cons, List.flatMap_nil, List.append_nil, List.append_assoc, List.set_cons_zero, List.set_cons_succ, List.cons_append, List.nil_append]
theorem fill_set4 (xs : List Q4) (k n : Nat) (hn : xs.length = n) (hk : k < n) :
    ((((fill Q4.cells 4 xs k n).set (k * 4) (.int .i64 (xs[k]'(by omega)).a)).set (k * 4 + 1) (.int .i64 (xs[k]'(by omega)).b)).set (k * 4 + 2) (.int .i64 (xs[k]'(by omega)).c)).set (k * 4 + 3) (.int .i64 (xs[k]'(by omega)).d) = fill Q4.cells 4 xs (k + 1) n := by
  have hp := fill_pre Q4.cells 4 xs k n (fun _ => rfl) hn hk
  have e : (n - k) * 4 = (n - (k + 1)) * 4 + 1 + 1 + 1 + 1 := by omega
  unfold fill
  rw [set_pre0 _ _ _ _ hp, set_pre _ _ _ _ hp, set_pre _ _ _ _ hp, set_pre _ _ _ _ hp, e, List.replicate_succ, List.replicate_succ, List.replicate_succ, List.replicate_succ, List.take_succ_eq_append_getElem (by omega)]
  simp only [Q4.cells, List.flatMap_append, List.flatMap_cons, List.flatMap_nil, List.append_nil, List.append_assoc, List.set_cons_zero, List.set_cons_succ, List.cons_append, List.nil_append]
end Go.Proofs.Ytlgkjidginibdaa

namespace Go.Proofs.Ytlgkjidginibdaa
open Go.ChangeShapes Go.WideShapes Go.ChangeAt Go.RowKit

def RetV (v : Value) (w : World) (e : Ending) (w' : World) : Prop := e = .returned v ∧ Below w.heap.size w w'
theorem retV {u v : Value} {w w' : World} (h : u = v) (hb : Below w.heap.size w w') : RetV v w (.returned u) w' := ⟨by rw [h], hb⟩
theorem retB {a b : Bool} {w w' : World} (h : b = a) (hb : Below w.heap.size w w') : RetV (.bool b) w (.returned (.bool a)) w' := ⟨by rw [h], hb⟩
section
variable {α : Type} {f : α → Bool} {qs : List α}
theorem all_zero : (qs.take 0).all f = true := by simp
theorem all_snoc {k : Nat} (hk : k < qs.length) (h : (qs.take k).all f = true) (hf : f qs[k] = true) : (qs.take (k + 1)).all f = true := by
  rw [List.take_succ_eq_append_getElem hk, List.all_append, h]; simp [hf]
theorem all_end {n : Nat} (hn : qs.length = n) (h : (qs.take n).all f = true) : qs.all f = true := by
  rw [List.take_of_length_le (by omega)] at h; exact h
theorem all_no {k : Nat} (hk : k < qs.length) (hf : f qs[k] = false) : qs.all f = false := by
  cases h : qs.all f with
  | false => rfl
  | true => rw [List.all_eq_true.1 h _ (List.getElem_mem hk)] at hf; exact absurd hf (by decide)
end
def inB (x a b : Int) : Bool := decide (a ≤ x ∧ x ≤ b)
theorem inB_true {x a b : Int} (h : inB x a b = true) : a ≤ x ∧ x ≤ b := of_decide_eq_true h
theorem inB_false {x a b : Int} (h : inB x a b = false) : x < a ∨ b < x := by have := of_decide_eq_false h; omega
theorem inB_mk {x a b : Int} (h1 : a ≤ x) (h2 : x ≤ b) : inB x a b = true := decide_eq_true ⟨h1, h2⟩
theorem inB_no {x a b : Int} (h : x < a ∨ b < x) : inB x a b = false := decide_eq_false (by omega)
theorem in_ (x a b : Int) (w : World) : Calls Try.prog 121 #[.int .i64 x, .int .i64 a, .int .i64 b] w fun e w' => e = .returned (.bool (inB x a b)) ∧ w = w' := by
  by_cases h1 : a ≤ x
  · by_cases h2 : x ≤ b
    · rw [inB_mk h1 h2]
      go_enter Try.func121, Try.ntmps121
      go_wp2
      go_ret
      exact ⟨rfl, rfl⟩
    · rw [inB_no (.inr (by omega))]
      have h2' : decide (x ≤ b) = false := by simpa using h2
      clear h2
      go_enter Try.func121, Try.ntmps121
      go_wp2
      go_ret
      exact ⟨rfl, rfl⟩
  · rw [inB_no (.inl (by omega))]
    have h1' : x < a := by omega
    clear h1
    go_enter Try.func121, Try.ntmps121
    go_wp2
    go_ret
    exact ⟨rfl, rfl⟩
end Go.Proofs.Ytlgkjidginibdaa

namespace Go.Proofs.Ytlgkjidginibdaa
open Go.ChangeShapes Go.WideShapes Go.ChangeAt Go.RowKit
theorem Try.inf_int : (Try.prog.info? 3).map (fun i => (i.zero, i.size, i.bytes)) = some (some (.int .i64 0), 1, 8) := by kernel_rfl

theorem iset_fill (zs : List Int) (k n : Nat) (hn : zs.length = n) (hk : k < n) :
    ((zs.take k).map (Value.int .i64) ++ List.replicate (n - k) z0).set k (.int .i64 (zs[k]'(by omega))) =
      (zs.take (k + 1)).map (Value.int .i64) ++ List.replicate (n - (k + 1)) z0 := by
  have hl : ((zs.take k).map (Value.int .i64)).length = k := by simp; omega
  have e : n - k = (n - (k + 1)) + 1 := by omega
  rw [List.set_append_right _ _ (by omega), hl, Nat.sub_self, e, List.replicate_succ, List.set_cons_zero, List.take_succ_eq_append_getElem (by omega)]
  simp only [List.map_append, List.map_cons, List.map_nil, List.append_assoc, List.cons_append, List.nil_append]
theorem iget_fill (zs : List Int) (k n : Nat) (hn : zs.length = n) (hk : k < n) :
    ((zs.take k).map (Value.int .i64) ++ List.replicate (n - k) z0)[k]? = some z0 := by
  have hl : ((zs.take k).map (Value.int .i64)).length = k := by simp; omega
  rw [List.getElem?_append_right (by omega), List.getElem?_replicate, if_pos (by omega)]
theorem intGet (zs : List Int) (k : Nat) (h : k < zs.length) : (zs.map (Value.int .i64))[k]'(by simpa using h) = .int .i64 zs[k] := by simp
/-- at a block. -/
theorem Rd.intc {w : World} {B b o : Nat} {zs : List Int} (h : Rd w B (some ⟨b, o, none⟩) (zs.map (Value.int .i64))) {k : Nat} (hk : k < zs.length) : b < B ∧ w.cell? ⟨b, o + k, none⟩ = some (.int .i64 zs[k]) := by
  obtain ⟨ad, e, hb, hcell⟩ := h.got (k := k) (by simpa using hk)
  injection e with e; subst e
  have ea : (⟨b, o, none⟩ : Addr).add k = ⟨b, o + k, none⟩ := by unfold Addr.add; by_cases h : k = 0 <;> simp [h]
  rw [ea, intGet zs k hk] at hcell
  exact ⟨hb, hcell⟩

set_option maxHeartbeats 400000 in
theorem toIntS (A : Option Addr) (n c : Nat) (zs : List Int) (w : World) (hn : zs.length = n) (hr : Rd w w.heap.size A (zs.map (Value.int .i64))) (hsz : n ≤ 1048576) :
    Calls Try.prog 114 #[.slice A n c] w fun e w' => ∃ g, w.heap.size ≤ g ∧ e = .returned (.slice (some ⟨g, 0, none⟩) n n) ∧
      w'.ownsRow w.heap.size 3 1 (.slice (some ⟨g, 0, none⟩) n n) n (zs.map (Value.int .i64)) ∧ Below w.heap.size w w' := by
  suffices h : Calls Try.prog 114 #[.slice A n c] w fun e w' => e = .returned (.slice (some ⟨w.heap.size, 0, none⟩) n n) ∧
      w'.ownsRow w.heap.size 3 1 (.slice (some ⟨w.heap.size, 0, none⟩) n n) n (zs.map (Value.int .i64)) ∧ Below w.heap.size w w' from h.mono fun _ _ h => ⟨_, Nat.le_refl _, h⟩
  obtain ⟨i0, hi, hz0, hz1, hz2⟩ := info_parts Try.inf_int
  have HN := Lib.hid hn; clear hn
  go_enter Try.func114, Try.ntmps114
  go_wp2_with (at_make; refine wpList_make_full _ rfl _ _ 26 rfl w.heap.size 3 i0 (.int .i64 0) 1 Try.underlying26 hi hz0 hz1 .i64 .i64 n n n rfl rfl rfl rfl (by rw [hz2]; omega) (by unfold maxLen; omega) (Nat.le_refl _) ?_)
  intro w1 hown hgrow
  have hb1 : Below w.heap.size w w1 := (Below.refl _ _).grown hgrow (Nat.le_refl _) (fun k h => by cases h)
  clear hgrow
  rw [toList_madeCells_one] at hown
  clear hi hz0 hz1 hz2
  go_wp2
  go_loopw [4] (fun i wr => ∃ k : Nat, k ≤ n ∧ i = .int .i64 k ∧ wr.ownsRow w.heap.size 3 1 (.slice (some ⟨w.heap.size, 0, none⟩) n n) n ((zs.take k).map (Value.int .i64) ++ List.replicate (n - k) z0) ∧ Below w.heap.size w wr) (fun i _ => n - (intOf i).toNat)
  case atStart => exact ⟨0, Nat.zero_le _, rfl, by simpa using hown, hb1⟩
  case round =>
    clear hown hb1
    obtain ⟨k, hk, rfl, hown, hb⟩ := hrel
    by_cases hlt : k < n
    · have hks : k < zs.length := by have := HN.out; omega
      obtain ⟨ad, rfl, hbl, hcell⟩ := hr.got (k := k) (by simpa using hks)
      rw [intGet zs k hks] at hcell
      rw [← hb.cell (by rw [addBlock]; exact hbl)] at hcell
      have hold := hown.cellAt k (by omega)
      rw [iget_fill zs k n HN.out hlt] at hold
      have hfz := hown.frozenAt k
      have hst := hown.stored k (.int .i64 (zs[k]'hks))
      rw [iset_fill zs k n HN.out hlt] at hst
      have HST := Lib.hid hst.1; clear hst
      clear hown
      go_wp2
      go_roundw
      case rel => exact ⟨k + 1, by omega, by go_num, HST.out, hb.setCell (Nat.le_refl _) _⟩
      case measure => simp [intOf]; omega
    · have hkn : k = n := by omega
      subst hkn
      have e : zs.take k = zs := List.take_of_length_le (by have := HN.out; omega)
      rw [e, Nat.sub_self, List.replicate_zero, List.append_nil] at hown
      clear e
      go_wp2
      go_ret
      exact ⟨rfl, hown, hb⟩

set_option maxHeartbeats 400000 in
theorem eqIntS (g g' n c c' : Nat) (zs : List Int) (w : World) (hn : zs.length = n) (hr : Rd w w.heap.size (some ⟨g, 0, none⟩) (zs.map (Value.int .i64))) (hr' : Rd w w.heap.size (some ⟨g', 0, none⟩) (zs.map (Value.int .i64))) (hsz : n ≤ 1048576) :
    Calls Try.prog 62 #[.slice (some ⟨g, 0, none⟩) n c, .slice (some ⟨g', 0, none⟩) n c'] w fun e w' => e = .returned (.bool true) ∧ Below w.heap.size w w' := by
  have HN := Lib.hid hn; clear hn
  go_enter Try.func62, Try.ntmps62
  go_wp2
  go_loopw [5] (fun i wr => ∃ k : Nat, k ≤ n ∧ i = .int .i64 k ∧ Below w.heap.size w wr) (fun i _ => n - (intOf i).toNat)
  case atStart => exact ⟨0, Nat.zero_le _, rfl, Below.refl _ _⟩
  case round =>
    obtain ⟨k, hk, rfl, hb⟩ := hrel
    by_cases hlt : k < n
    · have hks : k < zs.length := by have := HN.out; omega
      obtain ⟨_, hcell⟩ := (hr.over hb).intc hks
      obtain ⟨_, hcell'⟩ := (hr'.over hb).intc hks
      rw [Nat.zero_add] at hcell hcell'
      obtain ⟨z, hz⟩ : ∃ z, zs[k]'hks = z := ⟨_, rfl⟩
      rw [hz] at hcell hcell'; clear hz
      go_wp2
      go_quiet (fail)
      go_wp2
      go_roundw
      case rel => exact ⟨k + 1, by omega, by go_num, drewN_below hb _⟩
      case measure => simp [intOf]; omega
    · go_wp2
      go_ret
      exact ⟨rfl, hb⟩
end Go.Proofs.Ytlgkjidginibdaa

namespace Go.Proofs.Ytlgkjidginibdaa
open Go.ChangeShapes Go.WideShapes Go.ChangeAt Go.RowKit
theorem Try.inf_str : (Try.prog.info? 9).map (fun i => (i.zero, i.size, i.bytes)) = some (some (.string ByteArray.empty), 1, 16) := by kernel_rfl

theorem set_fill (ss : List ByteArray) (k n : Nat) (hn : ss.length = n) (hk : k < n) :
    ((ss.take k).map Value.string ++ List.replicate (n - k) (Value.string ByteArray.empty)).set k (.string (ss[k]'(by omega))) =
      (ss.take (k + 1)).map Value.string ++ List.replicate (n - (k + 1)) (Value.string ByteArray.empty) := by
  have hl : ((ss.take k).map Value.string).length = k := by simp; omega
  have e : n - k = (n - (k + 1)) + 1 := by omega
  rw [List.set_append_right _ _ (by omega), hl, Nat.sub_self, e, List.replicate_succ, List.set_cons_zero, List.take_succ_eq_append_getElem (by omega)]
  simp only [List.map_append, List.map_cons, List.map_nil, List.append_assoc, List.cons_append, List.nil_append]
theorem get_fill (ss : List ByteArray) (k n : Nat) (hn : ss.length = n) (hk : k < n) :
    ((ss.take k).map Value.string ++ List.replicate (n - k) (Value.string ByteArray.empty))[k]? = some (.string ByteArray.empty) := by
  have hl : ((ss.take k).map Value.string).length = k := by simp; omega
  rw [List.getElem?_append_right (by omega), List.getElem?_replicate, if_pos (by omega)]

set_option maxHeartbeats 400000 in
theorem toStrS (A : Option Addr) (n c : Nat) (ss : List ByteArray) (w : World) (hn : ss.length = n) (hr : Rd w w.heap.size A (ss.map Value.string)) (hsz : n * 16 ≤ 140737488355328) :
    Calls Try.prog 83 #[.slice A n c] w fun e w' => e = .returned (.slice (some ⟨w.heap.size, 0, none⟩) n n) ∧
      w'.ownsRow w.heap.size 9 1 (.slice (some ⟨w.heap.size, 0, none⟩) n n) n (ss.map Value.string) ∧ Below w.heap.size w w' := by
  obtain ⟨i0, hi, hz0, hz1, hz2⟩ := info_parts Try.inf_str
  have hm : n ≤ 9223372036854775807 := by omega
  have HN := Lib.hid hn; clear hn
  go_enter Try.func83, Try.ntmps83
  go_wp2_with (at_make; refine wpList_make_full _ rfl _ _ 22 rfl w.heap.size 9 i0 (.string ByteArray.empty) 1 Try.underlying22 hi hz0 hz1 .i64 .i64 n n n rfl rfl rfl rfl (by rw [hz2]; omega) (by unfold maxLen; omega) (Nat.le_refl _) ?_)
  intro w1 hown hgrow
  have hb1 : Below w.heap.size w w1 := (Below.refl _ _).grown hgrow (Nat.le_refl _) (fun k h => by cases h)
  clear hgrow
  rw [toList_madeCells_one] at hown
  go_wp2
  go_loopw [4] (fun i wr => ∃ k : Nat, k ≤ n ∧ i = .int .i64 k ∧ wr.ownsRow w.heap.size 9 1 (.slice (some ⟨w.heap.size, 0, none⟩) n n) n ((ss.take k).map Value.string ++ List.replicate (n - k) (Value.string ByteArray.empty)) ∧ Below w.heap.size w wr) (fun i _ => n - (intOf i).toNat)
  case atStart => exact ⟨0, Nat.zero_le _, rfl, by simpa using hown, hb1⟩
  case round =>
    clear hown hb1
    obtain ⟨k, hk, rfl, hown, hb⟩ := hrel
    by_cases hlt : k < n
    · have hks : k < ss.length := by have := HN.out; omega
      obtain ⟨ad, rfl, hbl, hcell⟩ := hr.got (k := k) (by simpa using hks)
      rw [strGet ss k hks] at hcell
      rw [← hb.cell (by rw [addBlock]; exact hbl)] at hcell
      have hold := hown.cellAt k (by omega)
      rw [get_fill ss k n HN.out hlt] at hold
      have hfz := hown.frozenAt k
      have hst := hown.stored k (.string (ss[k]'hks))
      rw [set_fill ss k n HN.out hlt] at hst
      have HST := Lib.hid hst.1; clear hst
      clear hown
      go_wp2
      go_roundw
      case rel => exact ⟨k + 1, by omega, by go_num, HST.out, hb.setCell (Nat.le_refl _) _⟩
      case measure => simp [intOf]; omega
    · have hkn : k = n := by omega
      subst hkn
      have e : ss.take k = ss := List.take_of_length_le (by have := HN.out; omega)
      rw [e, Nat.sub_self, List.replicate_zero, List.append_nil] at hown
      clear e
      go_wp2
      go_ret
      exact ⟨rfl, hown, hb⟩

/-- what the size of a slice of strings leaves. -/
def SzPost (left : Int) (n tot : Nat) (w : World) (e : Ending) (w' : World) : Prop :=
  ∃ v : Int, e = .returned (.int .i64 v) ∧ w = w' ∧ -1 ≤ v ∧ v ≤ left ∧ (0 ≤ v → v + n + tot ≤ left)
def totS (ss : List ByteArray) : Nat := (ss.map ByteArray.size).sum
theorem totS_snoc (ss : List ByteArray) (k : Nat) (h : k < ss.length) : totS (ss.take (k + 1)) = totS (ss.take k) + ss[k].size := by
  unfold totS; rw [List.take_succ_eq_append_getElem h, List.map_append, List.sum_append]; simp only [List.map_cons, List.map_nil, List.sum_cons, List.sum_nil, Nat.add_zero]

set_option maxHeartbeats 400000 in
theorem szStrS (A : Option Addr) (n c : Nat) (left : Int) (ss : List ByteArray) (w : World) (hn : ss.length = n) (hr : Rd w w.heap.size A (ss.map Value.string)) (hws : ∀ s ∈ ss, s.size ≤ maxLen)
    (hm0 : n ≤ maxLen) (hl0 : 0 ≤ left) (hl1 : left ≤ 1048576) :
    Calls Try.prog 78 #[.slice A n c, .int .i64 left] w (SzPost left n (totS ss) w) := by
  have hm : n ≤ 9223372036854775807 := by unfold maxLen at hm0; exact hm0
  have HN := Lib.hid hn; clear hn
  by_cases hc : left - n < 0
  · go_enter Try.func78, Try.ntmps78
    go_wp2
    go_ret
    exact ⟨-1, rfl, rfl, by omega, by omega, by omega⟩
  have hc' : 0 ≤ left - n := by omega
  clear hc
  go_enter Try.func78, Try.ntmps78
  go_wp2
  go_loop [1, 5] (fun l i => ∃ (k : Nat) (v : Int), k ≤ n ∧ i = .int .i64 k ∧ l = .int .i64 v ∧ 0 ≤ v ∧ v ≤ left - n ∧ v + totS (ss.take k) ≤ left - n) (fun _ i => n - (intOf i).toNat)
  case atStart => exact ⟨0, left - n, Nat.zero_le _, rfl, rfl, hc', Int.le_refl _, by simp [totS]⟩
  case round =>
    obtain ⟨k, v, hk, rfl, rfl, hv0, hv1, hvt⟩ := hrel
    by_cases hlt : k < n
    · have hks : k < ss.length := by have := HN.out; omega
      obtain ⟨ad, rfl, hbl, hcell⟩ := hr.got (k := k) (by simpa using hks)
      rw [strGet ss k hks] at hcell
      have hw1 := hws _ (List.getElem_mem hks)
      unfold maxLen at hw1
      have hts := totS_snoc ss k hks
      obtain ⟨s, hs⟩ : ∃ s, ss[k] = s := ⟨_, rfl⟩
      rw [hs] at hcell hw1 hts; clear hs
      have HT := Lib.hid hts; clear hts
      by_cases hneg : v - s.size < 0
      · go_wp2
        go_ret
        exact ⟨-1, rfl, rfl, by omega, by omega, by omega⟩
      · have hneg' : 0 ≤ v - s.size := by omega
        clear hneg
        go_wp2
        go_round
        case rel => exact ⟨k + 1, v - s.size, by omega, by go_num, rfl, hneg', by omega, by have := HT.out; omega⟩
        case measure => simp [intOf]; omega
    · have hkn : k = n := by omega
      subst hkn
      have e : ss.take k = ss := List.take_of_length_le (by have := HN.out; omega)
      rw [e] at hvt; clear e
      go_wp2
      go_ret
      exact ⟨v, rfl, rfl, by omega, by omega, by omega⟩

set_option maxHeartbeats 400000 in
theorem eqStrS (A A' : Option Addr) (n c c' : Nat) (ss : List ByteArray) (w : World) (hn : ss.length = n) (hr : Rd w w.heap.size A (ss.map Value.string)) (hr' : Rd w w.heap.size A' (ss.map Value.string)) (hsz : n * 16 ≤ 140737488355328) :
    Calls Try.prog 88 #[.slice A n c, .slice A' n c'] w fun e w' => e = .returned (.bool true) ∧ Below w.heap.size w w' := by
  have hm : n ≤ 9223372036854775807 := by omega
  have HN := Lib.hid hn; clear hn
  go_enter Try.func88, Try.ntmps88
  go_wp2
  go_loopw [5] (fun i wr => ∃ k : Nat, k ≤ n ∧ i = .int .i64 k ∧ Below w.heap.size w wr) (fun i _ => n - (intOf i).toNat)
  case atStart => exact ⟨0, Nat.zero_le _, rfl, Below.refl _ _⟩
  case round =>
    obtain ⟨k, hk, rfl, hb⟩ := hrel
    by_cases hlt : k < n
    · have hks : k < ss.length := by have := HN.out; omega
      obtain ⟨ad, rfl, _, hcell⟩ := (hr.over hb).got (k := k) (by simpa using hks)
      obtain ⟨ad', rfl, _, hcell'⟩ := (hr'.over hb).got (k := k) (by simpa using hks)
      rw [strGet ss k hks] at hcell hcell'
      obtain ⟨s, hs⟩ : ∃ s, ss[k] = s := ⟨_, rfl⟩
      rw [hs] at hcell hcell'; clear hs
      go_wp2
      go_quiet (fail)
      go_wp2
      go_roundw
      case rel => exact ⟨k + 1, by omega, by go_num, drewN_below hb _⟩
      case measure => simp [intOf]; omega
    · go_wp2
      go_ret
      exact ⟨rfl, hb⟩
end Go.Proofs.Ytlgkjidginibdaa

namespace Go.Proofs.Ytlgkjidginibdaa
open Go.ChangeShapes Go.WideShapes Go.ChangeAt Go.RowKit

set_option maxHeartbeats 400000 in
theorem toFib (x0 x1 x2 x3 : Int) (w : World) :
    Calls Try.prog 157 #[.agg #[.int .i64 x0, .int .i64 x1, .int .i64 x2, .int .i64 x3]] w fun e w' => e = .returned (.agg #[.int .i64 x0, .int .i64 x1, .int .i64 x2, .int .i64 x3]) ∧ Below w.heap.size w w' := by
  go_enter Try.func157, Try.ntmps157
  go_wp2
  exact bodyPost_ret (v := .agg #[.int .i64 x0, .int .i64 x1, .int .i64 x2, .int .i64 x3]) (by simp [results, Try.results157, go_sem]) rfl ⟨rfl, (((Below.refl _ _).alloc (Nat.le_refl _) _).alloc (by simp) _).alloc (by simp; omega) _⟩

theorem Try.inf_Fib : (Try.prog.info? 201).map (fun i => (i.zero, i.size, i.bytes)) = some (some (.agg #[.int .i64 0, .int .i64 0, .int .i64 0, .int .i64 0]), 4, 32) := by kernel_rfl

set_option maxHeartbeats 400000 in
theorem toFibS (A : Option Addr) (n c : Nat) (qs : List Q4) (w : World) (hn : qs.length = n) (hr : Rd w w.heap.size A (qs.flatMap Q4.cells)) (hsz : n ≤ 1048576) :
    Calls Try.prog 84 #[.slice A n c] w fun e w' => e = .returned (.slice (some ⟨w.heap.size, 0, none⟩) n n) ∧
      w'.ownsRow w.heap.size 201 4 (.slice (some ⟨w.heap.size, 0, none⟩) n n) n (qs.flatMap Q4.cells) ∧ Below w.heap.size w w' := by
  obtain ⟨i0, hi, hz0, hz1, hz2⟩ := info_parts Try.inf_Fib
  have HN := Lib.hid hn; clear hn
  go_enter Try.func84, Try.ntmps84
  go_wp2_with (at_make; refine wpList_make_full _ rfl _ _ 37 rfl w.heap.size 201 i0 _ 4 Try.underlying37 hi hz0 hz1 .i64 .i64 n n n rfl rfl rfl rfl (by rw [hz2]; omega) (by unfold maxLen; omega) (Nat.le_refl _) ?_)
  intro w1 hown hgrow
  have hb1 : Below w.heap.size w w1 := (Below.refl _ _).grown hgrow (Nat.le_refl _) (fun k h => by cases h)
  clear hgrow
  have hown0 : w1.ownsRow w.heap.size 201 4 (.slice (some ⟨w.heap.size, 0, none⟩) n n) n (fill Q4.cells 4 qs 0 n) := by rw [fill_zero, ← made4]; exact hown
  clear hown hi hz0 hz1 hz2
  go_wp2
  go_loopw [4] (fun i wr => ∃ k : Nat, k ≤ n ∧ i = .int .i64 k ∧ wr.ownsRow w.heap.size 201 4 (.slice (some ⟨w.heap.size, 0, none⟩) n n) n (fill Q4.cells 4 qs k n) ∧ Below w.heap.size w wr) (fun i _ => n - (intOf i).toNat)
  case atStart => exact ⟨0, Nat.zero_le _, rfl, hown0, hb1⟩
  case round =>
    clear hown0 hb1
    obtain ⟨k, hk, rfl, hown, hb⟩ := hrel
    by_cases hlt : k < n
    · have hks : k < qs.length := by have := HN.out; omega
      obtain ⟨ad, rfl, hbl, hc0, hc1, hc2, hc3⟩ := hr.q4 hks
      rw [← hb.cell (by rw [addBlock]; exact hbl)] at hc0
      rw [← hb.cell (by simp only [addBlock]; exact hbl)] at hc1 hc2 hc3
      have HO := Lib.hid hown
      clear hown
      go_wp2_with fail
      refine (toFib _ _ _ _ _).mono ?_
      rintro e w2 ⟨rfl, hb2⟩
      have hown := ownB HO.out hb2
      clear HO hc0 hc1 hc2 hc3
      have hold0 := hown.cellAt (k * 4) (by omega)
      have hold1 := hown.cellAt (k * 4 + 1) (by omega)
      have hold2 := hown.cellAt (k * 4 + 2) (by omega)
      have hold3 := hown.cellAt (k * 4 + 3) (by omega)
      rw [fill_get0 Q4.cells 4 qs k n (fun _ => rfl) HN.out hlt (by omega)] at hold0
      rw [fill_get Q4.cells 4 qs k n 1 (fun _ => rfl) HN.out hlt (by omega)] at hold1
      rw [fill_get Q4.cells 4 qs k n 2 (fun _ => rfl) HN.out hlt (by omega)] at hold2
      rw [fill_get Q4.cells 4 qs k n 3 (fun _ => rfl) HN.out hlt (by omega)] at hold3
      have hfz0 := hown.frozenAt (k * 4)
      have hfz1 := hown.frozenAt (k * 4 + 1)
      have hfz2 := hown.frozenAt (k * 4 + 2)
      have hfz3 := hown.frozenAt (k * 4 + 3)
      have HO := Lib.hid hown; clear hown
      have hb' : Below w.heap.size w w2 := hb.trans (hb2.mono hb.size)
      go_wp2
      go_roundw
      case rel =>
        refine ⟨k + 1, by omega, by go_num, ?_, ((((hb').setCell (Nat.le_refl _) _).setCell (Nat.le_refl _) _).setCell (Nat.le_refl _) _).setCell (Nat.le_refl _) _⟩
        have hst := ((((((((HO.out).stored (k * 4) (.int .i64 (qs[k]'hks).a)).1).stored (k * 4 + 1) (.int .i64 (qs[k]'hks).b)).1).stored (k * 4 + 2) (.int .i64 (qs[k]'hks).c)).1).stored (k * 4 + 3) (.int .i64 (qs[k]'hks).d)).1
        rw [fill_set4 qs k n HN.out hlt] at hst
        exact hst
      case measure => simp [intOf]; omega
    · have hkn : k = n := by omega
      subst hkn
      rw [fill_all Q4.cells 4 qs k HN.out] at hown
      go_wp2
      go_ret
      exact ⟨rfl, hown, hb⟩

set_option maxHeartbeats 400000 in
theorem szFibS (A : Option Addr) (n c : Nat) (left : Int) (w : World) (hm : n ≤ maxLen) (hl0 : 0 ≤ left) (hl1 : left ≤ 1048576) :
    Calls Try.prog 79 #[.slice A n c, .int .i64 left] w fun e w' => ∃ v : Int, e = .returned (.int .i64 v) ∧ w = w' ∧ -1 ≤ v ∧ v ≤ left ∧ (0 ≤ v → v + n ≤ left) := by
  unfold maxLen at hm
  by_cases hc : left - n < 0
  · go_enter Try.func79, Try.ntmps79
    go_wp2
    go_ret
    exact ⟨-1, rfl, rfl, by omega, by omega, by omega⟩
  · have hc' : 0 ≤ left - n := by omega
    clear hc
    go_enter Try.func79, Try.ntmps79
    go_wp2
    go_ret
    exact ⟨left - n, rfl, rfl, by omega, by omega, by omega⟩

set_option maxHeartbeats 400000 in
theorem eqFib (x0 x1 x2 x3 : Int) (w : World) :
    Calls Try.prog 169 #[.agg #[.int .i64 x0, .int .i64 x1, .int .i64 x2, .int .i64 x3], .agg #[.int .i64 x0, .int .i64 x1, .int .i64 x2, .int .i64 x3]] w fun e w' => e = .returned (.bool true) ∧ Below w.heap.size w w' := by
  go_enter Try.func169, Try.ntmps169
  go_wp2
  go_ret
  exact ⟨rfl, ((Below.refl _ _).alloc (Nat.le_refl _) _).alloc (by simp) _⟩

set_option maxHeartbeats 400000 in
theorem eqFibS (g g' : Nat) (n c c' : Nat) (qs : List Q4) (w : World) (hn : qs.length = n) (hr : Rd w w.heap.size (some ⟨g, 0, none⟩) (qs.flatMap Q4.cells)) (hr' : Rd w w.heap.size (some ⟨g', 0, none⟩) (qs.flatMap Q4.cells)) (hsz : n ≤ 1048576) :
    Calls Try.prog 89 #[.slice (some ⟨g, 0, none⟩) n c, .slice (some ⟨g', 0, none⟩) n c'] w fun e w' => e = .returned (.bool true) ∧ Below w.heap.size w w' := by
  have HN := Lib.hid hn; clear hn
  go_enter Try.func89, Try.ntmps89
  go_wp2
  go_loopw [5] (fun i wr => ∃ k : Nat, k ≤ n ∧ i = .int .i64 k ∧ Below w.heap.size w wr) (fun i _ => n - (intOf i).toNat)
  case atStart => exact ⟨0, Nat.zero_le _, rfl, Below.refl _ _⟩
  case round =>
    obtain ⟨k, hk, rfl, hb⟩ := hrel
    by_cases hlt : k < n
    · have hks : k < qs.length := by have := HN.out; omega
      obtain ⟨hg, hc0, hc1, hc2, hc3⟩ := (hr.over hb).q4c hks
      obtain ⟨hg', hd0, hd1, hd2, hd3⟩ := (hr'.over hb).q4c hks
      rw [Nat.zero_add] at hc0 hd0 hc1 hd1 hc2 hd2 hc3 hd3
      obtain ⟨u0, u1, u2, u3, hq⟩ : ∃ u0 u1 u2 u3, qs[k]'hks = ⟨u0, u1, u2, u3⟩ := ⟨_, _, _, _, rfl⟩
      rw [hq] at hc0 hd0 hc1 hd1 hc2 hd2 hc3 hd3
      clear hq
      go_wp2
      have hbd : Bel w wr.drew := Bel.of hb.drew
      go_region_held3 (fun W => W.cell? ⟨g, k * 4, none⟩ = some (.int .i64 u0) ∧ W.cell? ⟨g, k * 4 + 1, none⟩ = some (.int .i64 u1) ∧ W.cell? ⟨g, k * 4 + 2, none⟩ = some (.int .i64 u2) ∧ W.cell? ⟨g, k * 4 + 3, none⟩ = some (.int .i64 u3) ∧ W.cell? ⟨g', k * 4, none⟩ = some (.int .i64 u0) ∧ W.cell? ⟨g', k * 4 + 1, none⟩ = some (.int .i64 u1) ∧ W.cell? ⟨g', k * 4 + 2, none⟩ = some (.int .i64 u2) ∧ W.cell? ⟨g', k * 4 + 3, none⟩ = some (.int .i64 u3) ∧ Bel w W)
        (first | go_keep | (go_split_ands; (refine ⟨?_, ?_, ?_, ?_, ?_, ?_, ?_, ?_, ?_⟩ <;> first | assumption | exact Bel.step (by assumption) hb2 | exact (Bel.at_ (by assumption) hb2 (by assumption)).trans (by assumption))))
        (first | (go_at_call 169; refine (eqFib _ _ _ _ _).mono ?_; rintro e w2 ⟨rfl, hb2⟩))
      all_goals
        go_wp2
        go_roundw
        case rel => (go_split_ands; exact ⟨k + 1, by omega, by go_num, Bel.out (by assumption)⟩)
        case measure => simp [intOf]; omega
    · go_wp2
      go_ret
      exact ⟨rfl, hb⟩
end Go.Proofs.Ytlgkjidginibdaa

namespace Go.Proofs.Ytlgkjidginibdaa
open Go.RowKit

def letterP (c : UInt8) : Prop := 97 ≤ (c.toNat : Int) ∧ (c.toNat : Int) ≤ 122
def digitP (c : UInt8) : Prop := 48 ≤ (c.toNat : Int) ∧ (c.toNat : Int) ≤ 57
def signP (i : Nat) (c : UInt8) : Prop := letterP c ∨ (0 < i ∧ digitP c)
def nameP (s : ByteArray) : Prop := 1 ≤ s.size ∧ s.size ≤ 8 ∧ ∀ i (h : i < s.size), signP i s[i]
noncomputable def pb (p : Prop) : Bool := @decide p (Classical.propDecidable p)
theorem pb_true {p : Prop} (h : p) : pb p = true := by exact @decide_eq_true p (Classical.propDecidable p) h
theorem pb_false {p : Prop} (h : ¬ p) : pb p = false := by exact @decide_eq_false p (Classical.propDecidable p) h
theorem pb_iff {p : Prop} : pb p = true ↔ p := by exact @decide_eq_true_iff p (Classical.propDecidable p)
theorem of_pb {p : Prop} (h : pb p = true) : p := pb_iff.1 h
theorem of_npb {p : Prop} (h : pb p = false) : ¬ p := fun hp => by rw [pb_true hp] at h; cases h
theorem retb {b c : Bool} (h : b = c) : Ending.returned (.bool b) = .returned (.bool c) := by rw [h]
theorem reti {k : IntKind} {a b : Int} (h : a = b) : Ending.returned (.int k a) = .returned (.int k b) := by rw [h]

def lexLt (q p : Q4) : Prop := q.a < p.a ∨ (q.a = p.a ∧ (q.b < p.b ∨ (q.b = p.b ∧ (q.c < p.c ∨ (q.c = p.c ∧ q.d < p.d)))))
def fibP (q : Q4) (n : Nat) : Prop := 0 ≤ q.a ∧ q.a < q.b ∧ q.b < n ∧ 1 ≤ q.c ∧ q.c ≤ 5000 ∧ 0 ≤ q.d ∧ q.d ≤ 9
def nameAt (ss : List ByteArray) (i : Nat) : Prop := ∀ h : i < ss.length, nameP ss[i] ∧ ∀ j (hj : j < i), ss[j].toList ≠ ss[i].toList
def fibAt (fs : List Q4) (n i : Nat) : Prop := ∀ h : i < fs.length, fibP fs[i] n ∧ (∀ h0 : 0 < i, ¬ lexLt fs[i] fs[i - 1])
def netP (ss : List ByteArray) (fs : List Q4) : Prop :=
  (2 ≤ ss.length ∧ ss.length ≤ 8) ∧ fs.length ≤ 14 ∧ (∀ i, i < ss.length → nameAt ss i) ∧ ∀ i, i < fs.length → fibAt fs ss.length i
end Go.Proofs.Ytlgkjidginibdaa

namespace Go.Proofs.Ytlgkjidginibdaa
open Go.ChangeShapes Go.WideShapes Go.ChangeAt Go.RowKit

/-- a network of the call's own. -/
def NetOut (ss : List ByteArray) (fs : List Q4) (n1 n2 : Nat) (w : World) (e : Ending) (w' : World) : Prop :=
  ∃ g1 g2 : Nat, e = .returned (.agg #[.slice (some ⟨g1, 0, none⟩) n1 n1, .slice (some ⟨g2, 0, none⟩) n2 n2]) ∧
    w'.ownsRow w.heap.size 9 1 (.slice (some ⟨g1, 0, none⟩) n1 n1) n1 (ss.map Value.string) ∧
    w'.ownsRow w.heap.size 201 4 (.slice (some ⟨g2, 0, none⟩) n2 n2) n2 (fs.flatMap Q4.cells) ∧ Below w.heap.size w w'

theorem toStrG (A : Option Addr) (n c : Nat) (ss : List ByteArray) (w : World) (hn : ss.length = n) (hr : Rd w w.heap.size A (ss.map Value.string)) (hsz : n ≤ 1048576) :
    Calls Try.prog 83 #[.slice A n c] w fun e w' => ∃ g, w.heap.size ≤ g ∧ e = .returned (.slice (some ⟨g, 0, none⟩) n n) ∧
      w'.ownsRow w.heap.size 9 1 (.slice (some ⟨g, 0, none⟩) n n) n (ss.map Value.string) ∧ Below w.heap.size w w' :=
  (toStrS A n c ss w hn hr (by omega)).mono fun _ _ h => ⟨_, Nat.le_refl _, h⟩
theorem toFibG (A : Option Addr) (n c : Nat) (qs : List Q4) (w : World) (hn : qs.length = n) (hr : Rd w w.heap.size A (qs.flatMap Q4.cells)) (hsz : n ≤ 1048576) :
    Calls Try.prog 84 #[.slice A n c] w fun e w' => ∃ g, w.heap.size ≤ g ∧ e = .returned (.slice (some ⟨g, 0, none⟩) n n) ∧
      w'.ownsRow w.heap.size 201 4 (.slice (some ⟨g, 0, none⟩) n n) n (qs.flatMap Q4.cells) ∧ Below w.heap.size w w' :=
  (toFibS A n c qs w hn hr hsz).mono fun _ _ h => ⟨_, Nat.le_refl _, h⟩
theorem own_base {w : World} {B B' E s n : Nat} {v : Value} {xs : List Value} (h : w.ownsRow B E s v n xs) (hB : B' ≤ B) : w.ownsRow B' E s v n xs := by
  refine ⟨h.1, ?_⟩
  rcases h.2 with hn | ⟨g, cap, cur, rfl, hg, rest⟩
  · exact .inl hn
  · exact .inr ⟨g, cap, cur, rfl, by omega, rest⟩
/-- a store in another block leaves the row. -/
theorem own_set {w : World} {B E s n g cap : Nat} {xs : List Value} (h : w.ownsRow B E s (.slice (some ⟨g, 0, none⟩) n cap) n xs) {p : Addr} (hp : p.block ≠ g) (u : Value) : (w.setCell p u).ownsRow B E s (.slice (some ⟨g, 0, none⟩) n cap) n xs := by
  refine ⟨h.1, ?_⟩
  rcases h.2 with hn | ⟨g', cap', cur, e, hg, hh, rest⟩
  · exact .inl hn
  · injection e with e1 e2 e3
    injection e1 with e1; injection e1 with e1
    subst e1
    exact .inr ⟨g, cap', cur, by rw [e3], hg, (Below.heap_setCell w p u g (fun h => hp h.symm)).trans hh, rest⟩

set_option maxHeartbeats 1000000 in
theorem toNet (A1 A2 : Option Addr) (n1 c1 n2 c2 : Nat) (ss : List ByteArray) (fs : List Q4) (w : World) (hn1 : ss.length = n1) (hr1 : Rd w w.heap.size A1 (ss.map Value.string)) (hs1 : n1 ≤ 1048576)
    (hn2 : fs.length = n2) (hr2 : Rd w w.heap.size A2 (fs.flatMap Q4.cells)) (hs2 : n2 ≤ 1048576) :
    Calls Try.prog 15 #[.agg #[.slice A1 n1 c1, .slice A2 n2 c2]] w (NetOut ss fs n1 n2 w) := by
  have HN1 := Lib.hid hn1; have HN2 := Lib.hid hn2; clear hn1 hn2
  go_enter Try.func15, Try.ntmps15
  go_wp2_with fail
  have hb0 := (((Below.refl w.heap.size w).alloc (Nat.le_refl _) (Obj.cells #[.slice A1 n1 c1, .slice A2 n2 c2] 25)).alloc (by simp) (Obj.cells #[.slice none 0 0, .slice none 0 0] 39)).alloc (by simp; omega) (Obj.cells #[.slice none 0 0, .slice none 0 0] 39)
  have HB0 := Lib.hid hb0
  refine (toStrG A1 n1 c1 ss _ HN1.out (hr1.moved hb0) hs1).mono ?_
  clear hb0
  rintro e w2 ⟨g1, hg1, rfl, hown1, hb2⟩
  obtain ⟨hc, hf⟩ := bcell hb2
  have hz := hb2.size
  have hb02 : Below w.heap.size w w2 := HB0.out.trans (hb2.mono HB0.out.size)
  simp at hg1 hz
  have HO := Lib.hid (own_base hown1 (B' := w.heap.size) (by simp; omega)); clear hown1
  go_wp2_with fail
  have hb3 := hb02.setCell (p := ⟨w.heap.size + 1 + 1, 0, none⟩) (by simp; omega) (.slice (some ⟨g1, 0, none⟩) n1 n1)
  refine (toFibG A2 n2 c2 fs _ HN2.out (hr2.moved hb3) hs2).mono ?_
  rintro e w4 ⟨g2, hg2, rfl, hown2, hb4⟩
  obtain ⟨hc4, hf4⟩ := bcell hb4
  have hz4 := hb4.size
  have hb04 : Below w.heap.size w w4 := hb3.trans (hb4.mono hb3.size)
  have HB4 := Lib.hid hb04
  have HO2 := Lib.hid (own_base hown2 (B' := w.heap.size) hb3.size)
  have HO1 := Lib.hid (ownB (own_set HO.out (p := ⟨w.heap.size + 1 + 1, 0, none⟩) (by simp; omega) (.slice (some ⟨g1, 0, none⟩) n1 n1)) hb4)
  clear hown2 hb3 hb04 HO hb02
  simp at hg2 hz4
  have hza : w.heap.size + 1 + 1 < w2.heap.size := by omega
  have hzb : w.heap.size + 1 < w2.heap.size := by omega
  have hzc : w.heap.size < w2.heap.size := by omega
  go_wp2
  refine bodyPost_ret (v := .agg #[.slice (some ⟨g1, 0, none⟩) n1 n1, .slice (some ⟨g2, 0, none⟩) n2 n2]) (by simp [results, Try.results15, go_sem, hc4, hc, hz4, hz, hza, hzb, hzc]) rfl ⟨g1, g2, rfl, ?_, ?_, ?_⟩
  · exact own_set (own_set (own_set HO1.out (p := ⟨_, _, none⟩) (by simp; omega) _) (p := ⟨_, _, none⟩) (by simp; omega) _) (p := ⟨_, _, none⟩) (by simp; omega) _
  · exact own_set (own_set (own_set HO2.out (p := ⟨_, _, none⟩) (by simp; omega) _) (p := ⟨_, _, none⟩) (by simp; omega) _) (p := ⟨_, _, none⟩) (by simp; omega) _
  · exact ((HB4.out.setCell (p := ⟨_, _, none⟩) (by simp; omega) _).setCell (p := ⟨_, _, none⟩) (by simp) _).setCell (p := ⟨_, _, none⟩) (by simp) _

def NetSz (left : Int) (n1 n2 tot : Nat) (w : World) (e : Ending) (w' : World) : Prop :=
  ∃ v : Int, e = .returned (.int .i64 v) ∧ Below w.heap.size w w' ∧ -1 ≤ v ∧ v ≤ left ∧ (0 ≤ v → v + n1 + n2 + tot ≤ left)
set_option maxHeartbeats 1000000 in
theorem szNet (A1 A2 : Option Addr) (n1 c1 n2 c2 : Nat) (left : Int) (ss : List ByteArray) (fs : List Q4) (w : World) (hn1 : ss.length = n1) (hm1 : n1 ≤ maxLen) (hr1 : Rd w w.heap.size A1 (ss.map Value.string)) (hws : ∀ s ∈ ss, s.size ≤ maxLen)
    (hm2 : n2 ≤ maxLen) (hl0 : 0 ≤ left) (hl1 : left ≤ 1048576) :
    Calls Try.prog 12 #[.agg #[.slice A1 n1 c1, .slice A2 n2 c2], .int .i64 left] w (NetSz left n1 n2 (totS ss) w) := by
  have HN1 := Lib.hid hn1; clear hn1
  go_enter Try.func12, Try.ntmps12
  go_wp2_with fail
  have hb0 := (Below.refl w.heap.size w).alloc (Nat.le_refl _) (Obj.cells #[.slice A1 n1 c1, .slice A2 n2 c2] 25)
  have HB0 := Lib.hid hb0
  refine (szStrS A1 n1 c1 left ss _ HN1.out (hr1.moved hb0) hws hm1 hl0 hl1).mono ?_
  clear hb0
  rintro e w2 ⟨v, rfl, rfl, hv0, hv1, hv2⟩
  by_cases hneg : v < 0
  · go_wp2
    go_ret
    exact ⟨-1, rfl, HB0.out, by omega, by omega, by omega⟩
  · have hneg' : 0 ≤ v := by omega
    have hv3 := hv2 hneg'
    clear hneg hv2
    go_wp2_with fail
    refine (szFibS A2 n2 c2 v _ hm2 hneg' (by omega)).mono ?_
    rintro e w4 ⟨u, rfl, rfl, hu0, hu1, hu2⟩
    by_cases hng : u < 0
    · go_wp2
      go_ret
      exact ⟨-1, rfl, HB0.out, by omega, by omega, by omega⟩
    · have hng' : 0 ≤ u := by omega
      have hu3 := hu2 hng'
      clear hng hu2
      go_wp2
      go_ret
      exact ⟨u, rfl, HB0.out, by omega, by omega, fun _ => by omega⟩

set_option maxHeartbeats 1000000 in
theorem eqNet (g1 g2 g1' g2' : Nat) (n1 n2 c1 c2 c1' c2' : Nat) (ss : List ByteArray) (fs : List Q4) (w : World) (hn1 : ss.length = n1) (hs1 : n1 ≤ 1048576) (hn2 : fs.length = n2) (hs2 : n2 ≤ 1048576)
    (hr1 : Rd w w.heap.size (some ⟨g1, 0, none⟩) (ss.map Value.string)) (hr1' : Rd w w.heap.size (some ⟨g1', 0, none⟩) (ss.map Value.string))
    (hr2 : Rd w w.heap.size (some ⟨g2, 0, none⟩) (fs.flatMap Q4.cells)) (hr2' : Rd w w.heap.size (some ⟨g2', 0, none⟩) (fs.flatMap Q4.cells)) :
    Calls Try.prog 18 #[.agg #[.slice (some ⟨g1, 0, none⟩) n1 c1, .slice (some ⟨g2, 0, none⟩) n2 c2], .agg #[.slice (some ⟨g1', 0, none⟩) n1 c1', .slice (some ⟨g2', 0, none⟩) n2 c2']] w
      fun e w' => e = .returned (.bool true) ∧ Below w.heap.size w w' := by
  have HN1 := Lib.hid hn1; have HN2 := Lib.hid hn2; clear hn1 hn2
  go_enter Try.func18, Try.ntmps18
  go_wp2_with fail
  have hb0 := ((Below.refl w.heap.size w).alloc (Nat.le_refl _) (Obj.cells #[.slice (some ⟨g1, 0, none⟩) n1 c1, .slice (some ⟨g2, 0, none⟩) n2 c2] 39)).alloc (by simp) (Obj.cells #[.slice (some ⟨g1', 0, none⟩) n1 c1', .slice (some ⟨g2', 0, none⟩) n2 c2'] 39)
  have HB0 := Lib.hid hb0
  refine (eqStrS _ _ n1 c1 c1' ss _ HN1.out (hr1.moved hb0) (hr1'.moved hb0) (by omega)).mono ?_
  clear hb0
  rintro e w2 ⟨rfl, hb2⟩
  obtain ⟨hc, hf⟩ := bcell hb2
  have hz := hb2.size
  have hb02 : Below w.heap.size w w2 := HB0.out.trans (hb2.mono HB0.out.size)
  have HB2 := Lib.hid hb02; clear hb02
  simp at hz
  go_wp2_with fail
  refine (eqFibS _ _ n2 c2 c2' fs _ HN2.out (hr2.moved HB2.out) (hr2'.moved HB2.out) (by omega)).mono ?_
  rintro e w4 ⟨rfl, hb4⟩
  go_wp2
  go_ret
  exact ⟨rfl, HB2.out.trans (hb4.mono HB2.out.size)⟩
end Go.Proofs.Ytlgkjidginibdaa

namespace Go.Proofs.Ytlgkjidginibdaa
open Go.ChangeShapes Go.WideShapes Go.ChangeAt Go.RowKit

theorem in_any (x a b : Int) (w : World) : Calls Try.prog 121 #[.int .i64 x, .int .i64 a, .int .i64 b] w fun e w' => e = .returned (.bool (decide (a ≤ x ∧ x ≤ b))) ∧ w = w' := by
  by_cases h1 : a ≤ x
  · by_cases h2 : x ≤ b
    · have e : decide (a ≤ x ∧ x ≤ b) = true := by simp [h1, h2]
      rw [e]; clear e
      go_enter Try.func121, Try.ntmps121
      go_wp2
      go_ret
      exact ⟨rfl, rfl⟩
    · have e : decide (a ≤ x ∧ x ≤ b) = false := by simp [h2]
      rw [e]; clear e
      have h2' : decide (x ≤ b) = false := by simpa using h2
      clear h2
      go_enter Try.func121, Try.ntmps121
      go_wp2
      go_ret
      exact ⟨rfl, rfl⟩
  · have e : decide (a ≤ x ∧ x ≤ b) = false := by simp [h1]
    rw [e]; clear e
    have h1' : x < a := by omega
    clear h1
    go_enter Try.func121, Try.ntmps121
    go_wp2
    go_ret
    exact ⟨rfl, rfl⟩
theorem in_yes (x a b : Int) (w : World) (h1 : a ≤ x) (h2 : x ≤ b) : Calls Try.prog 121 #[.int .i64 x, .int .i64 a, .int .i64 b] w fun e w' => e = .returned (.bool true) ∧ w' = w := by
  refine (in_any x a b w).mono ?_
  rintro e w' ⟨rfl, rfl⟩
  exact ⟨by rw [decide_eq_true ⟨h1, h2⟩], rfl⟩
theorem in_no (x a b : Int) (w : World) (h : x < a ∨ b < x) : Calls Try.prog 121 #[.int .i64 x, .int .i64 a, .int .i64 b] w fun e w' => e = .returned (.bool false) ∧ w' = w := by
  refine (in_any x a b w).mono ?_
  rintro e w' ⟨rfl, rfl⟩
  exact ⟨by rw [decide_eq_false (by omega)], rfl⟩

def BoolP (b : Bool) (w : World) (e : Ending) (w' : World) : Prop := e = .returned (.bool b) ∧ Below w.heap.size w w'
theorem boolP {b c : Bool} {w w' : World} (h : c = b) (hb : Below w.heap.size w w') : BoolP b w (.returned (.bool c)) w' := ⟨by rw [h], hb⟩

set_option maxHeartbeats 1000000 in
theorem pred_wrap (k m : Nat) (h : k = m + 1) (hk : k ≤ 1048576) : IntKind.i64.wrap ((k : Int) - 1) = (m : Int) := by
  rw [IntWalk.i64_in _ (by omega)]; omega

end Go.Proofs.Ytlgkjidginibdaa

namespace Go.Proofs.Ytlgkjidginibdaa
open Go.ChangeShapes Go.WideShapes Go.ChangeAt Go.RowKit

theorem tl_ne {a b : ByteArray} (h : a ≠ b) : (a.toList == b.toList) = false := by
  rw [beq_eq_false_iff_ne, ByteArray.toList_eq, ByteArray.toList_eq]
  exact fun e => h (Go.WideShapes.bytes_inj e)
theorem tl_not {a b : ByteArray} (h : a ≠ b) : (!a.toList == b.toList) = true := by rw [tl_ne h]; rfl
theorem tl_inj {a b : ByteArray} (h : a.toList = b.toList) : a = b := by
  rw [ByteArray.toList_eq, ByteArray.toList_eq] at h; exact Go.WideShapes.bytes_inj h

set_option maxHeartbeats 1000000 in
theorem implName (s : ByteArray) (w : World) (hs : s.size ≤ maxLen) :
    Calls Try.prog 158 #[.string s] w fun e w' => e = .returned (.bool (pb (nameP s))) ∧ w = w' := by
  unfold maxLen at hs
  by_cases h0 : s.size = 0
  · obtain rfl : s = ByteArray.empty := by
      apply ByteArray.ext
      exact Array.eq_empty_of_size_eq_zero h0
    have HF : Hid (pb (nameP ByteArray.empty) = false) := Lib.hid (pb_false fun h => by have := h.1; simp at this)
    clear h0 hs
    go_enter Try.func158, Try.ntmps158
    go_wp2
    go_ret
    exact ⟨retb HF.out.symm, rfl⟩
  have hneq : s ≠ ByteArray.empty := fun h => h0 (by rw [h]; rfl)
  have hne := tl_ne hneq
  have hne2 : s.toList.isEmpty = false := by
    rw [ByteArray.toList_eq]
    cases h : s.data.toList with
    | nil => exact absurd (by have := congrArg List.length h; simpa using this) h0
    | cons a b => rfl
  have hne3 : s.toList ≠ [] := by intro h; rw [h] at hne2; simp at hne2
  clear hneq
  by_cases h8 : 8 < s.size
  · have HF : Hid (pb (nameP s) = false) := Lib.hid (pb_false fun h => by have := h.2.1; omega)
    have h8' : 8 < (s.size : Int) := by omega
    go_enter Try.func158, Try.ntmps158
    go_wp2
    go_ret
    exact ⟨retb HF.out.symm, rfl⟩
  have h8' : (s.size : Int) ≤ 8 := by omega
  clear h8
  go_enter Try.func158, Try.ntmps158
  go_wp2
  clear hne hne2 hne3
  go_loop [15] (fun i => ∃ k : Nat, k ≤ s.size ∧ i = .int .i64 k ∧ (∀ j (h : j < s.size), j < k → signP j s[j])) (fun i => s.size - (intOf i).toNat)
  case atStart => exact ⟨0, Nat.zero_le _, rfl, fun j _ h => absurd h (by omega)⟩
  case round =>
    obtain ⟨k, hk, rfl, hall⟩ := hrel
    have HA := Lib.hid hall; clear hall
    by_cases hlt : k < s.size
    · obtain ⟨u, hu⟩ : ∃ u, s[k]'hlt = u := ⟨_, rfl⟩
      have HU := Lib.hid hu
      by_cases hl : 97 ≤ (u.toNat : Int) ∧ (u.toNat : Int) ≤ 122
      · have HS : Hid (∀ j (h : j < s.size), j < k + 1 → signP j s[j]) := Lib.hid (by
          intro j h hj
          by_cases hjk : j < k
          · exact HA.out j h hjk
          · obtain rfl : j = k := by omega
            rw [hu]; exact .inl hl)
        obtain ⟨hl1, hl2⟩ := hl
        go_wp2
        all_goals
          go_round
          case rel => exact ⟨k + 1, by omega, by go_num, HS.out⟩
          case measure => simp [intOf]; omega
      · by_cases hk0 : k = 0
        · have HF : Hid (pb (nameP s) = false) := Lib.hid (pb_false fun h => by
            have := h.2.2 k hlt
            rw [hu] at this
            rcases this with h | h
            · exact hl h
            · omega)
          subst hk0
          have hl' : (u.toNat : Int) < 97 ∨ 122 < (u.toNat : Int) := by omega
          clear hl
          rcases hl' with hl | hl
          all_goals
            (try have hx : decide ((u.toNat : Int) ≤ 122) = false := decide_eq_false (by omega))
            (try have hy : decide ((u.toNat : Int) ≤ 57) = false := decide_eq_false (by omega))
            (try have hy' : decide ((u.toNat : Int) ≤ 57) = true := decide_eq_true (by omega))
            go_wp2
            all_goals
              go_ret
              exact ⟨retb HF.out.symm, rfl⟩
        · have hl' : (u.toNat : Int) < 97 ∨ 122 < (u.toNat : Int) := by omega
          have hd0 : decide (0 < k) = true := decide_eq_true (by omega)
          have hkz : ((k : Int) == 0) = false := by simp; omega
          have hkz2 : decide (k = 0) = false := decide_eq_false hk0
          by_cases hdg : 48 ≤ (u.toNat : Int) ∧ (u.toNat : Int) ≤ 57
          · have HS : Hid (∀ j (h : j < s.size), j < k + 1 → signP j s[j]) := Lib.hid (by
              intro j h hj
              by_cases hjk : j < k
              · exact HA.out j h hjk
              · obtain rfl : j = k := by omega
                rw [hu]; exact .inr ⟨by omega, hdg⟩)
            obtain ⟨hd1, hd2⟩ := hdg
            have hlow : (u.toNat : Int) < 97 := by omega
            clear hl hl'
            (try have hx : decide ((u.toNat : Int) ≤ 122) = false := decide_eq_false (by omega))
            (try have hy : decide ((u.toNat : Int) ≤ 57) = false := decide_eq_false (by omega))
            (try have hy' : decide ((u.toNat : Int) ≤ 57) = true := decide_eq_true (by omega))
            go_wp2
            all_goals
              go_round
              case rel => exact ⟨k + 1, by omega, by go_num, HS.out⟩
              case measure => simp [intOf]; omega
          · have HF : Hid (pb (nameP s) = false) := Lib.hid (pb_false fun h => by
              have := h.2.2 k hlt
              rw [hu] at this
              rcases this with h | h
              · exact hl h
              · exact hdg h.2)
            have hdg' : (u.toNat : Int) < 48 ∨ 57 < (u.toNat : Int) := by omega
            clear hl hdg
            rcases hl' with hl | hl <;> rcases hdg' with hdg | hdg
            all_goals first | (exfalso; omega) | skip
            all_goals
              (try have hx : decide ((u.toNat : Int) ≤ 122) = false := decide_eq_false (by omega))
              (try have hy : decide ((u.toNat : Int) ≤ 57) = false := decide_eq_false (by omega))
              (try have hy' : decide ((u.toNat : Int) ≤ 57) = true := decide_eq_true (by omega))
              go_wp2
              all_goals
                go_ret
                exact ⟨retb HF.out.symm, rfl⟩
    · have hke : k = s.size := by omega
      have HT : Hid (pb (nameP s) = true) := Lib.hid (pb_true ⟨by omega, by omega, fun i h => HA.out i h (by omega)⟩)
      subst hke
      clear hlt
      go_wp2
      go_ret
      exact ⟨retb HT.out.symm, rfl⟩

theorem sign_any (c : UInt8) (w : World) : Calls Try.prog 202 #[.int .u8 c.toNat] w fun e w' => e = .returned (.bool (pb (letterP c ∨ digitP c))) ∧ w = w' := by
  by_cases hl : letterP c
  · have HT : Hid (pb (letterP c ∨ digitP c) = true) := Lib.hid (pb_true (.inl hl))
    obtain ⟨h1, h2⟩ := hl
    go_enter Try.func202, Try.ntmps202
    go_wp2
    all_goals
      go_ret
      exact ⟨retb HT.out.symm, rfl⟩
  · by_cases hd : digitP c
    · have HT : Hid (pb (letterP c ∨ digitP c) = true) := Lib.hid (pb_true (.inr hd))
      obtain ⟨h1, h2⟩ := hd
      have hl' : (c.toNat : Int) < 97 := by omega
      clear hl
      go_enter Try.func202, Try.ntmps202
      go_wp2
      all_goals
        go_ret
        exact ⟨retb HT.out.symm, rfl⟩
    · have HF : Hid (pb (letterP c ∨ digitP c) = false) := Lib.hid (pb_false fun h => h.elim hl hd)
      unfold letterP at hl
      unfold digitP at hd
      have hl' : (c.toNat : Int) < 97 ∨ 122 < (c.toNat : Int) := by omega
      have hd' : (c.toNat : Int) < 48 ∨ 57 < (c.toNat : Int) := by omega
      clear hl hd
      rcases hl' with hl | hl <;> rcases hd' with hd | hd
      all_goals first | (exfalso; omega) | skip
      all_goals
        (try have hx : decide ((c.toNat : Int) ≤ 122) = false := decide_eq_false (by omega))
        (try have hy : decide ((c.toNat : Int) ≤ 57) = false := decide_eq_false (by omega))
        (try have hy' : decide ((c.toNat : Int) ≤ 57) = true := decide_eq_true (by omega))
        go_enter Try.func202, Try.ntmps202
        go_wp2
        all_goals
          go_ret
          exact ⟨retb HF.out.symm, rfl⟩

set_option maxHeartbeats 1000000 in
theorem specName (s : ByteArray) (w : World) (hs : s.size ≤ maxLen) :
    Calls Try.prog 148 #[.string s] w fun e w' => e = .returned (.bool (pb (nameP s))) ∧ w = w' := by
  unfold maxLen at hs
  by_cases h8 : 1 ≤ s.size ∧ s.size ≤ 8
  · obtain ⟨ha, hb⟩ := h8
    have h0 : 0 < s.size := by omega
    obtain ⟨u, hu⟩ : ∃ u, s[0]'h0 = u := ⟨_, rfl⟩
    by_cases hl : 97 ≤ (u.toNat : Int) ∧ (u.toNat : Int) ≤ 122
    · have HL : Hid (signP 0 (s[0]'h0)) := Lib.hid (by rw [hu]; exact .inl hl)
      obtain ⟨hl1, hl2⟩ := hl
      have HU := Lib.hid hu
      go_enter Try.func148, Try.ntmps148
      go_wp2_with (refine (in_yes _ _ _ _ (by omega) (by omega)).mono ?_; rintro e w' ⟨rfl, rfl⟩)
      clear hu
      go_loop [3] (fun i => ∃ k : Nat, k ≤ s.size ∧ i = .int .i64 k ∧ (∀ j (h : j < s.size), j < k → signP j s[j])) (fun i => s.size - (intOf i).toNat)
      case atStart => exact ⟨0, Nat.zero_le _, rfl, fun j _ h => absurd h (by omega)⟩
      case round =>
        obtain ⟨k, hk, rfl, hall⟩ := hrel
        have HA := Lib.hid hall; clear hall
        by_cases hlt : k < s.size
        · obtain ⟨v, hv⟩ : ∃ v, s[k]'hlt = v := ⟨_, rfl⟩
          by_cases hp : letterP v ∨ digitP v
          · have hq : pb (letterP v ∨ digitP v) = true := pb_true hp
            have HS : Hid (∀ j (h : j < s.size), j < k + 1 → signP j s[j]) := Lib.hid (by
              intro j h hj
              by_cases hjk : j < k
              · exact HA.out j h hjk
              · obtain rfl : j = k := by omega
                by_cases hj0 : j = 0
                · subst hj0; exact HL.out
                · rw [hv]; exact hp.elim .inl fun h => .inr ⟨by omega, h⟩)
            have hc := fun W => sign_any v W
            rw [hq] at hc
            have HC := Lib.hid hc; clear hc hq hp
            go_wp2_with (refine (HC.out _).mono ?_; rintro e w' ⟨rfl, rfl⟩)
            go_round
            case rel => exact ⟨k + 1, by omega, by go_num, HS.out⟩
            case measure => simp [intOf]; omega
          · have hq : pb (letterP v ∨ digitP v) = false := pb_false hp
            have HF : Hid (pb (nameP s) = false) := Lib.hid (pb_false fun h => hp (by
              have := h.2.2 k hlt
              rw [hv] at this
              exact this.elim .inl fun h => .inr h.2))
            have hc := fun W => sign_any v W
            rw [hq] at hc
            have HC := Lib.hid hc; clear hc hq hp
            go_wp2_with (refine (HC.out _).mono ?_; rintro e w' ⟨rfl, rfl⟩)
            go_ret
            exact ⟨retb HF.out.symm, rfl⟩
        · have hke : k = s.size := by omega
          have HT : Hid (pb (nameP s) = true) := Lib.hid (pb_true ⟨by omega, by omega, fun i h => HA.out i h (by omega)⟩)
          subst hke
          clear hlt
          go_wp2
          go_ret
          exact ⟨retb HT.out.symm, rfl⟩
    · have HF : Hid (pb (nameP s) = false) := Lib.hid (pb_false fun h => by
        have := h.2.2 0 h0
        rw [hu] at this
        rcases this with h | h
        · exact hl h
        · omega)
      have hl' : (u.toNat : Int) < 97 ∨ 122 < (u.toNat : Int) := by omega
      clear hl
      rcases hl' with hl | hl
      all_goals
        go_enter Try.func148, Try.ntmps148
        go_wp2_with (refine (in_yes _ _ _ _ (by omega) (by omega)).mono ?_; rintro e w' ⟨rfl, rfl⟩)
        all_goals
          go_ret
          exact ⟨retb HF.out.symm, rfl⟩
  · have HF : Hid (pb (nameP s) = false) := Lib.hid (pb_false fun h => h8 ⟨h.1, h.2.1⟩)
    have h8' : (s.size : Int) < 1 ∨ 8 < (s.size : Int) := by omega
    clear h8
    go_enter Try.func148, Try.ntmps148
    go_wp2_with (refine (in_no _ _ _ _ (by omega)).mono ?_; rintro e w' ⟨rfl, rfl⟩)
    go_ret
    exact ⟨retb HF.out.symm, rfl⟩
end Go.Proofs.Ytlgkjidginibdaa

namespace Go.Proofs.Ytlgkjidginibdaa
open Go.ChangeShapes Go.WideShapes Go.ChangeAt Go.RowKit

def firstNZ : List Int → Int
  | [] => 0
  | z :: r => if z = 0 then firstNZ r else z
theorem firstNZ_drop (zs : List Int) (k : Nat) (hk : k < zs.length) : firstNZ (zs.drop k) = if zs[k] = 0 then firstNZ (zs.drop (k + 1)) else zs[k] := by
  rw [List.drop_eq_getElem_cons hk]; rfl

set_option maxHeartbeats 400000 in
theorem or_any (b n c : Nat) (zs : List Int) (w : World) (hn : zs.length = n) (hm : n ≤ 1048576) (hr : Rd w w.heap.size (some ⟨b, 0, none⟩) (zs.map (Value.int .i64))) :
    Calls Try.prog 209 #[.slice (some ⟨b, 0, none⟩) n c] w fun e w' => e = .returned (.int .i64 (firstNZ zs)) ∧ w = w' := by
  have HN := Lib.hid hn; clear hn
  go_enter Try.func209, Try.ntmps209
  go_wp2
  go_loop [8] (fun i => ∃ k : Nat, k ≤ n ∧ i = .int .i64 k ∧ firstNZ zs = firstNZ (zs.drop k)) (fun i => n - (intOf i).toNat)
  case atStart => exact ⟨0, Nat.zero_le _, rfl, rfl⟩
  case round =>
    obtain ⟨k, hk, rfl, hf⟩ := hrel
    have HF := Lib.hid hf; clear hf
    by_cases hlt : k < n
    · have hks : k < zs.length := by have := HN.out; omega
      have hd := firstNZ_drop zs k hks
      obtain ⟨ad, e, _, hcell⟩ := hr.got (k := k) (by simpa using hks)
      injection e with e; subst e
      have ea : (⟨b, 0, none⟩ : Addr).add k = ⟨b, k, none⟩ := by unfold Addr.add; by_cases h : k = 0 <;> simp [h]
      rw [ea] at hcell
      simp only [List.getElem_map] at hcell
      obtain ⟨z, hz⟩ : ∃ z, zs[k]'hks = z := ⟨_, rfl⟩
      rw [hz] at hcell hd
      clear hz ea
      by_cases h0 : z = 0
      · subst h0
        rw [if_pos rfl] at hd
        have HD : Hid (firstNZ zs = firstNZ (zs.drop (k + 1))) := Lib.hid (HF.out.trans hd)
        clear hd
        go_wp2
        go_round
        case rel => exact ⟨k + 1, by omega, by go_num, HD.out⟩
        case measure => simp [intOf]; omega
      · rw [if_neg h0] at hd
        have HD : Hid (firstNZ zs = z) := Lib.hid (HF.out.trans hd)
        have hz1 : (z == 0) = false := by simpa using h0
        have hz2 : (z != 0) = true := by simpa using h0
        clear hd h0
        go_wp2
        go_ret
        exact ⟨reti HD.out.symm, rfl⟩
    · have hkn : k = n := by omega
      subst hkn
      have HD : Hid (firstNZ zs = 0) := Lib.hid (by rw [HF.out, List.drop_of_length_le (by have := HN.out; omega)]; rfl)
      clear hlt
      go_wp2
      go_ret
      exact ⟨reti HD.out.symm, rfl⟩

def cmpV (f g : Q4) : Int := firstNZ [Lib.compareInt f.a g.a, Lib.compareInt f.b g.b, Lib.compareInt f.c g.c, Lib.compareInt f.d g.d]
theorem cmp_cases (x y : Int) : (x < y ∧ Lib.compareInt x y = -1) ∨ (x = y ∧ Lib.compareInt x y = 0) ∨ (y < x ∧ Lib.compareInt x y = 1) := by
  unfold Lib.compareInt
  rcases Int.lt_trichotomy x y with h | h | h
  · left; exact ⟨h, by rw [if_pos h]⟩
  · right; left; subst h; exact ⟨rfl, by simp⟩
  · right; right; exact ⟨h, by rw [if_neg (by omega), if_pos h]⟩
theorem cmpV_neg (f g : Q4) : cmpV f g < 0 ↔ lexLt f g := by
  unfold cmpV lexLt firstNZ
  rcases cmp_cases f.a g.a with ⟨h, e⟩ | ⟨h, e⟩ | ⟨h, e⟩ <;> rw [e]
  · simp; omega
  · simp only [if_true, firstNZ]
    rcases cmp_cases f.b g.b with ⟨h2, e⟩ | ⟨h2, e⟩ | ⟨h2, e⟩ <;> rw [e]
    · simp; omega
    · simp only [if_true]
      rcases cmp_cases f.c g.c with ⟨h3, e⟩ | ⟨h3, e⟩ | ⟨h3, e⟩ <;> rw [e]
      · simp; omega
      · simp only [if_true]
        rcases cmp_cases f.d g.d with ⟨h4, e⟩ | ⟨h4, e⟩ | ⟨h4, e⟩ <;> rw [e]
        · simp; omega
        · simp; omega
        · simp; omega
      · simp; omega
    · simp; omega
  · simp; omega

def cells4 (q : Q4) : Value := .agg #[.int .i64 q.a, .int .i64 q.b, .int .i64 q.c, .int .i64 q.d]

set_option maxRecDepth 100000 in
set_option maxHeartbeats 1000000 in
theorem less_any (f g : Q4) (w : World) :
    Calls Try.prog 161 #[cells4 f, cells4 g] w fun e w' => e = .returned (.bool (pb (lexLt f g))) ∧ Below w.heap.size w w' := by
  obtain ⟨fa, fb, fc, fd⟩ := f
  obtain ⟨ga, gb, gc, gd⟩ := g
  have hx := cmpV_neg ⟨fa, fb, fc, fd⟩ ⟨ga, gb, gc, gd⟩
  have HX := Lib.hid hx; clear hx
  unfold cells4
  go_enter Try.func161, Try.ntmps161
  go_wp2_with fail
  obtain ⟨W, hW⟩ : ∃ W, ((w.alloc (Obj.cells #[.int .i64 fa, .int .i64 fb, .int .i64 fc, .int .i64 fd] 201)).alloc (Obj.cells #[.int .i64 ga, .int .i64 gb, .int .i64 gc, .int .i64 gd] 201)) = W := ⟨_, rfl⟩
  have hb : Below w.heap.size w W := by rw [← hW]; exact ((Below.refl _ _).alloc (Nat.le_refl _) _).alloc (by simp) _
  have hsz : W.heap.size = w.heap.size + 2 := by rw [← hW]; simp
  have f0 : W.cell? ⟨w.heap.size, 0, none⟩ = some (.int .i64 fa) := by rw [← hW]; simp [go_sem]
  have f1 : W.cell? ⟨w.heap.size, 1, none⟩ = some (.int .i64 fb) := by rw [← hW]; simp [go_sem]
  have f2 : W.cell? ⟨w.heap.size, 2, none⟩ = some (.int .i64 fc) := by rw [← hW]; simp [go_sem]
  have f3 : W.cell? ⟨w.heap.size, 3, none⟩ = some (.int .i64 fd) := by rw [← hW]; simp [go_sem]
  have g0 : W.cell? ⟨w.heap.size + 1, 0, none⟩ = some (.int .i64 ga) := by rw [← hW]; simp [go_sem]
  have g1 : W.cell? ⟨w.heap.size + 1, 1, none⟩ = some (.int .i64 gb) := by rw [← hW]; simp [go_sem]
  have g2 : W.cell? ⟨w.heap.size + 1, 2, none⟩ = some (.int .i64 gc) := by rw [← hW]; simp [go_sem]
  have g3 : W.cell? ⟨w.heap.size + 1, 3, none⟩ = some (.int .i64 gd) := by rw [← hW]; simp [go_sem]
  rw [hW]
  clear hW
  have HB := Lib.hid hb; have HSZ := Lib.hid hsz; clear hb hsz
  have hdr : ∀ t d o u p, ({ heap := W.heap, tape := t, drawn := d, os := o, output := u } : World).cell? p = W.cell? p := fun _ _ _ _ _ => rfl
  go_still_tail 20, (by kernel_rfl)
  still_call (Try.cmp_Compare_int _ _ _)
  repeat still_step
  still_call (Try.cmp_Compare_int _ _ _)
  repeat still_step
  still_call (Try.cmp_Compare_int _ _ _)
  repeat still_step
  still_call (Try.cmp_Compare_int _ _ _)
  repeat still_step
  refine wpStill_nil ?_
  change wpList _ _ _ _ _ W.drew
  clear f0 f1 f2 f3 g0 g1 g2 g3 hdr
  have hb2 : Below w.heap.size w W.drew := HB.out.drew
  obtain ⟨W2, hW2⟩ : ∃ W2, W.drew = W2 := ⟨_, rfl⟩
  rw [hW2] at hb2 ⊢
  have HB2 := Lib.hid hb2; clear hW2 hb2
  obtain ⟨c0, hc0⟩ : ∃ c, Lib.compareInt fa ga = c := ⟨_, rfl⟩
  obtain ⟨c1, hc1⟩ : ∃ c, Lib.compareInt fb gb = c := ⟨_, rfl⟩
  obtain ⟨c2, hc2⟩ : ∃ c, Lib.compareInt fc gc = c := ⟨_, rfl⟩
  obtain ⟨c3, hc3⟩ : ∃ c, Lib.compareInt fd gd = c := ⟨_, rfl⟩
  unfold cmpV at HX
  simp only [hc0, hc1, hc2, hc3] at HX ⊢
  clear hc0 hc1 hc2 hc3
  go_wp2_with fail
  refine (or_any _ 4 4 [c0, c1, c2, c3] _ rfl (by omega) ?_).mono ?_
  · intro k u hu
    simp only [List.map_cons, List.map_nil] at hu
    match k, hu with
    | 0, hu => simp at hu; subst hu; exact ⟨_, rfl, by simp, by simp [go_sem, Addr.add]⟩
    | 1, hu => simp at hu; subst hu; exact ⟨_, rfl, by simp, by simp [go_sem, Addr.add]⟩
    | 2, hu => simp at hu; subst hu; exact ⟨_, rfl, by simp, by simp [go_sem, Addr.add]⟩
    | 3, hu => simp at hu; subst hu; exact ⟨_, rfl, by simp, by simp [go_sem, Addr.add]⟩
    | k + 4, hu => simp at hu
  rintro e w4 ⟨rfl, rfl⟩
  obtain ⟨z, hz⟩ : ∃ z, firstNZ [c0, c1, c2, c3] = z := ⟨_, rfl⟩
  rw [hz] at HX ⊢
  clear hz
  by_cases hneg : z < 0
  · have HT : Hid (pb (lexLt ⟨fa, fb, fc, fd⟩ ⟨ga, gb, gc, gd⟩) = true) := Lib.hid (pb_true (HX.out.1 hneg))
    go_wp2
    go_ret
    exact ⟨retb HT.out.symm, HB2.out.alloc HB2.out.size _⟩
  · have HF : Hid (pb (lexLt ⟨fa, fb, fc, fd⟩ ⟨ga, gb, gc, gd⟩) = false) := Lib.hid (pb_false fun h => hneg (HX.out.2 h))
    have hneg' : decide (z < 0) = false := decide_eq_false hneg
    clear hneg
    go_wp2
    go_ret
    exact ⟨retb HF.out.symm, HB2.out.alloc HB2.out.size _⟩

set_option maxRecDepth 100000 in
set_option maxHeartbeats 1000000 in
theorem among_any (f : Q4) (n : Nat) (w : World) (hn : n ≤ 1048576) :
    Calls Try.prog 160 #[cells4 f, .int .i64 n] w fun e w' => e = .returned (.bool (pb (fibP f n))) ∧ Below w.heap.size w w' := by
  obtain ⟨a, b, c, d⟩ := f
  unfold cells4
  by_cases h1 : 0 ≤ a ∧ a < b ∧ b < n ∧ 1 ≤ c ∧ c ≤ 5000 ∧ 0 ≤ d ∧ d ≤ 9
  · have HT : Hid (pb (fibP ⟨a, b, c, d⟩ n) = true) := Lib.hid (pb_true h1)
    obtain ⟨h1, h2, h3, h4, h5, h6, h7⟩ := h1
    go_enter Try.func160, Try.ntmps160
    go_wp2
    go_ret
    exact ⟨retb HT.out.symm, (Below.refl _ _).alloc (Nat.le_refl _) _⟩
  · have HF : Hid (pb (fibP ⟨a, b, c, d⟩ n) = false) := Lib.hid (pb_false h1)
    by_cases p0 : 0 ≤ a
    rotate_left
    · clear h1
      have q : decide (0 ≤ a) = false := decide_eq_false p0
      clear p0
      go_enter Try.func160, Try.ntmps160
      go_wp2
      go_ret
      exact ⟨retb HF.out.symm, (Below.refl _ _).alloc (Nat.le_refl _) _⟩
    by_cases p1 : a < b
    rotate_left
    · clear h1
      have q : decide (a < b) = false := decide_eq_false p1
      clear p1
      go_enter Try.func160, Try.ntmps160
      go_wp2
      go_ret
      exact ⟨retb HF.out.symm, (Below.refl _ _).alloc (Nat.le_refl _) _⟩
    by_cases p2 : b < (n : Int)
    rotate_left
    · clear h1
      have q : decide (b < (n : Int)) = false := decide_eq_false p2
      clear p2
      go_enter Try.func160, Try.ntmps160
      go_wp2
      go_ret
      exact ⟨retb HF.out.symm, (Below.refl _ _).alloc (Nat.le_refl _) _⟩
    by_cases p3 : 1 ≤ c
    rotate_left
    · clear h1
      have q : decide (1 ≤ c) = false := decide_eq_false p3
      clear p3
      go_enter Try.func160, Try.ntmps160
      go_wp2
      go_ret
      exact ⟨retb HF.out.symm, (Below.refl _ _).alloc (Nat.le_refl _) _⟩
    by_cases p4 : c ≤ 5000
    rotate_left
    · clear h1
      have q : decide (c ≤ 5000) = false := decide_eq_false p4
      clear p4
      go_enter Try.func160, Try.ntmps160
      go_wp2
      go_ret
      exact ⟨retb HF.out.symm, (Below.refl _ _).alloc (Nat.le_refl _) _⟩
    by_cases p5 : 0 ≤ d
    rotate_left
    · clear h1
      have q : decide (0 ≤ d) = false := decide_eq_false p5
      clear p5
      go_enter Try.func160, Try.ntmps160
      go_wp2
      go_ret
      exact ⟨retb HF.out.symm, (Below.refl _ _).alloc (Nat.le_refl _) _⟩
    by_cases p6 : d ≤ 9
    · exact absurd ⟨p0, p1, p2, p3, p4, p5, p6⟩ h1
    · clear h1
      have q : decide (d ≤ 9) = false := decide_eq_false p6
      clear p6
      go_enter Try.func160, Try.ntmps160
      go_wp2
      go_ret
      exact ⟨retb HF.out.symm, (Below.refl _ _).alloc (Nat.le_refl _) _⟩

set_option maxRecDepth 100000 in
set_option maxHeartbeats 1000000 in
theorem specFib (f : Q4) (n : Nat) (w : World) (hn : n ≤ 1048576) :
    Calls Try.prog 150 #[cells4 f, .int .i64 n] w fun e w' => e = .returned (.bool (pb (fibP f n))) ∧ Below w.heap.size w w' := by
  obtain ⟨a, b, c, d⟩ := f
  unfold cells4
  have HB := Lib.hid ((Below.refl w.heap.size w).alloc (Nat.le_refl _) (Obj.cells #[.int .i64 a, .int .i64 b, .int .i64 c, .int .i64 d] 201))
  by_cases p1 : 0 ≤ a ∧ a ≤ (n : Int) - 1
  · obtain ⟨p1a, p1b⟩ := p1
    by_cases p2 : a + 1 ≤ b ∧ b ≤ (n : Int) - 1
    · obtain ⟨p2a, p2b⟩ := p2
      by_cases p3 : 1 ≤ c ∧ c ≤ 5000
      · obtain ⟨p3a, p3b⟩ := p3
        by_cases p4 : 0 ≤ d ∧ d ≤ 9
        · have HT : Hid (pb (fibP ⟨a, b, c, d⟩ n) = true) := Lib.hid (pb_true ⟨p1a, by show a < b; omega, by show b < (n : Int); omega, p3a, p3b, p4.1, p4.2⟩)
          obtain ⟨p4a, p4b⟩ := p4
          go_enter Try.func150, Try.ntmps150
          go_wp2_with (first | (refine (in_yes _ _ _ _ (by omega) (by omega)).mono ?_; rintro e w' ⟨rfl, rfl⟩))
          go_ret
          exact ⟨retb HT.out.symm, HB.out⟩
        · have HF : Hid (pb (fibP ⟨a, b, c, d⟩ n) = false) := Lib.hid (pb_false fun h => p4 ⟨h.2.2.2.2.2.1, h.2.2.2.2.2.2⟩)
          have q : d < 0 ∨ 9 < d := by omega
          clear p4
          go_enter Try.func150, Try.ntmps150
          go_wp2_with (first | (refine (in_yes _ _ _ _ (by omega) (by omega)).mono ?_; rintro e w' ⟨rfl, rfl⟩) | (refine (in_no _ _ _ _ (by omega)).mono ?_; rintro e w' ⟨rfl, rfl⟩))
          go_ret
          exact ⟨retb HF.out.symm, HB.out⟩
      · have HF : Hid (pb (fibP ⟨a, b, c, d⟩ n) = false) := Lib.hid (pb_false fun h => p3 ⟨h.2.2.2.1, h.2.2.2.2.1⟩)
        have q : c < 1 ∨ 5000 < c := by omega
        clear p3
        go_enter Try.func150, Try.ntmps150
        go_wp2_with (first | (refine (in_yes _ _ _ _ (by omega) (by omega)).mono ?_; rintro e w' ⟨rfl, rfl⟩) | (refine (in_no _ _ _ _ (by omega)).mono ?_; rintro e w' ⟨rfl, rfl⟩))
        go_ret
        exact ⟨retb HF.out.symm, HB.out⟩
    · have HF : Hid (pb (fibP ⟨a, b, c, d⟩ n) = false) := Lib.hid (pb_false fun h => p2 ⟨by have : a < b := h.2.1; omega, by have : b < (n : Int) := h.2.2.1; omega⟩)
      have q : b < a + 1 ∨ (n : Int) - 1 < b := by omega
      clear p2
      go_enter Try.func150, Try.ntmps150
      go_wp2_with (first | (refine (in_yes _ _ _ _ (by omega) (by omega)).mono ?_; rintro e w' ⟨rfl, rfl⟩) | (refine (in_no _ _ _ _ (by omega)).mono ?_; rintro e w' ⟨rfl, rfl⟩))
      go_ret
      exact ⟨retb HF.out.symm, HB.out⟩
  · have HF : Hid (pb (fibP ⟨a, b, c, d⟩ n) = false) := Lib.hid (pb_false fun h => p1 ⟨h.1, by have h1 : a < b := h.2.1; have h2 : b < (n : Int) := h.2.2.1; omega⟩)
    have q : a < 0 ∨ (n : Int) - 1 < a := by omega
    clear p1
    have HC := Lib.hid (fun W => in_no a 0 ((n : Int) - 1) W q)
    clear q
    go_enter Try.func150, Try.ntmps150
    go_wp2_with fail
    refine (HC.out _).mono ?_
    rintro e w' ⟨rfl, rfl⟩
    go_wp2
    go_ret
    exact ⟨retb HF.out.symm, HB.out⟩

def befV (f g : Q4) : Int := if f.a ≠ g.a then f.a - g.a else if f.b ≠ g.b then f.b - g.b else if f.c ≠ g.c then f.c - g.c else f.d - g.d
theorem befV_pos (f g : Q4) : 0 < befV f g ↔ lexLt g f := by
  unfold befV lexLt
  by_cases h1 : f.a = g.a
  · rw [if_neg (by simp [h1])]
    by_cases h2 : f.b = g.b
    · rw [if_neg (by simp [h2])]
      by_cases h3 : f.c = g.c
      · rw [if_neg (by simp [h3])]; omega
      · rw [if_pos h3]; omega
    · rw [if_pos h2]; omega
  · rw [if_pos h1]; omega
def smallQ (q : Q4) : Prop := (0 ≤ q.a ∧ q.a ≤ 1048576) ∧ (0 ≤ q.b ∧ q.b ≤ 1048576) ∧ (0 ≤ q.c ∧ q.c ≤ 1048576) ∧ (0 ≤ q.d ∧ q.d ≤ 1048576)
theorem fibP.small {q : Q4} {n : Nat} (h : fibP q n) (hn : n ≤ 1048576) : smallQ q := by
  obtain ⟨h1, h2, h3, h4, h5, h6, h7⟩ := h
  exact ⟨⟨by omega, by omega⟩, ⟨by omega, by omega⟩, ⟨by omega, by omega⟩, ⟨by omega, by omega⟩⟩

set_option maxRecDepth 100000 in
set_option maxHeartbeats 1000000 in
theorem specBef (f g : Q4) (w : World) (hf : smallQ f) (hg : smallQ g) :
    Calls Try.prog 151 #[cells4 f, cells4 g] w fun e w' => e = .returned (.int .i64 (befV f g)) ∧ Below w.heap.size w w' := by
  obtain ⟨fa, fb, fc, fd⟩ := f
  obtain ⟨ga, gb, gc, gd⟩ := g
  obtain ⟨⟨a1, a2⟩, ⟨b1, b2⟩, ⟨c1, c2⟩, ⟨d1, d2⟩⟩ := hf
  obtain ⟨⟨a3, a4⟩, ⟨b3, b4⟩, ⟨c3, c4⟩, ⟨d3, d4⟩⟩ := hg
  unfold cells4
  simp only at a1 a2 b1 b2 c1 c2 d1 d2 a3 a4 b3 b4 c3 c4 d3 d4
  have HB := Lib.hid (((Below.refl w.heap.size w).alloc (Nat.le_refl _) (Obj.cells #[.int .i64 fa, .int .i64 fb, .int .i64 fc, .int .i64 fd] 201)).alloc (by simp) (Obj.cells #[.int .i64 ga, .int .i64 gb, .int .i64 gc, .int .i64 gd] 201))
  by_cases h1 : fa = ga
  · subst h1
    by_cases h2 : fb = gb
    · subst h2
      by_cases h3 : fc = gc
      · subst h3
        have HV : Hid (befV ⟨fa, fb, fc, fd⟩ ⟨fa, fb, fc, gd⟩ = fd - gd) := Lib.hid (by unfold befV; simp)
        go_enter Try.func151, Try.ntmps151
        go_wp2
        go_ret
        exact ⟨reti HV.out.symm, HB.out⟩
      · have HV : Hid (befV ⟨fa, fb, fc, fd⟩ ⟨fa, fb, gc, gd⟩ = fc - gc) := Lib.hid (by unfold befV; simp [h3])
        have q : (fc != gc) = true := by simpa using h3
        have q2 : (fc == gc) = false := by simpa using h3
        clear h3
        go_enter Try.func151, Try.ntmps151
        go_wp2
        go_ret
        exact ⟨reti HV.out.symm, HB.out⟩
    · have HV : Hid (befV ⟨fa, fb, fc, fd⟩ ⟨fa, gb, gc, gd⟩ = fb - gb) := Lib.hid (by unfold befV; simp [h2])
      have q : (fb != gb) = true := by simpa using h2
      have q2 : (fb == gb) = false := by simpa using h2
      clear h2
      go_enter Try.func151, Try.ntmps151
      go_wp2
      go_ret
      exact ⟨reti HV.out.symm, HB.out⟩
  · have HV : Hid (befV ⟨fa, fb, fc, fd⟩ ⟨ga, gb, gc, gd⟩ = fa - ga) := Lib.hid (by unfold befV; simp [h1])
    have q : (fa != ga) = true := by simpa using h1
    have q2 : (fa == ga) = false := by simpa using h1
    clear h1
    go_enter Try.func151, Try.ntmps151
    go_wp2
    go_ret
    exact ⟨reti HV.out.symm, HB.out⟩

/-- the first place at which a list of strings holds s, or -1. -/
def findV (ss : List ByteArray) (s : ByteArray) : Int := match ss.findIdx? (fun x => x.toList == s.toList) with | some i => (i : Int) | none => -1
theorem findV_at (ss : List ByteArray) (s : ByteArray) (k : Nat) (hk : k < ss.length) (h1 : ∀ j (h : j < ss.length), j < k → ss[j].toList ≠ s.toList) (h2 : ss[k].toList = s.toList) : findV ss s = k := by
  unfold findV
  have : ss.findIdx? (fun x => x.toList == s.toList) = some k := by
    rw [List.findIdx?_eq_some_iff_getElem]
    exact ⟨hk, by simpa using h2, fun j hj => by simpa using h1 j (by omega) hj⟩
  rw [this]
theorem findV_no (ss : List ByteArray) (s : ByteArray) (h1 : ∀ j (h : j < ss.length), ss[j].toList ≠ s.toList) : findV ss s = -1 := by
  unfold findV
  have : ss.findIdx? (fun x => x.toList == s.toList) = none := by
    rw [List.findIdx?_eq_none_iff]
    intro x hx
    obtain ⟨j, hj, rfl⟩ := List.getElem_of_mem hx
    simpa using h1 j hj
  rw [this]

set_option maxHeartbeats 1000000 in
theorem find_any (A : Option Addr) (n c : Nat) (ss : List ByteArray) (s : ByteArray) (w : World) (hn : ss.length = n) (hm : n ≤ 1048576) (hr : Rd w w.heap.size A (ss.map Value.string)) :
    Calls Try.prog 149 #[.slice A n c, .string s] w fun e w' => e = .returned (.int .i64 (findV ss s)) ∧ w = w' := by
  have HN := Lib.hid hn; clear hn
  go_enter Try.func149, Try.ntmps149
  go_wp2
  go_loop [5] (fun i => ∃ k : Nat, k ≤ n ∧ i = .int .i64 k ∧ (∀ j (h : j < ss.length), j < k → ss[j].toList ≠ s.toList)) (fun i => n - (intOf i).toNat)
  case atStart => exact ⟨0, Nat.zero_le _, rfl, fun j _ h => absurd h (by omega)⟩
  case round =>
    obtain ⟨k, hk, rfl, hall⟩ := hrel
    have HA := Lib.hid hall; clear hall
    by_cases hlt : k < n
    · have hks : k < ss.length := by have := HN.out; omega
      obtain ⟨ad, rfl, _, hcell⟩ := hr.got (k := k) (by simpa using hks)
      rw [strGet ss k hks] at hcell
      obtain ⟨x, hx⟩ : ∃ x, ss[k]'hks = x := ⟨_, rfl⟩
      by_cases heq : x = s
      · have HV : Hid (findV ss s = k) := Lib.hid (findV_at ss s k hks HA.out (by rw [hx, heq]))
        subst heq
        rw [hx] at hcell
        clear hx
        go_wp2
        go_ret
        exact ⟨reti HV.out.symm, rfl⟩
      · have HS : Hid (∀ j (h : j < ss.length), j < k + 1 → ss[j].toList ≠ s.toList) := Lib.hid (by
          intro j h hj
          by_cases hjk : j < k
          · exact HA.out j h hjk
          · obtain rfl : j = k := by omega
            rw [hx]; exact fun e => heq (tl_inj e))
        have q1 := tl_ne heq
        rw [hx] at hcell
        clear hx heq
        go_wp2
        go_round
        case rel => exact ⟨k + 1, by omega, by go_num, HS.out⟩
        case measure => simp [intOf]; omega
    · have hkn : k = n := by omega
      subst hkn
      have HV : Hid (findV ss s = -1) := Lib.hid (findV_no ss s (fun j h => HA.out j h (by have := HN.out; omega)))
      clear hlt
      go_wp2
      go_ret
      exact ⟨reti HV.out.symm, rfl⟩
end Go.Proofs.Ytlgkjidginibdaa

namespace Go.Proofs.Ytlgkjidginibdaa
open Go.RowKit

theorem wp_region_class {P : Program} {T : Type} (f : T → World) {id : Nat} {Q : Exit → Act → World → Prop} {a : Act} {w : World} {l : List Oper} (hm : P.follows .mixedOrders = true) (hB : Region.lexB .any l.toArray = true) (x0 : T) (hx0 : f x0 = w.drew)
    (h : wpQuiet P l.toArray (fun w' => ∃ x, w' = f x) (fun a' => ∀ w', (∃ x, w' = f x) → Q .normal a' w') l a) : (Code.region id l.toArray true).wp P Q a w :=
  wp_region_quiet (C := fun w' => ∃ x, w' = f x) hm hB ⟨x0, hx0.symm⟩ (by simpa using h)

/-- the worlds that keep what wr held. -/
theorem above (wr : World) : ∃ (T : Type) (f : T → World) (x0 : T), f x0 = wr.drew ∧ (∀ x, Below wr.heap.size wr (f x)) ∧ Hid (∀ x w2, Below (f x).heap.size (f x) w2 → ∃ y, w2 = f y) :=
  ⟨{ W // Below wr.heap.size wr W }, Subtype.val, ⟨wr.drew, (Below.refl _ _).drew⟩, rfl, fun x => x.2, Lib.hid fun x w2 h => ⟨⟨w2, x.2.trans (h.mono x.2.size)⟩, rfl⟩⟩

/-- a callee in such a region: one value, and nothing of what was there has changed. -/
theorem Calls.inClass {P : Program} {T : Type} {f : T → World} (hst : Hid (∀ x w2, Below (f x).heap.size (f x) w2 → ∃ y, w2 = f y)) {fn : FuncId} {args : Array Value} {x : T} {v : Value}
    (h : Calls P fn args (f x) fun e w' => e = .returned v ∧ Below (f x).heap.size (f x) w') : Calls P fn args (f x) fun e w'' => e = .returned v ∧ ∃ y, w'' = f y :=
  h.mono fun _ _ ⟨he, hb⟩ => ⟨he, hst.out _ _ hb⟩
end Go.Proofs.Ytlgkjidginibdaa

namespace Go.Proofs.Ytlgkjidginibdaa
open Go.ChangeShapes Go.WideShapes Go.ChangeAt Go.RowKit

theorem Rd.ofHeap {w W : World} {B : Nat} {A : Option Addr} {xs : List Value} (h : Rd w B A xs) (hh : W.heap = w.heap) : Rd W B A xs := by
  intro k u hu
  obtain ⟨ad, e, hl, hc⟩ := h k u hu
  exact ⟨ad, e, hl, by rw [← hc]; unfold World.cell?; rw [hh]⟩
theorem nameAt.mk {ss : List ByteArray} {k : Nat} {s : ByteArray} (hks : k < ss.length) (hs : ss[k] = s) (h1 : nameP s) (h2 : findV ss s = k) : nameAt ss k := by
  intro h
  refine ⟨by rw [hs]; exact h1, fun j hj he => ?_⟩
  rw [hs] at he
  by_cases hex : ∃ i, i < ss.length ∧ i < k ∧ ∃ h : i < ss.length, ss[i].toList = s.toList
  · unfold findV at h2
    cases hf : ss.findIdx? (fun x => x.toList == s.toList) with
    | none => rw [hf] at h2; simp at h2
    | some i =>
      rw [hf] at h2
      have hi : i = k := by have h3 : (i : Int) = k := h2; omega
      subst hi
      obtain ⟨_, _, hno⟩ := List.findIdx?_eq_some_iff_getElem.1 hf
      have := hno j hj
      simp [he] at this
  · exact hex ⟨j, by omega, hj, by omega, he⟩
theorem nameAt.find {ss : List ByteArray} {k : Nat} {s : ByteArray} (hks : k < ss.length) (hs : ss[k] = s) (h : nameAt ss k) : nameP s ∧ findV ss s = k := by
  have := h hks
  refine ⟨by rw [← hs]; exact this.1, findV_at ss s k hks (fun j hj hjk => ?_) (by rw [hs])⟩
  rw [← hs]; exact this.2 j hjk

set_option maxRecDepth 100000 in
set_option maxHeartbeats 4000000 in
theorem specNet (g1 g2 n1 n2 c1 c2 : Nat) (ss : List ByteArray) (fs : List Q4) (w : World) (hn1 : ss.length = n1) (hs1 : n1 ≤ 1048576) (hr1 : Rd w w.heap.size (some ⟨g1, 0, none⟩) (ss.map Value.string)) (hws : ∀ s ∈ ss, s.size ≤ maxLen)
    (hn2 : fs.length = n2) (hs2 : n2 ≤ 1048576) (hr2 : Rd w w.heap.size (some ⟨g2, 0, none⟩) (fs.flatMap Q4.cells)) :
    Calls Try.prog 80 #[.agg #[.slice (some ⟨g1, 0, none⟩) n1 c1, .slice (some ⟨g2, 0, none⟩) n2 c2]] w (BoolP (pb (netP ss fs)) w) := by
  have HN1 := Lib.hid hn1; have HN2 := Lib.hid hn2; have HWS := Lib.hid hws; clear hn1 hn2 hws
  have HB0 := Lib.hid ((Below.refl w.heap.size w).alloc (Nat.le_refl _) (Obj.cells #[.slice (some ⟨g1, 0, none⟩) n1 c1, .slice (some ⟨g2, 0, none⟩) n2 c2] 39))
  by_cases hl : 2 ≤ n1 ∧ n1 ≤ 8
  case neg =>
    have HF : Hid (pb (netP ss fs) = false) := Lib.hid (pb_false fun h => hl (by have := h.1; have := HN1.out; omega))
    have q : (n1 : Int) < 2 ∨ 8 < (n1 : Int) := by omega
    have HC := Lib.hid (fun W => in_no (n1 : Int) 2 8 W q)
    clear hl q
    go_enter Try.func80, Try.ntmps80
    go_wp2_with (refine (HC.out _).mono ?_; rintro e w' ⟨rfl, rfl⟩)
    go_ret
    exact boolP HF.out.symm HB0.out
  case pos =>
  obtain ⟨hl1, hl2⟩ := hl
  have HC := Lib.hid (fun W => in_yes (n1 : Int) 2 8 W (by omega) (by omega))
  by_cases h14 : n2 ≤ 14
  case neg =>
    have HF : Hid (pb (netP ss fs) = false) := Lib.hid (pb_false fun h => h14 (by have := h.2.1; have := HN2.out; omega))
    have q : 14 < (n2 : Int) := by omega
    clear h14
    go_enter Try.func80, Try.ntmps80
    go_wp2_with (refine (HC.out _).mono ?_; rintro e w' ⟨rfl, rfl⟩)
    go_ret
    exact boolP HF.out.symm HB0.out
  case pos =>
  have q14 : (n2 : Int) ≤ 14 := by omega
  go_enter Try.func80, Try.ntmps80
  go_wp2_with (refine (HC.out _).mono ?_; rintro e w' ⟨rfl, rfl⟩)
  obtain ⟨W0, hW0⟩ : ∃ W0, (w.alloc (Obj.cells #[.slice (some ⟨g1, 0, none⟩) n1 c1, .slice (some ⟨g2, 0, none⟩) n2 c2] 39)) = W0 := ⟨_, rfl⟩
  have hk0 : W0.cell? ⟨w.heap.size, 0, none⟩ = some (.slice (some ⟨g1, 0, none⟩) n1 c1) := by rw [← hW0]; simp [go_sem]
  have hk1 : W0.cell? ⟨w.heap.size, 1, none⟩ = some (.slice (some ⟨g2, 0, none⟩) n2 c2) := by rw [← hW0]; simp [go_sem]
  have hz0 : w.heap.size < W0.heap.size := by rw [← hW0]; simp
  rw [hW0] at HB0 ⊢
  clear hW0
  have HR1 := Lib.hid (hr1.moved HB0.out); have HR2 := Lib.hid (hr2.moved HB0.out)
  have HK0 := Lib.hid hk0; have HK1 := Lib.hid hk1
  clear hr1 hr2 hk0 hk1 HC
  go_loopw [3] (fun i wr => ∃ k : Nat, k ≤ n1 ∧ i = .int .i64 k ∧ (∀ j, j < k → nameAt ss j) ∧ Below W0.heap.size W0 wr) (fun i _ => n1 - (intOf i).toNat)
  case atStart => exact ⟨0, Nat.zero_le _, rfl, fun j h => absurd h (by omega), Below.refl _ _⟩
  case round =>
    obtain ⟨k, hk, rfl, hall, hb⟩ := hrel
    have HA := Lib.hid hall; clear hall
    have hc0 := HK0.out; have hc1 := HK1.out
    rw [← hb.cell (p := ⟨w.heap.size, 0, none⟩) hz0] at hc0
    rw [← hb.cell (p := ⟨w.heap.size, 1, none⟩) hz0] at hc1
    by_cases hlt : k < n1
    · have hks : k < ss.length := by have := HN1.out; omega
      obtain ⟨ad, e, _, hcell⟩ := (HR1.out.over hb).got (k := k) (by simpa using hks)
      injection e with e; subst e
      have ea : (⟨g1, 0, none⟩ : Addr).add k = ⟨g1, k, none⟩ := by unfold Addr.add; by_cases h : k = 0 <;> simp [h]
      rw [ea, strGet ss k hks] at hcell
      clear ea
      obtain ⟨s, hs⟩ : ∃ s, ss[k]'hks = s := ⟨_, rfl⟩
      have hsm : s.size ≤ maxLen := by rw [← hs]; exact HWS.out _ (List.getElem_mem hks)
      rw [hs] at hcell
      have HRW := Lib.hid ((HR1.out.over hb).wider hb.size)
      by_cases hnm : nameP s
      · have CN : Hid (∀ W, Calls Try.prog 148 #[.string s] W fun e w' => e = .returned (.bool true) ∧ w' = W) := Lib.hid fun W =>
          (specName s W hsm).mono fun e w' ⟨h1, h2⟩ => ⟨by rw [h1, pb_true hnm], h2.symm⟩
        have CF : Hid (∀ W, W.heap = wr.heap → Calls Try.prog 149 #[.slice (some ⟨g1, 0, none⟩) n1 c1, .string s] W fun e w' => e = .returned (.int .i64 (findV ss s)) ∧ w' = W) := Lib.hid fun W hW =>
          (find_any (some ⟨g1, 0, none⟩) n1 c1 ss s W HN1.out hs1 (by rw [hW]; exact HRW.out.ofHeap hW)).mono fun e w' ⟨h1, h2⟩ => ⟨h1, h2.symm⟩
        by_cases hfd : findV ss s = k
        · have HS : Hid (∀ j, j < k + 1 → nameAt ss j) := Lib.hid (by
            intro j hj
            by_cases hjk : j < k
            · exact HA.out j hjk
            · obtain rfl : j = k := by omega
              exact nameAt.mk hks hs hnm hfd)
          rw [hfd] at CF
          clear hfd hs hnm hsm
          go_wp2
          go_quiet ((first | (go_at_call 148; exact Calls.quiet_of_same (CN.out _)) | (go_at_call 149; exact Calls.quiet_of_same (CF.out _ rfl))))
          go_wp2
          go_roundw
          case rel => exact ⟨k + 1, by omega, by go_num, HS.out, drewN_below hb _⟩
          case measure => simp [intOf]; omega
        · have HF : Hid (pb (netP ss fs) = false) := Lib.hid (pb_false fun h => hfd (nameAt.find hks hs (h.2.2.1 k hks)).2)
          obtain ⟨z, hz⟩ : ∃ z, findV ss s = z := ⟨_, rfl⟩
          rw [hz] at CF hfd
          have q1 : (z == (k : Int)) = false := by simpa using hfd
          have q2 : (z != (k : Int)) = true := by simpa using hfd
          clear hfd hs hnm hsm hz
          go_wp2
          go_quiet ((first | (go_at_call 148; exact Calls.quiet_of_same (CN.out _)) | (go_at_call 149; exact Calls.quiet_of_same (CF.out _ rfl))))
          go_wp2
          go_ret
          exact boolP HF.out.symm (drewN_below (HB0.out.trans (hb.mono HB0.out.size)) _)
      · have HF : Hid (pb (netP ss fs) = false) := Lib.hid (pb_false fun h => hnm (nameAt.find hks hs (h.2.2.1 k hks)).1)
        have CN : Hid (∀ W, Calls Try.prog 148 #[.string s] W fun e w' => e = .returned (.bool false) ∧ w' = W) := Lib.hid fun W =>
          (specName s W hsm).mono fun e w' ⟨h1, h2⟩ => ⟨by rw [h1, pb_false hnm], h2.symm⟩
        clear hs hnm hsm
        go_wp2
        go_quiet ((go_at_call 148; exact Calls.quiet_of_same (CN.out _)))
        go_wp2
        go_ret
        exact boolP HF.out.symm (drewN_below (HB0.out.trans (hb.mono HB0.out.size)) _)
    · have hkn : k = n1 := by omega
      subst hkn
      clear hlt
      go_wp2
      go_loopw [4] (fun i wr' => ∃ j : Nat, j ≤ n2 ∧ i = .int .i64 j ∧ (∀ l, l < j → fibAt fs k l) ∧ Below W0.heap.size W0 wr') (fun i _ => n2 - (intOf i).toNat)
      case atStart => exact ⟨0, Nat.zero_le _, rfl, fun j h => absurd h (by omega), hb⟩
      case round =>
        clear hc0 hc1 hb
        obtain ⟨j, hj, rfl, hfall, hb⟩ := hrel
        have HFA := Lib.hid hfall; clear hfall
        have hc0 := HK0.out; have hc1 := HK1.out
        rw [← hb.cell (p := ⟨w.heap.size, 0, none⟩) hz0] at hc0
        rw [← hb.cell (p := ⟨w.heap.size, 1, none⟩) hz0] at hc1
        by_cases hlt : j < n2
        · have hjs : j < fs.length := by have := HN2.out; omega
          obtain ⟨hg2, f0, f1, f2, f3⟩ := (HR2.out.over hb).q4c hjs
          rw [Nat.zero_add] at f0 f1 f2 f3
          obtain ⟨⟨a, b, c, d⟩, hq⟩ : ∃ q, fs[j]'hjs = q := ⟨_, rfl⟩
          rw [hq] at f0 f1 f2 f3
          simp only at f0 f1 f2 f3
          by_cases hfp : fibP ⟨a, b, c, d⟩ k
          · have CF : Hid (∀ W, Calls Try.prog 150 #[.agg #[.int .i64 a, .int .i64 b, .int .i64 c, .int .i64 d], .int .i64 k] W fun e w' => e = .returned (.bool true) ∧ Below W.heap.size W w') := Lib.hid fun W =>
              (specFib ⟨a, b, c, d⟩ k W hs1).mono fun e w' ⟨h1, h2⟩ => ⟨by rw [h1, pb_true hfp], h2⟩
            by_cases hj0 : j = 0
            · subst hj0
              have HS : Hid (∀ l, l < 0 + 1 → fibAt fs k l) := Lib.hid (by
                intro l hl h
                obtain rfl : l = 0 := by omega
                exact ⟨by rw [hq]; exact hfp, fun h0 => absurd h0 (by omega)⟩)
              clear hfp hq
              simp only [Nat.zero_mul, Nat.zero_add] at f0 f1 f2 f3
              go_wp2
              obtain ⟨T, f, x0, hx0, hT, HST⟩ := above wr
              haveI : Nonempty T := ⟨x0⟩
              have hgw : g2 < wr.heap.size := by have := hb.size; omega
              have hbw : w.heap.size < wr.heap.size := by have := hb.size; omega
              have r0 : ∀ x, (f x).cell? ⟨w.heap.size, 0, none⟩ = some (.slice (some ⟨g1, 0, none⟩) k c1) := fun x => ((hT x).cell (p := ⟨_, _, none⟩) hbw).trans hc0
              have r1 : ∀ x, (f x).cell? ⟨w.heap.size, 1, none⟩ = some (.slice (some ⟨g2, 0, none⟩) n2 c2) := fun x => ((hT x).cell (p := ⟨_, _, none⟩) hbw).trans hc1
              have r2 : ∀ x, (f x).cell? ⟨g2, 0, none⟩ = some (.int .i64 a) := fun x => ((hT x).cell (p := ⟨_, _, none⟩) hgw).trans f0
              have r3 : ∀ x, (f x).cell? ⟨g2, 1, none⟩ = some (.int .i64 b) := fun x => ((hT x).cell (p := ⟨_, _, none⟩) hgw).trans f1
              have r4 : ∀ x, (f x).cell? ⟨g2, 2, none⟩ = some (.int .i64 c) := fun x => ((hT x).cell (p := ⟨_, _, none⟩) hgw).trans f2
              have r5 : ∀ x, (f x).cell? ⟨g2, 3, none⟩ = some (.int .i64 d) := fun x => ((hT x).cell (p := ⟨_, _, none⟩) hgw).trans f3
              have HT := Lib.hid hT; have HX := Lib.hid hx0; clear hT hx0 hc0 hc1 f0 f1 f2 f3
              refine wp_region_class f (by kernel_rfl) (by kernel_rfl) x0 HX.out ?_
              repeat (go_big_quiet_step ((go_at_call 150; exact Calls.inClass HST (CF.out _))))
              refine wpQuiet_nil ?_
              rintro _ ⟨x, rfl⟩
              go_wp2
              go_roundw
              case rel => exact ⟨0 + 1, by omega, rfl, HS.out, hb.trans ((HT.out x).mono hb.size)⟩
              case measure => simp [intOf]; omega
            · obtain ⟨m, hjm⟩ : ∃ m, j = m + 1 := ⟨j - 1, by omega⟩
              have hwr := pred_wrap j m hjm (by omega)
              have hms : m < fs.length := by omega
              have hmn : (m : Int) < n2 := by omega
              obtain ⟨_, p0, p1, p2, p3⟩ := (HR2.out.over hb).q4c hms
              rw [Nat.zero_add] at p0 p1 p2 p3
              obtain ⟨⟨a', b', c', d'⟩, hqm⟩ : ∃ q, fs[m]'hms = q := ⟨_, rfl⟩
              have hfm := (HFA.out m (by omega) hms).1
              rw [hqm] at p0 p1 p2 p3 hfm
              simp only at p0 p1 p2 p3
              have HP : Hid (∀ h : j - 1 < fs.length, fs[j - 1] = ⟨a', b', c', d'⟩) := Lib.hid (fun h => by
                subst hjm
                exact hqm)
              have hd0 : decide (0 < j) = true := decide_eq_true (by omega)
              have hsm1 := hfm.small hs1
              have hsm2 := hfp.small hs1
              have CB : Hid (∀ W, Calls Try.prog 151 #[.agg #[.int .i64 a', .int .i64 b', .int .i64 c', .int .i64 d'], .agg #[.int .i64 a, .int .i64 b, .int .i64 c, .int .i64 d]] W fun e w' => e = .returned (.int .i64 (befV ⟨a', b', c', d'⟩ ⟨a, b, c, d⟩)) ∧ Below W.heap.size W w') := Lib.hid fun W =>
                specBef ⟨a', b', c', d'⟩ ⟨a, b, c, d⟩ W hsm1 hsm2
              have hpos := befV_pos ⟨a', b', c', d'⟩ ⟨a, b, c, d⟩
              obtain ⟨z, hz⟩ : ∃ z, befV ⟨a', b', c', d'⟩ ⟨a, b, c, d⟩ = z := ⟨_, rfl⟩
              rw [hz] at CB hpos
              have HPOS := Lib.hid hpos
              clear hpos hz hqm hjm hj0 hfm hsm1 hsm2
              by_cases hzp : 0 < z
              · have HF : Hid (pb (netP ss fs) = false) := Lib.hid (pb_false fun h => by
                  have := (h.2.2.2 j hjs hjs).2 (of_decide_eq_true hd0)
                  rw [hq, HP.out (by omega)] at this
                  exact this (HPOS.out.1 hzp))
                clear hfp hq
                go_wp2
                obtain ⟨T, f, x0, hx0, hT, HST⟩ := above wr
                haveI : Nonempty T := ⟨x0⟩
                have hgw : g2 < wr.heap.size := by have := hb.size; omega
                have hbw : w.heap.size < wr.heap.size := by have := hb.size; omega
                have r0 : ∀ x, (f x).cell? ⟨w.heap.size, 0, none⟩ = some (.slice (some ⟨g1, 0, none⟩) k c1) := fun x => ((hT x).cell (p := ⟨_, _, none⟩) hbw).trans hc0
                have r1 : ∀ x, (f x).cell? ⟨w.heap.size, 1, none⟩ = some (.slice (some ⟨g2, 0, none⟩) n2 c2) := fun x => ((hT x).cell (p := ⟨_, _, none⟩) hbw).trans hc1
                have r2 : ∀ x, (f x).cell? ⟨g2, j * 4, none⟩ = some (.int .i64 a) := fun x => ((hT x).cell (p := ⟨_, _, none⟩) hgw).trans f0
                have r3 : ∀ x, (f x).cell? ⟨g2, j * 4 + 1, none⟩ = some (.int .i64 b) := fun x => ((hT x).cell (p := ⟨_, _, none⟩) hgw).trans f1
                have r4 : ∀ x, (f x).cell? ⟨g2, j * 4 + 2, none⟩ = some (.int .i64 c) := fun x => ((hT x).cell (p := ⟨_, _, none⟩) hgw).trans f2
                have r5 : ∀ x, (f x).cell? ⟨g2, j * 4 + 3, none⟩ = some (.int .i64 d) := fun x => ((hT x).cell (p := ⟨_, _, none⟩) hgw).trans f3
                have r6 : ∀ x, (f x).cell? ⟨g2, m * 4, none⟩ = some (.int .i64 a') := fun x => ((hT x).cell (p := ⟨_, _, none⟩) hgw).trans p0
                have r7 : ∀ x, (f x).cell? ⟨g2, m * 4 + 1, none⟩ = some (.int .i64 b') := fun x => ((hT x).cell (p := ⟨_, _, none⟩) hgw).trans p1
                have r8 : ∀ x, (f x).cell? ⟨g2, m * 4 + 2, none⟩ = some (.int .i64 c') := fun x => ((hT x).cell (p := ⟨_, _, none⟩) hgw).trans p2
                have r9 : ∀ x, (f x).cell? ⟨g2, m * 4 + 3, none⟩ = some (.int .i64 d') := fun x => ((hT x).cell (p := ⟨_, _, none⟩) hgw).trans p3
                have HT := Lib.hid hT; have HX := Lib.hid hx0; clear hT hx0 hc0 hc1 f0 f1 f2 f3 p0 p1 p2 p3
                refine wp_region_class f (by kernel_rfl) (by kernel_rfl) x0 HX.out ?_
                repeat (go_big_quiet_step ((first | (go_at_call 150; exact Calls.inClass HST (CF.out _)) | (go_at_call 151; exact Calls.inClass HST (CB.out _)))))
                refine wpQuiet_nil ?_
                rintro _ ⟨x, rfl⟩
                clear hwr
                go_wp2
                go_ret
                exact boolP HF.out.symm ((HB0.out.trans (hb.mono HB0.out.size)).trans ((HT.out x).mono (by have := HB0.out.size; have := hb.size; omega)))
              · have HS : Hid (∀ l, l < j + 1 → fibAt fs k l) := Lib.hid (by
                  intro l hl h
                  by_cases hlj : l < j
                  · exact HFA.out l hlj h
                  · obtain rfl : l = j := by omega
                    refine ⟨by rw [hq]; exact hfp, fun h0 => ?_⟩
                    rw [hq, HP.out (by omega)]
                    exact fun hx => hzp (HPOS.out.2 hx))
                have hzn : z ≤ 0 := by omega
                clear hfp hq hzp
                go_wp2
                obtain ⟨T, f, x0, hx0, hT, HST⟩ := above wr
                haveI : Nonempty T := ⟨x0⟩
                have hgw : g2 < wr.heap.size := by have := hb.size; omega
                have hbw : w.heap.size < wr.heap.size := by have := hb.size; omega
                have r0 : ∀ x, (f x).cell? ⟨w.heap.size, 0, none⟩ = some (.slice (some ⟨g1, 0, none⟩) k c1) := fun x => ((hT x).cell (p := ⟨_, _, none⟩) hbw).trans hc0
                have r1 : ∀ x, (f x).cell? ⟨w.heap.size, 1, none⟩ = some (.slice (some ⟨g2, 0, none⟩) n2 c2) := fun x => ((hT x).cell (p := ⟨_, _, none⟩) hbw).trans hc1
                have r2 : ∀ x, (f x).cell? ⟨g2, j * 4, none⟩ = some (.int .i64 a) := fun x => ((hT x).cell (p := ⟨_, _, none⟩) hgw).trans f0
                have r3 : ∀ x, (f x).cell? ⟨g2, j * 4 + 1, none⟩ = some (.int .i64 b) := fun x => ((hT x).cell (p := ⟨_, _, none⟩) hgw).trans f1
                have r4 : ∀ x, (f x).cell? ⟨g2, j * 4 + 2, none⟩ = some (.int .i64 c) := fun x => ((hT x).cell (p := ⟨_, _, none⟩) hgw).trans f2
                have r5 : ∀ x, (f x).cell? ⟨g2, j * 4 + 3, none⟩ = some (.int .i64 d) := fun x => ((hT x).cell (p := ⟨_, _, none⟩) hgw).trans f3
                have r6 : ∀ x, (f x).cell? ⟨g2, m * 4, none⟩ = some (.int .i64 a') := fun x => ((hT x).cell (p := ⟨_, _, none⟩) hgw).trans p0
                have r7 : ∀ x, (f x).cell? ⟨g2, m * 4 + 1, none⟩ = some (.int .i64 b') := fun x => ((hT x).cell (p := ⟨_, _, none⟩) hgw).trans p1
                have r8 : ∀ x, (f x).cell? ⟨g2, m * 4 + 2, none⟩ = some (.int .i64 c') := fun x => ((hT x).cell (p := ⟨_, _, none⟩) hgw).trans p2
                have r9 : ∀ x, (f x).cell? ⟨g2, m * 4 + 3, none⟩ = some (.int .i64 d') := fun x => ((hT x).cell (p := ⟨_, _, none⟩) hgw).trans p3
                have HT := Lib.hid hT; have HX := Lib.hid hx0; clear hT hx0 hc0 hc1 f0 f1 f2 f3 p0 p1 p2 p3
                refine wp_region_class f (by kernel_rfl) (by kernel_rfl) x0 HX.out ?_
                repeat (go_big_quiet_step ((first | (go_at_call 150; exact Calls.inClass HST (CF.out _)) | (go_at_call 151; exact Calls.inClass HST (CB.out _)))))
                refine wpQuiet_nil ?_
                rintro _ ⟨x, rfl⟩
                clear hwr
                go_wp2
                go_roundw
                case rel => exact ⟨j + 1, by omega, by go_num, HS.out, hb.trans ((HT.out x).mono hb.size)⟩
                case measure => simp [intOf]; omega
          · have CF : Hid (∀ W, Calls Try.prog 150 #[.agg #[.int .i64 a, .int .i64 b, .int .i64 c, .int .i64 d], .int .i64 k] W fun e w' => e = .returned (.bool false) ∧ Below W.heap.size W w') := Lib.hid fun W =>
              (specFib ⟨a, b, c, d⟩ k W hs1).mono fun e w' ⟨h1, h2⟩ => ⟨by rw [h1, pb_false hfp], h2⟩
            have HF : Hid (pb (netP ss fs) = false) := Lib.hid (pb_false fun h => hfp (by
              have := (h.2.2.2 j hjs hjs).1
              rw [hq, HN1.out] at this
              exact this))
            clear hfp hq
            go_wp2
            obtain ⟨T, f, x0, hx0, hT, HST⟩ := above wr
            haveI : Nonempty T := ⟨x0⟩
            have hgw : g2 < wr.heap.size := by have := hb.size; omega
            have hbw : w.heap.size < wr.heap.size := by have := hb.size; omega
            have r0 : ∀ x, (f x).cell? ⟨w.heap.size, 0, none⟩ = some (.slice (some ⟨g1, 0, none⟩) k c1) := fun x => ((hT x).cell (p := ⟨_, _, none⟩) hbw).trans hc0
            have r1 : ∀ x, (f x).cell? ⟨w.heap.size, 1, none⟩ = some (.slice (some ⟨g2, 0, none⟩) n2 c2) := fun x => ((hT x).cell (p := ⟨_, _, none⟩) hbw).trans hc1
            have r2 : ∀ x, (f x).cell? ⟨g2, j * 4, none⟩ = some (.int .i64 a) := fun x => ((hT x).cell (p := ⟨_, _, none⟩) hgw).trans f0
            have r3 : ∀ x, (f x).cell? ⟨g2, j * 4 + 1, none⟩ = some (.int .i64 b) := fun x => ((hT x).cell (p := ⟨_, _, none⟩) hgw).trans f1
            have r4 : ∀ x, (f x).cell? ⟨g2, j * 4 + 2, none⟩ = some (.int .i64 c) := fun x => ((hT x).cell (p := ⟨_, _, none⟩) hgw).trans f2
            have r5 : ∀ x, (f x).cell? ⟨g2, j * 4 + 3, none⟩ = some (.int .i64 d) := fun x => ((hT x).cell (p := ⟨_, _, none⟩) hgw).trans f3
            have HT := Lib.hid hT; have HX := Lib.hid hx0; clear hT hx0 hc0 hc1 f0 f1 f2 f3
            refine wp_region_class f (by kernel_rfl) (by kernel_rfl) x0 HX.out ?_
            repeat (go_big_quiet_step ((go_at_call 150; exact Calls.inClass HST (CF.out _))))
            refine wpQuiet_nil ?_
            rintro _ ⟨x, rfl⟩
            go_wp2
            go_ret
            exact boolP HF.out.symm ((HB0.out.trans (hb.mono HB0.out.size)).trans ((HT.out x).mono (by have := HB0.out.size; have := hb.size; omega)))
        · have hjn : j = n2 := by omega
          have HT : Hid (pb (netP ss fs) = true) := Lib.hid (pb_true ⟨⟨by have := HN1.out; omega, by have := HN1.out; omega⟩, by have := HN2.out; omega, fun i hi => HA.out i (by have := HN1.out; omega), fun i hi => by rw [HN1.out]; exact HFA.out i (by have := HN2.out; omega)⟩)
          subst hjn
          clear hlt
          go_wp2
          go_ret
          exact boolP HT.out.symm (HB0.out.trans (hb.mono HB0.out.size))
end Go.Proofs.Ytlgkjidginibdaa

namespace Go.Proofs.Ytlgkjidginibdaa
open Go.ChangeShapes Go.WideShapes Go.ChangeAt Go.RowKit

theorem nameAt.take {ss : List ByteArray} {k : Nat} {s : ByteArray} (hks : k < ss.length) (hs : ss[k] = s) : nameAt ss k ↔ (nameP s ∧ Lib.containsS (ss.take k) s = false) := by
  constructor
  · intro h
    have h := h hks
    refine ⟨by rw [← hs]; exact h.1, ?_⟩
    rw [Bool.eq_false_iff]
    intro hc
    obtain ⟨j, hj, e⟩ := List.getElem_of_mem ((Lib.containsS_iff _ _).1 hc)
    rw [List.length_take] at hj
    have := h.2 j (by omega)
    rw [List.getElem_take] at e
    exact this (by rw [e, hs])
  · rintro ⟨h1, h2⟩ h
    refine ⟨by rw [hs]; exact h1, fun j hj he => ?_⟩
    rw [hs] at he
    have : s ∈ ss.take k := by
      rw [← tl_inj he]
      exact List.mem_of_getElem? (i := j) (by rw [List.getElem?_take, if_pos hj, List.getElem?_eq_getElem (by omega)])
    rw [(Lib.containsS_iff _ _).2 this] at h2
    cases h2

set_option maxRecDepth 100000 in
set_option maxHeartbeats 4000000 in
theorem implNet (g1 g2 n1 n2 c1 c2 : Nat) (ss : List ByteArray) (fs : List Q4) (w : World) (hn1 : ss.length = n1) (hs1 : n1 ≤ 1048576) (hcap : n1 ≤ c1) (hr1 : Rd w w.heap.size (some ⟨g1, 0, none⟩) (ss.map Value.string)) (hws : ∀ s ∈ ss, s.size ≤ maxLen)
    (hn2 : fs.length = n2) (hs2 : n2 ≤ 1048576) (hr2 : Rd w w.heap.size (some ⟨g2, 0, none⟩) (fs.flatMap Q4.cells)) :
    Calls Try.prog 85 #[.agg #[.slice (some ⟨g1, 0, none⟩) n1 c1, .slice (some ⟨g2, 0, none⟩) n2 c2]] w (BoolP (pb (netP ss fs)) w) := by
  have HN1 := Lib.hid hn1; have HN2 := Lib.hid hn2; have HWS := Lib.hid hws; clear hn1 hn2 hws
  have HB0 := Lib.hid ((Below.refl w.heap.size w).alloc (Nat.le_refl _) (Obj.cells #[.slice (some ⟨g1, 0, none⟩) n1 c1, .slice (some ⟨g2, 0, none⟩) n2 c2] 39))
  by_cases hl : 2 ≤ n1 ∧ n1 ≤ 8
  case neg =>
    have HF : Hid (pb (netP ss fs) = false) := Lib.hid (pb_false fun h => hl (by have := h.1; have := HN1.out; omega))
    have q : (n1 : Int) < 2 ∨ 8 < (n1 : Int) := by omega
    clear hl
    rcases q with q | q
    all_goals
      go_enter Try.func85, Try.ntmps85
      go_wp2
      go_ret
      exact boolP HF.out.symm HB0.out
  case pos =>
  obtain ⟨hl1, hl2⟩ := hl
  have hl1' : 2 ≤ (n1 : Int) := by omega
  have hl2' : (n1 : Int) ≤ 8 := by omega
  by_cases h14 : n2 ≤ 14
  case neg =>
    have HF : Hid (pb (netP ss fs) = false) := Lib.hid (pb_false fun h => h14 (by have := h.2.1; have := HN2.out; omega))
    have q : 14 < (n2 : Int) := by omega
    clear h14
    go_enter Try.func85, Try.ntmps85
    go_wp2
    go_ret
    exact boolP HF.out.symm HB0.out
  case pos =>
  have q14 : (n2 : Int) ≤ 14 := by omega
  go_enter Try.func85, Try.ntmps85
  go_wp2
  obtain ⟨W0, hW0⟩ : ∃ W0, (w.alloc (Obj.cells #[.slice (some ⟨g1, 0, none⟩) n1 c1, .slice (some ⟨g2, 0, none⟩) n2 c2] 39)) = W0 := ⟨_, rfl⟩
  have hk0 : W0.cell? ⟨w.heap.size, 0, none⟩ = some (.slice (some ⟨g1, 0, none⟩) n1 c1) := by rw [← hW0]; simp [go_sem]
  have hk1 : W0.cell? ⟨w.heap.size, 1, none⟩ = some (.slice (some ⟨g2, 0, none⟩) n2 c2) := by rw [← hW0]; simp [go_sem]
  have hz0 : w.heap.size < W0.heap.size := by rw [← hW0]; simp
  rw [hW0] at HB0 ⊢
  clear hW0
  have HR1 := Lib.hid (hr1.moved HB0.out); have HR2 := Lib.hid (hr2.moved HB0.out)
  have HK0 := Lib.hid hk0; have HK1 := Lib.hid hk1
  clear hr1 hr2 hk0 hk1
  go_loopw [26] (fun i wr => ∃ k : Nat, k ≤ n1 ∧ i = .int .i64 k ∧ (∀ j, j < k → nameAt ss j) ∧ Below W0.heap.size W0 wr) (fun i _ => n1 - (intOf i).toNat)
  case atStart => exact ⟨0, Nat.zero_le _, rfl, fun j h => absurd h (by omega), Below.refl _ _⟩
  case round =>
    obtain ⟨k, hk, rfl, hall, hb⟩ := hrel
    have HA := Lib.hid hall; clear hall
    have hc0 := HK0.out; have hc1 := HK1.out
    rw [← hb.cell (p := ⟨w.heap.size, 0, none⟩) hz0] at hc0
    rw [← hb.cell (p := ⟨w.heap.size, 1, none⟩) hz0] at hc1
    by_cases hlt : k < n1
    · have hks : k < ss.length := by have := HN1.out; omega
      have hrall : ∀ j, j < ss.length → wr.cell? ⟨g1, 0 + j, none⟩ = some (.string (ss.getD j ByteArray.empty)) := by
        intro j hj
        obtain ⟨ad, e, _, hcell⟩ := (HR1.out.over hb).got (k := j) (by simpa using hj)
        injection e with e; subst e
        have ea : (⟨g1, 0, none⟩ : Addr).add j = ⟨g1, j, none⟩ := by unfold Addr.add; by_cases h : j = 0 <;> simp [h]
        rw [ea, strGet ss j hj] at hcell
        rw [Nat.zero_add, hcell, List.getD_eq_getElem?_getD, List.getElem?_eq_getElem hj]; rfl
      have hcell : wr.cell? ⟨g1, k, none⟩ = some (.string ss[k]) := by
        have := hrall k hks
        rw [Nat.zero_add, List.getD_eq_getElem?_getD, List.getElem?_eq_getElem hks] at this; exact this
      obtain ⟨s, hs⟩ : ∃ s, ss[k]'hks = s := ⟨_, rfl⟩
      have hsm : s.size ≤ maxLen := by rw [← hs]; exact HWS.out _ (List.getElem_mem hks)
      rw [hs] at hcell
      have hkc : (k : Int) ≤ (c1 : Int) := by omega
      have hiff := nameAt.take hks hs
      by_cases hnm : nameP s
      · have CN : Hid (∀ W, Calls Try.prog 158 #[.string s] W fun e w' => e = .returned (.bool true) ∧ W = w') := Lib.hid fun W =>
          (implName s W hsm).mono fun e w' ⟨h1, h2⟩ => ⟨by rw [h1, pb_true hnm], h2⟩
        have CC := Lib.hid (Try.slices_Contains_string g1 0 k c1 ss s wr (by omega) (by omega) hrall)
        by_cases hct : Lib.containsS (ss.take k) s = false
        · have HS : Hid (∀ j, j < k + 1 → nameAt ss j) := Lib.hid (by
            intro j hj
            by_cases hjk : j < k
            · exact HA.out j hjk
            · obtain rfl : j = k := by omega
              exact hiff.2 ⟨hnm, hct⟩)
          rw [hct] at CC
          clear hct hs hnm hsm hiff hrall
          go_wp2_with (first | (go_at_call 158; refine (CN.out _).mono ?_; rintro e w' ⟨rfl, rfl⟩) | (go_at_call 159; refine CC.out.mono ?_; rintro e w' ⟨rfl, rfl⟩))
          go_roundw
          case rel => exact ⟨k + 1, by omega, by go_num, HS.out, hb⟩
          case measure => simp [intOf]; omega
        · have hct' : Lib.containsS (ss.take k) s = true := by simpa using hct
          have HF : Hid (pb (netP ss fs) = false) := Lib.hid (pb_false fun h => hct (hiff.1 (h.2.2.1 k hks)).2)
          rw [hct'] at CC
          clear hct hct' hs hnm hsm hiff hrall
          go_wp2_with (first | (go_at_call 158; refine (CN.out _).mono ?_; rintro e w' ⟨rfl, rfl⟩) | (go_at_call 159; refine CC.out.mono ?_; rintro e w' ⟨rfl, rfl⟩))
          go_ret
          exact boolP HF.out.symm (HB0.out.trans (hb.mono HB0.out.size))
      · have HF : Hid (pb (netP ss fs) = false) := Lib.hid (pb_false fun h => hnm (hiff.1 (h.2.2.1 k hks)).1)
        have CN : Hid (∀ W, Calls Try.prog 158 #[.string s] W fun e w' => e = .returned (.bool false) ∧ W = w') := Lib.hid fun W =>
          (implName s W hsm).mono fun e w' ⟨h1, h2⟩ => ⟨by rw [h1, pb_false hnm], h2⟩
        clear hs hnm hsm hiff hrall
        go_wp2_with (go_at_call 158; refine (CN.out _).mono ?_; rintro e w' ⟨rfl, rfl⟩)
        go_ret
        exact boolP HF.out.symm (HB0.out.trans (hb.mono HB0.out.size))
    · have hkn : k = n1 := by omega
      subst hkn
      clear hlt
      go_wp2
      go_loopw [46] (fun i wr' => ∃ j : Nat, j ≤ n2 ∧ i = .int .i64 j ∧ (∀ l, l < j → fibAt fs k l) ∧ Below W0.heap.size W0 wr') (fun i _ => n2 - (intOf i).toNat)
      case atStart => exact ⟨0, Nat.zero_le _, rfl, fun j h => absurd h (by omega), hb⟩
      case round =>
        clear hc0 hc1 hb
        obtain ⟨j, hj, rfl, hfall, hb⟩ := hrel
        have HFA := Lib.hid hfall; clear hfall
        have hc0 := HK0.out; have hc1 := HK1.out
        rw [← hb.cell (p := ⟨w.heap.size, 0, none⟩) hz0] at hc0
        rw [← hb.cell (p := ⟨w.heap.size, 1, none⟩) hz0] at hc1
        by_cases hlt : j < n2
        · have hjs : j < fs.length := by have := HN2.out; omega
          obtain ⟨hg2, f0, f1, f2, f3⟩ := (HR2.out.over hb).q4c hjs
          rw [Nat.zero_add] at f0 f1 f2 f3
          obtain ⟨⟨a, b, c, d⟩, hq⟩ : ∃ q, fs[j]'hjs = q := ⟨_, rfl⟩
          rw [hq] at f0 f1 f2 f3
          simp only at f0 f1 f2 f3
          by_cases hfp : fibP ⟨a, b, c, d⟩ k
          · have CF : Hid (∀ W, Calls Try.prog 160 #[.agg #[.int .i64 a, .int .i64 b, .int .i64 c, .int .i64 d], .int .i64 k] W fun e w' => e = .returned (.bool true) ∧ Below W.heap.size W w') := Lib.hid fun W =>
              (among_any ⟨a, b, c, d⟩ k W hs1).mono fun e w' ⟨h1, h2⟩ => ⟨by rw [h1, pb_true hfp], h2⟩
            by_cases hj0 : j = 0
            · subst hj0
              have HS : Hid (∀ l, l < 0 + 1 → fibAt fs k l) := Lib.hid (by
                intro l hl h
                obtain rfl : l = 0 := by omega
                exact ⟨by rw [hq]; exact hfp, fun h0 => absurd h0 (by omega)⟩)
              clear hfp hq
              simp only [Nat.zero_mul, Nat.zero_add] at f0 f1 f2 f3
              go_wp2_with fail
              obtain ⟨W1, hW1⟩ : ∃ W1, (wr.alloc (Obj.cells #[.int .i64 a, .int .i64 b, .int .i64 c, .int .i64 d] 201)) = W1 := ⟨_, rfl⟩
              have hb1 : Below W0.heap.size W0 W1 := by rw [← hW1]; exact hb.alloc hb.size _
              have hlast : wr.heap.size < W1.heap.size := by rw [← hW1]; simp
              have e0 : W1.cell? ⟨wr.heap.size, 0, none⟩ = some (.int .i64 a) := by rw [← hW1]; simp [go_sem]
              have e1 : W1.cell? ⟨wr.heap.size, 1, none⟩ = some (.int .i64 b) := by rw [← hW1]; simp [go_sem]
              have e2 : W1.cell? ⟨wr.heap.size, 2, none⟩ = some (.int .i64 c) := by rw [← hW1]; simp [go_sem]
              have e3 : W1.cell? ⟨wr.heap.size, 3, none⟩ = some (.int .i64 d) := by rw [← hW1]; simp [go_sem]
              rw [hW1]
              clear hW1 f0 f1 f2 f3
              obtain ⟨T, f, x0, hx0, hT, HST⟩ := above W1
              haveI : Nonempty T := ⟨x0⟩
              have hbw : w.heap.size < W0.heap.size := hz0
              have r0 : ∀ x, (f x).cell? ⟨w.heap.size, 0, none⟩ = some (.slice (some ⟨g1, 0, none⟩) k c1) := fun x => ((hb1.trans ((hT x).mono hb1.size)).cell (p := ⟨w.heap.size, 0, none⟩) hbw).trans HK0.out
              have r1 : ∀ x, (f x).cell? ⟨w.heap.size, 1, none⟩ = some (.slice (some ⟨g2, 0, none⟩) n2 c2) := fun x => ((hb1.trans ((hT x).mono hb1.size)).cell (p := ⟨w.heap.size, 1, none⟩) hbw).trans HK1.out
              have r2 : ∀ x, (f x).cell? ⟨wr.heap.size, 0, none⟩ = some (.int .i64 a) := fun x => ((hT x).cell (p := ⟨_, _, none⟩) hlast).trans e0
              have r3 : ∀ x, (f x).cell? ⟨wr.heap.size, 1, none⟩ = some (.int .i64 b) := fun x => ((hT x).cell (p := ⟨_, _, none⟩) hlast).trans e1
              have r4 : ∀ x, (f x).cell? ⟨wr.heap.size, 2, none⟩ = some (.int .i64 c) := fun x => ((hT x).cell (p := ⟨_, _, none⟩) hlast).trans e2
              have r5 : ∀ x, (f x).cell? ⟨wr.heap.size, 3, none⟩ = some (.int .i64 d) := fun x => ((hT x).cell (p := ⟨_, _, none⟩) hlast).trans e3
              have HT := Lib.hid (fun x => hb1.trans ((hT x).mono hb1.size)); have HX := Lib.hid hx0
              clear hT hx0 hc0 hc1 e0 e1 e2 e3
              refine wp_region_class f (by kernel_rfl) (by kernel_rfl) x0 HX.out ?_
              repeat (go_big_quiet_step ((go_at_call 160; exact Calls.inClass HST (CF.out _))))
              refine wpQuiet_nil ?_
              rintro _ ⟨x, rfl⟩
              go_wp2
              go_roundw
              case rel => exact ⟨0 + 1, by omega, rfl, HS.out, HT.out x⟩
              case measure => simp [intOf]; omega
            · obtain ⟨m, hjm⟩ : ∃ m, j = m + 1 := ⟨j - 1, by omega⟩
              have hwr := pred_wrap j m hjm (by omega)
              have hms : m < fs.length := by omega
              have hmn : (m : Int) < n2 := by omega
              obtain ⟨_, p0, p1, p2, p3⟩ := (HR2.out).q4c hms
              rw [Nat.zero_add] at p0 p1 p2 p3
              obtain ⟨⟨a', b', c', d'⟩, hqm⟩ : ∃ q, fs[m]'hms = q := ⟨_, rfl⟩
              rw [hqm] at p0 p1 p2 p3
              have HPC : Hid (W0.cell? ⟨g2, m * 4, none⟩ = some (.int .i64 a') ∧ W0.cell? ⟨g2, m * 4 + 1, none⟩ = some (.int .i64 b') ∧ W0.cell? ⟨g2, m * 4 + 2, none⟩ = some (.int .i64 c') ∧ W0.cell? ⟨g2, m * 4 + 3, none⟩ = some (.int .i64 d')) := Lib.hid ⟨p0, p1, p2, p3⟩
              have HP : Hid (∀ h : j - 1 < fs.length, fs[j - 1] = ⟨a', b', c', d'⟩) := Lib.hid (fun h => by
                subst hjm
                exact hqm)
              have hd0 : decide (0 < j) = true := decide_eq_true (by omega)
              clear p0 p1 p2 p3 hqm hjm hj0
              by_cases hx : lexLt ⟨a, b, c, d⟩ ⟨a', b', c', d'⟩
              · have CB : Hid (∀ W, Calls Try.prog 161 #[.agg #[.int .i64 a, .int .i64 b, .int .i64 c, .int .i64 d], .agg #[.int .i64 a', .int .i64 b', .int .i64 c', .int .i64 d']] W fun e w' => e = .returned (.bool true) ∧ Below W.heap.size W w') := Lib.hid fun W =>
                  (less_any ⟨a, b, c, d⟩ ⟨a', b', c', d'⟩ W).mono fun e w' ⟨h1, h2⟩ => ⟨by rw [h1, pb_true hx], h2⟩
                have HF : Hid (pb (netP ss fs) = false) := Lib.hid (pb_false fun h => by
                  have := (h.2.2.2 j hjs hjs).2 (of_decide_eq_true hd0)
                  rw [hq, HP.out (by omega)] at this
                  exact this hx)
                clear hfp hq hx
                go_wp2_with fail
                obtain ⟨W1, hW1⟩ : ∃ W1, (wr.alloc (Obj.cells #[.int .i64 a, .int .i64 b, .int .i64 c, .int .i64 d] 201)) = W1 := ⟨_, rfl⟩
                have hb1 : Below W0.heap.size W0 W1 := by rw [← hW1]; exact hb.alloc hb.size _
                have hlast : wr.heap.size < W1.heap.size := by rw [← hW1]; simp
                have e0 : W1.cell? ⟨wr.heap.size, 0, none⟩ = some (.int .i64 a) := by rw [← hW1]; simp [go_sem]
                have e1 : W1.cell? ⟨wr.heap.size, 1, none⟩ = some (.int .i64 b) := by rw [← hW1]; simp [go_sem]
                have e2 : W1.cell? ⟨wr.heap.size, 2, none⟩ = some (.int .i64 c) := by rw [← hW1]; simp [go_sem]
                have e3 : W1.cell? ⟨wr.heap.size, 3, none⟩ = some (.int .i64 d) := by rw [← hW1]; simp [go_sem]
                rw [hW1]
                clear hW1 f0 f1 f2 f3
                obtain ⟨T, f, x0, hx0, hT, HST⟩ := above W1
                haveI : Nonempty T := ⟨x0⟩
                have hbw : w.heap.size < W0.heap.size := hz0
                have r0 : ∀ x, (f x).cell? ⟨w.heap.size, 0, none⟩ = some (.slice (some ⟨g1, 0, none⟩) k c1) := fun x => ((hb1.trans ((hT x).mono hb1.size)).cell (p := ⟨w.heap.size, 0, none⟩) hbw).trans HK0.out
                have r1 : ∀ x, (f x).cell? ⟨w.heap.size, 1, none⟩ = some (.slice (some ⟨g2, 0, none⟩) n2 c2) := fun x => ((hb1.trans ((hT x).mono hb1.size)).cell (p := ⟨w.heap.size, 1, none⟩) hbw).trans HK1.out
                have r2 : ∀ x, (f x).cell? ⟨wr.heap.size, 0, none⟩ = some (.int .i64 a) := fun x => ((hT x).cell (p := ⟨_, _, none⟩) hlast).trans e0
                have r3 : ∀ x, (f x).cell? ⟨wr.heap.size, 1, none⟩ = some (.int .i64 b) := fun x => ((hT x).cell (p := ⟨_, _, none⟩) hlast).trans e1
                have r4 : ∀ x, (f x).cell? ⟨wr.heap.size, 2, none⟩ = some (.int .i64 c) := fun x => ((hT x).cell (p := ⟨_, _, none⟩) hlast).trans e2
                have r5 : ∀ x, (f x).cell? ⟨wr.heap.size, 3, none⟩ = some (.int .i64 d) := fun x => ((hT x).cell (p := ⟨_, _, none⟩) hlast).trans e3
                have r6 : ∀ x, (f x).cell? ⟨g2, m * 4, none⟩ = some (.int .i64 a') := fun x => ((hb1.trans ((hT x).mono hb1.size)).cell (p := ⟨_, _, none⟩) hg2).trans (HPC.out.1)
                have r7 : ∀ x, (f x).cell? ⟨g2, m * 4 + 1, none⟩ = some (.int .i64 b') := fun x => ((hb1.trans ((hT x).mono hb1.size)).cell (p := ⟨_, _, none⟩) hg2).trans (HPC.out.2.1)
                have r8 : ∀ x, (f x).cell? ⟨g2, m * 4 + 2, none⟩ = some (.int .i64 c') := fun x => ((hb1.trans ((hT x).mono hb1.size)).cell (p := ⟨_, _, none⟩) hg2).trans (HPC.out.2.2.1)
                have r9 : ∀ x, (f x).cell? ⟨g2, m * 4 + 3, none⟩ = some (.int .i64 d') := fun x => ((hb1.trans ((hT x).mono hb1.size)).cell (p := ⟨_, _, none⟩) hg2).trans (HPC.out.2.2.2)
                have HT := Lib.hid (fun x => hb1.trans ((hT x).mono hb1.size)); have HX := Lib.hid hx0
                clear hT hx0 hc0 hc1 e0 e1 e2 e3
                refine wp_region_class f (by kernel_rfl) (by kernel_rfl) x0 HX.out ?_
                repeat (go_big_quiet_step ((first | (go_at_call 160; exact Calls.inClass HST (CF.out _)) | (go_at_call 161; exact Calls.inClass HST (CB.out _)))))
                refine wpQuiet_nil ?_
                rintro _ ⟨x, rfl⟩
                clear hwr
                go_wp2
                go_ret
                exact boolP HF.out.symm (HB0.out.trans ((HT.out x).mono HB0.out.size))
              · have CB : Hid (∀ W, Calls Try.prog 161 #[.agg #[.int .i64 a, .int .i64 b, .int .i64 c, .int .i64 d], .agg #[.int .i64 a', .int .i64 b', .int .i64 c', .int .i64 d']] W fun e w' => e = .returned (.bool false) ∧ Below W.heap.size W w') := Lib.hid fun W =>
                  (less_any ⟨a, b, c, d⟩ ⟨a', b', c', d'⟩ W).mono fun e w' ⟨h1, h2⟩ => ⟨by rw [h1, pb_false hx], h2⟩
                have HS : Hid (∀ l, l < j + 1 → fibAt fs k l) := Lib.hid (by
                  intro l hl h
                  by_cases hlj : l < j
                  · exact HFA.out l hlj h
                  · obtain rfl : l = j := by omega
                    refine ⟨by rw [hq]; exact hfp, fun h0 => ?_⟩
                    rw [hq, HP.out (by omega)]
                    exact hx)
                clear hfp hq hx
                go_wp2_with fail
                obtain ⟨W1, hW1⟩ : ∃ W1, (wr.alloc (Obj.cells #[.int .i64 a, .int .i64 b, .int .i64 c, .int .i64 d] 201)) = W1 := ⟨_, rfl⟩
                have hb1 : Below W0.heap.size W0 W1 := by rw [← hW1]; exact hb.alloc hb.size _
                have hlast : wr.heap.size < W1.heap.size := by rw [← hW1]; simp
                have e0 : W1.cell? ⟨wr.heap.size, 0, none⟩ = some (.int .i64 a) := by rw [← hW1]; simp [go_sem]
                have e1 : W1.cell? ⟨wr.heap.size, 1, none⟩ = some (.int .i64 b) := by rw [← hW1]; simp [go_sem]
                have e2 : W1.cell? ⟨wr.heap.size, 2, none⟩ = some (.int .i64 c) := by rw [← hW1]; simp [go_sem]
                have e3 : W1.cell? ⟨wr.heap.size, 3, none⟩ = some (.int .i64 d) := by rw [← hW1]; simp [go_sem]
                rw [hW1]
                clear hW1 f0 f1 f2 f3
                obtain ⟨T, f, x0, hx0, hT, HST⟩ := above W1
                haveI : Nonempty T := ⟨x0⟩
                have hbw : w.heap.size < W0.heap.size := hz0
                have r0 : ∀ x, (f x).cell? ⟨w.heap.size, 0, none⟩ = some (.slice (some ⟨g1, 0, none⟩) k c1) := fun x => ((hb1.trans ((hT x).mono hb1.size)).cell (p := ⟨w.heap.size, 0, none⟩) hbw).trans HK0.out
                have r1 : ∀ x, (f x).cell? ⟨w.heap.size, 1, none⟩ = some (.slice (some ⟨g2, 0, none⟩) n2 c2) := fun x => ((hb1.trans ((hT x).mono hb1.size)).cell (p := ⟨w.heap.size, 1, none⟩) hbw).trans HK1.out
                have r2 : ∀ x, (f x).cell? ⟨wr.heap.size, 0, none⟩ = some (.int .i64 a) := fun x => ((hT x).cell (p := ⟨_, _, none⟩) hlast).trans e0
                have r3 : ∀ x, (f x).cell? ⟨wr.heap.size, 1, none⟩ = some (.int .i64 b) := fun x => ((hT x).cell (p := ⟨_, _, none⟩) hlast).trans e1
                have r4 : ∀ x, (f x).cell? ⟨wr.heap.size, 2, none⟩ = some (.int .i64 c) := fun x => ((hT x).cell (p := ⟨_, _, none⟩) hlast).trans e2
                have r5 : ∀ x, (f x).cell? ⟨wr.heap.size, 3, none⟩ = some (.int .i64 d) := fun x => ((hT x).cell (p := ⟨_, _, none⟩) hlast).trans e3
                have r6 : ∀ x, (f x).cell? ⟨g2, m * 4, none⟩ = some (.int .i64 a') := fun x => ((hb1.trans ((hT x).mono hb1.size)).cell (p := ⟨_, _, none⟩) hg2).trans (HPC.out.1)
                have r7 : ∀ x, (f x).cell? ⟨g2, m * 4 + 1, none⟩ = some (.int .i64 b') := fun x => ((hb1.trans ((hT x).mono hb1.size)).cell (p := ⟨_, _, none⟩) hg2).trans (HPC.out.2.1)
                have r8 : ∀ x, (f x).cell? ⟨g2, m * 4 + 2, none⟩ = some (.int .i64 c') := fun x => ((hb1.trans ((hT x).mono hb1.size)).cell (p := ⟨_, _, none⟩) hg2).trans (HPC.out.2.2.1)
                have r9 : ∀ x, (f x).cell? ⟨g2, m * 4 + 3, none⟩ = some (.int .i64 d') := fun x => ((hb1.trans ((hT x).mono hb1.size)).cell (p := ⟨_, _, none⟩) hg2).trans (HPC.out.2.2.2)
                have HT := Lib.hid (fun x => hb1.trans ((hT x).mono hb1.size)); have HX := Lib.hid hx0
                clear hT hx0 hc0 hc1 e0 e1 e2 e3
                refine wp_region_class f (by kernel_rfl) (by kernel_rfl) x0 HX.out ?_
                repeat (go_big_quiet_step ((first | (go_at_call 160; exact Calls.inClass HST (CF.out _)) | (go_at_call 161; exact Calls.inClass HST (CB.out _)))))
                refine wpQuiet_nil ?_
                rintro _ ⟨x, rfl⟩
                clear hwr
                go_wp2
                go_roundw
                case rel => exact ⟨j + 1, by omega, by go_num, HS.out, HT.out x⟩
                case measure => simp [intOf]; omega
          · have CF : Hid (∀ W, Calls Try.prog 160 #[.agg #[.int .i64 a, .int .i64 b, .int .i64 c, .int .i64 d], .int .i64 k] W fun e w' => e = .returned (.bool false) ∧ Below W.heap.size W w') := Lib.hid fun W =>
              (among_any ⟨a, b, c, d⟩ k W hs1).mono fun e w' ⟨h1, h2⟩ => ⟨by rw [h1, pb_false hfp], h2⟩
            have HF : Hid (pb (netP ss fs) = false) := Lib.hid (pb_false fun h => hfp (by
              have := (h.2.2.2 j hjs hjs).1
              rw [hq, HN1.out] at this
              exact this))
            clear hfp hq
            go_wp2_with fail
            obtain ⟨W1, hW1⟩ : ∃ W1, (wr.alloc (Obj.cells #[.int .i64 a, .int .i64 b, .int .i64 c, .int .i64 d] 201)) = W1 := ⟨_, rfl⟩
            have hb1 : Below W0.heap.size W0 W1 := by rw [← hW1]; exact hb.alloc hb.size _
            have hlast : wr.heap.size < W1.heap.size := by rw [← hW1]; simp
            have e0 : W1.cell? ⟨wr.heap.size, 0, none⟩ = some (.int .i64 a) := by rw [← hW1]; simp [go_sem]
            have e1 : W1.cell? ⟨wr.heap.size, 1, none⟩ = some (.int .i64 b) := by rw [← hW1]; simp [go_sem]
            have e2 : W1.cell? ⟨wr.heap.size, 2, none⟩ = some (.int .i64 c) := by rw [← hW1]; simp [go_sem]
            have e3 : W1.cell? ⟨wr.heap.size, 3, none⟩ = some (.int .i64 d) := by rw [← hW1]; simp [go_sem]
            rw [hW1]
            clear hW1 f0 f1 f2 f3
            obtain ⟨T, f, x0, hx0, hT, HST⟩ := above W1
            haveI : Nonempty T := ⟨x0⟩
            have hbw : w.heap.size < W0.heap.size := hz0
            have r0 : ∀ x, (f x).cell? ⟨w.heap.size, 0, none⟩ = some (.slice (some ⟨g1, 0, none⟩) k c1) := fun x => ((hb1.trans ((hT x).mono hb1.size)).cell (p := ⟨w.heap.size, 0, none⟩) hbw).trans HK0.out
            have r1 : ∀ x, (f x).cell? ⟨w.heap.size, 1, none⟩ = some (.slice (some ⟨g2, 0, none⟩) n2 c2) := fun x => ((hb1.trans ((hT x).mono hb1.size)).cell (p := ⟨w.heap.size, 1, none⟩) hbw).trans HK1.out
            have r2 : ∀ x, (f x).cell? ⟨wr.heap.size, 0, none⟩ = some (.int .i64 a) := fun x => ((hT x).cell (p := ⟨_, _, none⟩) hlast).trans e0
            have r3 : ∀ x, (f x).cell? ⟨wr.heap.size, 1, none⟩ = some (.int .i64 b) := fun x => ((hT x).cell (p := ⟨_, _, none⟩) hlast).trans e1
            have r4 : ∀ x, (f x).cell? ⟨wr.heap.size, 2, none⟩ = some (.int .i64 c) := fun x => ((hT x).cell (p := ⟨_, _, none⟩) hlast).trans e2
            have r5 : ∀ x, (f x).cell? ⟨wr.heap.size, 3, none⟩ = some (.int .i64 d) := fun x => ((hT x).cell (p := ⟨_, _, none⟩) hlast).trans e3
            have HT := Lib.hid (fun x => hb1.trans ((hT x).mono hb1.size)); have HX := Lib.hid hx0
            clear hT hx0 hc0 hc1 e0 e1 e2 e3
            refine wp_region_class f (by kernel_rfl) (by kernel_rfl) x0 HX.out ?_
            repeat (go_big_quiet_step ((go_at_call 160; exact Calls.inClass HST (CF.out _))))
            refine wpQuiet_nil ?_
            rintro _ ⟨x, rfl⟩
            go_wp2
            go_ret
            exact boolP HF.out.symm (HB0.out.trans ((HT.out x).mono HB0.out.size))
        · have hjn : j = n2 := by omega
          have HT : Hid (pb (netP ss fs) = true) := Lib.hid (pb_true ⟨⟨by have := HN1.out; omega, by have := HN1.out; omega⟩, by have := HN2.out; omega, fun i hi => HA.out i (by have := HN1.out; omega), fun i hi => by rw [HN1.out]; exact HFA.out i (by have := HN2.out; omega)⟩)
          subst hjn
          clear hlt
          go_wp2
          go_ret
          exact boolP HT.out.symm (HB0.out.trans (hb.mono HB0.out.size))

end Go.Proofs.Ytlgkjidginibdaa

namespace Go.Proofs.Ytlgkjidginibdaa
open Go.ChangeShapes Go.WideShapes Go.ChangeAt Go.RowKit

structure NetAt (g1 g2 n1 n2 c1 c2 : Nat) (ss : List ByteArray) (fs : List Q4) (w : World) : Prop where
  ln1 : ss.length = n1
  sm1 : n1 ≤ 1048576
  cap1 : n1 ≤ c1
  rd1 : Rd w w.heap.size (some ⟨g1, 0, none⟩) (ss.map Value.string)
  ws : ∀ s ∈ ss, s.size ≤ maxLen
  ln2 : fs.length = n2
  sm2 : n2 ≤ 1048576
  rd2 : Rd w w.heap.size (some ⟨g2, 0, none⟩) (fs.flatMap Q4.cells)
section
variable {g1 g2 n1 n2 c1 c2 : Nat} {ss : List ByteArray} {fs : List Q4} {w w' : World}
theorem NetAt.moved (h : NetAt g1 g2 n1 n2 c1 c2 ss fs w) (hb : Below w.heap.size w w') : NetAt g1 g2 n1 n2 c1 c2 ss fs w' :=
  ⟨h.ln1, h.sm1, h.cap1, h.rd1.moved hb, h.ws, h.ln2, h.sm2, h.rd2.moved hb⟩
theorem specNet_ (h : NetAt g1 g2 n1 n2 c1 c2 ss fs w) :
    Calls Try.prog 80 #[.agg #[.slice (some ⟨g1, 0, none⟩) n1 c1, .slice (some ⟨g2, 0, none⟩) n2 c2]] w (BoolP (pb (netP ss fs)) w) :=
  specNet g1 g2 n1 n2 c1 c2 ss fs w h.ln1 h.sm1 h.rd1 h.ws h.ln2 h.sm2 h.rd2
theorem implNet_ (h : NetAt g1 g2 n1 n2 c1 c2 ss fs w) :
    Calls Try.prog 85 #[.agg #[.slice (some ⟨g1, 0, none⟩) n1 c1, .slice (some ⟨g2, 0, none⟩) n2 c2]] w (BoolP (pb (netP ss fs)) w) :=
  implNet g1 g2 n1 n2 c1 c2 ss fs w h.ln1 h.sm1 h.cap1 h.rd1 h.ws h.ln2 h.sm2 h.rd2
theorem find_ (h : NetAt g1 g2 n1 n2 c1 c2 ss fs w) (s : ByteArray) :
    Calls Try.prog 149 #[.slice (some ⟨g1, 0, none⟩) n1 c1, .string s] w fun e w' => e = .returned (.int .i64 (findV ss s)) ∧ w = w' :=
  find_any (some ⟨g1, 0, none⟩) n1 c1 ss s w h.ln1 h.sm1 h.rd1
theorem idx_find (ss : List ByteArray) (s : ByteArray) : Lib.idxOfS ss s = findV ss s := by
  have e : ss.take ss.length = ss := List.take_of_length_le (Nat.le_refl _)
  cases hf : ss.findIdx? (fun x => x.toList == s.toList) with
  | none =>
    have hno : ∀ j (h : j < ss.length), ss[j].toList ≠ s.toList := by
      intro j h
      have := List.findIdx?_eq_none_iff.1 hf ss[j] (List.getElem_mem h)
      simpa using this
    rw [findV_no ss s hno]
    have := Lib.idxOfS_miss ss ss.length s (fun j hj he => hno j hj (by
      rw [List.getD_eq_getElem?_getD, List.getElem?_eq_getElem hj] at he
      have he' : ss[j] = s := he
      rw [he']))
    rw [e] at this; exact this
  | some k =>
    obtain ⟨hk, h1, h2⟩ := List.findIdx?_eq_some_iff_getElem.1 hf
    have hkk : ss[k].toList = s.toList := by simpa using h1
    have hno : ∀ j (h : j < ss.length), j < k → ss[j].toList ≠ s.toList := fun j h hj => by simpa using h2 j hj
    rw [findV_at ss s k hk hno hkk]
    have := Lib.idxOfS_hit ss ss.length k s hk (Nat.le_refl _) (by rw [List.getD_eq_getElem?_getD, List.getElem?_eq_getElem hk]; exact tl_inj hkk)
      (fun j hj he => hno j (by omega) hj (by
        rw [List.getD_eq_getElem?_getD, List.getElem?_eq_getElem (by omega)] at he
        have he' : ss[j] = s := he
        rw [he']))
    rw [e] at this; exact this
theorem index_ (h : NetAt g1 g2 n1 n2 c1 c2 ss fs w) (s : ByteArray) :
    Calls Try.prog 208 #[.slice (some ⟨g1, 0, none⟩) n1 c1, .string s] w fun e w' => e = .returned (.int .i64 (findV ss s)) ∧ w = w' := by
  have hrall : ∀ j, j < ss.length → w.cell? ⟨g1, 0 + j, none⟩ = some (.string (ss.getD j ByteArray.empty)) := by
    intro j hj
    obtain ⟨ad, e, _, hcell⟩ := h.rd1.got (k := j) (by simpa using hj)
    injection e with e; subst e
    have ea : (⟨g1, 0, none⟩ : Addr).add j = ⟨g1, j, none⟩ := by unfold Addr.add; by_cases h : j = 0 <;> simp [h]
    rw [ea, strGet ss j hj] at hcell
    rw [Nat.zero_add, hcell, List.getD_eq_getElem?_getD, List.getElem?_eq_getElem hj]; rfl
  have hs1 := h.sm1
  have hn1 := h.ln1
  refine (Try.slices_Index_string g1 0 n1 c1 ss s w (by omega) (by omega) hrall).mono ?_
  rintro e w' ⟨rfl, rfl⟩
  refine ⟨?_, rfl⟩
  rw [List.take_of_length_le (by omega), idx_find]
end
/-- one answer; nothing of what was there has changed. -/
def RetP (v : Value) (w : World) (e : Ending) (w' : World) : Prop := e = .returned v ∧ Below w.heap.size w w'
theorem retP {u v : Value} {w w' : World} (h : u = v) (hb : Below w.heap.size w w') : RetP v w (.returned u) w' := ⟨by rw [h], hb⟩
theorem findV_lo (ss : List ByteArray) (s : ByteArray) : -1 ≤ findV ss s := by unfold findV; split <;> omega
end Go.Proofs.Ytlgkjidginibdaa
