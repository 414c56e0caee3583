/- Words of our own: lists of structs of ints read off the cells; arguments opened to what they read as (nil let in). No condition. -/
import Derived.Test.YtcbjdfgmkiodkaaRd
import Derived.ChangeSlices
import Derived.ChangeArms
import Derived.Deep.Slices
import Derived.Deep.Fields
import Derived.SliceStrings
import Derived.OpenShut
namespace Go.Proofs.Ytcbjdfgmkiodkaa
open Go.ChangeShapes Go.WideShapes Go.ChangeAt Go.RowKit Go.Deep

theorem flat_get {α β : Type} (g : α → List β) (k : Nat) : ∀ rows : List α, (∀ r ∈ rows, (g r).length = k) → ∀ i j, j < k → (rows.flatMap g)[i * k + j]? = rows[i]?.bind fun r => (g r)[j]?
  | [], _, i, j, _ => by simp
  | r :: rest, h, 0, j, hj => by
    have hr := h r (by simp)
    rw [List.flatMap_cons, Nat.zero_mul, Nat.zero_add, List.getElem?_append_left (by omega)]; rfl
  | r :: rest, h, i + 1, j, hj => by
    have hr := h r (by simp)
    rw [List.flatMap_cons, List.getElem?_append_right (by rw [Nat.succ_mul]; omega), hr, show (i + 1) * k + j - k = i * k + j by rw [Nat.succ_mul]; omega]
    rw [flat_get g k rest (fun x hx => h x (List.mem_cons_of_mem _ hx)) i j hj]; rfl
theorem flat_len {α β : Type} (g : α → List β) (k : Nat) : ∀ rows : List α, (∀ r ∈ rows, (g r).length = k) → (rows.flatMap g).length = rows.length * k
  | [], _ => by simp
  | r :: rest, h => by
    rw [List.flatMap_cons, List.length_append, h r (by simp), flat_len g k rest (fun x hx => h x (List.mem_cons_of_mem _ hx)), List.length_cons, Nat.succ_mul]; omega

/-- a struct of four ints. -/
structure Q4 where
  a : Int
  b : Int
  c : Int
  d : Int
def Q4.cells (q : Q4) : List Value := [.int .i64 q.a, .int .i64 q.b, .int .i64 q.c, .int .i64 q.d]
/-- a struct of two ints. -/
structure Q2 where
  a : Int
  b : Int
def Q2.cells (q : Q2) : List Value := [.int .i64 q.a, .int .i64 q.b]

theorem add_next (a : Addr) (m j : Nat) : a.add (m + (j + 1)) = ⟨(a.add m).block, (a.add m).off + (j + 1), none⟩ := by
  unfold Addr.add
  by_cases h : m = 0
  · simp [h]
  · simp [h]; omega
theorem Rd.q4 {w : World} {B : Nat} {A : Option Addr} {qs : List Q4} (h : Rd w B A (qs.flatMap Q4.cells)) {k : Nat} (hk : k < qs.length) :
    ∃ ad, A = some ad ∧ ad.block < B ∧ w.cell? (ad.add (k * 4)) = some (.int .i64 qs[k].a) ∧ w.cell? ⟨(ad.add (k * 4)).block, (ad.add (k * 4)).off + 1, none⟩ = some (.int .i64 qs[k].b) ∧
      w.cell? ⟨(ad.add (k * 4)).block, (ad.add (k * 4)).off + 2, none⟩ = some (.int .i64 qs[k].c) ∧ w.cell? ⟨(ad.add (k * 4)).block, (ad.add (k * 4)).off + 3, none⟩ = some (.int .i64 qs[k].d) := by
  have g := fun j hj => flat_get Q4.cells 4 qs (fun _ _ => rfl) k j hj
  rw [List.getElem?_eq_getElem hk] at g
  obtain ⟨ad, e, hb, h0⟩ := h (k * 4 + 0) _ (g 0 (by omega))
  obtain ⟨ad1, e1, _, h1⟩ := h (k * 4 + 1) _ (g 1 (by omega))
  obtain ⟨ad2, e2, _, h2⟩ := h (k * 4 + 2) _ (g 2 (by omega))
  obtain ⟨ad3, e3, _, h3⟩ := h (k * 4 + 3) _ (g 3 (by omega))
  subst e
  injection e1 with e1; injection e2 with e2; injection e3 with e3
  subst e1 e2 e3
  rw [add_next] at h1 h2 h3
  exact ⟨_, rfl, hb, h0, h1, h2, h3⟩
theorem Rd.q2 {w : World} {B : Nat} {A : Option Addr} {qs : List Q2} (h : Rd w B A (qs.flatMap Q2.cells)) {k : Nat} (hk : k < qs.length) :
    ∃ ad, A = some ad ∧ ad.block < B ∧ w.cell? (ad.add (k * 2)) = some (.int .i64 qs[k].a) ∧ w.cell? ⟨(ad.add (k * 2)).block, (ad.add (k * 2)).off + 1, none⟩ = some (.int .i64 qs[k].b) := by
  have g := fun j hj => flat_get Q2.cells 2 qs (fun _ _ => rfl) k j hj
  rw [List.getElem?_eq_getElem hk] at g
  obtain ⟨ad, e, hb, h0⟩ := h (k * 2 + 0) _ (g 0 (by omega))
  obtain ⟨ad1, e1, _, h1⟩ := h (k * 2 + 1) _ (g 1 (by omega))
  subst e
  injection e1 with e1
  subst e1
  rw [add_next] at h1
  exact ⟨_, rfl, hb, h0, h1⟩
/-- the same at a block and an offset. -/
theorem Rd.q4c {w : World} {B b o : Nat} {qs : List Q4} (h : Rd w B (some ⟨b, o, none⟩) (qs.flatMap Q4.cells)) {k : Nat} (hk : k < qs.length) :
    b < B ∧ w.cell? ⟨b, o + k * 4, none⟩ = some (.int .i64 qs[k].a) ∧ w.cell? ⟨b, o + k * 4 + 1, none⟩ = some (.int .i64 qs[k].b) ∧
      w.cell? ⟨b, o + k * 4 + 2, none⟩ = some (.int .i64 qs[k].c) ∧ w.cell? ⟨b, o + k * 4 + 3, none⟩ = some (.int .i64 qs[k].d) := by
  obtain ⟨ad, e, hb, h0, h1, h2, h3⟩ := h.q4 hk
  injection e with e; subst e
  have ea : (⟨b, o, none⟩ : Addr).add (k * 4) = ⟨b, o + k * 4, none⟩ := by unfold Addr.add; by_cases h : k * 4 = 0 <;> simp [h]
  rw [ea] at h0 h1 h2 h3
  exact ⟨hb, h0, h1, h2, h3⟩
theorem Rd.q2c {w : World} {B b o : Nat} {qs : List Q2} (h : Rd w B (some ⟨b, o, none⟩) (qs.flatMap Q2.cells)) {k : Nat} (hk : k < qs.length) :
    b < B ∧ w.cell? ⟨b, o + k * 2, none⟩ = some (.int .i64 qs[k].a) ∧ w.cell? ⟨b, o + k * 2 + 1, none⟩ = some (.int .i64 qs[k].b) := by
  obtain ⟨ad, e, hb, h0, h1⟩ := h.q2 hk
  injection e with e; subst e
  have ea : (⟨b, o, none⟩ : Addr).add (k * 2) = ⟨b, o + k * 2, none⟩ := by unfold Addr.add; by_cases h : k * 2 = 0 <;> simp [h]
  rw [ea] at h0 h1
  exact ⟨hb, h0, h1⟩
theorem Rd.ofOwnK {w : World} {base s : Nat} {E : TypeId} {A : Option Addr} {n c : Nat} {xs : List Value} (h : w.ownsRow base E s (.slice A n c) n xs) : Rd w w.heap.size A xs := by
  intro k u hu
  have hlt := h.lt
  rcases A with _ | ad
  · rcases h.2 with ⟨_, h0⟩ | ⟨g, cap, cur, hv, _⟩
    · subst h0
      have : xs = [] := List.eq_nil_of_length_eq_zero (by simpa using h.1)
      subst this; simp at hu
    · simp at hv
  · have hc := h.cells (g := ad.block) rfl k u hu
    obtain ⟨_, hl⟩ := hlt ad.block rfl
    rcases h.2 with ⟨h0, _⟩ | ⟨g, cap, cur, hv, _⟩
    · simp at h0
    · simp only [Value.slice.injEq, Option.some.injEq] at hv
      obtain ⟨rfl, _, _⟩ := hv
      exact ⟨_, rfl, hl, hc⟩

theorem hint_of {P : Program} {fs : Array Field} {T : TypeId} (hT : P.underlying T = some (.int .i64)) (h : (fs.all fun f => f.type == T) = true) (j : Nat) (f : Field) (hj : fs[j]? = some f) : P.underlying f.type = some (.int .i64) := by
  obtain ⟨hlt, rfl⟩ := Array.getElem?_eq_some_iff.1 hj
  have := (Array.all_eq_true.1 h) j hlt
  have e : fs[j].type = T := by simpa using this
  rw [e]; exact hT

section
variable {H : Type} {enc : TypeId × Value → H} {P : Program} {w : World} {held : Bool}

theorem rd_strs {t e : TypeId} {fuel : Nat} {cs : List Value} {x : DataW H × List MemPlace} (ht : P.underlying t = some (.slice e)) (he : P.underlying e = some .string) (hc : P.cellsOf e = 1)
    (h : DataW.trod enc P w 0 (fun _ => true) held fuel t cs = some x) :
    ∃ (A : Option Addr) (n c : Nat) (ss : List ByteArray), cs = [.slice A n c] ∧ ss.length = n ∧ n ≤ maxLen ∧ Rd w w.heap.size A (ss.map Value.string) ∧ (∀ s ∈ ss, s.size ≤ maxLen) := by
  rcases open_strings ht he hc h with ⟨rfl, _⟩ | ⟨a, len, cap, ss, rfl, _, hl, hm, hz, _, hcell, hws⟩
  · exact ⟨none, 0, 0, [], rfl, rfl, by unfold maxLen; omega, fun k u hu => by simp at hu, fun s hs => by simp at hs⟩
  · simp only [if_true] at hz
    refine ⟨some a, len, cap, ss.take len, rfl, by simp; omega, by omega, ?_, fun s hs => hws s (List.mem_of_mem_take hs)⟩
    intro k u hu
    rw [List.getElem?_map, List.getElem?_take] at hu
    by_cases hk : k < len
    · rw [if_pos hk, List.getElem?_eq_getElem (by omega)] at hu
      simp only [Option.map_some, Option.some.injEq] at hu
      subst hu
      have hc := hcell k (by omega)
      rw [List.getD_eq_getElem?_getD, List.getElem?_eq_getElem (by omega)] at hc
      exact ⟨a, rfl, by rw [← addBlock a k]; exact World.block_lt_of_cell? w _ hc, hc⟩
    · rw [if_neg hk] at hu; simp at hu

theorem rd_ints {t e : TypeId} {q : IntKind} {fuel : Nat} {cs : List Value} {x : DataW H × List MemPlace} (ht : P.underlying t = some (.slice e)) (he : P.underlying e = some (.int q)) (hc : P.cellsOf e = 1)
    (h : DataW.trod enc P w 0 (fun _ => true) held fuel t cs = some x) :
    ∃ (A : Option Addr) (n c : Nat) (zs : List Int), cs = [.slice A n c] ∧ zs.length = n ∧ n ≤ maxLen ∧ Rd w w.heap.size A (zs.map (Value.int q)) ∧ (∀ z ∈ zs, (Lit.int q z).wf = true) := by
  rcases open_ints ht he hc h with ⟨rfl, _⟩ | ⟨a, len, cap, zs, rfl, _, hl, hm, hz, _, hcell, hws⟩
  · exact ⟨none, 0, 0, [], rfl, rfl, by unfold maxLen; omega, fun k u hu => by simp at hu, fun s hs => by simp at hs⟩
  · simp only [if_true] at hz
    refine ⟨some a, len, cap, zs.take len, rfl, by simp; omega, by omega, ?_, fun s hs => hws s (List.mem_of_mem_take hs)⟩
    intro k u hu
    rw [List.getElem?_map, List.getElem?_take] at hu
    by_cases hk : k < len
    · rw [if_pos hk, List.getElem?_eq_getElem (by omega)] at hu
      simp only [Option.map_some, Option.some.injEq] at hu
      subst hu
      have hc := hcell k (by omega)
      rw [List.getD_eq_getElem?_getD, List.getElem?_eq_getElem (by omega)] at hc
      exact ⟨a, rfl, by rw [← addBlock a k]; exact World.block_lt_of_cell? w _ hc, hc⟩
    · rw [if_neg hk] at hu; simp at hu

/-- a struct of one-cell ints, its cells. -/
theorem trod_row {e : TypeId} {fs : Array Field} {fuel : Nat} {cs : List Value} {x : DataW H × List MemPlace} (he : P.underlying e = some (.struct fs)) (hone : oneCellFields P fs = true) (hC : P.cellsOf e = fs.size)
    (hint : ∀ (j : Nat) (f : Field), fs[j]? = some f → P.underlying f.type = some (.int .i64)) (h : DataW.trod enc P w 0 (fun _ => true) held fuel e cs = some x) :
    ∃ r : List Int, r.length = fs.size ∧ cs = r.map (Value.int .i64) ∧ (∀ z ∈ r, (Lit.int .i64 z).wf = true) := by
  obtain ⟨ys, n, _, _, hl, _, hf⟩ := DataW.trod_struct he h
  have each : ∀ j, j < fs.size → ∃ z, cs[j]? = some (.int .i64 z) ∧ (Lit.int .i64 z).wf = true := by
    intro j hj
    have hfj : fs[j]? = some fs[j] := Array.getElem?_eq_getElem hj
    obtain ⟨ho, hk⟩ := hone_of hone j _ hfj
    have h1 := hf j _ hfj
    rw [ho, hk] at h1
    have hcj : j < cs.length := by omega
    have e1 : (cs.drop j).take 1 = [cs[j]] := by rw [List.drop_eq_getElem_cons hcj]; rfl
    rw [e1] at h1
    rcases hy : ys[j]? with _ | y
    · rw [hy] at h1
      have : fs.size ≤ j := by
        have := List.getElem?_eq_none_iff.1 hy
        omega
      omega
    · rw [hy] at h1
      obtain ⟨z, hz, _, hwf⟩ := DataW.trod_int (hint j _ hfj) h1
      refine ⟨z, ?_, hwf⟩
      rw [List.getElem?_eq_getElem hcj]
      simpa using hz
  refine ⟨cs.map fun v => match v with | .int .i64 z => z | _ => 0, by simp; omega, ?_, ?_⟩
  · apply List.ext_getElem?
    intro j
    by_cases hj : j < fs.size
    · obtain ⟨z, hz, _⟩ := each j hj
      simp [hz]
    · rw [List.getElem?_eq_none (by omega), List.getElem?_eq_none (by simp; omega)]
  · intro z hz
    obtain ⟨v, hv, rfl⟩ := List.mem_map.1 hz
    obtain ⟨j, hj, rfl⟩ := List.getElem_of_mem hv
    obtain ⟨z, hz, hwf⟩ := each j (by omega)
    rw [List.getElem?_eq_getElem hj] at hz
    injection hz with hz
    rw [hz]; exact hwf

theorem rd_rows {t e : TypeId} {fs : Array Field} {fuel : Nat} {cs : List Value} {x : DataW H × List MemPlace} (ht : P.underlying t = some (.slice e)) (he : P.underlying e = some (.struct fs)) (hone : oneCellFields P fs = true) (hC : P.cellsOf e = fs.size)
    (h0 : 0 < fs.size) (hint : ∀ (j : Nat) (f : Field), fs[j]? = some f → P.underlying f.type = some (.int .i64)) (h : DataW.trod enc P w 0 (fun _ => true) held fuel t cs = some x) :
    ∃ (A : Option Addr) (n c : Nat) (rows : List (List Int)), cs = [.slice A n c] ∧ rows.length = n ∧ n ≤ maxLen ∧ Rd w w.heap.size A (rows.flatMap fun r => r.map (Value.int .i64)) ∧
      (∀ r ∈ rows, r.length = fs.size ∧ ∀ z ∈ r, (Lit.int .i64 z).wf = true) := by
  rcases open_slice ht h with ⟨rfl, _⟩ | ⟨a, len, cap, m, n, D, Pl, rfl, _, hl, hm, hmm, _, hx⟩
  · exact ⟨none, 0, 0, [], rfl, rfl, by unfold maxLen; omega, fun k u hu => by simp at hu, fun s hs => by simp at hs⟩
  · simp only [if_true] at hmm
    subst hmm
    have each : ∀ i, i < m → ∃ r : List Int, r.length = fs.size ∧ (∀ z ∈ r, (Lit.int .i64 z).wf = true) ∧ ∀ j, j < fs.size → w.cell? (a.add (i * fs.size + j)) = (r.map (Value.int .i64))[j]? := by
      intro i hi
      obtain ⟨cs', hc, ht'⟩ := hx i hi
      rw [hC] at hc
      obtain ⟨r, hr, rfl, hwf⟩ := trod_row he hone hC hint ht'
      obtain ⟨_, _, hat⟩ := World.cells?_some hc
      exact ⟨r, hr, hwf, fun j hj => by rw [← hat j hj, add_add]⟩
    let F : Nat → List Int := fun i => if hi : i < m then Classical.choose (each i hi) else []
    have hF : ∀ i, i < m → (F i).length = fs.size ∧ (∀ z ∈ F i, (Lit.int .i64 z).wf = true) ∧ ∀ j, j < fs.size → w.cell? (a.add (i * fs.size + j)) = ((F i).map (Value.int .i64))[j]? := by
      intro i hi
      have := Classical.choose_spec (each i hi)
      simp only [F, dif_pos hi]
      exact this
    have hlm : len ≤ m := hl
    have hrow : ∀ r ∈ (List.range len).map F, r.length = fs.size ∧ ∀ z ∈ r, (Lit.int .i64 z).wf = true := by
      intro r hr
      obtain ⟨i, hi, rfl⟩ := List.mem_map.1 hr
      have hi' : i < m := by have := List.mem_range.1 hi; omega
      exact ⟨(hF i hi').1, (hF i hi').2.1⟩
    refine ⟨some a, len, m, (List.range len).map F, rfl, by simp, by omega, ?_, hrow⟩
    intro p u hu
    have hlen := flat_len (fun r : List Int => r.map (Value.int .i64)) fs.size ((List.range len).map F) (fun r hr => by simp [(hrow r hr).1])
    have hp : p < ((List.range len).map F).length * fs.size := by
      rw [← hlen]
      exact (List.getElem?_eq_some_iff.1 hu).1
    simp only [List.length_map, List.length_range] at hp
    have hi : p / fs.size < len := (Nat.div_lt_iff_lt_mul h0).2 hp
    have hj : p % fs.size < fs.size := Nat.mod_lt _ h0
    have hpe : p = p / fs.size * fs.size + p % fs.size := by rw [Nat.mul_comm]; exact (Nat.div_add_mod p fs.size).symm
    have hget := flat_get (fun r : List Int => r.map (Value.int .i64)) fs.size ((List.range len).map F) (fun r hr => by simp [(hrow r hr).1]) (p / fs.size) (p % fs.size) hj
    rw [← hpe, hu] at hget
    have hcell := (hF _ (show p / fs.size < m by omega)).2.2 _ hj
    rw [← hpe] at hcell
    have hri : ((List.range len).map F)[p / fs.size]? = some (F (p / fs.size)) := by
      rw [List.getElem?_map, List.getElem?_range hi]; rfl
    rw [hri] at hget
    have hcell' : w.cell? (a.add p) = some u := by rw [hcell, hget]; rfl
    exact ⟨a, rfl, by rw [← addBlock a p]; exact World.block_lt_of_cell? w _ hcell', hcell'⟩

theorem rows4 : ∀ rows : List (List Int), (∀ r ∈ rows, r.length = 4) → ∃ qs : List Q4, rows = qs.map fun q => [q.a, q.b, q.c, q.d]
  | [], _ => ⟨[], rfl⟩
  | r :: rest, h => by
    obtain ⟨qs, hq⟩ := rows4 rest (fun x hx => h x (List.mem_cons_of_mem _ hx))
    have hr := h r (by simp)
    match r, hr with
    | [a, b, c, d], _ => exact ⟨⟨a, b, c, d⟩ :: qs, by rw [hq]; rfl⟩
theorem rows2 : ∀ rows : List (List Int), (∀ r ∈ rows, r.length = 2) → ∃ qs : List Q2, rows = qs.map fun q => [q.a, q.b]
  | [], _ => ⟨[], rfl⟩
  | r :: rest, h => by
    obtain ⟨qs, hq⟩ := rows2 rest (fun x hx => h x (List.mem_cons_of_mem _ hx))
    have hr := h r (by simp)
    match r, hr with
    | [a, b], _ => exact ⟨⟨a, b⟩ :: qs, by rw [hq]; rfl⟩
def i64s (z : Int) : Prop := (Lit.int .i64 z).wf = true
def Q4.wf (q : Q4) : Prop := i64s q.a ∧ i64s q.b ∧ i64s q.c ∧ i64s q.d
def Q2.wf (q : Q2) : Prop := i64s q.a ∧ i64s q.b

theorem rd_q4s {t e : TypeId} {fs : Array Field} {fuel : Nat} {cs : List Value} {x : DataW H × List MemPlace} (ht : P.underlying t = some (.slice e)) (he : P.underlying e = some (.struct fs)) (hone : oneCellFields P fs = true) (hC : P.cellsOf e = 4)
    (h4 : fs.size = 4) (hint : ∀ (j : Nat) (f : Field), fs[j]? = some f → P.underlying f.type = some (.int .i64)) (h : DataW.trod enc P w 0 (fun _ => true) held fuel t cs = some x) :
    ∃ (A : Option Addr) (n c : Nat) (qs : List Q4), cs = [.slice A n c] ∧ qs.length = n ∧ n ≤ maxLen ∧ Rd w w.heap.size A (qs.flatMap Q4.cells) ∧ (∀ q ∈ qs, q.wf) := by
  obtain ⟨A, n, c, rows, e1, e2, e3, e4, e5⟩ := rd_rows ht he hone (hC.trans h4.symm) (by omega) hint h
  obtain ⟨qs, rfl⟩ := rows4 rows (fun r hr => by rw [(e5 r hr).1, h4])
  refine ⟨A, n, c, qs, e1, by simpa using e2, e3, ?_, ?_⟩
  · rw [List.flatMap_map] at e4; exact e4
  · intro q hq
    have := (e5 [q.a, q.b, q.c, q.d] (List.mem_map.2 ⟨q, hq, rfl⟩)).2
    exact ⟨this _ (by simp), this _ (by simp), this _ (by simp), this _ (by simp)⟩
theorem rd_q2s {t e : TypeId} {fs : Array Field} {fuel : Nat} {cs : List Value} {x : DataW H × List MemPlace} (ht : P.underlying t = some (.slice e)) (he : P.underlying e = some (.struct fs)) (hone : oneCellFields P fs = true) (hC : P.cellsOf e = 2)
    (h2 : fs.size = 2) (hint : ∀ (j : Nat) (f : Field), fs[j]? = some f → P.underlying f.type = some (.int .i64)) (h : DataW.trod enc P w 0 (fun _ => true) held fuel t cs = some x) :
    ∃ (A : Option Addr) (n c : Nat) (qs : List Q2), cs = [.slice A n c] ∧ qs.length = n ∧ n ≤ maxLen ∧ Rd w w.heap.size A (qs.flatMap Q2.cells) ∧ (∀ q ∈ qs, q.wf) := by
  obtain ⟨A, n, c, rows, e1, e2, e3, e4, e5⟩ := rd_rows ht he hone (hC.trans h2.symm) (by omega) hint h
  obtain ⟨qs, rfl⟩ := rows2 rows (fun r hr => by rw [(e5 r hr).1, h2])
  refine ⟨A, n, c, qs, e1, by simpa using e2, e3, ?_, ?_⟩
  · rw [List.flatMap_map] at e4; exact e4
  · intro q hq
    have := (e5 [q.a, q.b] (List.mem_map.2 ⟨q, hq, rfl⟩)).2
    exact ⟨this _ (by simp), this _ (by simp)⟩
/-- a struct of two ints as an argument. -/
theorem open_q2 {b0 : Nat} {t : TypeId} {fs : Array Field} {v : Value} {d : DataW H} {p : List MemPlace} (hs : P.underlying t = some (.struct fs)) (hone : oneCellFields P fs = true) (hC : P.cellsOf t = 2) (h2 : fs.size = 2)
    (hint : ∀ (j : Nat) (f : Field), fs[j]? = some f → P.underlying f.type = some (.int .i64)) (hv : Value.okWide P w .any b0 t v) (h : DataW.Trod enc P w 0 (fun _ => true) held t v d p) :
    ∃ q : Q2, v = .agg #[.int .i64 q.a, .int .i64 q.b] ∧ q.wf := by
  obtain ⟨cs, rfl, hsz⟩ := okWide_struct hs hv
  obtain ⟨fuel, hf⟩ := h
  obtain ⟨r, hr, hcs, hwf⟩ := trod_row hs hone (hC.trans h2.symm) hint hf
  rw [h2] at hr
  match r, hr with
  | [a, b], _ =>
    refine ⟨⟨a, b⟩, ?_, hwf _ (by simp), hwf _ (by simp)⟩
    obtain ⟨l⟩ := cs
    simp only [Value.cells] at hcs
    congr 1
    apply Array.toList_inj.1
    simpa using hcs
theorem open_q4 {b0 : Nat} {t : TypeId} {fs : Array Field} {v : Value} {d : DataW H} {p : List MemPlace} (hs : P.underlying t = some (.struct fs)) (hone : oneCellFields P fs = true) (hC : P.cellsOf t = 4) (h4 : fs.size = 4)
    (hint : ∀ (j : Nat) (f : Field), fs[j]? = some f → P.underlying f.type = some (.int .i64)) (hv : Value.okWide P w .any b0 t v) (h : DataW.Trod enc P w 0 (fun _ => true) held t v d p) :
    ∃ q : Q4, v = .agg #[.int .i64 q.a, .int .i64 q.b, .int .i64 q.c, .int .i64 q.d] ∧ q.wf := by
  obtain ⟨cs, rfl, hsz⟩ := okWide_struct hs hv
  obtain ⟨fuel, hf⟩ := h
  obtain ⟨r, hr, hcs, hwf⟩ := trod_row hs hone (hC.trans h4.symm) hint hf
  rw [h4] at hr
  match r, hr with
  | [a, b, c, d], _ =>
    refine ⟨⟨a, b, c, d⟩, ?_, hwf _ (by simp), hwf _ (by simp), hwf _ (by simp), hwf _ (by simp)⟩
    obtain ⟨l⟩ := cs
    simp only [Value.cells] at hcs
    congr 1
    apply Array.toList_inj.1
    simpa using hcs
/-- a struct of a list of strings and a list of structs of four ints as an argument. -/
theorem open_net {b0 : Nat} {t e0 e1 : TypeId} {f0 f1 : Field} {fs : Array Field} {v : Value} {d : DataW H} {p : List MemPlace} (hs : P.underlying t = some (.struct #[f0, f1])) (hone : oneCellFields P #[f0, f1] = true) (hC : P.cellsOf t = 2)
    (u0 : P.underlying f0.type = some (.slice e0)) (ue0 : P.underlying e0 = some .string) (ce0 : P.cellsOf e0 = 1)
    (u1 : P.underlying f1.type = some (.slice e1)) (ue1 : P.underlying e1 = some (.struct fs)) (hone1 : oneCellFields P fs = true) (hC1 : P.cellsOf e1 = 4) (h4 : fs.size = 4)
    (hint : ∀ (j : Nat) (f : Field), fs[j]? = some f → P.underlying f.type = some (.int .i64)) (hv : Value.okWide P w .any b0 t v) (h : DataW.Trod enc P w 0 (fun _ => true) held t v d p) :
    ∃ (A1 : Option Addr) (n1 c1 : Nat) (ss : List ByteArray) (A2 : Option Addr) (n2 c2 : Nat) (qs : List Q4), v = .agg #[.slice A1 n1 c1, .slice A2 n2 c2] ∧
      (ss.length = n1 ∧ n1 ≤ maxLen ∧ Rd w w.heap.size A1 (ss.map Value.string) ∧ (∀ s ∈ ss, s.size ≤ maxLen)) ∧
      (qs.length = n2 ∧ n2 ≤ maxLen ∧ Rd w w.heap.size A2 (qs.flatMap Q4.cells) ∧ (∀ q ∈ qs, q.wf)) := by
  obtain ⟨cs, rfl, hsz⟩ := okWide_struct hs hv
  obtain ⟨l⟩ := cs
  match l, hsz.trans hC with
  | [x0, x1], _ =>
    obtain ⟨fuel, hf⟩ := h
    obtain ⟨ys, n, _, hx, _, hlen, hg⟩ := DataW.trod_struct hs hf
    obtain ⟨o0, k0⟩ := hone_of hone 0 f0 rfl
    obtain ⟨o1, k1⟩ := hone_of hone 1 f1 rfl
    match ys, hlen with
    | [y0, y1], _ =>
      have g0 : DataW.trod enc P w 0 (fun _ => true) held n f0.type [x0] = some y0 := by simpa [Value.cells, o0, k0] using hg 0 f0 rfl
      have g1 : DataW.trod enc P w 0 (fun _ => true) held n f1.type [x1] = some y1 := by simpa [Value.cells, o1, k1] using hg 1 f1 rfl
      obtain ⟨A1, n1, c1, ss, e1, a1, a2, a3, a4⟩ := rd_strs u0 ue0 ce0 g0
      obtain ⟨A2, n2, c2, qs, e2, b1, b2, b3, b4⟩ := rd_q4s u1 ue1 hone1 hC1 h4 hint g1
      injection e1 with e1; injection e2 with e2
      subst e1 e2
      exact ⟨A1, n1, c1, ss, A2, n2, c2, qs, rfl, ⟨a1, a2, a3, a4⟩, ⟨b1, b2, b3, b4⟩⟩
end
end Go.Proofs.Ytcbjdfgmkiodkaa
