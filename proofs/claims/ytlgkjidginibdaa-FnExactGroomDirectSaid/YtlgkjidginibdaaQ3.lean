/- Words of our own: structs of 3 ints read off the cells, opened, filled. No condition. -/
import Derived.Test.YtlgkjidginibdaaGA
namespace Go.Proofs.Ytlgkjidginibdaa
open Go.ChangeShapes Go.WideShapes Go.ChangeAt Go.RowKit Go.Deep

/-- a struct of 3 ints. -/
structure Q3 where
  a : Int
  b : Int
  c : Int
def Q3.cells (q : Q3) : List Value := [.int .i64 q.a, .int .i64 q.b, .int .i64 q.c]
theorem Rd.q3 {w : World} {B : Nat} {A : Option Addr} {qs : List Q3} (h : Rd w B A (qs.flatMap Q3.cells)) {k : Nat} (hk : k < qs.length) :
    ∃ ad, A = some ad ∧ ad.block < B ∧ w.cell? (ad.add (k * 3)) = some (.int .i64 qs[k].a) ∧ w.cell? ⟨(ad.add (k * 3)).block, (ad.add (k * 3)).off + 1, none⟩ = some (.int .i64 qs[k].b) ∧ w.cell? ⟨(ad.add (k * 3)).block, (ad.add (k * 3)).off + 2, none⟩ = some (.int .i64 qs[k].c) := by
  have g := fun j hj => flat_get Q3.cells 3 qs (fun _ _ => rfl) k j hj
  rw [List.getElem?_eq_getElem hk] at g
  obtain ⟨ad, e, hb, h0⟩ := h (k * 3 + 0) _ (g 0 (by omega))
  obtain ⟨ad1, e1, _, h1⟩ := h (k * 3 + 1) _ (g 1 (by omega))
  obtain ⟨ad2, e2, _, h2⟩ := h (k * 3 + 2) _ (g 2 (by omega))
  subst e
  injection e1 with e1; injection e2 with e2
  subst e1 e2
  rw [add_next] at h1 h2
  exact ⟨_, rfl, hb, h0, h1, h2⟩
theorem Rd.q3c {w : World} {B b o : Nat} {qs : List Q3} (h : Rd w B (some ⟨b, o, none⟩) (qs.flatMap Q3.cells)) {k : Nat} (hk : k < qs.length) :
    b < B ∧ w.cell? ⟨b, o + k * 3, none⟩ = some (.int .i64 qs[k].a) ∧ w.cell? ⟨b, o + k * 3 + 1, none⟩ = some (.int .i64 qs[k].b) ∧ w.cell? ⟨b, o + k * 3 + 2, none⟩ = some (.int .i64 qs[k].c) := by
  obtain ⟨ad, e, hb, h0, h1, h2⟩ := h.q3 hk
  injection e with e; subst e
  have ea : (⟨b, o, none⟩ : Addr).add (k * 3) = ⟨b, o + k * 3, none⟩ := by unfold Addr.add; by_cases h : k * 3 = 0 <;> simp [h]
  rw [ea] at h0 h1 h2
  exact ⟨hb, h0, h1, h2⟩
theorem rows3 : ∀ rows : List (List Int), (∀ r ∈ rows, r.length = 3) → ∃ qs : List Q3, rows = qs.map fun q => [q.a, q.b, q.c]
  | [], _ => ⟨[], rfl⟩
  | r :: rest, h => by
    obtain ⟨qs, hq⟩ := rows3 rest (fun x hx => h x (List.mem_cons_of_mem _ hx))
    have hr := h r (by simp)
    match r, hr with
    | [a, b, c], _ => exact ⟨⟨a, b, c⟩ :: qs, by rw [hq]; rfl⟩
def Q3.wf (q : Q3) : Prop := i64s q.a ∧ i64s q.b ∧ i64s q.c
section
variable {H : Type} {enc : TypeId × Value → H} {P : Program} {w : World} {held : Bool}
theorem rd_q3s {t e : TypeId} {fs : Array Field} {fuel : Nat} {cs : List Value} {x : DataW H × List MemPlace} (ht : P.underlying t = some (.slice e)) (he : P.underlying e = some (.struct fs)) (hone : oneCellFields P fs = true) (hC : P.cellsOf e = 3)
    (h4 : fs.size = 3) (hint : ∀ (j : Nat) (f : Field), fs[j]? = some f → P.underlying f.type = some (.int .i64)) (h : DataW.trod enc P w 0 (fun _ => true) held fuel t cs = some x) :
    ∃ (A : Option Addr) (n c : Nat) (qs : List Q3), cs = [.slice A n c] ∧ qs.length = n ∧ n ≤ maxLen ∧ Rd w w.heap.size A (qs.flatMap Q3.cells) ∧ (∀ q ∈ qs, q.wf) := by
  obtain ⟨A, n, c, rows, e1, e2, e3, e4, e5⟩ := rd_rows ht he hone (hC.trans h4.symm) (by omega) hint h
  obtain ⟨qs, rfl⟩ := rows3 rows (fun r hr => by rw [(e5 r hr).1, h4])
  refine ⟨A, n, c, qs, e1, by simpa using e2, e3, ?_, ?_⟩
  · rw [List.flatMap_map] at e4; exact e4
  · intro q hq
    have := (e5 [q.a, q.b, q.c] (List.mem_map.2 ⟨q, hq, rfl⟩)).2
    exact ⟨this _ (by simp), this _ (by simp), this _ (by simp)⟩
theorem open_q3 {b0 : Nat} {t : TypeId} {fs : Array Field} {v : Value} {d : DataW H} {p : List MemPlace} (hs : P.underlying t = some (.struct fs)) (hone : oneCellFields P fs = true) (hC : P.cellsOf t = 3) (h4 : fs.size = 3)
    (hint : ∀ (j : Nat) (f : Field), fs[j]? = some f → P.underlying f.type = some (.int .i64)) (hv : Value.okWide P w .any b0 t v) (h : DataW.Trod enc P w 0 (fun _ => true) held t v d p) :
    ∃ q : Q3, v = .agg #[.int .i64 q.a, .int .i64 q.b, .int .i64 q.c] ∧ q.wf := by
  obtain ⟨cs, rfl, hsz⟩ := okWide_struct hs hv
  obtain ⟨fuel, hf⟩ := h
  obtain ⟨r, hr, hcs, hwf⟩ := trod_row hs hone (hC.trans h4.symm) hint hf
  rw [h4] at hr
  match r, hr with
  | [a, b, c], _ =>
    refine ⟨⟨a, b, c⟩, ?_, hwf _ (by simp), hwf _ (by simp), hwf _ (by simp)⟩
    obtain ⟨l⟩ := cs
    simp only [Value.cells] at hcs
    congr 1
    apply Array.toList_inj.1
    simpa using hcs
end
theorem made3 (n : Nat) : (madeCells #[z0, z0, z0] (n * 3)).toList = List.replicate (n * 3) z0 := by
  apply List.ext_getElem?
  intro j
  by_cases hj : j < n * 3
  · have h2 : j % 3 = 0 ∨ j % 3 = 1 ∨ j % 3 = 2 := by omega
    rcases h2 with h | h | h <;> simp [madeCells, hj, h]
  · simp [madeCells, hj]
theorem fill_set3 (xs : List Q3) (k n : Nat) (hn : xs.length = n) (hk : k < n) :
    (((fill Q3.cells 3 xs k n).set (k * 3) (.int .i64 (xs[k]'(by omega)).a)).set (k * 3 + 1) (.int .i64 (xs[k]'(by omega)).b)).set (k * 3 + 2) (.int .i64 (xs[k]'(by omega)).c) = fill Q3.cells 3 xs (k + 1) n := by
  have hp := fill_pre Q3.cells 3 xs k n (fun _ => rfl) hn hk
  have e : (n - k) * 3 = (n - (k + 1)) * 3 + 1 + 1 + 1 := by omega
  unfold fill
  rw [set_pre0 _ _ _ _ hp, set_pre _ _ _ _ hp, set_pre _ _ _ _ hp, e, List.replicate_succ, List.replicate_succ, List.replicate_succ, List.take_succ_eq_append_getElem (by omega)]
  simp only [Q3.cells, List.flatMap_append, List.flatMap_cons, List.flatMap_nil, List.append_nil, List.append_assoc, List.set_cons_zero, List.set_cons_succ, List.cons_append, List.nil_append]
end Go.Proofs.Ytlgkjidginibdaa
