/- Words of our own: structs of 6 ints read off the cells, opened, filled. No condition. -/
import Derived.Test.YtlmemmcdabhooaaGA
namespace Go.Proofs.Ytlmemmcdabhooaa
open Go.ChangeShapes Go.WideShapes Go.ChangeAt Go.RowKit Go.Deep

/-- a struct of 6 ints. -/
structure Q6 where
  a : Int
  b : Int
  c : Int
  d : Int
  e : Int
  f : Int
def Q6.cells (q : Q6) : List Value := [.int .i64 q.a, .int .i64 q.b, .int .i64 q.c, .int .i64 q.d, .int .i64 q.e, .int .i64 q.f]
theorem Rd.q6 {w : World} {B : Nat} {A : Option Addr} {qs : List Q6} (h : Rd w B A (qs.flatMap Q6.cells)) {k : Nat} (hk : k < qs.length) :
    ∃ ad, A = some ad ∧ ad.block < B ∧ w.cell? (ad.add (k * 6)) = some (.int .i64 qs[k].a) ∧ w.cell? ⟨(ad.add (k * 6)).block, (ad.add (k * 6)).off + 1, none⟩ = some (.int .i64 qs[k].b) ∧ w.cell? ⟨(ad.add (k * 6)).block, (ad.add (k * 6)).off + 2, none⟩ = some (.int .i64 qs[k].c) ∧ w.cell? ⟨(ad.add (k * 6)).block, (ad.add (k * 6)).off + 3, none⟩ = some (.int .i64 qs[k].d) ∧ w.cell? ⟨(ad.add (k * 6)).block, (ad.add (k * 6)).off + 4, none⟩ = some (.int .i64 qs[k].e) ∧ w.cell? ⟨(ad.add (k * 6)).block, (ad.add (k * 6)).off + 5, none⟩ = some (.int .i64 qs[k].f) := by
  have g := fun j hj => flat_get Q6.cells 6 qs (fun _ _ => rfl) k j hj
  rw [List.getElem?_eq_getElem hk] at g
  obtain ⟨ad, e, hb, h0⟩ := h (k * 6 + 0) _ (g 0 (by omega))
  obtain ⟨ad1, e1, _, h1⟩ := h (k * 6 + 1) _ (g 1 (by omega))
  obtain ⟨ad2, e2, _, h2⟩ := h (k * 6 + 2) _ (g 2 (by omega))
  obtain ⟨ad3, e3, _, h3⟩ := h (k * 6 + 3) _ (g 3 (by omega))
  obtain ⟨ad4, e4, _, h4⟩ := h (k * 6 + 4) _ (g 4 (by omega))
  obtain ⟨ad5, e5, _, h5⟩ := h (k * 6 + 5) _ (g 5 (by omega))
  subst e
  injection e1 with e1; injection e2 with e2; injection e3 with e3; injection e4 with e4; injection e5 with e5
  subst e1 e2 e3 e4 e5
  rw [add_next] at h1 h2 h3 h4 h5
  exact ⟨_, rfl, hb, h0, h1, h2, h3, h4, h5⟩
theorem Rd.q6c {w : World} {B b o : Nat} {qs : List Q6} (h : Rd w B (some ⟨b, o, none⟩) (qs.flatMap Q6.cells)) {k : Nat} (hk : k < qs.length) :
    b < B ∧ w.cell? ⟨b, o + k * 6, none⟩ = some (.int .i64 qs[k].a) ∧ w.cell? ⟨b, o + k * 6 + 1, none⟩ = some (.int .i64 qs[k].b) ∧ w.cell? ⟨b, o + k * 6 + 2, none⟩ = some (.int .i64 qs[k].c) ∧ w.cell? ⟨b, o + k * 6 + 3, none⟩ = some (.int .i64 qs[k].d) ∧ w.cell? ⟨b, o + k * 6 + 4, none⟩ = some (.int .i64 qs[k].e) ∧ w.cell? ⟨b, o + k * 6 + 5, none⟩ = some (.int .i64 qs[k].f) := by
  obtain ⟨ad, e, hb, h0, h1, h2, h3, h4, h5⟩ := h.q6 hk
  injection e with e; subst e
  have ea : (⟨b, o, none⟩ : Addr).add (k * 6) = ⟨b, o + k * 6, none⟩ := by unfold Addr.add; by_cases h : k * 6 = 0 <;> simp [h]
  rw [ea] at h0 h1 h2 h3 h4 h5
  exact ⟨hb, h0, h1, h2, h3, h4, h5⟩
theorem rows6 : ∀ rows : List (List Int), (∀ r ∈ rows, r.length = 6) → ∃ qs : List Q6, rows = qs.map fun q => [q.a, q.b, q.c, q.d, q.e, q.f]
  | [], _ => ⟨[], rfl⟩
  | r :: rest, h => by
    obtain ⟨qs, hq⟩ := rows6 rest (fun x hx => h x (List.mem_cons_of_mem _ hx))
    have hr := h r (by simp)
    match r, hr with
    | [a, b, c, d, e, f], _ => exact ⟨⟨a, b, c, d, e, f⟩ :: qs, by rw [hq]; rfl⟩
def Q6.wf (q : Q6) : Prop := i64s q.a ∧ i64s q.b ∧ i64s q.c ∧ i64s q.d ∧ i64s q.e ∧ i64s q.f
section
variable {H : Type} {enc : TypeId × Value → H} {P : Program} {w : World} {held : Bool}
theorem rd_q6s {t e : TypeId} {fs : Array Field} {fuel : Nat} {cs : List Value} {x : DataW H × List MemPlace} (ht : P.underlying t = some (.slice e)) (he : P.underlying e = some (.struct fs)) (hone : oneCellFields P fs = true) (hC : P.cellsOf e = 6)
    (h4 : fs.size = 6) (hint : ∀ (j : Nat) (f : Field), fs[j]? = some f → P.underlying f.type = some (.int .i64)) (h : DataW.trod enc P w 0 (fun _ => true) held fuel t cs = some x) :
    ∃ (A : Option Addr) (n c : Nat) (qs : List Q6), cs = [.slice A n c] ∧ qs.length = n ∧ n ≤ maxLen ∧ Rd w w.heap.size A (qs.flatMap Q6.cells) ∧ (∀ q ∈ qs, q.wf) := by
  obtain ⟨A, n, c, rows, e1, e2, e3, e4, e5⟩ := rd_rows ht he hone (hC.trans h4.symm) (by omega) hint h
  obtain ⟨qs, rfl⟩ := rows6 rows (fun r hr => by rw [(e5 r hr).1, h4])
  refine ⟨A, n, c, qs, e1, by simpa using e2, e3, ?_, ?_⟩
  · rw [List.flatMap_map] at e4; exact e4
  · intro q hq
    have := (e5 [q.a, q.b, q.c, q.d, q.e, q.f] (List.mem_map.2 ⟨q, hq, rfl⟩)).2
    exact ⟨this _ (by simp), this _ (by simp), this _ (by simp), this _ (by simp), this _ (by simp), this _ (by simp)⟩
theorem open_q6 {b0 : Nat} {t : TypeId} {fs : Array Field} {v : Value} {d : DataW H} {p : List MemPlace} (hs : P.underlying t = some (.struct fs)) (hone : oneCellFields P fs = true) (hC : P.cellsOf t = 6) (h4 : fs.size = 6)
    (hint : ∀ (j : Nat) (f : Field), fs[j]? = some f → P.underlying f.type = some (.int .i64)) (hv : Value.okWide P w .any b0 t v) (h : DataW.Trod enc P w 0 (fun _ => true) held t v d p) :
    ∃ q : Q6, v = .agg #[.int .i64 q.a, .int .i64 q.b, .int .i64 q.c, .int .i64 q.d, .int .i64 q.e, .int .i64 q.f] ∧ q.wf := by
  obtain ⟨cs, rfl, hsz⟩ := okWide_struct hs hv
  obtain ⟨fuel, hf⟩ := h
  obtain ⟨r, hr, hcs, hwf⟩ := trod_row hs hone (hC.trans h4.symm) hint hf
  rw [h4] at hr
  match r, hr with
  | [a, b, c, d, e, f], _ =>
    refine ⟨⟨a, b, c, d, e, f⟩, ?_, hwf _ (by simp), hwf _ (by simp), hwf _ (by simp), hwf _ (by simp), hwf _ (by simp), hwf _ (by simp)⟩
    obtain ⟨l⟩ := cs
    simp only [Value.cells] at hcs
    congr 1
    apply Array.toList_inj.1
    simpa using hcs
end
theorem made6 (n : Nat) : (madeCells #[z0, z0, z0, z0, z0, z0] (n * 6)).toList = List.replicate (n * 6) z0 := by
  apply List.ext_getElem?
  intro j
  by_cases hj : j < n * 6
  · have h2 : j % 6 = 0 ∨ j % 6 = 1 ∨ j % 6 = 2 ∨ j % 6 = 3 ∨ j % 6 = 4 ∨ j % 6 = 5 := by omega
    rcases h2 with h | h | h | h | h | h <;> simp [madeCells, hj, h]
  · simp [madeCells, hj]
theorem fill_set6 (xs : List Q6) (k n : Nat) (hn : xs.length = n) (hk : k < n) :
    ((((((fill Q6.cells 6 xs k n).set (k * 6) (.int .i64 (xs[k]'(by omega)).a)).set (k * 6 + 1) (.int .i64 (xs[k]'(by omega)).b)).set (k * 6 + 2) (.int .i64 (xs[k]'(by omega)).c)).set (k * 6 + 3) (.int .i64 (xs[k]'(by omega)).d)).set (k * 6 + 4) (.int .i64 (xs[k]'(by omega)).e)).set (k * 6 + 5) (.int .i64 (xs[k]'(by omega)).f) = fill Q6.cells 6 xs (k + 1) n := by
  have hp := fill_pre Q6.cells 6 xs k n (fun _ => rfl) hn hk
  have e : (n - k) * 6 = (n - (k + 1)) * 6 + 1 + 1 + 1 + 1 + 1 + 1 := by omega
  unfold fill
  rw [set_pre0 _ _ _ _ hp, set_pre _ _ _ _ hp, set_pre _ _ _ _ hp, set_pre _ _ _ _ hp, set_pre _ _ _ _ hp, set_pre _ _ _ _ hp, e, List.replicate_succ, List.replicate_succ, List.replicate_succ, List.replicate_succ, List.replicate_succ, List.replicate_succ, List.take_succ_eq_append_getElem (by omega)]
  simp only [Q6.cells, List.flatMap_append, List.flatMap_cons, List.flatMap_nil, List.append_nil, List.append_assoc, List.set_cons_zero, List.set_cons_succ, List.cons_append, List.nil_append]
end Go.Proofs.Ytlmemmcdabhooaa
