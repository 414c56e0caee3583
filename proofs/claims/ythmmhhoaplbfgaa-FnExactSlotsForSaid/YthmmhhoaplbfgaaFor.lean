/- Contracts: impl.FormatFor and spec.FormatFor answer the same plain words. No condition but those typed. -/
import Derived.Test.YthmmhhoaplbfgaaBack
namespace Go.Proofs.Ythmmhhoaplbfgaa
open Go.ChangeShapes Go.WideShapes Go.ChangeAt Go.RowKit Go.Shelf
attribute [local go_sem] Oper.semAt_some

theorem back_stops (F : Fence) (n : Nat) (h8 : F.fn 107) (hro : F.round = none) (hn : 1 ≤ n) (Bs n₀ b cap : Nat) (qs : List Q2) (hsz : qs.length ≤ 6) (w : World) (hb : b < n₀) (hBn : Bs < n₀) (hn₀ : n₀ ≤ w.heap.size)
    (hBs : w.cell? ⟨Bs, 0, none⟩ = some (.slice (some ⟨b, 0, none⟩) qs.length cap))
    (hc : ∀ j, j < qs.length → w.cell? ⟨b, j * 2, none⟩ = some (.int .i64 (q2D qs j).a) ∧ w.cell? ⟨b, j * 2 + 1, none⟩ = some (.int .i64 (q2D qs j).b)) :
    SeqStopsK F n Try.prog 107 #[.pointer (some ⟨Bs, 0, none⟩)] (fun x : Nat × Q2 => #[Value.int .i64 (x.1 : Int), Value.agg #[.int .i64 x.2.a, .int .i64 x.2.b]]) (Below n₀) (fun ys => ys = uptoB (bw qs) qs.length)
      (fun pre => ∃ k, k ≤ qs.length ∧ pre = uptoB (bw qs) k) qs.length w := fun l J Jx W hW _ _ hY h0 =>
  back1_in F n h8 hro hn l Bs n₀ b cap qs hsz hb hBn J Jx hY W ((hW.cell (p := ⟨Bs, 0, none⟩) (by show Bs < _; omega)).trans hBs)
    (fun j hj => ⟨(hW.cell (p := ⟨b, j * 2, none⟩) (by show b < _; omega)).trans (hc j hj).1, (hW.cell (p := ⟨b, j * 2 + 1, none⟩) (by show b < _; omega)).trans (hc j hj).2⟩) h0

def bestK (qs : List Q2) (x : Int) : Nat → Int
  | 0 => -1
  | k + 1 => if x ≤ (q2D qs k).a then (k : Int) else bestK qs x k
def forP (qs : List Q2) (x : Int) : Prop := (fmtsP qs ∧ 0 ≤ x ∧ x ≤ 20000) ∧ 0 ≤ bestK qs x qs.length
noncomputable def forB (qs : List Q2) (x : Int) : Bool := pb (forP qs x)
noncomputable def forI (qs : List Q2) (x : Int) : Int := if forB qs x then bestK qs x qs.length else 0
noncomputable def forR (qs : List Q2) (x : Int) : Value := .tuple #[.int .i64 (forI qs x), .bool (forB qs x)]
theorem for_no {qs : List Q2} {x : Int} (h : ¬ forP qs x) : (.tuple #[.int .i64 0, .bool false] : Value) = forR qs x := by
  unfold forR forI forB; rw [pb_false h, if_neg Bool.false_ne_true]
theorem for_yes {qs : List Q2} {x : Int} (h : forP qs x) : (.tuple #[.int .i64 (bestK qs x qs.length), .bool true] : Value) = forR qs x := by
  unfold forR forI forB; rw [pb_true h, if_pos rfl]
def BoolI (z : Int) (w : World) (e : Ending) (w' : World) : Prop := e = .returned (.int .i64 z) ∧ Below w.heap.size w w'
theorem best_skip (qs : List Q2) (x : Int) (n : Nat) : ∀ d, (∀ i, i < d → (q2D qs (n + i)).a < x) → bestK qs x (n + d) = bestK qs x n
  | 0, _ => rfl
  | d + 1, h => by
    have h1 := h d (by omega)
    show (if x ≤ (q2D qs (n + d)).a then ((n + d : Nat) : Int) else bestK qs x (n + d)) = _
    rw [if_neg (by omega), best_skip qs x n d (fun i hi => h i (by omega))]
theorem best_none (qs : List Q2) (x : Int) (h : ∀ p ∈ uptoB (bw qs) qs.length, p.2.a < x) : bestK qs x qs.length = -1 := by
  have := best_skip qs x 0 qs.length (fun i hi => by
    have hm : bw qs (qs.length - 1 - i) ∈ uptoB (bw qs) qs.length := by
      simp only [uptoB, List.mem_map, List.mem_range]; exact ⟨_, by omega, rfl⟩
    have := h _ hm
    have e : qs.length - 1 - (qs.length - 1 - i) = 0 + i := by omega
    unfold bw at this
    rw [e] at this
    exact this)
  rw [Nat.zero_add] at this
  exact this
theorem best_some (qs : List Q2) (x : Int) (k : Nat) (hk : k < qs.length) (h : ∀ p ∈ uptoB (bw qs) k, p.2.a < x) (h2 : x ≤ (bw qs k).2.a) : bestK qs x qs.length = ((bw qs k).1 : Int) ∧ (bw qs k).1 < qs.length := by
  obtain ⟨j, hj⟩ : ∃ j, qs.length - 1 - k = j := ⟨_, rfl⟩
  have e1 : bw qs k = (j, q2D qs j) := by unfold bw; rw [hj]
  rw [e1] at h2 ⊢
  have hs := best_skip qs x (j + 1) k (fun i hi => by
    have hm : bw qs (k - 1 - i) ∈ uptoB (bw qs) k := by
      simp only [uptoB, List.mem_map, List.mem_range]; exact ⟨_, by omega, rfl⟩
    have := h _ hm
    have e : qs.length - 1 - (k - 1 - i) = j + 1 + i := by omega
    unfold bw at this
    rw [e] at this
    exact this)
  have e2 : j + 1 + k = qs.length := by omega
  rw [e2] at hs
  refine ⟨hs.trans ?_, by show j < _; omega⟩
  show (if x ≤ (q2D qs j).a then (j : Int) else _) = _
  rw [if_pos h2]
theorem heap_own {T : TypeId} {cs : Array Value} {X Y : World} {B Bx : Nat} {row : Option Nat} (hX : X.heap[Bx]? = some (.cells cs T (0, 0))) (hg : X.grownBy Y row) (hr : ∀ r, row = some r → B ≤ r ∧ ∃ o : Obj, X.heap[r]? = some o ∧ o.isCells = false) : Y.heap[Bx]? = some (.cells cs T (0, 0)) :=
  (hg.block Bx (Array.getElem?_eq_some_iff.1 hX).1 (fun e => by
    obtain ⟨_, o, ho, hc⟩ := hr Bx e.symm
    rw [hX] at ho; cases ho; cases hc)).trans hX
def RetV (v : Value) (w : World) (e : Ending) (w' : World) : Prop := e = .returned v ∧ Below w.heap.size w w'
theorem retV {u v : Value} {w w' : World} (h : u = v) (hb : Below w.heap.size w w') : RetV v w (.returned u) w' := ⟨by rw [h], hb⟩

set_option maxRecDepth 100000 in
set_option maxHeartbeats 4000000 in
theorem implFor (g n c : Nat) (qs : List Q2) (x : Int) (w : World) (hn : qs.length = n) (hr : Rd w w.heap.size (some ⟨g, 0, none⟩) (qs.flatMap Q2.cells)) (hm : n ≤ 1048576) :
    Calls Try.prog 36 #[.slice (some ⟨g, 0, none⟩) n c, .int .i64 x] w (RetV (forR qs x) w) := by
  by_cases hp : fmtsP qs ∧ 0 ≤ x ∧ x ≤ 20000
  case neg =>
    have HR := Lib.hid (for_no (qs := qs) (x := x) fun h => hp h.1)
    obtain ⟨r, hr'⟩ : ∃ r, forR qs x = r := ⟨_, rfl⟩
    rw [hr'] at HR ⊢
    clear hr'
    have CV0 := fun W (hb : Below w.heap.size w W) => implFmts g 0 n c qs W hn (hr.moved hb) hm
    by_cases hf : fmtsP qs
    · rw [pb_true hf] at CV0
      have CV := Lib.hid CV0
      have hxx : x < 0 ∨ 20000 < x := by
        by_cases h0 : 0 ≤ x
        · right
          have : ¬ x ≤ 20000 := fun h1 => hp ⟨hf, h0, h1⟩
          omega
        · left; omega
      clear hp hf hr hn CV0
      rcases hxx with hx | hx
      · go_enter Try.func36, Try.ntmps36
        go_wp2_with fail
        obtain ⟨W0, hW0⟩ : ∃ W0, (((w.alloc (Obj.cells #[.int .i64 x] 3)).alloc (Obj.cells #[.int .i64 0] 3)).alloc (Obj.cells #[.bool false] 4)) = W0 := ⟨_, rfl⟩
        have b0 : Boxed W0 w.heap.size 3 (.int .i64 x) := by rw [← hW0]; exact ((Boxed.new w 3 (.int .i64 x)).alloc _).alloc _
        have b1 : Boxed W0 (w.heap.size + 1) 3 (.int .i64 0) := by
          rw [← hW0]
          have := (Boxed.new (w.alloc (Obj.cells #[.int .i64 x] 3)) 3 (.int .i64 0)).alloc (Obj.cells #[.bool false] 4)
          rwa [World.size_alloc] at this
        have b2 : Boxed W0 (w.heap.size + 1 + 1) 4 (.bool false) := by
          rw [← hW0]
          have := Boxed.new ((w.alloc (Obj.cells #[.int .i64 x] 3)).alloc (Obj.cells #[.int .i64 0] 3)) 4 (.bool false)
          rwa [World.size_alloc, World.size_alloc] at this
        have hB0 : Below w.heap.size w W0 := by rw [← hW0]; exact (((Below.refl _ w).alloc (Nat.le_refl _) _).alloc (by simp) _).alloc (by simp; omega) _
        have hs0 : W0.heap.size = w.heap.size + 1 + 1 + 1 := by rw [← hW0]; simp
        rw [hW0]
        clear hW0
        refine (CV.out _ hB0).mono ?_
        rintro e w1 ⟨rfl, hb1⟩
        have hB1 := Lib.hid (hB0.trans (hb1.mono hB0.size))
        have b0' : Boxed w1 w.heap.size 3 (.int .i64 x) := (hb1.block _ (by omega)).trans b0
        have b1' : Boxed w1 (w.heap.size + 1) 3 (.int .i64 0) := (hb1.block _ (by omega)).trans b1
        have b2' : Boxed w1 (w.heap.size + 1 + 1) 4 (.bool false) := (hb1.block _ (by omega)).trans b2
        have k0 := b0'.cell; have k1 := b1'.cell; have k2 := b2'.cell
        have f1 := b1'.frozen; have f2 := b2'.frozen
        clear b0 b1 b2 hb1 hB0 hs0
        go_wp2
        have q1 := ((Boxed.set (.int .i64 0) b1').other (B' := w.heap.size + 1 + 1) (by omega) (.bool false)).cell
        have q2 := (Boxed.set (.bool false) (b2'.other (B' := w.heap.size + 1) (by omega) (.int .i64 0))).cell
        refine bodyPost_ret (v := .tuple #[.int .i64 0, .bool false]) (by simp [results, Try.results36, go_sem, q1, q2]) rfl ⟨by rw [HR.out], (hB1.out.setCell (p := ⟨w.heap.size + 1, 0, none⟩) (by show w.heap.size ≤ w.heap.size + 1; omega) _).setCell (p := ⟨w.heap.size + 1 + 1, 0, none⟩) (by show w.heap.size ≤ w.heap.size + 1 + 1; omega) _⟩
      · have hx' : 0 ≤ x := by omega
        go_enter Try.func36, Try.ntmps36
        go_wp2_with fail
        obtain ⟨W0, hW0⟩ : ∃ W0, (((w.alloc (Obj.cells #[.int .i64 x] 3)).alloc (Obj.cells #[.int .i64 0] 3)).alloc (Obj.cells #[.bool false] 4)) = W0 := ⟨_, rfl⟩
        have b0 : Boxed W0 w.heap.size 3 (.int .i64 x) := by rw [← hW0]; exact ((Boxed.new w 3 (.int .i64 x)).alloc _).alloc _
        have b1 : Boxed W0 (w.heap.size + 1) 3 (.int .i64 0) := by
          rw [← hW0]
          have := (Boxed.new (w.alloc (Obj.cells #[.int .i64 x] 3)) 3 (.int .i64 0)).alloc (Obj.cells #[.bool false] 4)
          rwa [World.size_alloc] at this
        have b2 : Boxed W0 (w.heap.size + 1 + 1) 4 (.bool false) := by
          rw [← hW0]
          have := Boxed.new ((w.alloc (Obj.cells #[.int .i64 x] 3)).alloc (Obj.cells #[.int .i64 0] 3)) 4 (.bool false)
          rwa [World.size_alloc, World.size_alloc] at this
        have hB0 : Below w.heap.size w W0 := by rw [← hW0]; exact (((Below.refl _ w).alloc (Nat.le_refl _) _).alloc (by simp) _).alloc (by simp; omega) _
        have hs0 : W0.heap.size = w.heap.size + 1 + 1 + 1 := by rw [← hW0]; simp
        rw [hW0]
        clear hW0
        refine (CV.out _ hB0).mono ?_
        rintro e w1 ⟨rfl, hb1⟩
        have hB1 := Lib.hid (hB0.trans (hb1.mono hB0.size))
        have b0' : Boxed w1 w.heap.size 3 (.int .i64 x) := (hb1.block _ (by omega)).trans b0
        have b1' : Boxed w1 (w.heap.size + 1) 3 (.int .i64 0) := (hb1.block _ (by omega)).trans b1
        have b2' : Boxed w1 (w.heap.size + 1 + 1) 4 (.bool false) := (hb1.block _ (by omega)).trans b2
        have k0 := b0'.cell; have k1 := b1'.cell; have k2 := b2'.cell
        have f1 := b1'.frozen; have f2 := b2'.frozen
        clear b0 b1 b2 hb1 hB0 hs0
        go_wp2
        have q1 := ((Boxed.set (.int .i64 0) b1').other (B' := w.heap.size + 1 + 1) (by omega) (.bool false)).cell
        have q2 := (Boxed.set (.bool false) (b2'.other (B' := w.heap.size + 1) (by omega) (.int .i64 0))).cell
        refine bodyPost_ret (v := .tuple #[.int .i64 0, .bool false]) (by simp [results, Try.results36, go_sem, q1, q2]) rfl ⟨by rw [HR.out], (hB1.out.setCell (p := ⟨w.heap.size + 1, 0, none⟩) (by show w.heap.size ≤ w.heap.size + 1; omega) _).setCell (p := ⟨w.heap.size + 1 + 1, 0, none⟩) (by show w.heap.size ≤ w.heap.size + 1 + 1; omega) _⟩
    · rw [pb_false hf] at CV0
      have CV := Lib.hid CV0
      clear hp hf hr hn CV0
      go_enter Try.func36, Try.ntmps36
      go_wp2_with fail
      obtain ⟨W0, hW0⟩ : ∃ W0, (((w.alloc (Obj.cells #[.int .i64 x] 3)).alloc (Obj.cells #[.int .i64 0] 3)).alloc (Obj.cells #[.bool false] 4)) = W0 := ⟨_, rfl⟩
      have b0 : Boxed W0 w.heap.size 3 (.int .i64 x) := by rw [← hW0]; exact ((Boxed.new w 3 (.int .i64 x)).alloc _).alloc _
      have b1 : Boxed W0 (w.heap.size + 1) 3 (.int .i64 0) := by
        rw [← hW0]
        have := (Boxed.new (w.alloc (Obj.cells #[.int .i64 x] 3)) 3 (.int .i64 0)).alloc (Obj.cells #[.bool false] 4)
        rwa [World.size_alloc] at this
      have b2 : Boxed W0 (w.heap.size + 1 + 1) 4 (.bool false) := by
        rw [← hW0]
        have := Boxed.new ((w.alloc (Obj.cells #[.int .i64 x] 3)).alloc (Obj.cells #[.int .i64 0] 3)) 4 (.bool false)
        rwa [World.size_alloc, World.size_alloc] at this
      have hB0 : Below w.heap.size w W0 := by rw [← hW0]; exact (((Below.refl _ w).alloc (Nat.le_refl _) _).alloc (by simp) _).alloc (by simp; omega) _
      have hs0 : W0.heap.size = w.heap.size + 1 + 1 + 1 := by rw [← hW0]; simp
      rw [hW0]
      clear hW0
      refine (CV.out _ hB0).mono ?_
      rintro e w1 ⟨rfl, hb1⟩
      have hB1 := Lib.hid (hB0.trans (hb1.mono hB0.size))
      have b0' : Boxed w1 w.heap.size 3 (.int .i64 x) := (hb1.block _ (by omega)).trans b0
      have b1' : Boxed w1 (w.heap.size + 1) 3 (.int .i64 0) := (hb1.block _ (by omega)).trans b1
      have b2' : Boxed w1 (w.heap.size + 1 + 1) 4 (.bool false) := (hb1.block _ (by omega)).trans b2
      have k0 := b0'.cell; have k1 := b1'.cell; have k2 := b2'.cell
      have f1 := b1'.frozen; have f2 := b2'.frozen
      clear b0 b1 b2 hb1 hB0 hs0
      go_wp2
      have q1 := ((Boxed.set (.int .i64 0) b1').other (B' := w.heap.size + 1 + 1) (by omega) (.bool false)).cell
      have q2 := (Boxed.set (.bool false) (b2'.other (B' := w.heap.size + 1) (by omega) (.int .i64 0))).cell
      refine bodyPost_ret (v := .tuple #[.int .i64 0, .bool false]) (by simp [results, Try.results36, go_sem, q1, q2]) rfl ⟨by rw [HR.out], (hB1.out.setCell (p := ⟨w.heap.size + 1, 0, none⟩) (by show w.heap.size ≤ w.heap.size + 1; omega) _).setCell (p := ⟨w.heap.size + 1 + 1, 0, none⟩) (by show w.heap.size ≤ w.heap.size + 1 + 1; omega) _⟩
  case pos =>
  obtain ⟨hf, hx0, hx1⟩ := hp
  have hlen := hf.1
  subst hn
  have CV := Lib.hid (fun W (hb : Below w.heap.size w W) => implFmts g 0 qs.length c qs W rfl (hr.moved hb) hm)
  rw [pb_true hf] at CV
  have h1 : 1 ≤ 3 := by omega
  refine (callsIn_wide (n := 3)).1 ?_
  refine callsIn_of_wp_marks Try.func36 rfl trivial ?_ rfl
  simp only [Try.ntmps36, List.size_toArray, List.length_cons, List.length_nil, Nat.reduceAdd, Nat.reduceSub, Array.replicate_succ, Array.replicate_zero, List.push_toArray, List.append_toArray, List.nil_append, List.cons_append]
  gi_wp2_with fail
  obtain ⟨W0, hW0⟩ : ∃ W0, (((w.alloc (Obj.cells #[.int .i64 x] 3)).alloc (Obj.cells #[.int .i64 0] 3)).alloc (Obj.cells #[.bool false] 4)) = W0 := ⟨_, rfl⟩
  have b0 : Boxed W0 w.heap.size 3 (.int .i64 x) := by rw [← hW0]; exact ((Boxed.new w 3 (.int .i64 x)).alloc _).alloc _
  have b1 : Boxed W0 (w.heap.size + 1) 3 (.int .i64 0) := by
    rw [← hW0]
    have := (Boxed.new (w.alloc (Obj.cells #[.int .i64 x] 3)) 3 (.int .i64 0)).alloc (Obj.cells #[.bool false] 4)
    rwa [World.size_alloc] at this
  have b2 : Boxed W0 (w.heap.size + 1 + 1) 4 (.bool false) := by
    rw [← hW0]
    have := Boxed.new ((w.alloc (Obj.cells #[.int .i64 x] 3)).alloc (Obj.cells #[.int .i64 0] 3)) 4 (.bool false)
    rwa [World.size_alloc, World.size_alloc] at this
  have hB0 : Below w.heap.size w W0 := by rw [← hW0]; exact (((Below.refl _ w).alloc (Nat.le_refl _) _).alloc (by simp) _).alloc (by simp; omega) _
  have hs0 : W0.heap.size = w.heap.size + 1 + 1 + 1 := by rw [← hW0]; simp
  rw [hW0]
  clear hW0
  refine ⟨trivial, (callsIn_wide.2 (CV.out _ hB0)).mono ?_⟩
  rintro e w1 ⟨rfl, hb1⟩
  have hB1 := hB0.trans (hb1.mono hB0.size)
  have hs1 : w.heap.size + 1 + 1 + 1 ≤ w1.heap.size := by have := hb1.size; omega
  have b0' : Boxed w1 w.heap.size 3 (.int .i64 x) := (hb1.block _ (by omega)).trans b0
  have b1' : Boxed w1 (w.heap.size + 1) 3 (.int .i64 0) := (hb1.block _ (by omega)).trans b1
  have b2' : Boxed w1 (w.heap.size + 1 + 1) 4 (.bool false) := (hb1.block _ (by omega)).trans b2
  have hc0 := b0'.cell
  clear b0 b1 b2 hb1 hB0
  gi_wp2_with (refine ⟨trivial, ?_⟩; gi_at_call 80; refine (back_in Fence.wide 2 trivial rfl _ _ _ _).mono ?_; rintro e w' ⟨rfl, rfl⟩)
  obtain ⟨V, hV⟩ : ∃ V, (w1.alloc (Obj.cells #[.slice (some ⟨g, 0, none⟩) qs.length c] 46)) = V := ⟨_, rfl⟩
  have bN : Boxed V w1.heap.size 46 (.slice (some ⟨g, 0, none⟩) qs.length c) := by rw [← hV]; exact Boxed.new w1 _ _
  have c0 : Boxed V w.heap.size 3 (.int .i64 x) := by rw [← hV]; exact b0'.alloc _
  have c1 : Boxed V (w.heap.size + 1) 3 (.int .i64 0) := by rw [← hV]; exact b1'.alloc _
  have c2 : Boxed V (w.heap.size + 1 + 1) 4 (.bool false) := by rw [← hV]; exact b2'.alloc _
  have hBV : Below w.heap.size w V := by rw [← hV]; exact hB1.alloc (by omega) _
  have hsV : w1.heap.size < V.heap.size := by rw [← hV]; simp
  rw [hV]
  clear hV b0' b1' b2' hc0 hB1
  have hsw : w.heap.size + 3 ≤ V.heap.size := by omega
  have hgb : g < V.heap.size := by
    have := (hr.q2c (k := 0) (by omega)).1
    omega
  have hcs : ∀ j, j < qs.length → V.cell? ⟨g, j * 2, none⟩ = some (.int .i64 (q2D qs j).a) ∧ V.cell? ⟨g, j * 2 + 1, none⟩ = some (.int .i64 (q2D qs j).b) := by
    intro j hj
    obtain ⟨hgw, h0, h1⟩ := hr.q2c (k := j) hj
    have e : q2D qs j = qs[j] := by unfold q2D; rw [List.getElem?_eq_getElem hj]; rfl
    rw [Nat.zero_add] at h0 h1
    rw [e]
    exact ⟨(hBV.cell (p := ⟨g, j * 2, none⟩) hgw).trans h0, (hBV.cell (p := ⟨g, j * 2 + 1, none⟩) hgw).trans h1⟩
  refine wpIn_rangeFunc_ownH rfl h1 (gf := 107) (lb := #[.pointer (some ⟨w1.heap.size, 0, none⟩)]) rfl trivial (enters_of Try.func107 (by kernel_rfl) rfl)
    (back_stops Fence.wide _ trivial rfl (by omega) w1.heap.size V.heap.size g c qs hlen.2 V hgb hsV (Nat.le_refl _) bN.cell hcs) belowK_t (belowK_b (Nat.le_refl _)) (Below.refl _ _) (fun _ => rfl)
    (fun pre W => (∀ p ∈ pre, p.2.a < x) ∧ Boxed W w.heap.size 3 (.int .i64 x) ∧ Boxed W (w.heap.size + 1) 3 (.int .i64 0) ∧ Boxed W (w.heap.size + 1 + 1) 4 (.bool false) ∧ Below w.heap.size w W ∧ V.heap.size ≤ W.heap.size)
    (fun cc pre W => cc = .ret ∧ ∃ ini last, pre = ini ++ [last] ∧ (∀ p ∈ ini, p.2.a < x) ∧ x ≤ last.2.a ∧ Boxed W (w.heap.size + 1) 3 (.int .i64 (last.1 : Int)) ∧ Boxed W (w.heap.size + 1 + 1) 4 (.bool true) ∧ Below w.heap.size w W)
    (fun s X Y row hs hg hr => ⟨hs.1, heap_own hs.2.1 hg hr, heap_own hs.2.2.1 hg hr, heap_own hs.2.2.2.1 hg hr, hs.2.2.2.2.1.grown hg hs.2.2.2.2.1.size (fun k e => by have := (hr k e).1; omega), Nat.le_trans hs.2.2.2.2.2 hg.size⟩)
    (fun cc s X Y row hs hg hr => by
      obtain ⟨e0, ini, last, e1, e2, e3, d1, d2, hB⟩ := hs
      exact ⟨e0, ini, last, e1, e2, e3, heap_own d1 hg hr, heap_own d2 hg hr, hB.grown hg hB.size (fun k e => by have := (hr k e).1; omega)⟩)
    ⟨by simp, c0, c1, c2, hBV, Nat.le_refl _⟩
    (fun y a' W => ∃ Bx, W.heap[Bx]? = some (.cells #[.int .i64 y.2.a, .int .i64 y.2.b] 100 (0, 0)) ∧ a' = { tmps := #[.slice (some ⟨g, 0, none⟩) qs.length c, .int .i64 x, undef, .pointer (some ⟨w.heap.size, 0, none⟩), .pointer (some ⟨w.heap.size + 1, 0, none⟩), .pointer (some ⟨w.heap.size + 1 + 1, 0, none⟩), .int .i64 (y.1 : Int), .pointer (some ⟨Bx, 0, none⟩), .slice (some ⟨g, 0, none⟩) qs.length c, .bool true, .bool false, .bool false, .int .i64 x, .bool (decide (x < 0)), .bool (decide (x < 0)), .bool (decide (x < 0)), .int .i64 x, .bool (decide (20000 < x)), .bool (decide (x < 0) || decide (20000 < x)), .slice (some ⟨g, 0, none⟩) qs.length c, .func (.func 107) #[] #[.pointer (some ⟨w1.heap.size, 0, none⟩)], .int .i64 (y.1 : Int), .agg #[.int .i64 y.2.a, .int .i64 y.2.b], undef, undef, undef, undef, undef], defers := [] })
    (fun y a' s X Y row hs hg hr => by
      obtain ⟨Bx, hX, ha⟩ := hs
      exact ⟨Bx, heap_own hX hg hr, ha⟩) ?assign ?body ?done ?stop
  case assign =>
    rintro l pre y W K ⟨hi1, hi2, hi3, hi4, hi5, hi6⟩ hK
    gi_wp2
    exact hK _ _ ((KeepsOthers.alloc _ _).from _) ((Below.refl _ W).alloc hi6 _) ⟨hi1, hi2.alloc _, hi3.alloc _, hi4.alloc _, hi5.alloc hi5.size _, by simp; omega⟩ ⟨W.heap.size, heap_alloc_new W _, rfl⟩
  case body =>
    rintro l pre y a' W hl ⟨r, hrl⟩ ⟨hi1, hi2, hi3, hi4, hi5, hi6⟩ ⟨Bx, hX, rfl⟩ hlt
    have kx := hi2.cell
    have ky := cell_of_row W Bx 0 _ _ _ hX
    have k1 := hi3.cell; have k2 := hi4.cell
    have f1 := hi3.frozen; have f2 := hi4.frozen
    by_cases hxy : x ≤ y.2.a
    · gi_wp2
      exact ⟨((KeepsOthers.setCell _ _ _).trans (KeepsOthers.setCell _ _ _)).from _, rfl, pre, y, rfl, hi1, hxy, (Boxed.set _ hi3).other (by omega) _, Boxed.set _ (hi4.other (by omega) _), (hi5.setCell (p := ⟨w.heap.size + 1, 0, none⟩) (by show w.heap.size ≤ w.heap.size + 1; omega) _).setCell (p := ⟨w.heap.size + 1 + 1, 0, none⟩) (by show w.heap.size ≤ w.heap.size + 1 + 1; omega) _⟩
    · have hxy' : y.2.a < x := by omega
      have hi' : ∀ p ∈ pre ++ [y], p.2.a < x := fun p hp => (List.mem_append.1 hp).elim (hi1 p) (fun e => by simp at e; subst e; exact hxy')
      gi_wp2
      exact ⟨KeepsFrom.refl _ _, Below.refl _ _, fun a b h => hi' (a, b) h, hi2, hi3, hi4, hi5, hi6⟩
  case done =>
    rintro D ys W hD rfl ⟨hi1, hi2, hi3, hi4, hi5, hi6⟩ hK
    have k1 := hi3.cell; have k2 := hi4.cell
    have f1 := hi3.frozen; have f2 := hi4.frozen
    have hbest := best_none qs x hi1
    have HR := Lib.hid (for_no (qs := qs) (x := x) fun h => by have := h.2; omega)
    clear hbest hi1
    gi_wp2
    have s1 := (Boxed.set (.int .i64 0) hi3).other (B' := w.heap.size + 1 + 1) (by omega) (.bool false)
    have s2 := Boxed.set (.bool false) (hi4.other (B' := w.heap.size + 1) (by omega) (.int .i64 0))
    have hK' := ((KeepsOthers.setCell W ⟨w.heap.size + 1, 0, none⟩ (.int .i64 0)).trans (KeepsOthers.setCell _ ⟨w.heap.size + 1 + 1, 0, none⟩ (.bool false))).same D _ hK rfl
    have hB' := (hi5.setCell (p := ⟨w.heap.size + 1, 0, none⟩) (by show w.heap.size ≤ w.heap.size + 1; omega) (.int .i64 0)).setCell (p := ⟨w.heap.size + 1 + 1, 0, none⟩) (by show w.heap.size ≤ w.heap.size + 1 + 1; omega) (.bool false)
    refine ⟨by simp, .inl ⟨_, _, rfl, run_takeDeferred hK', ?_⟩⟩
    have q1 := cell_kept s1.cell (grownBy_putObj' _ D (.deferred none)) (fun r e => by cases e; exact ⟨_, hK', rfl⟩)
    have q2 := cell_kept s2.cell (grownBy_putObj' _ D (.deferred none)) (fun r e => by cases e; exact ⟨_, hK', rfl⟩)
    refine ⟨.tuple #[.int .i64 0, .bool false], ?_, by rw [HR.out], hB'.trans (belowK_b (w := w) (Nat.le_refl _) _ D _ _ (by omega) hK' rfl rfl)⟩
    simp [results, Try.results36, go_sem, q1, q2]
  case stop =>
    rintro D cc pre W hD ⟨k, hk, rfl⟩ ⟨rfl, ini, last, e1, e2, e3, d1, d2, hB⟩ hK
    obtain ⟨k', rfl⟩ : ∃ k', k = k' + 1 := by
      cases k with
      | zero => simp [uptoB] at e1
      | succ k' => exact ⟨k', rfl⟩
    rw [uptoB_succ] at e1
    obtain ⟨rfl, e5⟩ := List.append_inj' e1 rfl
    obtain rfl : bw qs k' = last := by simpa using e5
    obtain ⟨hbest, hbl⟩ := best_some qs x k' (by omega) e2 e3
    have hr1 := for_yes (qs := qs) (x := x) ⟨⟨hf, hx0, hx1⟩, by omega⟩
    rw [hbest] at hr1
    obtain ⟨j, hj⟩ : ∃ j, (bw qs k').1 = j := ⟨_, rfl⟩
    rw [hj] at hr1 d1
    have HR := Lib.hid hr1
    clear hbest hbl hr1 hj e1 e2 e3 e5
    gi_wp2
    refine ⟨by simp, .inl ⟨_, _, rfl, run_takeDeferred hK, ?_⟩⟩
    have q1 := cell_kept d1.cell (grownBy_putObj' _ D (.deferred none)) (fun r e => by cases e; exact ⟨_, hK, rfl⟩)
    have q2 := cell_kept d2.cell (grownBy_putObj' _ D (.deferred none)) (fun r e => by cases e; exact ⟨_, hK, rfl⟩)
    refine ⟨.tuple #[.int .i64 (j : Int), .bool true], ?_, by rw [HR.out], hB.trans (belowK_b (w := w) (Nat.le_refl _) _ D _ _ (by omega) hK rfl rfl)⟩
    simp [results, Try.results36, go_sem, q1, q2]

set_option maxHeartbeats 1000000 in
theorem specBest (g o n c : Nat) (qs : List Q2) (x : Int) (w : World) (hn : qs.length = n) (hr : Rd w w.heap.size (some ⟨g, o, none⟩) (qs.flatMap Q2.cells)) (hm : n ≤ 6) :
    Calls Try.prog 79 #[.slice (some ⟨g, o, none⟩) n c, .int .i64 x] w (BoolI (bestK qs x n) w) := by
  have HN := Lib.hid hn; clear hn
  go_enter Try.func79, Try.ntmps79
  go_wp2
  go_loop [5, 6] (fun b i => ∃ k : Nat, k ≤ n ∧ i = .int .i64 k ∧ b = .int .i64 (bestK qs x k)) (fun _ i => n - (intOf i).toNat)
  case atStart => exact ⟨0, Nat.zero_le _, rfl, rfl⟩
  case round =>
    obtain ⟨k, hk, rfl, rfl⟩ := hrel
    by_cases hlt : k < n
    · have hks : k < qs.length := by have := HN.out; omega
      obtain ⟨_, hc0, hc1⟩ := hr.q2c hks
      have e : q2D qs k = qs[k] := by unfold q2D; rw [List.getElem?_eq_getElem hks]; rfl
      have hstep : bestK qs x (k + 1) = if x ≤ (q2D qs k).a then (k : Int) else bestK qs x k := rfl
      rw [e] at hstep
      obtain ⟨⟨u0, u1⟩, hq⟩ : ∃ q, qs[k]'hks = q := ⟨_, rfl⟩
      rw [hq] at hc0 hc1 hstep
      simp only at hc0 hc1 hstep
      clear hq e
      by_cases hx : x ≤ u0
      · rw [if_pos hx] at hstep
        have HS := Lib.hid hstep; clear hstep
        go_wp2
        go_round
        case rel => exact ⟨k + 1, by omega, by go_num, by rw [HS.out]⟩
        case measure => simp [intOf]; omega
      · rw [if_neg hx] at hstep
        have HS := Lib.hid hstep; clear hstep
        have hx' : u0 < x := by omega
        clear hx
        go_wp2
        go_round
        case rel => exact ⟨k + 1, by omega, by go_num, by rw [HS.out]⟩
        case measure => simp [intOf]; omega
    · obtain rfl : k = n := by omega
      obtain ⟨z, hz⟩ : ∃ z, bestK qs x k = z := ⟨_, rfl⟩
      rw [hz]
      clear hlt
      go_wp2
      go_ret
      exact ⟨rfl, Below.refl _ _⟩

set_option maxHeartbeats 2000000 in
theorem specFor (g n c : Nat) (qs : List Q2) (x : Int) (w : World) (hn : qs.length = n) (hr : Rd w w.heap.size (some ⟨g, 0, none⟩) (qs.flatMap Q2.cells)) (hm : n ≤ 1048576) :
    Calls Try.prog 35 #[.slice (some ⟨g, 0, none⟩) n c, .int .i64 x] w (RetV (forR qs x) w) := by
  have CV0 := fun W (hb : Below w.heap.size w W) => specFmts g 0 n c qs W hn (hr.moved hb) hm
  by_cases hf : fmtsP qs
  case neg =>
    have HR := Lib.hid (for_no (qs := qs) (x := x) fun h => hf h.1.1)
    obtain ⟨r, hr'⟩ : ∃ r, forR qs x = r := ⟨_, rfl⟩
    rw [hr'] at HR ⊢
    rw [pb_false hf] at CV0
    have CV := Lib.hid CV0
    clear hr' hf hr hn CV0
    go_enter Try.func35, Try.ntmps35
    go_wp2_with fail
    refine (CV.out _ (Below.refl _ _)).mono ?_
    rintro e w1 ⟨rfl, hb1⟩
    have HB1 := Lib.hid hb1; clear hb1
    go_wp2
    go_ret2
    exact retV HR.out HB1.out
  case pos =>
  rw [pb_true hf] at CV0
  have CV := Lib.hid CV0
  by_cases hx : 0 ≤ x ∧ x ≤ 20000
  case neg =>
    have HR := Lib.hid (for_no (qs := qs) (x := x) fun h => hx h.1.2)
    obtain ⟨r, hr'⟩ : ∃ r, forR qs x = r := ⟨_, rfl⟩
    rw [hr'] at HR ⊢
    have CI := Lib.hid (fun W => (in_no x 0 20000 W (by omega)).mono (fun e w' (h : e = _ ∧ w' = W) => (⟨h.1, h.2.symm⟩ : e = _ ∧ W = w')))
    clear hr' hf hr hn CV0 hx
    go_enter Try.func35, Try.ntmps35
    go_wp2_with fail
    refine (CV.out _ (Below.refl _ _)).mono ?_
    rintro e w1 ⟨rfl, hb1⟩
    have HB1 := Lib.hid hb1; clear hb1
    go_wp2_with fail
    refine (CI.out _).mono ?_
    rintro e w' ⟨rfl, rfl⟩
    go_wp2
    go_ret2
    exact retV HR.out HB1.out
  case pos =>
  have CI := Lib.hid (fun W => (in_yes x 0 20000 W hx.1 hx.2).mono (fun e w' (h : e = _ ∧ w' = W) => (⟨h.1, h.2.symm⟩ : e = _ ∧ W = w')))
  have hn6 : n ≤ 6 := by have := hf.1.2; omega
  have CB := Lib.hid (fun W (hb : Below w.heap.size w W) => specBest g 0 n c qs x W hn (hr.moved hb) hn6)
  by_cases hb : 0 ≤ bestK qs x n
  · have hr1 := for_yes (qs := qs) (x := x) ⟨⟨hf, hx⟩, by rw [hn]; exact hb⟩
    rw [hn] at hr1
    have HR := Lib.hid hr1
    obtain ⟨r, hr'⟩ : ∃ r, forR qs x = r := ⟨_, rfl⟩
    obtain ⟨z, hz⟩ : ∃ z, bestK qs x n = z := ⟨_, rfl⟩
    rw [hr'] at HR ⊢
    rw [hz] at HR CB hb
    clear hr' hf hr hn CV0 hx hr1 hz
    go_enter Try.func35, Try.ntmps35
    go_wp2_with fail
    refine (CV.out _ (Below.refl _ _)).mono ?_
    rintro e w1 ⟨rfl, hb1⟩
    have HB1 := Lib.hid hb1; clear hb1
    go_wp2_with fail
    refine (CI.out _).mono ?_
    rintro e w' ⟨rfl, rfl⟩
    go_wp2_with fail
    refine (CB.out _ HB1.out).mono ?_
    rintro e w2 ⟨rfl, hb2⟩
    have HB2 := Lib.hid (HB1.out.trans (hb2.mono HB1.out.size)); clear hb2
    go_wp2_with fail
    refine (CB.out _ HB2.out).mono ?_
    rintro e w3 ⟨rfl, hb3⟩
    have HB3 := Lib.hid (HB2.out.trans (hb3.mono HB2.out.size)); clear hb3
    go_wp2
    go_ret2
    exact retV HR.out HB3.out
  · have HR := Lib.hid (for_no (qs := qs) (x := x) fun h => hb (by have := h.2; rw [hn] at this; exact this))
    obtain ⟨r, hr'⟩ : ∃ r, forR qs x = r := ⟨_, rfl⟩
    obtain ⟨z, hz⟩ : ∃ z, bestK qs x n = z := ⟨_, rfl⟩
    rw [hr'] at HR ⊢
    rw [hz] at CB hb
    have hb' : z < 0 := by omega
    clear hr' hf hr hn CV0 hx hb hz
    go_enter Try.func35, Try.ntmps35
    go_wp2_with fail
    refine (CV.out _ (Below.refl _ _)).mono ?_
    rintro e w1 ⟨rfl, hb1⟩
    have HB1 := Lib.hid hb1; clear hb1
    go_wp2_with fail
    refine (CI.out _).mono ?_
    rintro e w' ⟨rfl, rfl⟩
    go_wp2_with fail
    refine (CB.out _ HB1.out).mono ?_
    rintro e w2 ⟨rfl, hb2⟩
    have HB2 := Lib.hid (HB1.out.trans (hb2.mono HB1.out.size)); clear hb2
    go_wp2
    go_ret2
    exact retV HR.out HB2.out
end Go.Proofs.Ythmmhhoaplbfgaa
