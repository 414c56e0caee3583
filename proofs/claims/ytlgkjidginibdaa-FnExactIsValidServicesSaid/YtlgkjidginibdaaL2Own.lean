/- A network copied: contract of spec.l2Own. No condition but those typed. -/
import Derived.Test.YtlgkjidginibdaaGB
import Derived.Test.YtlgkjidginibdaaFail
import Derived.Test.YtlgkjidginibdaaOwn
import Derived.Test.YtlgkjidginibdaaRws
import Derived.Deep.RegionLaw
import Derived.Deep.AppendLies
import Derived.Deep.CutBlock
import Derived.Deep.DeepCutAuto
namespace Go.Proofs.Ytlgkjidginibdaa
open Go.ChangeShapes Go.WideShapes Go.ChangeAt Go.RowKit

theorem step_app {P : Program} {ops : Array Oper} {o : Oper} {a : Act} {w : World} {K : Act → World → Prop} {Q : Exit → Act → World → Prop} {E : Prop}
    (hg : o.guard = none) (s x : Operand) (t : TypeId) (hop : o.op = Op.call { callee := Callee.builtin Builtin.append, args := #[s, x], argTypes := #[t, t] })
    (base : Nat) (e : TypeId) (i : TypeInfo) (z : Value) (size bytes : Nat) (h1 : P.underlying t = some (.slice e)) (h2 : P.info? e = some i) (h3 : i.zero = some z) (h4 : i.size = size) (h5 : i.bytes = bytes) (h6 : z.cells.size = size) (h7 : 0 < size)
    (v : Value) (n : Nat) (xs : List Value) (hs : a.eval s = v) (hown : w.ownsRow base e size v n xs)
    (ad : Addr) (m c : Nat) (news : List Value) (hx : a.eval x = .slice (some ad) m c) (hn : news.length = m * size) (hc : ∀ j u, news[j]? = some u → w.cell? (ad.add j) = some u) (h1c : ∀ u ∈ news, u.oneCell' = true)
    (b1 : n + m ≤ maxLen) (b2 : (n + m) * bytes ≤ 140737488355328) (hbase : base ≤ w.heap.size)
    (hK : ∀ v' w', w'.ownsRow base e size v' (n + m) (xs ++ news) → w.grownBy w' v.ownBlock → K (a.put o.dst v') w') :
    if Region.wanted o (yielded ops a.tmps) = true then Oper.wp P o a w K Q else E := by
  have hw : Region.wanted o (yielded ops a.tmps) = true := by simp [Region.wanted, hg]
  rw [if_pos hw]
  obtain ⟨v', w', hrun, r1, r2, _⟩ := run_append_own (P := P) w base t o.type e i z size bytes h1 h2 h3 h4 h5 h6 h7 v n xs hown ad m c news hn hc h1c b1 b2 hbase
  unfold Oper.wp
  simp [execOp, hop, resolve, invoke, builtin, hs, hx, hrun, Result.andThen]
  exact hK v' w' r1 r2
theorem lit_own {W : World} {b B size : Nat} {E : TypeId} (h : W.heap[b]? = some (.cells #[] E (0, 0))) (hB : B ≤ b) : W.ownsRow B E size (.slice (some ⟨b, 0, none⟩) 0 0) 0 [] := by
  exact ⟨by simp, .inr ⟨b, 0, #[], rfl, hB, h, by simp, by unfold maxLen; omega, by simp⟩⟩
theorem nh {W : World} {o : Obj} {b : Nat} (hb : W.heap.size = b) : (W.alloc o).heap[b]? = some o := by subst hb; exact heap_alloc_new _ _
theorem oh {W : World} {o : Obj} {b : Nat} (hb : b < W.heap.size) : (W.alloc o).heap[b]? = W.heap[b]? := ((Below.refl W.heap.size W).alloc (Nat.le_refl _) o).block b hb
theorem one_strs (ss : List ByteArray) : ∀ u ∈ ss.map Value.string, u.oneCell' = true := by
  intro u hu
  obtain ⟨z, _, rfl⟩ := List.mem_map.1 hu
  rfl
theorem one_q4s (fs : List Q4) : ∀ u ∈ fs.flatMap Q4.cells, u.oneCell' = true := by
  intro u hu
  obtain ⟨q, _, h⟩ := List.mem_flatMap.1 hu
  simp only [Q4.cells, List.mem_cons, List.not_mem_nil, or_false] at h
  rcases h with rfl | rfl | rfl | rfl <;> rfl
theorem rd_cells {w : World} {B : Nat} {ad : Addr} {xs : List Value} (h : Rd w B (some ad) xs) {U : World} (hU : Below B w U) : ∀ (j : Nat) (u : Value), xs[j]? = some u → U.cell? (ad.add j) = some u := fun j u hu => by
  obtain ⟨ad', e, hl, hc⟩ := h.over hU j u hu
  obtain rfl := Option.some.inj e
  exact hc
set_option maxRecDepth 100000 in
set_option maxHeartbeats 8000000 in
theorem l2Own_ {g1 g2 n1 n2 c1 c2 : Nat} {ss : List ByteArray} {fs : List Q4} {w : World} (h : NetAt g1 g2 n1 n2 c1 c2 ss fs w) :
    Calls Try.prog 177 #[.agg #[.slice (some ⟨g1, 0, none⟩) n1 c1, .slice (some ⟨g2, 0, none⟩) n2 c2]] w fun e w' => ∃ (A1 A2 : Option Addr) (d1 d2 : Nat), e = .returned (.agg #[.slice A1 n1 d1, .slice A2 n2 d2]) ∧ w'.ownsRow (w.heap.size + 2) 9 1 (.slice A1 n1 d1) n1 (ss.map Value.string) ∧ w'.ownsRow (w.heap.size + 2) 201 4 (.slice A2 n2 d2) n2 (fs.flatMap Q4.cells) ∧ Below w.heap.size w w' := by
  have HL1 := Lib.hid h.ln1; have HL2 := Lib.hid h.ln2; have HNT := Lib.hid h
  have hs1 := h.sm1; have hs2 := h.sm2
  clear h
  obtain ⟨i1, hi1, hz10, hz11, hz12⟩ := info_parts Try.inf_str
  have HI1 := Lib.hid hi1; have HZ10 := Lib.hid hz10; have HZ11 := Lib.hid hz11; have HZ12 := Lib.hid hz12
  obtain ⟨i2, hi2, hz20, hz21, hz22⟩ := info_parts Try.inf_Fib
  have HI2 := Lib.hid hi2; have HZ20 := Lib.hid hz20; have HZ21 := Lib.hid hz21; have HZ22 := Lib.hid hz22
  clear hi1 hz10 hz11 hz12 hi2 hz20 hz21 hz22
  go_enter Try.func177, Try.ntmps177
  go_wp2_with fail
  obtain ⟨W0, hW0⟩ : ∃ W0, (w.alloc (Obj.cells #[.slice (some ⟨g1, 0, none⟩) n1 c1, .slice (some ⟨g2, 0, none⟩) n2 c2] 39)).alloc (Obj.cells #[.slice none 0 0, .slice none 0 0] 39) = W0 := ⟨_, rfl⟩
  have hb0 : Below w.heap.size w W0 := by rw [← hW0]; exact ((Below.refl _ _).alloc (Nat.le_refl _) _).alloc (by simp) _
  have k0 : W0.cell? ⟨w.heap.size, 0, none⟩ = some (.slice (some ⟨g1, 0, none⟩) n1 c1) := by rw [← hW0]; simp [go_sem]
  have k1 : W0.cell? ⟨w.heap.size, 1, none⟩ = some (.slice (some ⟨g2, 0, none⟩) n2 c2) := by rw [← hW0]; simp [go_sem]
  have m0 : W0.cell? ⟨w.heap.size + 1, 0, none⟩ = some (.slice none 0 0) := by rw [← hW0]; simp [go_sem]
  have m1 : W0.cell? ⟨w.heap.size + 1, 1, none⟩ = some (.slice none 0 0) := by rw [← hW0]; simp [go_sem]
  have f0 : W0.frozen? ⟨w.heap.size + 1, 0, none⟩ = false := by rw [← hW0]; simp [go_sem]
  have f1 : W0.frozen? ⟨w.heap.size + 1, 1, none⟩ = false := by rw [← hW0]; simp [go_sem]
  have hz0 : W0.heap.size = w.heap.size + 2 := by rw [← hW0]; simp
  have HB0 := Lib.hid hb0; have HZ0 := Lib.hid hz0
  rw [hW0]
  have hzz : w.heap.size + 1 < W0.heap.size := by omega
  have hzy : w.heap.size < W0.heap.size := by omega
  clear hW0 hb0 hz0
  have HK : Hid (∀ u, Below W0.heap.size W0 u → u.cell? ⟨w.heap.size, 0, none⟩ = some (.slice (some ⟨g1, 0, none⟩) n1 c1) ∧ u.cell? ⟨w.heap.size, 1, none⟩ = some (.slice (some ⟨g2, 0, none⟩) n2 c2) ∧ u.cell? ⟨w.heap.size + 1, 0, none⟩ = some (.slice none 0 0) ∧ u.cell? ⟨w.heap.size + 1, 1, none⟩ = some (.slice none 0 0) ∧ u.frozen? ⟨w.heap.size + 1, 0, none⟩ = false ∧ u.frozen? ⟨w.heap.size + 1, 1, none⟩ = false ∧ w.heap.size < u.heap.size ∧ w.heap.size + 1 < u.heap.size) := Lib.hid (fun u hu => ⟨(hu.cell (p := ⟨w.heap.size, 0, none⟩) hzy).trans k0, (hu.cell (p := ⟨w.heap.size, 1, none⟩) hzy).trans k1, (hu.cell (p := ⟨w.heap.size + 1, 0, none⟩) hzz).trans m0, (hu.cell (p := ⟨w.heap.size + 1, 1, none⟩) hzz).trans m1, (hu.frozen (p := ⟨w.heap.size + 1, 0, none⟩) hzz).trans f0, (hu.frozen (p := ⟨w.heap.size + 1, 1, none⟩) hzz).trans f1, Nat.lt_of_lt_of_le hzy hu.size, Nat.lt_of_lt_of_le hzz hu.size⟩)
  have HC1 : Hid (∀ U, Below W0.heap.size W0 U → ∀ (j : Nat) (u : Value), (ss.map Value.string)[j]? = some u → U.cell? ((⟨g1, 0, none⟩ : Addr).add j) = some u) := Lib.hid (fun U hU => rd_cells (HNT.out.moved HB0.out).rd1 hU)
  have HC2 : Hid (∀ U, Below W0.heap.size W0 U → ∀ (j : Nat) (u : Value), (fs.flatMap Q4.cells)[j]? = some u → U.cell? ((⟨g2, 0, none⟩ : Addr).add j) = some u) := Lib.hid (fun U hU => rd_cells (HNT.out.moved HB0.out).rd2 hU)
  go_region_law (first
    | ((refine step_app (by rfl) (.tmp 3) (.tmp 5) 22 (by rfl) W0.heap.size 9 i1 (.string ByteArray.empty) 1 16 Try.underlying22 HI1.out HZ10.out HZ11.out HZ12.out rfl (by decide) _ 0 [] (by rfl) (lit_own (by first | exact nh (by first | (simp; done) | (simp; omega)) | exact (oh (by first | (simp; done) | (simp; omega))).trans (nh (by first | (simp; done) | (simp; omega))) | exact (hgrow1.block _ (by first | (simp; done) | (simp; omega)) (by simp [Value.ownBlock])).trans (by first | exact nh (by first | (simp; done) | (simp; omega)) | exact (oh (by first | (simp; done) | (simp; omega))).trans (nh (by first | (simp; done) | (simp; omega)))) | exact (hgrow2.block _ (by first | (simp; done) | (simp; omega)) (by simp [Value.ownBlock])).trans (by first | exact nh (by first | (simp; done) | (simp; omega)) | exact (oh (by first | (simp; done) | (simp; omega))).trans (nh (by first | (simp; done) | (simp; omega))))) (by first | exact Nat.le_refl _ | (simp; done) | (simp; omega) | (have := hb1.size; simp; omega) | (have := hb2.size; simp; omega))) ⟨g1, 0, none⟩ n1 c1 (ss.map Value.string) (by rfl) (by rw [List.length_map, Nat.mul_one]; exact HL1.out) (HC1.out _ (by repeat (first | assumption | exact Below.refl _ _ | refine Below.drew ?_ | refine Below.alloc ?_ (by first | exact Nat.le_refl _ | exact hb1.size | exact hb2.size | (simp; done) | (simp; omega) | (have := hb1.size; simp; omega) | (have := hb2.size; simp; omega)) _))) (one_strs _) (by unfold maxLen; omega) (by omega) (by first | exact Nat.le_refl _ | exact hb1.size | exact hb2.size | (simp; done) | (simp; omega) | (have := hb1.size; simp; omega) | (have := hb2.size; simp; omega)) ?_); intro v1 w1 hown1 hgrow1; have hb1 : Below W0.heap.size W0 w1 := Below.grown (by repeat (first | assumption | exact Below.refl _ _ | refine Below.drew ?_ | refine Below.alloc ?_ (by first | exact Nat.le_refl _ | exact hb1.size | exact hb2.size | (simp; done) | (simp; omega) | (have := hb1.size; simp; omega) | (have := hb2.size; simp; omega)) _)) hgrow1 (by first | exact Nat.le_refl _ | exact hb1.size | exact hb2.size | (simp; done) | (simp; omega) | (have := hb1.size; simp; omega) | (have := hb2.size; simp; omega)) (fun g9 hg9 => by simp [Value.ownBlock] at hg9; first | omega | (have := hb1.size; omega) | (have := hb2.size; omega)); obtain ⟨a10, a11, z10, z11, y10, y11, x10, x11⟩ := HK.out w1 hb1; obtain ⟨A1, d1, rfl⟩ := formOf hown1; simp only [Nat.zero_add] at hown1 ⊢)
    | ((refine step_app (by rfl) (.tmp 7) (.tmp 9) 37 (by rfl) W0.heap.size 201 i2 (.agg #[.int .i64 0, .int .i64 0, .int .i64 0, .int .i64 0]) 4 32 Try.underlying37 HI2.out HZ20.out HZ21.out HZ22.out rfl (by decide) _ 0 [] (by rfl) (lit_own (by first | exact nh (by first | (simp; done) | (simp; omega)) | exact (oh (by first | (simp; done) | (simp; omega))).trans (nh (by first | (simp; done) | (simp; omega))) | exact (hgrow1.block _ (by first | (simp; done) | (simp; omega)) (by simp [Value.ownBlock])).trans (by first | exact nh (by first | (simp; done) | (simp; omega)) | exact (oh (by first | (simp; done) | (simp; omega))).trans (nh (by first | (simp; done) | (simp; omega)))) | exact (hgrow2.block _ (by first | (simp; done) | (simp; omega)) (by simp [Value.ownBlock])).trans (by first | exact nh (by first | (simp; done) | (simp; omega)) | exact (oh (by first | (simp; done) | (simp; omega))).trans (nh (by first | (simp; done) | (simp; omega))))) (by first | exact Nat.le_refl _ | (simp; done) | (simp; omega) | (have := hb1.size; simp; omega) | (have := hb2.size; simp; omega))) ⟨g2, 0, none⟩ n2 c2 (fs.flatMap Q4.cells) (by rfl) (by rw [flat_len Q4.cells 4 fs (fun _ _ => rfl), HL2.out]) (HC2.out _ (by repeat (first | assumption | exact Below.refl _ _ | refine Below.drew ?_ | refine Below.alloc ?_ (by first | exact Nat.le_refl _ | exact hb1.size | exact hb2.size | (simp; done) | (simp; omega) | (have := hb1.size; simp; omega) | (have := hb2.size; simp; omega)) _))) (one_q4s _) (by unfold maxLen; omega) (by omega) (by first | exact Nat.le_refl _ | exact hb1.size | exact hb2.size | (simp; done) | (simp; omega) | (have := hb1.size; simp; omega) | (have := hb2.size; simp; omega)) ?_); intro v2 w2 hown2 hgrow2; have hb2 : Below W0.heap.size W0 w2 := Below.grown (by repeat (first | assumption | exact Below.refl _ _ | refine Below.drew ?_ | refine Below.alloc ?_ (by first | exact Nat.le_refl _ | exact hb1.size | exact hb2.size | (simp; done) | (simp; omega) | (have := hb1.size; simp; omega) | (have := hb2.size; simp; omega)) _)) hgrow2 (by first | exact Nat.le_refl _ | exact hb1.size | exact hb2.size | (simp; done) | (simp; omega) | (have := hb1.size; simp; omega) | (have := hb2.size; simp; omega)) (fun g9 hg9 => by simp [Value.ownBlock] at hg9; first | omega | (have := hb1.size; omega) | (have := hb2.size; omega)); obtain ⟨a20, a21, z20, z21, y20, y21, x20, x21⟩ := HK.out w2 hb2; obtain ⟨A2, d2, rfl⟩ := formOf hown2; simp only [Nat.zero_add] at hown2 ⊢))
  all_goals
    go_wp2_with fail
    have hle : w.heap.size + 2 ≤ W0.heap.size := Nat.le_of_eq HZ0.out.symm
    simp only [List.nil_append] at hown1 hown2
    refine bodyPost_ret (v := .agg #[.slice A1 n1 d1, .slice A2 n2 d2]) (by simp [results, Try.results177, go_sem, z10, z11, z20, z21, x11, x21]) rfl ⟨A1, A2, d1, d2, rfl, ?_, ?_, ?_⟩
    · refine ownsRow_setCell_below (ownsRow_setCell_below (own_base (B' := w.heap.size + 2) ?_ hle) (a := ⟨w.heap.size + 1, 0, none⟩) (by show w.heap.size + 1 < w.heap.size + 2; omega) _) (a := ⟨w.heap.size + 1, 1, none⟩) (by show w.heap.size + 1 < w.heap.size + 2; omega) _
      first
        | exact hown1
        | exact (own_type_apart hown1 (lit_own (B := W0.heap.size) (E := 201) (size := 4) (by first | exact nh (by first | (simp; done) | (simp; omega)) | exact (oh (by first | (simp; done) | (simp; omega))).trans (nh (by first | (simp; done) | (simp; omega))) | exact (hgrow1.block _ (by first | (simp; done) | (simp; omega)) (by simp [Value.ownBlock])).trans (by first | exact nh (by first | (simp; done) | (simp; omega)) | exact (oh (by first | (simp; done) | (simp; omega))).trans (nh (by first | (simp; done) | (simp; omega)))) | exact (hgrow2.block _ (by first | (simp; done) | (simp; omega)) (by simp [Value.ownBlock])).trans (by first | exact nh (by first | (simp; done) | (simp; omega)) | exact (oh (by first | (simp; done) | (simp; omega))).trans (nh (by first | (simp; done) | (simp; omega))))) (by first | exact Nat.le_refl _ | exact hb1.size | exact hb2.size | (simp; done) | (simp; omega) | (have := hb1.size; simp; omega) | (have := hb2.size; simp; omega))) (by decide)).kept hown1 hgrow2
        | exact (own_type_apart (hown1.alloc _) (lit_own (B := W0.heap.size) (E := 201) (size := 4) (by first | exact nh (by first | (simp; done) | (simp; omega)) | exact (oh (by first | (simp; done) | (simp; omega))).trans (nh (by first | (simp; done) | (simp; omega))) | exact (hgrow1.block _ (by first | (simp; done) | (simp; omega)) (by simp [Value.ownBlock])).trans (by first | exact nh (by first | (simp; done) | (simp; omega)) | exact (oh (by first | (simp; done) | (simp; omega))).trans (nh (by first | (simp; done) | (simp; omega)))) | exact (hgrow2.block _ (by first | (simp; done) | (simp; omega)) (by simp [Value.ownBlock])).trans (by first | exact nh (by first | (simp; done) | (simp; omega)) | exact (oh (by first | (simp; done) | (simp; omega))).trans (nh (by first | (simp; done) | (simp; omega))))) (by first | exact Nat.le_refl _ | exact hb1.size | exact hb2.size | (simp; done) | (simp; omega) | (have := hb1.size; simp; omega) | (have := hb2.size; simp; omega))) (by decide)).kept (hown1.alloc _) hgrow2
    · refine ownsRow_setCell_below (ownsRow_setCell_below (own_base (B' := w.heap.size + 2) ?_ hle) (a := ⟨w.heap.size + 1, 0, none⟩) (by show w.heap.size + 1 < w.heap.size + 2; omega) _) (a := ⟨w.heap.size + 1, 1, none⟩) (by show w.heap.size + 1 < w.heap.size + 2; omega) _
      first
        | exact hown2
        | exact (own_type_apart hown2 (lit_own (B := W0.heap.size) (E := 9) (size := 1) (by first | exact nh (by first | (simp; done) | (simp; omega)) | exact (oh (by first | (simp; done) | (simp; omega))).trans (nh (by first | (simp; done) | (simp; omega))) | exact (hgrow1.block _ (by first | (simp; done) | (simp; omega)) (by simp [Value.ownBlock])).trans (by first | exact nh (by first | (simp; done) | (simp; omega)) | exact (oh (by first | (simp; done) | (simp; omega))).trans (nh (by first | (simp; done) | (simp; omega)))) | exact (hgrow2.block _ (by first | (simp; done) | (simp; omega)) (by simp [Value.ownBlock])).trans (by first | exact nh (by first | (simp; done) | (simp; omega)) | exact (oh (by first | (simp; done) | (simp; omega))).trans (nh (by first | (simp; done) | (simp; omega))))) (by first | exact Nat.le_refl _ | exact hb1.size | exact hb2.size | (simp; done) | (simp; omega) | (have := hb1.size; simp; omega) | (have := hb2.size; simp; omega))) (by decide)).kept hown2 hgrow1
        | exact (own_type_apart (hown2.alloc _) (lit_own (B := W0.heap.size) (E := 9) (size := 1) (by first | exact nh (by first | (simp; done) | (simp; omega)) | exact (oh (by first | (simp; done) | (simp; omega))).trans (nh (by first | (simp; done) | (simp; omega))) | exact (hgrow1.block _ (by first | (simp; done) | (simp; omega)) (by simp [Value.ownBlock])).trans (by first | exact nh (by first | (simp; done) | (simp; omega)) | exact (oh (by first | (simp; done) | (simp; omega))).trans (nh (by first | (simp; done) | (simp; omega)))) | exact (hgrow2.block _ (by first | (simp; done) | (simp; omega)) (by simp [Value.ownBlock])).trans (by first | exact nh (by first | (simp; done) | (simp; omega)) | exact (oh (by first | (simp; done) | (simp; omega))).trans (nh (by first | (simp; done) | (simp; omega))))) (by first | exact Nat.le_refl _ | exact hb1.size | exact hb2.size | (simp; done) | (simp; omega) | (have := hb1.size; simp; omega) | (have := hb2.size; simp; omega))) (by decide)).kept (hown2.alloc _) hgrow1
    · refine (Below.setCell ?_ (p := ⟨w.heap.size + 1, 0, none⟩) (by show w.heap.size ≤ w.heap.size + 1; omega) _).setCell (p := ⟨w.heap.size + 1, 1, none⟩) (by show w.heap.size ≤ w.heap.size + 1; omega) _
      first | exact HB0.out.trans (hb2.mono (by have := HZ0.out; omega)) | exact HB0.out.trans (hb1.mono (by have := HZ0.out; omega))
end Go.Proofs.Ytlgkjidginibdaa
