/- Texts of one group, joined: L2OwN, L9OwN, DfN. No condition but those typed. -/
import Derived.Test.YtflniajjecfgeaaGreatDoorL2Own
import Derived.Test.YtflniajjecfgeaaGreatDoorL9Own
import Derived.Test.YtflniajjecfgeaaGreatDoorDfS
namespace Go.Proofs.YtflniajjecfgeaaGreatDoor
open Go.ChangeShapes Go.WideShapes Go.ChangeAt Go.RowKit

theorem own_addr {w : World} {B E s n c : Nat} {A : Option Addr} {xs : List Value} (h : w.ownsRow B E s (.slice A n c) n xs) (hn : Value.slice A n c ≠ .slice none 0 0) : ∃ g, A = some ⟨g, 0, none⟩ := by
  rcases h.2 with ⟨h9, _⟩ | ⟨g, _, _, h9, _⟩
  · exact absurd h9 hn
  · injection h9 with h9; exact ⟨g, h9⟩
theorem step_appN {P : Program} {ops : Array Oper} {o : Oper} {a : Act} {w : World} {K : Act → World → Prop} {Q : Exit → Act → World → Prop} {E : Prop}
    (hg : o.guard = none) (s x : Operand) (t : TypeId) (hop : o.op = Op.call { callee := Callee.builtin Builtin.append, args := #[s, x], argTypes := #[t, t] })
    (base : Nat) (e : TypeId) (i : TypeInfo) (z : Value) (size bytes : Nat) (h1 : P.underlying t = some (.slice e)) (h2 : P.info? e = some i) (h3 : i.zero = some z) (h4 : i.size = size) (h5 : i.bytes = bytes) (h6 : z.cells.size = size) (h7 : 0 < size)
    (v : Value) (n : Nat) (xs : List Value) (hs : a.eval s = v) (hown : w.ownsRow base e size v n xs)
    (ad : Addr) (m c : Nat) (news : List Value) (hx : a.eval x = .slice (some ad) m c) (hn : news.length = m * size) (hc : ∀ j u, news[j]? = some u → w.cell? (ad.add j) = some u) (h1c : ∀ u ∈ news, u.oneCell' = true)
    (b1 : n + m ≤ maxLen) (b2 : (n + m) * bytes ≤ 140737488355328) (hbase : base ≤ w.heap.size)
    (hK : ∀ v' w', w'.ownsRow base e size v' (n + m) (xs ++ news) → w.grownBy w' v.ownBlock → (v ≠ .slice none 0 0 → v' ≠ .slice none 0 0) → K (a.put o.dst v') w') :
    if Region.wanted o (yielded ops a.tmps) = true then Oper.wp P o a w K Q else E := by
  have hw : Region.wanted o (yielded ops a.tmps) = true := by simp [Region.wanted, hg]
  rw [if_pos hw]
  obtain ⟨v', w', hrun, r1, r2, r3⟩ := run_append_own (P := P) w base t o.type e i z size bytes h1 h2 h3 h4 h5 h6 h7 v n xs hown ad m c news hn hc h1c b1 b2 hbase
  unfold Oper.wp
  simp [execOp, hop, resolve, invoke, builtin, hs, hx, hrun, Result.andThen]
  exact hK v' w' r1 r2 (fun h9 h8 => h9 (r3.1 h8).1)
set_option maxRecDepth 100000 in
set_option maxHeartbeats 8000000 in
theorem l2OwnN_ {g1 g2 n1 n2 c1 c2 : Nat} {ss : List ByteArray} {fs : List Q4} {w : World} (h : NetAt g1 g2 n1 n2 c1 c2 ss fs w) :
    Calls Tryz.prog 61 #[.agg #[.slice (some ⟨g1, 0, none⟩) n1 c1, .slice (some ⟨g2, 0, none⟩) n2 c2]] w fun e w' => ∃ (A1 A2 : Option Addr) (d1 d2 : Nat), e = .returned (.agg #[.slice A1 n1 d1, .slice A2 n2 d2]) ∧ (∃ q, A1 = some ⟨q, 0, none⟩) ∧ (∃ q, A2 = some ⟨q, 0, none⟩) ∧ w'.ownsRow (w.heap.size + 2) 9 1 (.slice A1 n1 d1) n1 (ss.map Value.string) ∧ w'.ownsRow (w.heap.size + 2) 109 4 (.slice A2 n2 d2) n2 (fs.flatMap Q4.cells) ∧ Below w.heap.size w w' := by
  have HL1 := Lib.hid h.ln1; have HL2 := Lib.hid h.ln2; have HNT := Lib.hid h
  have hs1 := h.sm1; have hs2 := h.sm2
  clear h
  obtain ⟨i1, hi1, hz10, hz11, hz12⟩ := info_parts Tryz.inf_str
  have HI1 := Lib.hid hi1; have HZ10 := Lib.hid hz10; have HZ11 := Lib.hid hz11; have HZ12 := Lib.hid hz12
  obtain ⟨i2, hi2, hz20, hz21, hz22⟩ := info_parts Tryz.inf_Fib
  have HI2 := Lib.hid hi2; have HZ20 := Lib.hid hz20; have HZ21 := Lib.hid hz21; have HZ22 := Lib.hid hz22
  clear hi1 hz10 hz11 hz12 hi2 hz20 hz21 hz22
  go_enter Tryz.func61, Tryz.ntmps61
  go_wp2_with fail
  obtain ⟨W0, hW0⟩ : ∃ W0, (w.alloc (Obj.cells #[.slice (some ⟨g1, 0, none⟩) n1 c1, .slice (some ⟨g2, 0, none⟩) n2 c2] 32)).alloc (Obj.cells #[.slice none 0 0, .slice none 0 0] 32) = W0 := ⟨_, rfl⟩
  have hb0 : Below w.heap.size w W0 := by rw [← hW0]; exact ((Below.refl _ _).alloc (Nat.le_refl _) _).alloc (by simp) _
  have k0 : W0.cell? ⟨w.heap.size, 0, none⟩ = some (.slice (some ⟨g1, 0, none⟩) n1 c1) := by rw [← hW0]; simp [go_sem]
  have k1 : W0.cell? ⟨w.heap.size, 1, none⟩ = some (.slice (some ⟨g2, 0, none⟩) n2 c2) := by rw [← hW0]; simp [go_sem]
  have m0 : W0.cell? ⟨w.heap.size + 1, 0, none⟩ = some (.slice none 0 0) := by rw [← hW0]; simp [go_sem]
  have m1 : W0.cell? ⟨w.heap.size + 1, 1, none⟩ = some (.slice none 0 0) := by rw [← hW0]; simp [go_sem]
  have f0 : W0.frozen? ⟨w.heap.size + 1, 0, none⟩ = false := by rw [← hW0]; simp [go_sem]
  have f1 : W0.frozen? ⟨w.heap.size + 1, 1, none⟩ = false := by rw [← hW0]; simp [go_sem]
  have hz0 : W0.heap.size = w.heap.size + 2 := by rw [← hW0]; simp
  have HB0 := Lib.hid hb0; have HZ0 := Lib.hid hz0
  rw [hW0]
  have hzz : w.heap.size + 1 < W0.heap.size := by omega
  have hzy : w.heap.size < W0.heap.size := by omega
  clear hW0 hb0 hz0
  have HK : Hid (∀ u, Below W0.heap.size W0 u → u.cell? ⟨w.heap.size, 0, none⟩ = some (.slice (some ⟨g1, 0, none⟩) n1 c1) ∧ u.cell? ⟨w.heap.size, 1, none⟩ = some (.slice (some ⟨g2, 0, none⟩) n2 c2) ∧ u.cell? ⟨w.heap.size + 1, 0, none⟩ = some (.slice none 0 0) ∧ u.cell? ⟨w.heap.size + 1, 1, none⟩ = some (.slice none 0 0) ∧ u.frozen? ⟨w.heap.size + 1, 0, none⟩ = false ∧ u.frozen? ⟨w.heap.size + 1, 1, none⟩ = false ∧ w.heap.size < u.heap.size ∧ w.heap.size + 1 < u.heap.size) := Lib.hid (fun u hu => ⟨(hu.cell (p := ⟨w.heap.size, 0, none⟩) hzy).trans k0, (hu.cell (p := ⟨w.heap.size, 1, none⟩) hzy).trans k1, (hu.cell (p := ⟨w.heap.size + 1, 0, none⟩) hzz).trans m0, (hu.cell (p := ⟨w.heap.size + 1, 1, none⟩) hzz).trans m1, (hu.frozen (p := ⟨w.heap.size + 1, 0, none⟩) hzz).trans f0, (hu.frozen (p := ⟨w.heap.size + 1, 1, none⟩) hzz).trans f1, Nat.lt_of_lt_of_le hzy hu.size, Nat.lt_of_lt_of_le hzz hu.size⟩)
  have HC1 : Hid (∀ U, Below W0.heap.size W0 U → ∀ (j : Nat) (u : Value), (ss.map Value.string)[j]? = some u → U.cell? ((⟨g1, 0, none⟩ : Addr).add j) = some u) := Lib.hid (fun U hU => rd_cells (HNT.out.moved HB0.out).rd1 hU)
  have HC2 : Hid (∀ U, Below W0.heap.size W0 U → ∀ (j : Nat) (u : Value), (fs.flatMap Q4.cells)[j]? = some u → U.cell? ((⟨g2, 0, none⟩ : Addr).add j) = some u) := Lib.hid (fun U hU => rd_cells (HNT.out.moved HB0.out).rd2 hU)
  go_region_law (first
    | ((refine step_appN (by rfl) (.tmp 3) (.tmp 5) 22 (by rfl) W0.heap.size 9 i1 (.string ByteArray.empty) 1 16 Tryz.underlying22 HI1.out HZ10.out HZ11.out HZ12.out rfl (by decide) _ 0 [] (by rfl) (lit_own (by first | exact nh (by first | (simp; done) | (simp; omega)) | exact (oh (by first | (simp; done) | (simp; omega))).trans (nh (by first | (simp; done) | (simp; omega))) | exact (hgrow1.block _ (by first | (simp; done) | (simp; omega)) (by simp [Value.ownBlock])).trans (by first | exact nh (by first | (simp; done) | (simp; omega)) | exact (oh (by first | (simp; done) | (simp; omega))).trans (nh (by first | (simp; done) | (simp; omega)))) | exact (hgrow2.block _ (by first | (simp; done) | (simp; omega)) (by simp [Value.ownBlock])).trans (by first | exact nh (by first | (simp; done) | (simp; omega)) | exact (oh (by first | (simp; done) | (simp; omega))).trans (nh (by first | (simp; done) | (simp; omega))))) (by first | exact Nat.le_refl _ | (simp; done) | (simp; omega) | (have := hb1.size; simp; omega) | (have := hb2.size; simp; omega))) ⟨g1, 0, none⟩ n1 c1 (ss.map Value.string) (by rfl) (by rw [List.length_map, Nat.mul_one]; exact HL1.out) (HC1.out _ (by repeat (first | assumption | exact Below.refl _ _ | refine Below.drew ?_ | refine Below.alloc ?_ (by first | exact Nat.le_refl _ | exact hb1.size | exact hb2.size | (simp; done) | (simp; omega) | (have := hb1.size; simp; omega) | (have := hb2.size; simp; omega)) _))) (one_strs _) (by unfold maxLen; omega) (by omega) (by first | exact Nat.le_refl _ | exact hb1.size | exact hb2.size | (simp; done) | (simp; omega) | (have := hb1.size; simp; omega) | (have := hb2.size; simp; omega)) ?_); intro v1 w1 hown1 hgrow1 hnn1; have hb1 : Below W0.heap.size W0 w1 := Below.grown (by repeat (first | assumption | exact Below.refl _ _ | refine Below.drew ?_ | refine Below.alloc ?_ (by first | exact Nat.le_refl _ | exact hb1.size | exact hb2.size | (simp; done) | (simp; omega) | (have := hb1.size; simp; omega) | (have := hb2.size; simp; omega)) _)) hgrow1 (by first | exact Nat.le_refl _ | exact hb1.size | exact hb2.size | (simp; done) | (simp; omega) | (have := hb1.size; simp; omega) | (have := hb2.size; simp; omega)) (fun g9 hg9 => by simp [Value.ownBlock] at hg9; first | omega | (have := hb1.size; omega) | (have := hb2.size; omega)); obtain ⟨a10, a11, z10, z11, y10, y11, x10, x11⟩ := HK.out w1 hb1; obtain ⟨A1, d1, rfl⟩ := formOf hown1; simp only [Nat.zero_add] at hown1 ⊢)
    | ((refine step_appN (by rfl) (.tmp 7) (.tmp 9) 30 (by rfl) W0.heap.size 109 i2 (.agg #[.int .i64 0, .int .i64 0, .int .i64 0, .int .i64 0]) 4 32 Tryz.underlying30 HI2.out HZ20.out HZ21.out HZ22.out rfl (by decide) _ 0 [] (by rfl) (lit_own (by first | exact nh (by first | (simp; done) | (simp; omega)) | exact (oh (by first | (simp; done) | (simp; omega))).trans (nh (by first | (simp; done) | (simp; omega))) | exact (hgrow1.block _ (by first | (simp; done) | (simp; omega)) (by simp [Value.ownBlock])).trans (by first | exact nh (by first | (simp; done) | (simp; omega)) | exact (oh (by first | (simp; done) | (simp; omega))).trans (nh (by first | (simp; done) | (simp; omega)))) | exact (hgrow2.block _ (by first | (simp; done) | (simp; omega)) (by simp [Value.ownBlock])).trans (by first | exact nh (by first | (simp; done) | (simp; omega)) | exact (oh (by first | (simp; done) | (simp; omega))).trans (nh (by first | (simp; done) | (simp; omega))))) (by first | exact Nat.le_refl _ | (simp; done) | (simp; omega) | (have := hb1.size; simp; omega) | (have := hb2.size; simp; omega))) ⟨g2, 0, none⟩ n2 c2 (fs.flatMap Q4.cells) (by rfl) (by rw [flat_len Q4.cells 4 fs (fun _ _ => rfl), HL2.out]) (HC2.out _ (by repeat (first | assumption | exact Below.refl _ _ | refine Below.drew ?_ | refine Below.alloc ?_ (by first | exact Nat.le_refl _ | exact hb1.size | exact hb2.size | (simp; done) | (simp; omega) | (have := hb1.size; simp; omega) | (have := hb2.size; simp; omega)) _))) (one_q4s _) (by unfold maxLen; omega) (by omega) (by first | exact Nat.le_refl _ | exact hb1.size | exact hb2.size | (simp; done) | (simp; omega) | (have := hb1.size; simp; omega) | (have := hb2.size; simp; omega)) ?_); intro v2 w2 hown2 hgrow2 hnn2; have hb2 : Below W0.heap.size W0 w2 := Below.grown (by repeat (first | assumption | exact Below.refl _ _ | refine Below.drew ?_ | refine Below.alloc ?_ (by first | exact Nat.le_refl _ | exact hb1.size | exact hb2.size | (simp; done) | (simp; omega) | (have := hb1.size; simp; omega) | (have := hb2.size; simp; omega)) _)) hgrow2 (by first | exact Nat.le_refl _ | exact hb1.size | exact hb2.size | (simp; done) | (simp; omega) | (have := hb1.size; simp; omega) | (have := hb2.size; simp; omega)) (fun g9 hg9 => by simp [Value.ownBlock] at hg9; first | omega | (have := hb1.size; omega) | (have := hb2.size; omega)); obtain ⟨a20, a21, z20, z21, y20, y21, x20, x21⟩ := HK.out w2 hb2; obtain ⟨A2, d2, rfl⟩ := formOf hown2; simp only [Nat.zero_add] at hown2 ⊢))
  all_goals
    go_wp2_with fail
    have hle : w.heap.size + 2 ≤ W0.heap.size := Nat.le_of_eq HZ0.out.symm
    simp only [List.nil_append] at hown1 hown2
    refine bodyPost_ret (v := .agg #[.slice A1 n1 d1, .slice A2 n2 d2]) (by simp [results, Tryz.results61, go_sem, z10, z11, z20, z21, x11, x21]) rfl ⟨A1, A2, d1, d2, rfl, own_addr hown1 (by have h9 := hnn1 (by simp); rw [Nat.zero_add] at h9; exact h9), own_addr hown2 (by have h9 := hnn2 (by simp); rw [Nat.zero_add] at h9; exact h9), ?_, ?_, ?_⟩
    · refine ownsRow_setCell_below (ownsRow_setCell_below (own_base (B' := w.heap.size + 2) ?_ hle) (a := ⟨w.heap.size + 1, 0, none⟩) (by show w.heap.size + 1 < w.heap.size + 2; omega) _) (a := ⟨w.heap.size + 1, 1, none⟩) (by show w.heap.size + 1 < w.heap.size + 2; omega) _
      first
        | exact hown1
        | exact (own_type_apart hown1 (lit_own (B := W0.heap.size) (E := 109) (size := 4) (by first | exact nh (by first | (simp; done) | (simp; omega)) | exact (oh (by first | (simp; done) | (simp; omega))).trans (nh (by first | (simp; done) | (simp; omega))) | exact (hgrow1.block _ (by first | (simp; done) | (simp; omega)) (by simp [Value.ownBlock])).trans (by first | exact nh (by first | (simp; done) | (simp; omega)) | exact (oh (by first | (simp; done) | (simp; omega))).trans (nh (by first | (simp; done) | (simp; omega)))) | exact (hgrow2.block _ (by first | (simp; done) | (simp; omega)) (by simp [Value.ownBlock])).trans (by first | exact nh (by first | (simp; done) | (simp; omega)) | exact (oh (by first | (simp; done) | (simp; omega))).trans (nh (by first | (simp; done) | (simp; omega))))) (by first | exact Nat.le_refl _ | exact hb1.size | exact hb2.size | (simp; done) | (simp; omega) | (have := hb1.size; simp; omega) | (have := hb2.size; simp; omega))) (by decide)).kept hown1 hgrow2
        | exact (own_type_apart (hown1.alloc _) (lit_own (B := W0.heap.size) (E := 109) (size := 4) (by first | exact nh (by first | (simp; done) | (simp; omega)) | exact (oh (by first | (simp; done) | (simp; omega))).trans (nh (by first | (simp; done) | (simp; omega))) | exact (hgrow1.block _ (by first | (simp; done) | (simp; omega)) (by simp [Value.ownBlock])).trans (by first | exact nh (by first | (simp; done) | (simp; omega)) | exact (oh (by first | (simp; done) | (simp; omega))).trans (nh (by first | (simp; done) | (simp; omega)))) | exact (hgrow2.block _ (by first | (simp; done) | (simp; omega)) (by simp [Value.ownBlock])).trans (by first | exact nh (by first | (simp; done) | (simp; omega)) | exact (oh (by first | (simp; done) | (simp; omega))).trans (nh (by first | (simp; done) | (simp; omega))))) (by first | exact Nat.le_refl _ | exact hb1.size | exact hb2.size | (simp; done) | (simp; omega) | (have := hb1.size; simp; omega) | (have := hb2.size; simp; omega))) (by decide)).kept (hown1.alloc _) hgrow2
    · refine ownsRow_setCell_below (ownsRow_setCell_below (own_base (B' := w.heap.size + 2) ?_ hle) (a := ⟨w.heap.size + 1, 0, none⟩) (by show w.heap.size + 1 < w.heap.size + 2; omega) _) (a := ⟨w.heap.size + 1, 1, none⟩) (by show w.heap.size + 1 < w.heap.size + 2; omega) _
      first
        | exact hown2
        | exact (own_type_apart hown2 (lit_own (B := W0.heap.size) (E := 9) (size := 1) (by first | exact nh (by first | (simp; done) | (simp; omega)) | exact (oh (by first | (simp; done) | (simp; omega))).trans (nh (by first | (simp; done) | (simp; omega))) | exact (hgrow1.block _ (by first | (simp; done) | (simp; omega)) (by simp [Value.ownBlock])).trans (by first | exact nh (by first | (simp; done) | (simp; omega)) | exact (oh (by first | (simp; done) | (simp; omega))).trans (nh (by first | (simp; done) | (simp; omega)))) | exact (hgrow2.block _ (by first | (simp; done) | (simp; omega)) (by simp [Value.ownBlock])).trans (by first | exact nh (by first | (simp; done) | (simp; omega)) | exact (oh (by first | (simp; done) | (simp; omega))).trans (nh (by first | (simp; done) | (simp; omega))))) (by first | exact Nat.le_refl _ | exact hb1.size | exact hb2.size | (simp; done) | (simp; omega) | (have := hb1.size; simp; omega) | (have := hb2.size; simp; omega))) (by decide)).kept hown2 hgrow1
        | exact (own_type_apart (hown2.alloc _) (lit_own (B := W0.heap.size) (E := 9) (size := 1) (by first | exact nh (by first | (simp; done) | (simp; omega)) | exact (oh (by first | (simp; done) | (simp; omega))).trans (nh (by first | (simp; done) | (simp; omega))) | exact (hgrow1.block _ (by first | (simp; done) | (simp; omega)) (by simp [Value.ownBlock])).trans (by first | exact nh (by first | (simp; done) | (simp; omega)) | exact (oh (by first | (simp; done) | (simp; omega))).trans (nh (by first | (simp; done) | (simp; omega)))) | exact (hgrow2.block _ (by first | (simp; done) | (simp; omega)) (by simp [Value.ownBlock])).trans (by first | exact nh (by first | (simp; done) | (simp; omega)) | exact (oh (by first | (simp; done) | (simp; omega))).trans (nh (by first | (simp; done) | (simp; omega))))) (by first | exact Nat.le_refl _ | exact hb1.size | exact hb2.size | (simp; done) | (simp; omega) | (have := hb1.size; simp; omega) | (have := hb2.size; simp; omega))) (by decide)).kept (hown2.alloc _) hgrow1
    · refine (Below.setCell ?_ (p := ⟨w.heap.size + 1, 0, none⟩) (by show w.heap.size ≤ w.heap.size + 1; omega) _).setCell (p := ⟨w.heap.size + 1, 1, none⟩) (by show w.heap.size ≤ w.heap.size + 1; omega) _
      first | exact HB0.out.trans (hb2.mono (by have := HZ0.out; omega)) | exact HB0.out.trans (hb1.mono (by have := HZ0.out; omega))
end Go.Proofs.YtflniajjecfgeaaGreatDoor

namespace Go.Proofs.YtflniajjecfgeaaGreatDoor
open Go.ChangeShapes Go.WideShapes Go.ChangeAt Go.RowKit

set_option maxRecDepth 100000 in
set_option maxHeartbeats 8000000 in
theorem l9OwnN_ {A0 : Option Addr} {g1 g2 n1 n2 n3 c1 c2 c3 : Nat} {ss : List ByteArray} {fs : List Q4} {ys : List Lt} {w : World} (h : NetAt g1 g2 n1 n2 c1 c2 ss fs w) (hln : ys.length = n3) (hrw : Rd w w.heap.size A0 (ys.flatMap Lt.cells)) (hat : ∀ y ∈ ys, LtAt w y) (hA0 : 0 < n3 → ∃ g3, A0 = some ⟨g3, 0, none⟩) (hso : ∀ y ∈ ys, ∃ ad, y.A = some ad) (hs : n3 ≤ 1048576) :
    Calls Tryz.prog 37 #[.agg #[.slice (some ⟨g1, 0, none⟩) n1 c1, .slice (some ⟨g2, 0, none⟩) n2 c2, .slice A0 n3 c3]] w fun e w' => ∃ (A1 A2 A3 : Option Addr) (d1 d2 d3 : Nat) (zs : List Lt), e = .returned (.agg #[.slice A1 n1 d1, .slice A2 n2 d2, .slice A3 n3 d3]) ∧ (∃ q, A1 = some ⟨q, 0, none⟩) ∧ (∃ q, A2 = some ⟨q, 0, none⟩) ∧ zs.map Lt.d = ys.map Lt.d ∧ w'.ownsRow (w.heap.size + 2) 9 1 (.slice A1 n1 d1) n1 (ss.map Value.string) ∧ w'.ownsRow (w.heap.size + 2) 109 4 (.slice A2 n2 d2) n2 (fs.flatMap Q4.cells) ∧ LtC (w.heap.size + 2) A3 n3 d3 zs w' ∧ Below w.heap.size w w' := by
  have HNT := Lib.hid h; have HLN := Lib.hid hln; have HRW := Lib.hid hrw; have HAT := Lib.hid hat; have HSO := Lib.hid hso; have HA0 := Lib.hid hA0
  clear h hln hrw hat hso hA0
  go_enter Tryz.func37, Tryz.ntmps37
  go_wp2_with fail
  obtain ⟨W0, hW0⟩ : ∃ W0, (w.alloc (Obj.cells #[.slice (some ⟨g1, 0, none⟩) n1 c1, .slice (some ⟨g2, 0, none⟩) n2 c2, .slice A0 n3 c3] 35)).alloc (Obj.cells #[.slice none 0 0, .slice none 0 0, .slice none 0 0] 35) = W0 := ⟨_, rfl⟩
  have hb0 : Below w.heap.size w W0 := by rw [← hW0]; exact ((Below.refl _ _).alloc (Nat.le_refl _) _).alloc (by simp) _
  have k0 : W0.cell? ⟨w.heap.size, 0, none⟩ = some (.slice (some ⟨g1, 0, none⟩) n1 c1) := by rw [← hW0]; simp [go_sem]
  have k1 : W0.cell? ⟨w.heap.size, 1, none⟩ = some (.slice (some ⟨g2, 0, none⟩) n2 c2) := by rw [← hW0]; simp [go_sem]
  have k2 : W0.cell? ⟨w.heap.size, 2, none⟩ = some (.slice A0 n3 c3) := by rw [← hW0]; simp [go_sem]
  have HR0 : Hid (W0.ownsRow (w.heap.size + 1) 35 3 (.slice (some ⟨w.heap.size + 1, 0, none⟩) 1 1) 1 [.slice none 0 0, .slice none 0 0, .slice none 0 0]) := Lib.hid (by
    rw [← hW0]
    have := one_rowP (w.alloc (Obj.cells #[.slice (some ⟨g1, 0, none⟩) n1 c1, .slice (some ⟨g2, 0, none⟩) n2 c2, .slice A0 n3 c3] 35)) (.slice none 0 0) (.slice none 0 0) (.slice none 0 0) (base := w.heap.size + 1) (by simp)
    simpa using this)
  have hz0 : W0.heap.size = w.heap.size + 2 := by rw [← hW0]; simp
  have HB0 := Lib.hid hb0; have HZ0 := Lib.hid hz0
  rw [hW0]
  have hzy : w.heap.size < W0.heap.size := by omega
  clear hW0 hb0
  have CN := Lib.hid (l2OwnN_ (HNT.out.moved HB0.out))
  go_wp2_with fail
  refine CN.out.mono ?_
  rintro e w1 ⟨A1, A2, d1, d2, rfl, hq1, hq2, hn1, hn2, hb1⟩
  have HQ1 := Lib.hid hq1; have HQ2 := Lib.hid hq2; clear hq1 hq2
  have HN1 := Lib.hid (own_base (B' := w.heap.size + 2) hn1 (by have := HZ0.out; omega)); have HN2 := Lib.hid (own_base (B' := w.heap.size + 2) hn2 (by have := HZ0.out; omega))
  have HR1 := Lib.hid (ownB HR0.out hb1)
  have HB1 := Lib.hid (HB0.out.trans (hb1.mono (by have := HZ0.out; omega)))
  have l2 := (hb1.cell (p := ⟨w.heap.size, 2, none⟩) hzy).trans k2
  have hzw : w.heap.size + 2 ≤ w1.heap.size := by have := hb1.size; omega
  clear hn1 hn2 hb1 k0 k1 k2 hzy hz0
  have HL2 := Lib.hid l2
  have HZW := Lib.hid hzw
  clear l2 hzw
  go_wp2_with fail
  obtain ⟨bx, hbx⟩ : ∃ b, w1.heap.size = b := ⟨_, rfl⟩
  obtain ⟨w2, hw2⟩ : ∃ w2, w1.alloc (Obj.cells #[.slice A1 n1 d1, .slice A2 n2 d2, .slice none 0 0] 35) = w2 := ⟨_, rfl⟩
  have HBX2 : Hid (w2.ownsRow bx 35 3 (.slice (some ⟨bx, 0, none⟩) 1 1) 1 [.slice A1 n1 d1, .slice A2 n2 d2, .slice none 0 0]) := Lib.hid (by rw [← hw2, ← hbx]; exact one_rowP w1 _ _ _ (Nat.le_refl _))
  have HB2 : Hid (Below w1.heap.size w1 w2) := Lib.hid (by rw [← hw2]; exact (Below.refl _ _).alloc (Nat.le_refl _) _)
  have hzx : w.heap.size + 2 ≤ bx := by rw [← hbx]; exact HZW.out
  have HBXE := Lib.hid hbx
  rw [hw2, hbx]
  rw [hbx] at HB2
  clear hw2 hbx
  go_wp2_with fail
  go_loopw [4] (fun i wr => ∃ (k d3 : Nat) (A3 : Option Addr) (zs : List Lt), k ≤ n3 ∧ i = .int .i64 (k : Int) ∧ Hid (zs.map Lt.d = (ys.take k).map Lt.d) ∧ Hid (LtC (bx + 1) A3 k d3 zs wr) ∧ Hid (wr.ownsRow bx 35 3 (.slice (some ⟨bx, 0, none⟩) 1 1) 1 [.slice A1 n1 d1, .slice A2 n2 d2, .slice A3 k d3]) ∧ Below bx w1 wr) (fun i _ => n3 - (intOf i).toNat)
  case atStart => exact ⟨0, 0, none, [], Nat.zero_le _, rfl, Lib.hid rfl, Lib.hid (LtC.nil _ _), HBX2, HB2.out⟩
  case round =>
    clear HBX2 HB2
    obtain ⟨k, d3, A3, zs, hk, rfl, HZD, HLC, HBR, hb⟩ := hrel
    have HBW := Lib.hid hb
    have HBWW := Lib.hid (HB1.out.trans (hb.mono (by omega)))
    have hszx : bx < wr.heap.size := (HBR.out.lt bx rfl).2
    have c2 := HBR.out.cellAt 2 (by decide)
    simp only [List.getElem?_cons_zero, List.getElem?_cons_succ] at c2
    have l2 := (hb.cell (p := ⟨w.heap.size, 2, none⟩) (by show w.heap.size < bx; omega)).trans HL2.out
    have hzh : w.heap.size < wr.heap.size := by omega
    clear hb
    by_cases hlt : k < n3
    case neg =>
      obtain rfl : k = n3 := by omega
      have c0 := HBR.out.cellAt 0 (by decide)
      have c1 := HBR.out.cellAt 1 (by decide)
      simp only [List.getElem?_cons_zero, List.getElem?_cons_succ] at c0 c1
      have HRR := Lib.hid (ownB (own_lt HR1.out HBW.out (by have := HZW.out; omega)) (Below.refl _ _))
      have t0 := HRR.out.frozenAt 0; have t1 := HRR.out.frozenAt 1; have t2 := HRR.out.frozenAt 2
      have s0 := HRR.out.cellAt 0 (by decide); have s1 := HRR.out.cellAt 1 (by decide); have s2 := HRR.out.cellAt 2 (by decide)
      simp only [List.getElem?_cons_zero, List.getElem?_cons_succ] at s0 s1 s2
      have hz1 : w.heap.size + 1 < wr.heap.size := by omega
      clear hlt
      go_wp2_with fail
      refine bodyPost_ret (v := .agg #[.slice A1 n1 d1, .slice A2 n2 d2, .slice A3 k d3]) (by simp [results, Tryz.results37, go_sem, s0, s1, s2, hz1]) rfl ⟨A1, A2, A3, d1, d2, d3, zs, rfl, HQ1.out, HQ2.out, ?_, ?_, ?_, ?_, ?_⟩
      · rw [HZD.out, List.take_of_length_le (by have := HLN.out; omega)]
      · repeat (first | with_reducible exact (ownB HN1.out (by rw [HBXE.out]; exact HBW.out)) | refine ownsRow_setCell_below ?_ (a := ⟨w.heap.size + 1, _, none⟩) (by show w.heap.size + 1 < w.heap.size + 2; omega) _)
      · repeat (first | with_reducible exact (ownB HN2.out (by rw [HBXE.out]; exact HBW.out)) | refine ownsRow_setCell_below ?_ (a := ⟨w.heap.size + 1, _, none⟩) (by show w.heap.size + 1 < w.heap.size + 2; omega) _)
      · repeat (first | with_reducible exact (HLC.out.base (by omega)) | refine LtC.low ?_ (by omega) _)
      · repeat (first | with_reducible exact HBWW.out | refine Below.setCell ?_ (p := ⟨w.heap.size + 1, _, none⟩) (by show w.heap.size ≤ w.heap.size + 1; omega) _)
    case pos =>
    obtain ⟨g3, rfl⟩ := HA0.out (by omega)
    have hks : k < ys.length := by have := HLN.out; omega
    obtain ⟨y, hke⟩ : ∃ y, ys[k]'hks = y := ⟨_, rfl⟩
    have HKE := Lib.hid hke
    have hg0 := (HRW.out.ltc hks).1
    have hmem : y ∈ ys := by rw [← hke]; exact List.getElem_mem hks
    have HYA := Lib.hid (HAT.out y hmem)
    obtain ⟨ad, had⟩ := HSO.out y hmem
    obtain ⟨p0, p1, yA, n, c, yz, q0, q1⟩ := y
    simp only at had
    subst had
    obtain ⟨hg, f0, f1, f2, f3, f4⟩ := (HRW.out.moved HBWW.out).ltc hks
    rw [Nat.zero_add, hke] at f0 f1 f2 f3 f4
    simp only at f0 f1 f2 f3 f4
    have z2 := HBR.out.frozenAt 2
    have HN5 := Lib.hid HYA.out.1
    have CC : Hid (∀ U, Below w.heap.size w U → Calls Tryz.prog 62 #[.agg #[.int .i64 p0, .int .i64 p1, .slice (some ad) n c, .int .i64 q0, .int .i64 q1]] U _) := Lib.hid (fun U hU => l9Copy_ p0 p1 ad n c yz q0 q1 U HN5.out HYA.out.2.1 (HYA.out.2.2.moved hU))
    have HKU : Hid (∀ u, Below (bx + 1) wr u → u.cell? ⟨bx, 2, none⟩ = some (.slice A3 k d3) ∧ u.frozen? ⟨bx, 2, none⟩ = false ∧ u.cell? ⟨w.heap.size, 2, none⟩ = some (.slice (some ⟨g3, 0, none⟩) n3 c3) ∧ u.cell? ⟨g3, k * 5, none⟩ = some (.int .i64 p0) ∧ u.cell? ⟨g3, k * 5 + 1, none⟩ = some (.int .i64 p1) ∧ u.cell? ⟨g3, k * 5 + 2, none⟩ = some (.slice (some ad) n c) ∧ u.cell? ⟨g3, k * 5 + 3, none⟩ = some (.int .i64 q0) ∧ u.cell? ⟨g3, k * 5 + 4, none⟩ = some (.int .i64 q1) ∧ bx < u.heap.size ∧ w.heap.size < u.heap.size) := Lib.hid (fun u hu => ⟨(hu.cell (p := ⟨bx, 2, none⟩) (by show bx < bx + 1; omega)).trans c2, (hu.frozen (p := ⟨bx, 2, none⟩) (by show bx < bx + 1; omega)).trans z2, (hu.cell (p := ⟨w.heap.size, 2, none⟩) (by show w.heap.size < bx + 1; omega)).trans l2, (hu.cell (p := ⟨g3, k * 5, none⟩) (by show g3 < bx + 1; omega)).trans f0, (hu.cell (p := ⟨g3, k * 5 + 1, none⟩) (by show g3 < bx + 1; omega)).trans f1, (hu.cell (p := ⟨g3, k * 5 + 2, none⟩) (by show g3 < bx + 1; omega)).trans f2, (hu.cell (p := ⟨g3, k * 5 + 3, none⟩) (by show g3 < bx + 1; omega)).trans f3, (hu.cell (p := ⟨g3, k * 5 + 4, none⟩) (by show g3 < bx + 1; omega)).trans f4, Nat.lt_of_lt_of_le hszx hu.size, Nat.lt_of_lt_of_le hzh hu.size⟩)
    have hkI : (k : Int) < (n3 : Int) := by omega
    obtain ⟨iL, hiL, hzL0, hzL1, hzL2⟩ := info_parts Tryz.inf_Lt
    have HIL := Lib.hid hiL; have HZL0 := Lib.hid hzL0; have HZL1 := Lib.hid hzL1; have HZL2 := Lib.hid hzL2
    clear hiL hzL0 hzL1 hzL2 hke hmem
    have HYL : Hid (zs.flatMap Lt.cells = zs.flatMap Lt.cells) := Lib.hid rfl
    go_wp2_with fail
    go_region_law (first
      | ((refine step_app (by rfl) (.tmp 17) (.tmp 24) 33 (by rfl) (bx + 1) 62 iL (.agg #[.int .i64 0, .int .i64 0, .slice none 0 0, .int .i64 0, .int .i64 0]) 5 56 Tryz.underlying33 HIL.out HZL0.out HZL1.out HZL2.out rfl (by decide) (.slice A3 k d3) k (zs.flatMap Lt.cells) (by rfl) ((HLCU.out.alloc _).row) (⟨u1.heap.size, 0, none⟩) 1 1 [.int .i64 p0, .int .i64 p1, .slice A9 n c9, .int .i64 q0, .int .i64 q1] (by rfl) (by rfl) (news5 _ _ _ _ _ _ _ _ rfl) (one_lt ⟨p0, p1, A9, n, c9, yz, q0, q1⟩) (by unfold maxLen; omega) (by omega) (by have := hbu.size; simp; omega) ?_); intro v2 w4 hown4 hgrow4; obtain ⟨A4, d4, rfl⟩ := formOf hown4; have hb4 : Below (bx + 1) wr w4 := Below.grown (hbu.alloc (by have := hbu.size; omega) _) hgrow4 (by have := hbu.size; simp; omega) (fun g9 hg9 => (HLCU.out.row.lt g9 hg9).1); obtain ⟨i2, i3, i4, i5, i6, i7, i8, i9, j0, j1⟩ := HKU.out w4 hb4)
      | (rw [if_pos (by simp [Region.wanted])]; go_simp; go_at_call 62; refine (CC.out _ (by first | exact HBWW.out | exact HBWW.out.drew | exact drewN_below HBWW.out _)).mono ?_; rintro e u1 ⟨A9, c9, rfl, ho9, hb9⟩; have hbv : Below wr.heap.size wr u1 := Below.trans (by first | exact Below.refl _ _ | exact (Below.refl _ _).drew | exact drewN_below (Below.refl _ _) _) hb9; have hbu : Below (bx + 1) wr u1 := hbv.mono hszx; have HLCU := Lib.hid (HLC.out.moved hbv); obtain ⟨i2, i3, i4, i5, i6, i7, i8, i9, j0, j1⟩ := HKU.out u1 hbu))
    all_goals
      have HYO : LtO (bx + 1) u1 ⟨p0, p1, A9, n, c9, yz, q0, q1⟩ := ⟨HN5.out, HYA.out.2.1, own_base ho9 (by first | omega | (simp; omega))⟩
      have HYO0 : LtO wr.heap.size u1 ⟨p0, p1, A9, n, c9, yz, q0, q1⟩ := ⟨HN5.out, HYA.out.2.1, own_base ho9 (by first | omega | (simp; done) | (simp; omega))⟩
      have HPU := (HLCU.out.alloc _).push (y := ⟨p0, p1, A9, n, c9, yz, q0, q1⟩) (HYO.moved ((Below.refl _ _).alloc (Nat.le_refl _) _)) (HLC.out.newer HYO0 (Nat.le_refl _)) rfl hown4 hgrow4
      have HLC4 := Lib.hid (HPU.low (b := bx) (o := 2) (by omega) (.slice A4 (k + 1) d4))
      have HBX4 := Lib.hid ((own_lt HBR.out hb4 (by omega)).stored 2 (.slice A4 (k + 1) d4)).1
      have HBW4 := Lib.hid ((HBW.out.trans (hb4.mono (by omega))).setCell (p := ⟨bx, 2, none⟩) (Nat.le_refl _) (.slice A4 (k + 1) d4))
      have HZD4 := Lib.hid (Lt_map_snoc HZD.out hks (y := ⟨p0, p1, A9, n, c9, yz, q0, q1⟩) (by rw [HKE.out]; rfl))
      clear HPU HYO HYO0 hown4 hgrow4 hb4 ho9 hb9 hbv hbu i2 i3 i4 i5 i6 i7 i8 i9 j0 j1
      go_wp2_with fail
      go_roundw
      case rel => exact ⟨k + 1, d4, A4, _, by omega, by go_num, HZD4, HLC4, HBX4, HBW4.out⟩
      case measure => simp [intOf]; omega
end Go.Proofs.YtflniajjecfgeaaGreatDoor

namespace Go.Proofs.YtflniajjecfgeaaGreatDoor
open Go.ChangeShapes Go.WideShapes Go.ChangeAt Go.RowKit

/-- an answer: a plan and a number. -/
def StpN (ss : List ByteArray) (fs : List Q4) (n1 n2 n3 : Nat) (ds : List LtD) (v : Int) (w : World) (e : Ending) (w' : World) : Prop :=
  ∃ (A1 A2 A3 : Option Addr) (d1 d2 d3 : Nat) (zs : List Lt), e = .returned (.tuple #[.agg #[.slice A1 n1 d1, .slice A2 n2 d2, .slice A3 n3 d3], .int .i64 v]) ∧ Hid (∃ q, A1 = some ⟨q, 0, none⟩) ∧ Hid (∃ q, A2 = some ⟨q, 0, none⟩) ∧ Hid (zs.map Lt.d = ds) ∧
    w'.ownsRow (w.heap.size + 2) 9 1 (.slice A1 n1 d1) n1 (ss.map Value.string) ∧ w'.ownsRow (w.heap.size + 2) 109 4 (.slice A2 n2 d2) n2 (fs.flatMap Q4.cells) ∧ LtC (w.heap.size + 2) A3 n3 d3 zs w' ∧ Below w.heap.size w w'
theorem StpN_fin {w X : World} {ss : List ByteArray} {fs : List Q4} {ds : List LtD} {v : Int} {A1 A2 A3 : Option Addr} {n1 n2 n3 d1 d2 d3 : Nat} {zs : List Lt} {u1 u2 u3 : Value} (hq1 : ∃ q, A1 = some ⟨q, 0, none⟩) (hq2 : ∃ q, A2 = some ⟨q, 0, none⟩) (hz : zs.map Lt.d = ds)
    (ho1 : X.ownsRow (w.heap.size + 2) 9 1 (.slice A1 n1 d1) n1 (ss.map Value.string)) (ho2 : X.ownsRow (w.heap.size + 2) 109 4 (.slice A2 n2 d2) n2 (fs.flatMap Q4.cells)) (hC : LtC (w.heap.size + 2) A3 n3 d3 zs X) (hbw : Below w.heap.size w X) :
    StpN ss fs n1 n2 n3 ds v w (.returned (.tuple #[.agg #[.slice A1 n1 d1, .slice A2 n2 d2, .slice A3 n3 d3], .int .i64 v])) (((X.setCell ⟨w.heap.size + 1, 0, none⟩ u1).setCell ⟨w.heap.size + 1, 1, none⟩ u2).setCell ⟨w.heap.size + 1, 2, none⟩ u3) :=
  ⟨A1, A2, A3, d1, d2, d3, zs, rfl, Lib.hid hq1, Lib.hid hq2, Lib.hid hz,
    ownsRow_setCell_below (ownsRow_setCell_below (ownsRow_setCell_below ho1 (a := ⟨w.heap.size + 1, 0, none⟩) (Nat.lt_succ_self _) _) (a := ⟨w.heap.size + 1, 1, none⟩) (Nat.lt_succ_self _) _) (a := ⟨w.heap.size + 1, 2, none⟩) (Nat.lt_succ_self _) _,
    ownsRow_setCell_below (ownsRow_setCell_below (ownsRow_setCell_below ho2 (a := ⟨w.heap.size + 1, 0, none⟩) (Nat.lt_succ_self _) _) (a := ⟨w.heap.size + 1, 1, none⟩) (Nat.lt_succ_self _) _) (a := ⟨w.heap.size + 1, 2, none⟩) (Nat.lt_succ_self _) _,
    LtC.low (LtC.low (LtC.low hC (Nat.lt_succ_self _) _) (Nat.lt_succ_self _) _) (Nat.lt_succ_self _) _,
    ((hbw.setCell (p := ⟨w.heap.size + 1, 0, none⟩) (Nat.le_succ _) _).setCell (p := ⟨w.heap.size + 1, 1, none⟩) (Nat.le_succ _) _).setCell (p := ⟨w.heap.size + 1, 2, none⟩) (Nat.le_succ _) _⟩
theorem StpN.drew {w w' : World} {e : Ending} {ss : List ByteArray} {fs : List Q4} {n1 n2 n3 : Nat} {ds : List LtD} {v : Int} (h : StpN ss fs n1 n2 n3 ds v w e w') : StpN ss fs n1 n2 n3 ds v w e w'.drew := by
  obtain ⟨A1, A2, A3, d1, d2, d3, zs, a1, b1, b2, a2, a3, a4, a5, a6⟩ := h
  exact ⟨A1, A2, A3, d1, d2, d3, zs, a1, b1, b2, a2, own_heapW rfl a3, own_heapW rfl a4, a5.heapW rfl, a6.drew⟩

set_option maxRecDepth 100000 in
set_option maxHeartbeats 2000000 in
theorem l21StepN_ {A0 : Option Addr} {g1 g2 n1 n2 n3 c1 c2 c3 : Nat} {ss : List ByteArray} {fs : List Q4} {ys : List Lt} {ds : List LtD} {w : World} (h : NetAt g1 g2 n1 n2 c1 c2 ss fs w) (hT : LtR A0 n3 ys w) (hd : ys.map Lt.d = ds) (hs : n3 ≤ 12)
    (hblk : ∀ t, t < ds.length → blkP (dn ds t).q0 (dn ds t).q1) (hne : ∀ d ∈ ds, d.zs ≠ []) (hso : ∀ y ∈ ys, ∃ ad, y.A = some ad) (hA0 : 0 < n3 → ∃ g3, A0 = some ⟨g3, 0, none⟩) (hp1 : 0 < n1) (hp2 : 0 < n3 → 0 < n2) (hl : Bool) :
    Calls Tryz.prog 27 #[.agg #[.slice (some ⟨g1, 0, none⟩) n1 c1, .slice (some ⟨g2, 0, none⟩) n2 c2, .slice A0 n3 c3], .bool hl] w (StpN ss fs n1 n2 n3 (stepDs ds hl) (stepId ds hl) w) := by
  have HNT := Lib.hid h; have HT := Lib.hid hT; have HD := Lib.hid hd; have HSO := Lib.hid hso; have HBLK := Lib.hid hblk; have HNE := Lib.hid hne; have HP2 := Lib.hid hp2; have HA0 := Lib.hid hA0
  have HLD : Hid (ds.length = n3) := Lib.hid (by rw [← hd, List.length_map]; exact hT.len)
  clear h hT hd hso hblk hne hp2 hA0
  obtain ⟨sD, hsD⟩ : ∃ r, stepDs ds hl = r := ⟨_, rfl⟩
  obtain ⟨sI, hsI⟩ : ∃ r, stepId ds hl = r := ⟨_, rfl⟩
  have HSD := Lib.hid hsD; have HSI := Lib.hid hsI
  rw [hsD, hsI]
  clear hsD hsI
  go_enter Tryz.func27, Tryz.ntmps27
  go_wp2_with fail
  obtain ⟨W0, hW0⟩ : ∃ W0, (w.alloc (Obj.cells #[.slice (some ⟨g1, 0, none⟩) n1 c1, .slice (some ⟨g2, 0, none⟩) n2 c2, .slice A0 n3 c3] 35)).alloc (Obj.cells #[.slice none 0 0, .slice none 0 0, .slice none 0 0] 35) = W0 := ⟨_, rfl⟩
  have hb0 : Below w.heap.size w W0 := by rw [← hW0]; exact ((Below.refl _ _).alloc (Nat.le_refl _) _).alloc (by simp) _
  have HR0 : Hid (W0.ownsRow (w.heap.size + 1) 35 3 (.slice (some ⟨w.heap.size + 1, 0, none⟩) 1 1) 1 [.slice none 0 0, .slice none 0 0, .slice none 0 0]) := Lib.hid (by
    rw [← hW0]
    have := one_rowP (w.alloc (Obj.cells #[.slice (some ⟨g1, 0, none⟩) n1 c1, .slice (some ⟨g2, 0, none⟩) n2 c2, .slice A0 n3 c3] 35)) (.slice none 0 0) (.slice none 0 0) (.slice none 0 0) (base := w.heap.size + 1) (by simp)
    simpa using this)
  have hz0 : W0.heap.size = w.heap.size + 2 := by rw [← hW0]; simp
  have HB0 := Lib.hid hb0; have HZ0 := Lib.hid hz0
  rw [hW0]
  clear hW0 hb0
  have CN := Lib.hid (l9OwnN_ (c3 := c3) (HNT.out.moved HB0.out) HT.out.len (HT.out.moved HB0.out).rd (HT.out.moved HB0.out).at_ HA0.out HSO.out (by omega))
  refine CN.out.mono ?_
  rintro e w1 ⟨A1, A2, A3, d1, d2, d3, zs, rfl, hq1, hq2, hzd, hn1, hn2, hlc, hb1⟩
  have HQ1 := Lib.hid hq1; have HQ2 := Lib.hid hq2; clear hq1 hq2
  have HZD : Hid (zs.map Lt.d = ds) := Lib.hid (hzd.trans HD.out)
  have HLC := Lib.hid (hlc.base (B' := w.heap.size + 2) (by have := HZ0.out; omega))
  have HO1 := Lib.hid (own_base (B' := w.heap.size + 2) hn1 (by have := HZ0.out; omega)); have HO2 := Lib.hid (own_base (B' := w.heap.size + 2) hn2 (by have := HZ0.out; omega))
  have HR1 := Lib.hid (ownB HR0.out hb1)
  have HB1 := Lib.hid (HB0.out.trans (hb1.mono (by have := HZ0.out; omega)))
  have HZW : Hid (w.heap.size + 2 ≤ w1.heap.size) := Lib.hid (by have := hb1.size; have := HZ0.out; omega)
  clear hzd hn1 hn2 hlc hb1 hz0
  go_wp2_with fail
  obtain ⟨bx, hbx⟩ : ∃ b, w1.heap.size = b := ⟨_, rfl⟩
  obtain ⟨w2, hw2⟩ : ∃ w2, w1.alloc (Obj.cells #[.slice A1 n1 d1, .slice A2 n2 d2, .slice A3 n3 d3] 35) = w2 := ⟨_, rfl⟩
  have hb2 : Below w1.heap.size w1 w2 := by rw [← hw2]; exact (Below.refl _ _).alloc (Nat.le_refl _) _
  have hrx : w2.ownsRow bx 35 3 (.slice (some ⟨bx, 0, none⟩) 1 1) 1 [.slice A1 n1 d1, .slice A2 n2 d2, .slice A3 n3 d3] := by rw [← hw2, ← hbx]; exact one_rowP w1 _ _ _ (Nat.le_refl _)
  have HB2 := Lib.hid (HB1.out.trans (hb2.mono HB1.out.size))
  have HLC2 := Lib.hid (HLC.out.moved hb2)
  have HO12 := Lib.hid (ownB HO1.out hb2); have HO22 := Lib.hid (ownB HO2.out hb2)
  have HR2 := Lib.hid (ownB HR1.out hb2)
  have HK : Hid (∀ u, Below w2.heap.size w2 u → u.cell? ⟨bx, 0, none⟩ = some (.slice A1 n1 d1) ∧ u.cell? ⟨bx, 1, none⟩ = some (.slice A2 n2 d2) ∧ u.cell? ⟨bx, 2, none⟩ = some (.slice A3 n3 d3) ∧ bx < u.heap.size) := Lib.hid fun u hu => by
    obtain ⟨a, b, c, _, _, _, d⟩ := px_facts (ownB hrx hu)
    exact ⟨a, b, c, d⟩
  have HS : Hid (∀ u, Below w2.heap.size w2 u → u.cell? ⟨w.heap.size + 1, 0, none⟩ = some (.slice none 0 0) ∧ u.cell? ⟨w.heap.size + 1, 1, none⟩ = some (.slice none 0 0) ∧ u.cell? ⟨w.heap.size + 1, 2, none⟩ = some (.slice none 0 0) ∧ u.frozen? ⟨w.heap.size + 1, 0, none⟩ = false ∧ u.frozen? ⟨w.heap.size + 1, 1, none⟩ = false ∧ u.frozen? ⟨w.heap.size + 1, 2, none⟩ = false ∧ w.heap.size + 1 < u.heap.size) := Lib.hid fun u hu => px_facts (ownB HR2.out hu)
  have HZ2 : Hid (w.heap.size + 2 ≤ bx ∧ bx < w2.heap.size) := Lib.hid ⟨by have := HZW.out; omega, by rw [← hw2, ← hbx]; simp⟩
  have HRX := Lib.hid hrx
  rw [hw2, hbx]
  clear hw2 hbx hb2 hrx
  clear HLC HO1 HO2 HR1 HR0
  have ⟨y0, y1, y2, y3⟩ := HK.out w2 (Below.refl _ _)
  go_wp2_with fail
  clear y0 y1 y2 y3
  go_loopw [7] (fun i wr => ∃ k : Nat, k ≤ n3 ∧ i = .int .i64 (k : Int) ∧ Hid (∀ j, j < k → canB ds hl j = false) ∧ Below w2.heap.size w2 wr) (fun i _ => n3 - (intOf i).toNat)
  case atStart => exact ⟨0, Nat.zero_le _, rfl, Lib.hid (fun j hj => absurd hj (by omega)), Below.refl _ _⟩
  case round =>
    obtain ⟨k, hk, rfl, HNO, hb⟩ := hrel
    have HBR := Lib.hid hb
    have HBW := Lib.hid (HB2.out.trans (hb.mono HB2.out.size))
    obtain ⟨y0, y1, y2, y3⟩ := HK.out wr hb
    clear hb
    by_cases hlt : k < n3
    case neg =>
      have HSN : Hid (stepF ds hl = none) := Lib.hid (stepR_none (fun j hj => HNO.out j (by have := HLD.out; omega)))
      have HE : Hid (sD = ds ∧ sI = 0) := Lib.hid ⟨by rw [← HSD.out]; unfold stepDs; rw [HSN.out], by rw [← HSI.out]; unfold stepId; rw [HSN.out]⟩
      obtain ⟨rfl, rfl⟩ := HE.out
      obtain ⟨s0, s1, s2, s3, s4, s5, s6⟩ := HS.out wr HBR.out
      have hl1 : ¬ ((k : Int) < (n3 : Int)) := by omega
      go_wp2
      refine bodyPost_ret (v := .tuple #[.agg #[.slice A1 n1 d1, .slice A2 n2 d2, .slice A3 n3 d3], .int .i64 0]) ?_ rfl ?_
      · simp [results, Tryz.results27, go_sem, s0, s1, s2, s6]
      · exact StpN_fin HQ1.out HQ2.out HZD.out (ownB HO12.out HBR.out) (ownB HO22.out HBR.out) (HLC2.out.moved HBR.out) HBW.out
    case pos =>
    have hkz : k < zs.length := by rw [HLC2.out.len]; exact hlt
    obtain ⟨h1, rfl⟩ := own_some HO12.out hp1
    obtain ⟨h2, rfl⟩ := own_some HO22.out (HP2.out (by omega))
    obtain ⟨h3, rfl⟩ := own_some HLC2.out.row (by omega)
    have HNX : Hid (∀ u, Below w2.heap.size w2 u → NetAt h1 h2 n1 n2 d1 d2 ss fs u) := Lib.hid fun u hu => ⟨HNT.out.ln1, HNT.out.sm1, own_cap HO12.out, (Rd.ofOwn (ownB HO12.out hu)), HNT.out.ws, HNT.out.ln2, HNT.out.sm2, rdOwnA (ownB HO22.out hu)⟩
    have HTX : Hid (∀ u, Below w2.heap.size w2 u → LtR (some ⟨h3, 0, none⟩) n3 zs u) := Lib.hid fun u hu => (HLC2.out.moved hu).toR
    have HSX : Hid (∀ y ∈ zs, ∃ ad, y.A = some ad) := Lib.hid fun y hy => by
      have ho := HLC2.out.own y hy
      have hm : y.d ∈ ds := by rw [← HZD.out]; exact List.mem_map_of_mem hy
      have h9 := HNE.out _ hm
      have h10 : 0 < y.n := by
        rw [← ho.1]
        exact List.length_pos_iff.2 h9
      obtain ⟨q, hq⟩ := own_some ho.2.2 h10
      exact ⟨_, hq⟩
    have CL := Lib.hid (l21LowG_ (c3 := d3) (HNX.out wr HBR.out) (HTX.out wr HBR.out) HZD.out hs HBLK.out HSX.out k hlt hl)
    obtain ⟨r, hr⟩ : ∃ r, lowV ds k hl = r := ⟨_, rfl⟩
    rw [hr] at CL
    have HRV := Lib.hid hr
    clear hr
    obtain ⟨f, c, hf0, hc0, hc1, hfc⟩ := blk_parts (HBLK.out k (by rw [HLD.out]; exact hlt))
    obtain ⟨x, hxe⟩ : ∃ y, zs[k]'hkz = y := ⟨_, rfl⟩
    have HDX := Lib.hid (dn_at HZD.out hkz hxe)
    have HXE := Lib.hid hxe
    rw [HDX.out] at hf0 hc0
    have hqf : x.q0 = (f : Int) := hf0
    have hqc : x.q1 = (c : Int) := hc0
    have HFT : Hid ((dn ds k).q0.toNat = f) := Lib.hid (by rw [HDX.out]; show x.q0.toNat = f; rw [hqf]; rfl)
    have HQF := Lib.hid hqf; have HQC := Lib.hid hqc
    have HCL : Hid (∀ u, Below w2.heap.size w2 u → h3 < u.heap.size ∧ u.cell? ⟨h3, k * 5, none⟩ = some (.int .i64 x.p0) ∧ u.cell? ⟨h3, k * 5 + 1, none⟩ = some (.int .i64 x.p1) ∧ u.cell? ⟨h3, k * 5 + 2, none⟩ = some (.slice x.A x.n x.c) ∧ u.cell? ⟨h3, k * 5 + 3, none⟩ = some (.int .i64 (f : Int)) ∧ u.cell? ⟨h3, k * 5 + 4, none⟩ = some (.int .i64 (c : Int))) := Lib.hid fun u hu => by
      have h9 := (HTX.out u hu).rd.ltc hkz
      rw [Nat.zero_add, HXE.out, HQF.out, HQC.out] at h9
      exact h9
    clear hf0 hc0 hqf hqc hxe
    have hkI : (k : Int) < (n3 : Int) := by omega
    go_wp2_with fail
    refine CL.out.mono ?_
    rintro e w3 ⟨rfl, hb3⟩
    have HB3 := Lib.hid (HBR.out.trans (hb3.mono HBR.out.size))
    have HB3W := Lib.hid (HBW.out.trans (hb3.mono HBW.out.size))
    clear hb3 y0 y1 y2 y3
    obtain ⟨y0, y1, y2, y3⟩ := HK.out w3 HB3.out
    obtain ⟨e0, e1, e2, e3, e4, e5⟩ := HCL.out w3 HB3.out
    by_cases hrf : r < f
    case neg =>
      have HNO2 : Hid (∀ j, j < k + 1 → canB ds hl j = false) := Lib.hid (fun j hj => by
        by_cases hjk : j < k
        · exact HNO.out j hjk
        · obtain rfl : j = k := by omega
          unfold canB; rw [HRV.out, HFT.out]; exact decide_eq_false hrf)
      have hr1 : ¬ ((r : Int) < (f : Int)) := by omega
      have hr2 : decide ((r : Int) < (f : Int)) = false := decide_eq_false hr1
      have hr3 : decide (r < f) = false := decide_eq_false hrf
      clear hlt
      go_wp2
      go_roundw
      case rel => exact ⟨k + 1, by omega, by go_num, HNO2, HB3.out⟩
      case measure => simp [intOf]; omega
    case pos =>
    have HSN : Hid (stepF ds hl = some k) := Lib.hid (stepR_some (by unfold canB; rw [HRV.out, HFT.out]; exact decide_eq_true hrf) HNO.out (by rw [HLD.out]; exact hlt))
    have HE : Hid (sD = mvD ds hl k ∧ sI = x.p0) := Lib.hid ⟨by rw [← HSD.out]; unfold stepDs; rw [HSN.out], by rw [← HSI.out]; unfold stepId; rw [HSN.out]; show (dn ds k).p0 = x.p0; rw [HDX.out]; rfl⟩
    obtain ⟨rfl, rfl⟩ := HE.out
    have HZF : Hid ((zs.set k ⟨zs[k].p0, zs[k].p1, zs[k].A, zs[k].n, zs[k].c, zs[k].zs, (r : Int), zs[k].q1⟩).map Lt.d = mvD ds hl k) := Lib.hid (by
      rw [List.map_set, HZD.out]
      unfold mvD mvX
      rw [HRV.out, HDX.out, HXE.out]; rfl)
    have hr1 : (r : Int) < (f : Int) := by omega
    have hr2 : decide ((r : Int) < (f : Int)) = true := decide_eq_true hr1
    have hr3 : decide (r < f) = true := decide_eq_true hrf
    clear hlt
    go_upto_region 8 with fail
    obtain ⟨b9, hb9⟩ : ∃ b, w3.heap.size = b := ⟨_, rfl⟩
    have HB9 := Lib.hid hb9
    obtain ⟨W4, hW4⟩ : ∃ W4, w3.alloc (Obj.cells #[.int .i64 x.p0, .int .i64 x.p1, .slice x.A x.n x.c, .int .i64 (f : Int), .int .i64 (c : Int)] 62) = W4 := ⟨_, rfl⟩
    have hb4 : Below w3.heap.size w3 W4 := by rw [← hW4]; exact (Below.refl _ _).alloc (Nat.le_refl _) _
    have hr9 : W4.ownsRow b9 62 5 (.slice (some ⟨b9, 0, none⟩) 1 1) 1 [.int .i64 x.p0, .int .i64 x.p1, .slice x.A x.n x.c, .int .i64 (f : Int), .int .i64 (c : Int)] := by rw [← hW4, ← hb9]; exact one_rowL w3 _ _ _ _ _ (Nat.le_refl _)
    have HW4 := Lib.hid hW4
    have HR9 := Lib.hid hr9
    have HB4 := Lib.hid (HB3.out.trans (hb4.mono HB3.out.size))
    have hz4 := (hr9.lt b9 rfl).2
    have t3 := hr9.frozenAt 3; have t4 := hr9.frozenAt 4
    have v4 := hr9.cellAt 4 (by decide)
    have v3 := hr9.cellAt 3 (by decide)
    simp only [List.getElem?_cons_zero, List.getElem?_cons_succ] at v3 v4
    rw [hW4, hb9]
    clear hW4 hb4 hr9 hb9 y0 y1 y2 y3 e0 e1 e2 e3 e4 e5
    go_upto_region 9 with fail
    obtain ⟨W5, hW5⟩ : ∃ W5, (W4.setCell ⟨b9, 3, none⟩ (.int .i64 (r : Int))).setCell ⟨b9, 4, none⟩ (.int .i64 (c : Int)) = W5 := ⟨_, rfl⟩
    have HW5 := Lib.hid hW5
    have hr5 : W5.ownsRow b9 62 5 (.slice (some ⟨b9, 0, none⟩) 1 1) 1 [.int .i64 x.p0, .int .i64 x.p1, .slice x.A x.n x.c, .int .i64 (r : Int), .int .i64 (c : Int)] := by
      rw [← hW5]
      exact ((HR9.out.stored 3 (.int .i64 (r : Int))).1.stored 4 (.int .i64 (c : Int))).1
    have hz39 : w3.heap.size ≤ b9 := Nat.le_of_eq HB9.out
    have hb5 : Below w3.heap.size w3 W5 := by
      rw [← hW5, ← HW4.out]
      exact (((Below.refl w3.heap.size w3).alloc (Nat.le_refl _) _).setCell (p := ⟨b9, 3, none⟩) hz39 _).setCell (p := ⟨b9, 4, none⟩) hz39 _
    have HB5 := Lib.hid (HB3.out.trans (hb5.mono HB3.out.size))
    have HB5W := Lib.hid (HB3W.out.trans (hb5.mono HB3W.out.size))
    have HR5 := Lib.hid hr5
    have c0 := hr5.cellAt 0 (by decide); have c1_ := hr5.cellAt 1 (by decide); have c2_ := hr5.cellAt 2 (by decide); have c3_ := hr5.cellAt 3 (by decide); have c4_ := hr5.cellAt 4 (by decide)
    simp only [List.getElem?_cons_zero, List.getElem?_cons_succ] at c0 c1_ c2_ c3_ c4_
    have hz5 := (hr5.lt b9 rfl).2
    rw [hW5]
    clear hW5 hr5 hb5 t3 t4 v3 v4 hz4 hz39
    obtain ⟨y0, y1, y2, y3⟩ := HK.out W5 HB5.out
    obtain ⟨e0, e1, e2, e3, e4, e5⟩ := HCL.out W5 HB5.out
    have hrow5 := HLC2.out.moved HB5.out
    have f0 := hrow5.row.frozenAt (k * 5); have f1 := hrow5.row.frozenAt (k * 5 + 1); have f2 := hrow5.row.frozenAt (k * 5 + 2); have f3 := hrow5.row.frozenAt (k * 5 + 3); have f4 := hrow5.row.frozenAt (k * 5 + 4)
    clear hrow5
    go_upto_region 10 with fail
    obtain ⟨W6, hW6⟩ : ∃ W6, ((((W5.setCell ⟨h3, k * 5, none⟩ (.int .i64 x.p0)).setCell ⟨h3, k * 5 + 1, none⟩ (.int .i64 x.p1)).setCell ⟨h3, k * 5 + 2, none⟩ (.slice x.A x.n x.c)).setCell ⟨h3, k * 5 + 3, none⟩ (.int .i64 (r : Int))).setCell ⟨h3, k * 5 + 4, none⟩ (.int .i64 (c : Int)) = W6 := ⟨_, rfl⟩
    have hd9 := dg_store (HLC2.out.moved HB3.out) hkz (Obj.cells #[.int .i64 x.p0, .int .i64 x.p1, .slice x.A x.n x.c, .int .i64 (f : Int), .int .i64 (c : Int)] 62) (.int .i64 (r : Int)) (.int .i64 (c : Int)) (r : Int)
    have hzf := HZF.out
    rw [HXE.out, HB9.out, HW4.out, HW5.out, HQC.out, hW6] at hd9
    rw [HXE.out, HQC.out] at hzf
    have HD9 := Lib.hid hd9; have HZ9 := Lib.hid hzf
    have hl3 := HLC2.out.row.lt h3 rfl
    have hall : ∀ {E s m : Nat} {v : Value} {xs : List Value} {B : Nat}, W5.ownsRow B E s v m xs → v.ownBlock ≠ some h3 → W6.ownsRow B E s v m xs := fun h hne => by
      rw [← hW6]
      exact ownsRow_setCell_other (ownsRow_setCell_other (ownsRow_setCell_other (ownsRow_setCell_other (ownsRow_setCell_other h (a := ⟨h3, _, none⟩) hne _) (a := ⟨h3, _, none⟩) hne _) (a := ⟨h3, _, none⟩) hne _) (a := ⟨h3, _, none⟩) hne _) (a := ⟨h3, _, none⟩) hne _
    have HO16 := Lib.hid (hall (ownB HO12.out HB5.out) (fun e => own_type_apart HO12.out HLC2.out.row (by decide) h3 e rfl))
    have HO26 := Lib.hid (hall (ownB HO22.out HB5.out) (fun e => own_type_apart HO22.out HLC2.out.row (by decide) h3 e rfl))
    obtain ⟨y60, y61, y62, _, _, _, y63⟩ := px_facts (hall (ownB HRX.out HB5.out) (fun e => own_type_apart HRX.out HLC2.out.row (by decide) h3 e rfl))
    obtain ⟨s0, s1, s2, s3, s4, s5, s6⟩ := px_facts (hall (ownB HR2.out HB5.out) (fun e => own_type_apart HR2.out HLC2.out.row (by decide) h3 e rfl))
    have hc60 := (hall HR5.out (fun e => by
      have h9 : b9 = h3 := by injection e
      have := (HTX.out w3 HB3.out).rd.ltc hkz
      have := HB9.out
      omega)).cellAt 0 (by decide)
    simp only [List.getElem?_cons_zero, List.getElem?_cons_succ] at hc60
    have hz69 : b9 < W6.heap.size := by rw [← hW6]; simpa using hz5
    have HB6W : Hid (Below w.heap.size w W6) := Lib.hid (by
      have hh : w.heap.size ≤ h3 := by omega
      rw [← hW6]
      exact ((((HB5W.out.setCell (p := ⟨h3, _, none⟩) hh _).setCell (p := ⟨h3, _, none⟩) hh _).setCell (p := ⟨h3, _, none⟩) hh _).setCell (p := ⟨h3, _, none⟩) hh _).setCell (p := ⟨h3, _, none⟩) hh _)
    rw [hW6]
    clear hW6 hd9 hzf hl3 hall y0 y1 y2 y3 e0 e1 e2 e3 e4 e5 f0 f1 f2 f3 f4 c0 c1_ c2_ c3_ c4_ hz5
    have hn9 : w.heap.size + 1 < b9 := by have := HB9.out; have := HB3.out.size; have := HZ2.out; omega
    have hn8 : ¬ (b9 = w.heap.size + 1) := by omega
    have hn7 : ¬ (w.heap.size + 1 = b9) := by omega
    go_wp2_with fail
    go_region
    all_goals
      go_wp2_with fail
      refine bodyPost_ret (v := .tuple #[.agg #[.slice (some ⟨h1, 0, none⟩) n1 d1, .slice (some ⟨h2, 0, none⟩) n2 d2, .slice (some ⟨h3, 0, none⟩) n3 d3], .int .i64 x.p0]) ?_ rfl ?_
      · simp [results, Tryz.results27, go_sem, s0, s1, s2, s6]
      · first | exact StpN_fin ⟨_, rfl⟩ ⟨_, rfl⟩ HZ9.out HO16.out HO26.out HD9.out HB6W.out | exact (StpN_fin ⟨_, rfl⟩ ⟨_, rfl⟩ HZ9.out HO16.out HO26.out HD9.out HB6W.out).drew
end Go.Proofs.YtflniajjecfgeaaGreatDoor
