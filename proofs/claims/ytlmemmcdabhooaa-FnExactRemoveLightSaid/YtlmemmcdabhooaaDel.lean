/- A light deleted from an own row in place: contract of slices.Delete at lights. No condition but those typed. -/
import Derived.Test.YtlmemmcdabhooaaPlV
import Derived.Test.YtlmemmcdabhooaaL9Wo
import Derived.Test.YtlmemmcdabhooaaWk9
import Derived.Deep.RegionLaw
import Derived.Deep.LoopGhost
import Derived.Shelf.RegionOpenPlain
import Derived.Lib.SliceRun
namespace Go.Proofs.Ytlmemmcdabhooaa
open Go.ChangeShapes Go.WideShapes Go.ChangeAt Go.RowKit
theorem own_setCellsN {B g n c s : Nat} {E : TypeId} : ∀ (vs xs : List Value) (o : Nat) (w : World), w.ownsRow B E s (.slice (some ⟨g, 0, none⟩) n c) n xs → (w.setCells g o vs).ownsRow B E s (.slice (some ⟨g, 0, none⟩) n c) n (setL xs o vs)
  | [], xs, o, w, h => by rw [setL]; exact h
  | v :: r, xs, o, w, h => by
    rw [setL]
    exact own_setCellsN r (xs.set o v) (o + 1) (w.setCell ⟨g, o, none⟩ v) (h.stored o v).1
theorem off_setCells {g : Nat} : ∀ (vs : List Value) (o : Nat) (w : World), Off (· = g) w (w.setCells g o vs)
  | [], _, _ => Off.refl _ _
  | v :: r, o, w => (off1 (g := g) (o := o) v).trans (off_setCells r (o + 1) _)
theorem setL_mid (vs : List Value) : ∀ (xs : List Value) (o : Nat), o + vs.length ≤ xs.length → setL xs o vs = xs.take o ++ vs ++ xs.drop (o + vs.length) := by
  induction vs with
  | nil => intro xs o h; simp [setL]
  | cons v r ih =>
    intro xs o h
    rw [List.length_cons] at h
    have ho : o < xs.length := by omega
    rw [setL, ih (xs.set o v) (o + 1) (by rw [List.length_set]; omega)]
    have e1 : (xs.set o v).take (o + 1) = xs.take o ++ [v] := by
      rw [List.take_succ_eq_append_getElem (by rw [List.length_set]; exact ho), List.getElem_set_self, List.take_set_of_le (Nat.le_refl _)]
    have e2 : (xs.set o v).drop (o + 1 + r.length) = xs.drop (o + (r.length + 1)) := by
      rw [List.drop_set_of_lt (by omega)]; congr 1; omega
    rw [e1, e2, List.length_cons, List.append_assoc, List.append_assoc, List.append_assoc]; rfl
theorem own_prefix {w : World} {B E s g n c m : Nat} {xs : List Value} (h : w.ownsRow B E s (.slice (some ⟨g, 0, none⟩) n c) n xs) (hm : m ≤ n) : w.ownsRow B E s (.slice (some ⟨g, 0, none⟩) m c) m (xs.take (m * s)) := by
  have hl := h.1
  have hms : m * s ≤ n * s := Nat.mul_le_mul_right s hm
  refine ⟨by rw [List.length_take, hl]; omega, ?_⟩
  rcases h.2 with ⟨hv, _⟩ | ⟨g1, cap, cur, hv, hg, hh, hc, hm2, hsz, ht⟩
  · cases hv
  · injection hv with hA _ hC
    injection hA with hA
    injection hA with hA
    subst hA hC
    exact .inr ⟨g, c, cur, rfl, hg, hh, by omega, hm2, hsz, by rw [← ht, List.take_take, Nat.min_eq_left hms]⟩
theorem lt_cells_len : ∀ (zs : List Lt), (zs.flatMap Lt.cells).length = zs.length * 5
  | [] => rfl
  | y :: r => by rw [List.flatMap_cons, List.length_append, lt_cells_len r, List.length_cons]; show 5 + r.length * 5 = _; omega
theorem lt_cells_take : ∀ (zs : List Lt) (k : Nat), (zs.flatMap Lt.cells).take (k * 5) = (zs.take k).flatMap Lt.cells
  | [], k => by simp
  | y :: r, 0 => by simp
  | y :: r, k + 1 => by
    rw [List.take_succ_cons, List.flatMap_cons, List.flatMap_cons, Nat.add_mul, Nat.one_mul, Nat.add_comm, List.take_append, show (Lt.cells y).length = 5 from rfl, Nat.add_sub_cancel_left, lt_cells_take r k, List.take_of_length_le (show (Lt.cells y).length ≤ 5 + k * 5 by show 5 ≤ _; omega)]
theorem lt_cells_drop : ∀ (zs : List Lt) (k : Nat), (zs.flatMap Lt.cells).drop (k * 5) = (zs.drop k).flatMap Lt.cells
  | [], k => by simp
  | y :: r, 0 => by simp
  | y :: r, k + 1 => by
    rw [List.drop_succ_cons, List.flatMap_cons, Nat.add_mul, Nat.one_mul, Nat.add_comm, List.drop_append, show (Lt.cells y).length = 5 from rfl, Nat.add_sub_cancel_left, lt_cells_drop r k, List.drop_of_length_le (show (Lt.cells y).length ≤ 5 + k * 5 by show 5 ≤ _; omega), List.nil_append]
theorem lt_one : ∀ (zs : List Lt) (u : Value), u ∈ zs.flatMap Lt.cells → u.oneCell' = true := fun zs u hu => by
  obtain ⟨y, _, hy⟩ := List.mem_flatMap.1 hu
  simp only [Lt.cells, List.mem_cons, List.not_mem_nil, or_false] at hy
  rcases hy with rfl | rfl | rfl | rfl | rfl <;> rfl
theorem sublist_apart {zs : List Lt} {ys : List Lt} (h : ys.Sublist zs) {B n c : Nat} {A : Option Addr} {w : World} (hz : LtC B A n c zs w) : (∀ y ∈ ys, LtO B w y) ∧ ys.Pairwise (fun y y' => Apart (ltv y) (ltv y')) :=
  ⟨fun y hy => hz.own y (h.subset hy), hz.apart.sublist h⟩
def zLt : List Value := [.int .i64 0, .int .i64 0, .slice none 0 0, .int .i64 0, .int .i64 0]
theorem run_clear_lt (w : World) (b o c : Nat) (ty : TypeId) (hc : ∀ j, j < 5 → (w.cell? ⟨b, o + j, none⟩).isSome = true) (hf : ∀ j, j < 5 → w.frozen? ⟨b, o + j, none⟩ = false) :
    (Builtin.clear_ #[46] ty #[.slice (some ⟨b, o, none⟩) 1 c]).run Try.prog w = .ok (.tuple #[]) (w.setCells b o zLt) := by
  have hst := run_storeCells_cells (P := Try.prog) b o zLt 0 w (by simpa [zLt] using hc) (by simpa [zLt] using hf) (by intro v hv'; simp only [zLt, List.mem_cons, List.not_mem_nil, or_false] at hv'; rcases hv' with rfl | rfl | rfl | rfl | rfl <;> rfl)
  simp only [Nat.add_zero] at hst
  have hzc : (Builtin.zeroCells (Value.agg #[.int .i64 0, .int .i64 0, .slice none 0 0, .int .i64 0, .int .i64 0]).cells 1).toList = zLt := by
    show (Builtin.zeroCells #[.int .i64 0, .int .i64 0, .slice none 0 0, .int .i64 0, .int .i64 0] 1).toList = zLt
    simp [Builtin.zeroCells, zLt]
    rfl
  simp [Builtin.clear_, run_underlying Try.underlying46, Try.zeroValue127, hzc, hst]
set_option maxRecDepth 100000 in
set_option maxHeartbeats 4000000 in
theorem delLt_ {B g n c i j : Nat} {zs : List Lt} {w : World} (h : LtC B (some ⟨g, 0, none⟩) n c zs w) (hi : j = i + 1) (hin : i < n) :
    Calls Try.prog 80 #[.slice (some ⟨g, 0, none⟩) n c, .int .i64 (i : Int), .int .i64 (j : Int)] w fun e w' => e = .returned (.slice (some ⟨g, 0, none⟩) (n - 1) c) ∧ LtC B (some ⟨g, 0, none⟩) (n - 1) c (zs.take i ++ zs.drop j) w' ∧ Off (fun b => b = g) w w' := by
  obtain ⟨iL, hiL, hzL0, hzL1, hzL2⟩ := info_parts Try.inf_Lt
  have HC := Lib.hid h
  have hln := h.len
  have hcap : n ≤ c ∧ c ≤ maxLen := by
    rcases h.row.2 with ⟨e, _⟩ | ⟨g1, cap, cur, hv, _, _, h1, h2, _⟩
    · cases e
    · injection hv with _ _ hC
      subst hC
      exact ⟨h1, h2⟩
  obtain ⟨news, hnews⟩ : ∃ news, news = (zs.drop j).flatMap Lt.cells := ⟨_, rfl⟩
  have hlen : news.length = (n - j) * 5 := by rw [hnews, lt_cells_len, List.length_drop, hln]
  have hd : Below w.heap.size w w.drew := (Below.refl _ _).drew
  have hcell : ∀ t, t < n * 5 → w.drew.cell? ⟨g, t, none⟩ = (zs.flatMap Lt.cells)[t]? := fun t ht => (h.moved hd).row.cellAt t ht
  obtain ⟨A, hA, hsrc⟩ : ∃ A : Addr, (if c = j then some (⟨g, 0, none⟩ : Addr) else some ⟨g, j * 5, none⟩) = some A ∧ Hid (∀ t u, news[t]? = some u → w.drew.cell? (A.add t) = some u) := by
    by_cases hcj : c = j
    · refine ⟨⟨g, 0, none⟩, by simp [hcj], fun t u hu => ?_⟩
      have h0 : news.length = 0 := by rw [hlen]; omega
      rw [List.length_eq_zero_iff.1 h0] at hu
      simp at hu
    · refine ⟨⟨g, j * 5, none⟩, by simp [hcj], fun t u hu => ?_⟩
      have ht := (List.getElem?_eq_some_iff.1 hu).1
      rw [hlen] at ht
      rw [Addr.add_lit, hcell _ (by omega), ← hu, hnews, ← lt_cells_drop, List.getElem?_drop]
  have s1 : Hid (news.length = (n - j) * 5) := hlen
  have s2 : Hid (∀ u ∈ news, u.oneCell' = true) := by rw [hnews]; exact lt_one _
  have s3 : Hid (∀ t, t < news.length → (w.drew.cell? ⟨g, 0 + i * 5 + t, none⟩).isSome = true ∧ w.drew.frozen? ⟨g, 0 + i * 5 + t, none⟩ = false) := by
    intro t ht
    rw [hlen] at ht
    refine ⟨?_, (h.moved hd).row.frozenAt _⟩
    rw [hcell _ (by omega), List.getElem?_eq_getElem (by rw [lt_cells_len, hln]; omega)]
    rfl
  obtain ⟨W1, hW1⟩ : ∃ W1, W1 = w.drew.setCells g (0 + i * 5) news := ⟨_, rfl⟩
  have ho1 : W1.ownsRow B 127 5 (.slice (some ⟨g, 0, none⟩) n c) n (setL (zs.flatMap Lt.cells) (0 + i * 5) news) := by rw [hW1]; exact own_setCellsN _ _ _ _ (h.moved hd).row
  have hoff1 : Off (fun b => b = g) w W1 := by rw [hW1]; exact (Off.ofBelow hd).trans (off_setCells _ _ _)
  have hll : (setL (zs.flatMap Lt.cells) (0 + i * 5) news).length = n * 5 := by rw [setL_len, lt_cells_len, hln]
  have hcl : ∀ ty, (Builtin.clear_ #[46] ty #[.slice (some ⟨g, (i + (n - j)) * 5, none⟩) (n - (i + (n - j))) (c - (i + (n - j)))]).run Try.prog W1 = .ok (.tuple #[]) (W1.setCells g ((i + (n - j)) * 5) zLt) := fun ty => by
    rw [show n - (i + (n - j)) = 1 by omega]
    exact run_clear_lt W1 g _ _ ty (fun t ht => by rw [ho1.cellAt _ (by omega), List.getElem?_eq_getElem (by rw [hll]; omega)]; rfl) (fun t ht => ho1.frozenAt _)
  have HO1 := Lib.hid ho1; have HOF := Lib.hid hoff1
  have hW : Hid (W1 = w.drew.setCells g (0 + i * 5) news) := hW1
  have HNW := Lib.hid hnews; have HLN := Lib.hid hln
  have hic : i ≤ c := by omega
  have hjc : j ≤ c := by omega
  have hjn : j ≤ n := by omega
  have HIL := Lib.hid hiL; have HZL1 := Lib.hid hzL1
  have hne : ¬ i = j := by omega
  have hij : i ≤ j := by omega
  have hcm := hcap.2; have hnc := hcap.1
  have HSB : Hid (j = i + 1) := hi
  clear hi hcap hW1 ho1 hoff1 hll hcell hnews hlen hd h hln hiL hzL0 hzL1 hzL2
  go_enter Try.func80, Try.ntmps80
  go_wp2_with fail
  go_region_law (refine step_append_room rfl (.tmp 22) (.tmp 25) 46 rfl 127 iL 5 Try.underlying46 HIL.out HZL1.out g 0 i c (by simp [Act.eval, Act.put]) A (n - j) (c - j) news (by simp [Act.eval, Act.put]) s1.out hsrc.out s2.out (by omega) s3.out ?_; rw [← hW.out])
  go_wp2
  go_ret
  obtain rfl := HSB.out
  have h := HC.out
  have hoff2 : Off (fun b => b = g) w (W1.setCells g ((i + (n - (i + 1))) * 5) zLt) := HOF.out.trans (off_setCells _ _ _)
  have hrow := own_setCellsN zLt _ ((i + (n - (i + 1))) * 5) _ HO1.out
  have hnl := lt_cells_len (zs.drop (i + 1))
  rw [List.length_drop, HLN.out] at hnl
  have hxl : (zs.flatMap Lt.cells).length = n * 5 := by rw [lt_cells_len, HLN.out]
  have hcut := own_prefix hrow (m := n - 1) (by omega)
  have hsub : (zs.take i ++ zs.drop (i + 1)).Sublist zs := by
    have e := List.take_append_drop i zs
    conv => rhs; rw [← e]
    exact (List.Sublist.refl _).append (by rw [← List.drop_drop]; exact List.drop_sublist _ _)
  have hxs : (setL (setL (zs.flatMap Lt.cells) (0 + i * 5) news) ((i + (n - (i + 1))) * 5) zLt).take ((n - 1) * 5) = (zs.take i ++ zs.drop (i + 1)).flatMap Lt.cells := by
    have hz5 : zLt.length = 5 := rfl
    have hl1 : ((zs.take i).flatMap Lt.cells).length = i * 5 := by rw [lt_cells_len, List.length_take, HLN.out, Nat.min_eq_left (by omega)]
    rw [HNW.out, setL_mid zLt _ _ (by rw [setL_len, hxl, hz5]; omega), setL_mid _ _ _ (by rw [hnl, hxl]; omega)]
    rw [Nat.zero_add, lt_cells_take, List.flatMap_append]
    generalize (zs.take i).flatMap Lt.cells = X at hl1 ⊢
    generalize (zs.drop (i + 1)).flatMap Lt.cells = Y at hnl ⊢
    generalize (zs.flatMap Lt.cells).drop (i * 5 + Y.length) = Z
    generalize List.drop _ _ = T
    have e2 : (X ++ Y ++ Z).take ((i + (n - (i + 1))) * 5) = X ++ Y := by
      rw [List.take_append_of_le_length (by rw [List.length_append, hl1, hnl]; omega), List.take_of_length_le (by rw [List.length_append, hl1, hnl]; omega)]
    rw [e2, List.append_assoc, List.take_append_of_le_length (by rw [List.length_append, hl1, hnl]; omega), List.take_of_length_le (by rw [List.length_append, hl1, hnl]; omega)]
  obtain ⟨ho, hap⟩ := sublist_apart hsub h
  refine ⟨by rw [show i + (n - (i + 1)) = n - 1 by omega]; rfl, ⟨?_, ?_, ?_, hap⟩, hoff2⟩
  · rw [List.length_append, List.length_take, List.length_drop, HLN.out]; omega
  · rw [← hxs]; exact hcut
  · intro y hy
    exact ⟨(ho y hy).1, (ho y hy).2.1, own_offV (ho y hy).2.2 hoff2 (fun b hb e => by subst e; exact own_type_apart (ho y hy).2.2 h.row (by decide) _ hb rfl)⟩
end Go.Proofs.Ytlmemmcdabhooaa
