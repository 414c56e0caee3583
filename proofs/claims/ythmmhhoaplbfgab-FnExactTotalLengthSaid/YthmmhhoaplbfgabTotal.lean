/- Contracts: impl.TotalLength and spec.TotalLength answer the same plain words. No condition but those typed. -/
import Derived.Test.YthmmhhoaplbfgabNetA
namespace Go.Proofs.Ythmmhhoaplbfgab
open Go.ChangeShapes Go.WideShapes Go.ChangeAt Go.RowKit

def lenV (fs : List Q4) : Int := (fs.map Q4.c).sum
theorem lenV_snoc (fs : List Q4) (k : Nat) (h : k < fs.length) : lenV (fs.take (k + 1)) = lenV (fs.take k) + fs[k].c := by
  unfold lenV; rw [List.take_succ_eq_append_getElem h, List.map_append, List.sum_append]; simp only [List.map_cons, List.map_nil, List.sum_cons, List.sum_nil, Int.add_zero]
noncomputable def totB (ss : List ByteArray) (fs : List Q4) : Bool := pb (netP ss fs)
noncomputable def totI (ss : List ByteArray) (fs : List Q4) : Int := if totB ss fs then lenV fs else 0
noncomputable def totR (ss : List ByteArray) (fs : List Q4) : Value := .tuple #[.int .i64 (totI ss fs), .bool (totB ss fs)]
theorem tot_no {ss : List ByteArray} {fs : List Q4} (h : ¬ netP ss fs) : (.tuple #[.int .i64 0, .bool false] : Value) = totR ss fs := by
  unfold totR totI totB; rw [pb_false h, if_neg Bool.false_ne_true]
theorem tot_yes {ss : List ByteArray} {fs : List Q4} (h : netP ss fs) : (.tuple #[.int .i64 (lenV fs), .bool true] : Value) = totR ss fs := by
  unfold totR totI totB; rw [pb_true h, if_pos rfl]

set_option maxHeartbeats 1000000 in
theorem specTot {g1 g2 n1 n2 c1 c2 : Nat} {ss : List ByteArray} {fs : List Q4} {w : World} (h : NetAt g1 g2 n1 n2 c1 c2 ss fs w) :
    Calls Try.prog 9 #[.agg #[.slice (some ⟨g1, 0, none⟩) n1 c1, .slice (some ⟨g2, 0, none⟩) n2 c2]] w (RetP (totR ss fs) w) := by
  have HN := Lib.hid h; clear h
  by_cases hp : netP ss fs
  · have HB : Hid (pb (netP ss fs) = true) := Lib.hid (pb_true hp)
    have HP := Lib.hid hp; clear hp
    have hn14 : n2 ≤ 14 := by have := HP.out.2.1; have := HN.out.ln2; omega
    go_enter Try.func9, Try.ntmps9
    go_wp2_with fail
    obtain ⟨W0, hW0⟩ : ∃ W0, (w.alloc (Obj.cells #[.slice (some ⟨g1, 0, none⟩) n1 c1, .slice (some ⟨g2, 0, none⟩) n2 c2] 31)) = W0 := ⟨_, rfl⟩
    have hk0 : W0.cell? ⟨w.heap.size, 0, none⟩ = some (.slice (some ⟨g1, 0, none⟩) n1 c1) := by rw [← hW0]; simp [go_sem]
    have hk1 : W0.cell? ⟨w.heap.size, 1, none⟩ = some (.slice (some ⟨g2, 0, none⟩) n2 c2) := by rw [← hW0]; simp [go_sem]
    have hz0 : w.heap.size < W0.heap.size := by rw [← hW0]; simp
    have HB0 := Lib.hid ((Below.refl w.heap.size w).alloc (Nat.le_refl _) (Obj.cells #[.slice (some ⟨g1, 0, none⟩) n1 c1, .slice (some ⟨g2, 0, none⟩) n2 c2] 31))
    rw [hW0] at HB0 ⊢
    clear hW0
    have HN0 := Lib.hid (HN.out.moved HB0.out)
    refine (specNet_ HN0.out).mono ?_
    rintro e w1 ⟨rfl, hb1⟩
    rw [HB.out]
    have k0 := (hb1.cell (p := ⟨w.heap.size, 0, none⟩) hz0).trans hk0
    have k1 := (hb1.cell (p := ⟨w.heap.size, 1, none⟩) hz0).trans hk1
    have hbx : w.heap.size < w1.heap.size := Nat.lt_of_lt_of_le hz0 hb1.size
    have HN1 := Lib.hid (HN0.out.moved hb1)
    have hB1 := Lib.hid (HB0.out.trans (hb1.mono HB0.out.size))
    clear hk0 hk1 hz0 hb1 HN0 HB0
    go_wp2
    go_loop [4, 5] (fun u i => ∃ (k : Nat) (o : Int), k ≤ n2 ∧ i = .int .i64 k ∧ u = .int .i64 o ∧ o = lenV (fs.take k) ∧ 0 ≤ o ∧ o ≤ 5000 * (k : Int)) (fun _ i => n2 - (intOf i).toNat)
    case atStart => exact ⟨0, 0, Nat.zero_le _, rfl, rfl, rfl, by omega, by omega⟩
    case round =>
      obtain ⟨k, o, hk, rfl, rfl, ho, ho0, ho1⟩ := hrel
      have HO := Lib.hid ho; clear ho
      by_cases hlt : k < n2
      · have hks : k < fs.length := by have := HN.out.ln2; omega
        have hfp := (HP.out.2.2.2 k hks hks).1
        have hsn := lenV_snoc fs k hks
        have hr := HN1.out.rd2.q4c hks
        rw [Nat.zero_add] at hr
        obtain ⟨⟨a, b, c, d⟩, hq⟩ : ∃ q, fs[k]'hks = q := ⟨_, rfl⟩
        rw [hq] at hr hfp hsn
        obtain ⟨hg, f0, f1, f2, f3⟩ := hr
        have hc1 : 1 ≤ c := hfp.2.2.2.1
        have hc2 : c ≤ 5000 := hfp.2.2.2.2.1
        have HS : Hid (o + c = lenV (fs.take (k + 1))) := Lib.hid (by rw [hsn, HO.out])
        simp only at f0 f1 f2 f3
        clear hq hfp hsn
        go_wp2
        go_round
        case rel => exact ⟨k + 1, _, by omega, by go_num, rfl, HS.out, by omega, by omega⟩
        case measure => simp [intOf]; omega
      · have hkn : k = n2 := by omega
        subst hkn
        have HR : Hid ((.tuple #[.int .i64 o, .bool true] : Value) = totR ss fs) := Lib.hid (by
          have hl := HN.out.ln2
          rw [← tot_yes HP.out, HO.out, List.take_of_length_le (by omega)])
        clear hlt
        go_wp2
        go_ret2
        exact retP HR.out hB1.out
  · have HB : Hid (pb (netP ss fs) = false) := Lib.hid (pb_false hp)
    have HR := Lib.hid (tot_no (ss := ss) (fs := fs) hp)
    clear hp
    go_enter Try.func9, Try.ntmps9
    go_wp2_with fail
    obtain ⟨W0, hW0⟩ : ∃ W0, (w.alloc (Obj.cells #[.slice (some ⟨g1, 0, none⟩) n1 c1, .slice (some ⟨g2, 0, none⟩) n2 c2] 31)) = W0 := ⟨_, rfl⟩
    have hk0 : W0.cell? ⟨w.heap.size, 0, none⟩ = some (.slice (some ⟨g1, 0, none⟩) n1 c1) := by rw [← hW0]; simp [go_sem]
    have hk1 : W0.cell? ⟨w.heap.size, 1, none⟩ = some (.slice (some ⟨g2, 0, none⟩) n2 c2) := by rw [← hW0]; simp [go_sem]
    have hz0 : w.heap.size < W0.heap.size := by rw [← hW0]; simp
    have HB0 := Lib.hid ((Below.refl w.heap.size w).alloc (Nat.le_refl _) (Obj.cells #[.slice (some ⟨g1, 0, none⟩) n1 c1, .slice (some ⟨g2, 0, none⟩) n2 c2] 31))
    rw [hW0] at HB0 ⊢
    clear hW0
    have HN0 := Lib.hid (HN.out.moved HB0.out)
    refine (specNet_ HN0.out).mono ?_
    rintro e w1 ⟨rfl, hb1⟩
    rw [HB.out]
    have k0 := (hb1.cell (p := ⟨w.heap.size, 0, none⟩) hz0).trans hk0
    have k1 := (hb1.cell (p := ⟨w.heap.size, 1, none⟩) hz0).trans hk1
    have hbx : w.heap.size < w1.heap.size := Nat.lt_of_lt_of_le hz0 hb1.size
    have HN1 := Lib.hid (HN0.out.moved hb1)
    have hB1 := Lib.hid (HB0.out.trans (hb1.mono HB0.out.size))
    clear hk0 hk1 hz0 hb1 HN0 HB0
    go_wp2
    go_ret2
    exact retP HR.out hB1.out

set_option maxHeartbeats 1000000 in
theorem implTot {g1 g2 n1 n2 c1 c2 : Nat} {ss : List ByteArray} {fs : List Q4} {w : World} (h : NetAt g1 g2 n1 n2 c1 c2 ss fs w) :
    Calls Try.prog 11 #[.agg #[.slice (some ⟨g1, 0, none⟩) n1 c1, .slice (some ⟨g2, 0, none⟩) n2 c2]] w (RetP (totR ss fs) w) := by
  have HN := Lib.hid h; clear h
  by_cases hp : netP ss fs
  · have HB : Hid (pb (netP ss fs) = true) := Lib.hid (pb_true hp)
    have HP := Lib.hid hp; clear hp
    have hn14 : n2 ≤ 14 := by have := HP.out.2.1; have := HN.out.ln2; omega
    go_enter Try.func11, Try.ntmps11
    go_wp2_with fail
    obtain ⟨W0, hW0⟩ : ∃ W0, (w.alloc (Obj.cells #[.slice (some ⟨g1, 0, none⟩) n1 c1, .slice (some ⟨g2, 0, none⟩) n2 c2] 31)) = W0 := ⟨_, rfl⟩
    have hk0 : W0.cell? ⟨w.heap.size, 0, none⟩ = some (.slice (some ⟨g1, 0, none⟩) n1 c1) := by rw [← hW0]; simp [go_sem]
    have hk1 : W0.cell? ⟨w.heap.size, 1, none⟩ = some (.slice (some ⟨g2, 0, none⟩) n2 c2) := by rw [← hW0]; simp [go_sem]
    have hz0 : w.heap.size < W0.heap.size := by rw [← hW0]; simp
    have HB0 := Lib.hid ((Below.refl w.heap.size w).alloc (Nat.le_refl _) (Obj.cells #[.slice (some ⟨g1, 0, none⟩) n1 c1, .slice (some ⟨g2, 0, none⟩) n2 c2] 31))
    rw [hW0] at HB0 ⊢
    clear hW0
    have HN0 := Lib.hid (HN.out.moved HB0.out)
    refine (implNet_ HN0.out).mono ?_
    rintro e w1 ⟨rfl, hb1⟩
    rw [HB.out]
    have k0 := (hb1.cell (p := ⟨w.heap.size, 0, none⟩) hz0).trans hk0
    have k1 := (hb1.cell (p := ⟨w.heap.size, 1, none⟩) hz0).trans hk1
    have hbx : w.heap.size < w1.heap.size := Nat.lt_of_lt_of_le hz0 hb1.size
    have HN1 := Lib.hid (HN0.out.moved hb1)
    have hB1 := Lib.hid (HB0.out.trans (hb1.mono HB0.out.size))
    clear hk0 hk1 hz0 hb1 HN0 HB0
    go_wp2
    have K1 := Lib.hid k1
    clear k0 k1
    go_loopw [4, 13] (fun u i wr => ∃ (k : Nat) (o : Int), k ≤ n2 ∧ i = .int .i64 k ∧ u = .int .i64 o ∧ o = lenV (fs.take k) ∧ (0 ≤ o ∧ o ≤ 5000 * (k : Int)) ∧ Below w1.heap.size w1 wr) (fun _ i _ => n2 - (intOf i).toNat)
    case atStart => exact ⟨0, 0, Nat.zero_le _, rfl, rfl, rfl, by omega, Below.refl _ _⟩
    case round =>
      obtain ⟨k, o, hk, rfl, rfl, ho, ⟨ho0, ho1⟩, hb⟩ := hrel
      have HO := Lib.hid ho; clear ho
      by_cases hlt : k < n2
      · have hks : k < fs.length := by have := HN.out.ln2; omega
        have hfp := (HP.out.2.2.2 k hks hks).1
        have hsn := lenV_snoc fs k hks
        have hr := (HN1.out.rd2.over hb).q4c hks
        rw [Nat.zero_add] at hr
        obtain ⟨⟨a, b, c, d⟩, hq⟩ : ∃ q, fs[k]'hks = q := ⟨_, rfl⟩
        rw [hq] at hr hfp hsn
        obtain ⟨hg, f0, f1, f2, f3⟩ := hr
        have hc1 : 1 ≤ c := hfp.2.2.2.1
        have hc2 : c ≤ 5000 := hfp.2.2.2.2.1
        have HS : Hid (o + c = lenV (fs.take (k + 1))) := Lib.hid (by rw [hsn, HO.out])
        simp only at f0 f1 f2 f3
        clear hq hfp hsn
        go_wp2
        go_roundw
        case rel => exact ⟨k + 1, _, by omega, by go_num, rfl, HS.out, ⟨by omega, by omega⟩, hb.alloc hb.size _⟩
        case measure => simp [intOf]; omega
      · have hkn : k = n2 := by omega
        subst hkn
        have HR : Hid ((.tuple #[.int .i64 o, .bool true] : Value) = totR ss fs) := Lib.hid (by
          have hl := HN.out.ln2
          rw [← tot_yes HP.out, HO.out, List.take_of_length_le (by omega)])
        clear hlt
        go_wp2
        go_ret2
        exact retP HR.out (hB1.out.trans (hb.mono hB1.out.size))
  · have HB : Hid (pb (netP ss fs) = false) := Lib.hid (pb_false hp)
    have HR := Lib.hid (tot_no (ss := ss) (fs := fs) hp)
    clear hp
    go_enter Try.func11, Try.ntmps11
    go_wp2_with fail
    obtain ⟨W0, hW0⟩ : ∃ W0, (w.alloc (Obj.cells #[.slice (some ⟨g1, 0, none⟩) n1 c1, .slice (some ⟨g2, 0, none⟩) n2 c2] 31)) = W0 := ⟨_, rfl⟩
    have hk0 : W0.cell? ⟨w.heap.size, 0, none⟩ = some (.slice (some ⟨g1, 0, none⟩) n1 c1) := by rw [← hW0]; simp [go_sem]
    have hk1 : W0.cell? ⟨w.heap.size, 1, none⟩ = some (.slice (some ⟨g2, 0, none⟩) n2 c2) := by rw [← hW0]; simp [go_sem]
    have hz0 : w.heap.size < W0.heap.size := by rw [← hW0]; simp
    have HB0 := Lib.hid ((Below.refl w.heap.size w).alloc (Nat.le_refl _) (Obj.cells #[.slice (some ⟨g1, 0, none⟩) n1 c1, .slice (some ⟨g2, 0, none⟩) n2 c2] 31))
    rw [hW0] at HB0 ⊢
    clear hW0
    have HN0 := Lib.hid (HN.out.moved HB0.out)
    refine (implNet_ HN0.out).mono ?_
    rintro e w1 ⟨rfl, hb1⟩
    rw [HB.out]
    have k0 := (hb1.cell (p := ⟨w.heap.size, 0, none⟩) hz0).trans hk0
    have k1 := (hb1.cell (p := ⟨w.heap.size, 1, none⟩) hz0).trans hk1
    have hbx : w.heap.size < w1.heap.size := Nat.lt_of_lt_of_le hz0 hb1.size
    have HN1 := Lib.hid (HN0.out.moved hb1)
    have hB1 := Lib.hid (HB0.out.trans (hb1.mono HB0.out.size))
    clear hk0 hk1 hz0 hb1 HN0 HB0
    go_wp2
    go_ret2
    exact retP HR.out hB1.out
end Go.Proofs.Ythmmhhoaplbfgab
