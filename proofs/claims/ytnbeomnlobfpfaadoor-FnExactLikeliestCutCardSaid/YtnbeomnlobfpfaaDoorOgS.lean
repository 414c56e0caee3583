/- Contracts of the law's helpers over an outage (copy, compare, size, mark). No condition but those typed. -/
import Derived.Test.YtnbeomnlobfpfaaDoorGC
namespace Go.Proofs.YtnbeomnlobfpfaaDoor
open Go.ChangeShapes Go.WideShapes Go.ChangeAt Go.RowKit

set_option maxHeartbeats 400000 in
theorem szOg (st : Int) (A : Option Addr) (n c : Nat) (left : Int) (w : World) (hm : n ≤ maxLen) (hl0 : 0 ≤ left) (hl1 : left ≤ 1048576) :
    Calls Tryd.prog 24 #[.agg #[.int .i64 st, .slice A n c], .int .i64 left] w (RtSz left n w) := by
  have HB := Lib.hid ((Below.refl w.heap.size w).alloc (Nat.le_refl _) (Obj.cells #[.int .i64 st, .slice A n c] 56))
  have hm' := hm
  unfold maxLen at hm'
  have CS := Lib.hid (fun W => szInts A n c left W hm hl0 hl1)
  clear hm
  go_enter Tryd.func24, Tryd.ntmps24
  go_wp2_with fail
  refine (CS.out _).mono ?_
  rintro e w1 ⟨v, rfl, rfl, h0, h1, h2⟩
  have H2 := Lib.hid h2; clear h2
  by_cases hv : v < 0
  · go_wp2
    go_ret
    exact ⟨-1, rfl, HB.out, by omega, by omega, by omega⟩
  · have hv' : 0 ≤ v := by omega
    clear hv
    go_wp2
    go_ret
    exact ⟨v, rfl, HB.out, h0, h1, H2.out⟩
set_option maxHeartbeats 1000000 in
theorem toOg (st : Int) (A : Option Addr) (n c : Nat) (zs : List Int) (w : World) (hn : zs.length = n) (hr : Rd w w.heap.size A (zs.map (Value.int .i64))) (hs : n ≤ 1048576) :
    Calls Tryd.prog 26 #[.agg #[.int .i64 st, .slice A n c]] w (RtOut st zs n w) := by
  have HN := Lib.hid hn; have HR := Lib.hid hr
  clear hn hr
  go_enter Tryd.func26, Tryd.ntmps26
  go_wp2_with fail
  have hb0 := (((Below.refl w.heap.size w).alloc (Nat.le_refl _) (Obj.cells #[.int .i64 st, .slice A n c] 56)).alloc (by simp) (Obj.cells #[.int .i64 0, .slice none 0 0] 59)).alloc (by simp; omega) (Obj.cells #[.int .i64 st, .slice none 0 0] 59)
  have HB0 := Lib.hid hb0
  refine (toIntS A n c zs _ HN.out (HR.out.moved hb0) hs).mono ?_
  clear hb0
  rintro e w2 ⟨g1, hg1, rfl, hown1, hb2⟩
  obtain ⟨hc, hf⟩ := bcell hb2
  have hz := hb2.size
  have hb02 : Below w.heap.size w w2 := HB0.out.trans (hb2.mono HB0.out.size)
  simp at hg1 hz
  have HO := Lib.hid (own_base hown1 (B' := w.heap.size) (by simp; omega))
  have HB2 := Lib.hid hb02
  clear hown1 hb02 hb2
  have hza : w.heap.size + 1 + 1 < w2.heap.size := by omega
  have hzb : w.heap.size + 1 < w2.heap.size := by omega
  have hzc : w.heap.size < w2.heap.size := by omega
  go_wp2
  refine bodyPost_ret (v := .agg #[.int .i64 st, .slice (some ⟨g1, 0, none⟩) n n]) (by simp [results, Tryd.results26, go_sem, hc, hz, hza, hzb, hzc]) rfl ⟨g1, rfl, by omega, ?_, ?_⟩
  · exact own_set (own_set (own_set HO.out (p := ⟨_, _, none⟩) (by simp; omega) _) (p := ⟨_, _, none⟩) (by simp; omega) _) (p := ⟨_, _, none⟩) (by simp; omega) _
  · exact ((HB2.out.setCell (p := ⟨_, _, none⟩) (by simp; omega) _).setCell (p := ⟨_, _, none⟩) (by simp) _).setCell (p := ⟨_, _, none⟩) (by simp) _

set_option maxHeartbeats 1000000 in
theorem eqOg (st : Int) (g g' n c c' : Nat) (zs : List Int) (w : World) (hn : zs.length = n) (hs : n ≤ 1048576) (hr : Rd w w.heap.size (some ⟨g, 0, none⟩) (zs.map (Value.int .i64))) (hr' : Rd w w.heap.size (some ⟨g', 0, none⟩) (zs.map (Value.int .i64))) :
    Calls Tryd.prog 28 #[.agg #[.int .i64 st, .slice (some ⟨g, 0, none⟩) n c], .agg #[.int .i64 st, .slice (some ⟨g', 0, none⟩) n c']] w fun e w' => e = .returned (.bool true) ∧ Below w.heap.size w w' := by
  have hb0 := ((Below.refl w.heap.size w).alloc (Nat.le_refl _) (Obj.cells #[.int .i64 st, .slice (some ⟨g, 0, none⟩) n c] 59)).alloc (by simp) (Obj.cells #[.int .i64 st, .slice (some ⟨g', 0, none⟩) n c'] 59)
  have HB := Lib.hid hb0
  have CE := Lib.hid (eqIntS g g' n c c' zs _ hn (hr.moved hb0) (hr'.moved hb0) hs)
  clear hn hr hr' hb0
  go_enter Tryd.func28, Tryd.ntmps28
  go_wp2_with fail
  refine CE.out.mono ?_
  rintro e w1 ⟨rfl, hb1⟩
  have HB1 := Lib.hid (HB.out.trans (hb1.mono HB.out.size))
  clear hb1
  go_wp2
  go_ret
  exact ⟨rfl, HB1.out⟩

theorem markOg (st : Int) (g n c : Nat) (k : Int) (zs : List Int) (w : World) {B : Nat} (ho : w.ownsRow B 3 1 (.slice (some ⟨g, 0, none⟩) n c) n (zs.map (Value.int .i64))) (hn : n ≤ 1048576) (h0 : 0 ≤ k) (h1 : k ≤ 100000000) :
    Calls Tryd.prog 29 #[.agg #[.int .i64 st, .slice (some ⟨g, 0, none⟩) n c], .int .i64 k] w (MarkK k n g w) := by
  have hb0 := (Below.refl w.heap.size w).alloc (Nat.le_refl _) (Obj.cells #[.int .i64 st, .slice (some ⟨g, 0, none⟩) n c] 59)
  have HB := Lib.hid hb0
  have CM := Lib.hid (markIntsK g n c k zs _ (ownB ho hb0) hn h0 h1)
  clear ho hb0
  go_enter Tryd.func29, Tryd.ntmps29
  go_wp2_with fail
  refine CM.out.mono ?_
  rintro e w1 ⟨rfl, hoff⟩
  have HF := Lib.hid ((Off.ofBelow HB.out).trans hoff)
  clear hoff
  go_wp2
  go_ret
  exact ⟨rfl, HF.out⟩

end Go.Proofs.YtnbeomnlobfpfaaDoor
