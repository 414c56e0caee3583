/- A law's argument of kind Light: opened, weighed, copied, compared, marked. No condition but those typed. -/
import Derived.Test.YtnbeomnlobfpfaaGC
import Derived.Test.YtnbeomnlobfpfaaGB
namespace Go.Proofs.Ytnbeomnlobfpfaa
open Go.ChangeShapes Go.WideShapes Go.ChangeAt Go.RowKit
section
variable {H : Type} {enc : TypeId × Value → H} {w : World} {held : Bool}
set_option maxRecDepth 100000 in
theorem open_light {b0 : Nat} {v : Value} {d : DataW H} {p : List MemPlace} (hv : Value.okWide Try.prog w .any b0 82 v) (h : DataW.Trod enc Try.prog w 0 (fun _ => true) held 82 v d p) :
    ∃ (p0 p1 : Int) (A : Option Addr) (n c : Nat) (zs : List Int) (q0 q1 : Int), v = .agg #[.int .i64 p0, .int .i64 p1, .slice A n c, .int .i64 q0, .int .i64 q1] ∧ zs.length = n ∧ n ≤ maxLen ∧ Rd w w.heap.size A (zs.map (Value.int .i64)) := by
  obtain ⟨cs, rfl, hsz⟩ := okWide_struct Try.underlying82 hv
  obtain ⟨fuel, hf⟩ := h
  obtain ⟨r, e, hin⟩ := trod_Lt hf
  obtain ⟨l⟩ := cs
  have e2 : l = r.cells := by simpa [Value.cells] using e
  subst e2
  exact ⟨r.p0, r.p1, r.A, r.n, r.c, r.zs, r.q0, r.q1, rfl, hin.1, hin.2.1, hin.2.2⟩
end
theorem szLtK (p0 p1 q0 q1 : Int) (A : Option Addr) (n c : Nat) (left : Int) (w : World) (hm : n ≤ maxLen) (hl0 : 0 ≤ left) (hl1 : left ≤ 1048576) :
    Calls Try.prog 45 #[.agg #[.int .i64 p0, .int .i64 p1, .slice A n c, .int .i64 q0, .int .i64 q1], .int .i64 left] w (LtSz left n w) := szLt ⟨p0, p1, A, n, c, [], q0, q1⟩ left w hm hl0 hl1
theorem toLtK (p0 p1 q0 q1 : Int) (A : Option Addr) (n c : Nat) (zs : List Int) (w : World) (hn : zs.length = n) (hr : Rd w w.heap.size A (zs.map (Value.int .i64))) (hs : n ≤ 1048576) :
    Calls Try.prog 47 #[.agg #[.int .i64 p0, .int .i64 p1, .slice A n c, .int .i64 q0, .int .i64 q1]] w (LtOut ⟨p0, p1, A, n, c, zs, q0, q1⟩ w) := toLt ⟨p0, p1, A, n, c, zs, q0, q1⟩ w hn hr hs
theorem eqLtK (p0 p1 q0 q1 : Int) (g g' n c c' : Nat) (zs : List Int) (w : World) (hn : zs.length = n) (hs : n ≤ 1048576) (hr : Rd w w.heap.size (some ⟨g, 0, none⟩) (zs.map (Value.int .i64))) (hr' : Rd w w.heap.size (some ⟨g', 0, none⟩) (zs.map (Value.int .i64))) :
    Calls Try.prog 50 #[.agg #[.int .i64 p0, .int .i64 p1, .slice (some ⟨g, 0, none⟩) n c, .int .i64 q0, .int .i64 q1], .agg #[.int .i64 p0, .int .i64 p1, .slice (some ⟨g', 0, none⟩) n c', .int .i64 q0, .int .i64 q1]] w fun e w' => e = .returned (.bool true) ∧ Below w.heap.size w w' :=
  eqLt p0 p1 q0 q1 g g' n c c' zs w hn hs hr hr'
set_option maxHeartbeats 1000000 in
theorem markRtW (st : Int) (g n c : Nat) (k : Int) (zs : List Int) (w : World) {B : Nat} (ho : w.ownsRow B 3 1 (.slice (some ⟨g, 0, none⟩) n c) n (zs.map (Value.int .i64))) (hn : n ≤ 1048576) (h0 : 0 ≤ k) (h1 : k ≤ 9000000000000) :
    Calls Try.prog 68 #[.agg #[.int .i64 st, .slice (some ⟨g, 0, none⟩) n c], .int .i64 k] w (MarkK k n g w) := by
  have hb0 := (Below.refl w.heap.size w).alloc (Nat.le_refl _) (Obj.cells #[.int .i64 st, .slice (some ⟨g, 0, none⟩) n c] 63)
  have HB := Lib.hid hb0
  have CM := Lib.hid (markIntsW g n c k zs _ (ownB ho hb0) hn h0 (by omega))
  clear ho hb0
  go_enter Try.func68, Try.ntmps68
  go_wp2_with fail
  refine CM.out.mono ?_
  rintro e w1 ⟨rfl, hoff⟩
  have HF := Lib.hid ((Off.ofBelow HB.out).trans hoff)
  clear hoff
  go_wp2
  go_ret
  exact ⟨rfl, HF.out⟩
set_option maxHeartbeats 1000000 in
theorem markLtK (p0 p1 q0 q1 : Int) (g n c : Nat) (k : Int) (zs : List Int) (w : World) {B : Nat} (ho : w.ownsRow B 3 1 (.slice (some ⟨g, 0, none⟩) n c) n (zs.map (Value.int .i64))) (hn : n ≤ 1048576) (h0 : 0 ≤ k) (h1 : k ≤ 9000000000000) :
    Calls Try.prog 52 #[.agg #[.int .i64 p0, .int .i64 p1, .slice (some ⟨g, 0, none⟩) n c, .int .i64 q0, .int .i64 q1], .int .i64 k] w (MarkK k n g w) := by
  have hb0 := (Below.refl w.heap.size w).alloc (Nat.le_refl _) (Obj.cells #[.int .i64 p0, .int .i64 p1, .slice (some ⟨g, 0, none⟩) n c, .int .i64 q0, .int .i64 q1] 88)
  have HB := Lib.hid hb0
  have CM := Lib.hid (markRtW p1 g n c k zs _ (ownB ho hb0) hn h0 h1)
  clear ho hb0
  go_enter Try.func52, Try.ntmps52
  go_wp2_with fail
  refine CM.out.mono ?_
  rintro e w1 ⟨rfl, hoff⟩
  have HF := Lib.hid ((Off.ofBelow HB.out).trans hoff)
  clear hoff
  go_wp2
  go_ret
  exact ⟨rfl, HF.out⟩
end Go.Proofs.Ytnbeomnlobfpfaa
