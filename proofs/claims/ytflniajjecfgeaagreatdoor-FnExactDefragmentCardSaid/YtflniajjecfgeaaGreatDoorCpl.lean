/- A light copied by the program; fibers copied. No condition but those typed. -/
import Derived.Test.YtflniajjecfgeaaGreatDoorL9Own
import Derived.Test.YtflniajjecfgeaaGreatDoorRf
namespace Go.Proofs.YtflniajjecfgeaaGreatDoor
open Go.ChangeShapes Go.WideShapes Go.ChangeAt Go.RowKit
theorem one_rowL (w : World) (a b c d e : Value) {base : Nat} (hb : base ≤ w.heap.size) : (w.alloc (.cells #[a, b, c, d, e] 62)).ownsRow base 62 5 (.slice (some ⟨w.heap.size, 0, none⟩) 1 1) 1 [a, b, c, d, e] := by
  have := World.ownsRow_lit (base := base) (e := 62) (size := 5) w #[a, b, c, d, e] 1 hb (by unfold maxLen; omega) rfl
  simpa using this
theorem iclone_ (q n c : Nat) (zs : List Int) (w : World) (hn : zs.length = n) (hs : n ≤ 1048576) (hr : Rd w w.heap.size (some ⟨q, 0, none⟩) (zs.map (Value.int .i64))) :
    Calls Tryz.prog 110 #[.slice (some ⟨q, 0, none⟩) n c] w fun e w' => ∃ (A : Option Addr) (c' : Nat), e = .returned (.slice A n c') ∧ w'.ownsRow w.heap.size 3 1 (.slice A n c') n (zs.map (Value.int .i64)) ∧ Below w.heap.size w w' := by
  refine (Tryz.slices_Clone_int q 0 n c zs w (by omega) (by omega) (fun j hj => ?_)).mono fun e w' h => ?_
  · have h9 := (hr.intc hj).2
    rw [List.getD_eq_getElem?_getD, List.getElem?_eq_getElem hj]; exact h9
  · obtain ⟨v', rfl, ho, _, hb⟩ := h
    rw [List.take_of_length_le (by omega)] at ho
    obtain ⟨A, c', rfl⟩ := formOf ho
    exact ⟨A, c', rfl, ho, hb⟩
set_option maxRecDepth 100000 in
set_option maxHeartbeats 400000 in
theorem copyLight_ (p0 p1 : Int) (q n c : Nat) (zs : List Int) (q0 q1 : Int) (w : World) (hn : zs.length = n) (hs : n ≤ 1048576) (hr : Rd w w.heap.size (some ⟨q, 0, none⟩) (zs.map (Value.int .i64))) :
    Calls Tryz.prog 69 #[.agg #[.int .i64 p0, .int .i64 p1, .slice (some ⟨q, 0, none⟩) n c, .int .i64 q0, .int .i64 q1]] w fun e w' => ∃ (A : Option Addr) (c' : Nat), e = .returned (.agg #[.int .i64 p0, .int .i64 p1, .slice A n c', .int .i64 q0, .int .i64 q1]) ∧ w'.ownsRow (w.heap.size + 2) 3 1 (.slice A n c') n (zs.map (Value.int .i64)) ∧ Below w.heap.size w w' := by
  obtain ⟨W0, hW0⟩ : ∃ W0, (w.alloc (Obj.cells #[.int .i64 p0, .int .i64 p1, .slice (some ⟨q, 0, none⟩) n c, .int .i64 q0, .int .i64 q1] 62)).alloc (Obj.cells #[.int .i64 0, .int .i64 0, .slice none 0 0, .int .i64 0, .int .i64 0] 62) = W0 := ⟨_, rfl⟩
  have hb0 : Below w.heap.size w W0 := by rw [← hW0]; exact ((Below.refl _ _).alloc (Nat.le_refl _) _).alloc (by simp) _
  have HX0 : Hid (W0.ownsRow w.heap.size 62 5 (.slice (some ⟨w.heap.size, 0, none⟩) 1 1) 1 [.int .i64 p0, .int .i64 p1, .slice (some ⟨q, 0, none⟩) n c, .int .i64 q0, .int .i64 q1]) := Lib.hid (by rw [← hW0]; exact (one_rowL w _ _ _ _ _ (Nat.le_refl _)).alloc _)
  have HR0 : Hid (W0.ownsRow (w.heap.size + 1) 62 5 (.slice (some ⟨w.heap.size + 1, 0, none⟩) 1 1) 1 [.int .i64 0, .int .i64 0, .slice none 0 0, .int .i64 0, .int .i64 0]) := Lib.hid (by
    rw [← hW0]
    have := one_rowL (w.alloc (Obj.cells #[.int .i64 p0, .int .i64 p1, .slice (some ⟨q, 0, none⟩) n c, .int .i64 q0, .int .i64 q1] 62)) (.int .i64 0) (.int .i64 0) (.slice none 0 0) (.int .i64 0) (.int .i64 0) (base := w.heap.size + 1) (by simp)
    simpa using this)
  have k2 : W0.cell? ⟨w.heap.size, 2, none⟩ = some (.slice (some ⟨q, 0, none⟩) n c) := by rw [← hW0]; simp [go_sem]
  have k2' : W0.cell? ⟨w.heap.size, 1 + 1, none⟩ = some (.slice (some ⟨q, 0, none⟩) n c) := k2
  have hz0 : W0.heap.size = w.heap.size + 2 := by rw [← hW0]; simp
  have CC := Lib.hid (iclone_ q n c zs W0 hn hs (hr.moved hb0))
  have HB0 := Lib.hid hb0; have HZ0 := Lib.hid hz0
  clear hb0 hz0
  go_enter Tryz.func69, Tryz.ntmps69
  go_wp2_with fail
  clear hW0
  refine CC.out.mono ?_
  rintro e w1 ⟨A, c', rfl, ho, hb1⟩
  have HB1 := Lib.hid (HB0.out.trans (hb1.mono (by have := HZ0.out; omega)))
  have hx1 := ownB HX0.out hb1
  have hr1 := ownB HR0.out hb1
  have hz1 : w.heap.size + 2 ≤ w1.heap.size := by have := HZ0.out; have := hb1.size; omega
  have x0 := hx1.cellAt 0 (by decide); have x1 := hx1.cellAt 1 (by decide); have x2 := hx1.cellAt 2 (by decide); have x3 := hx1.cellAt 3 (by decide); have x4 := hx1.cellAt 4 (by decide)
  have y0 := hr1.cellAt 0 (by decide); have y1 := hr1.cellAt 1 (by decide); have y2 := hr1.cellAt 2 (by decide); have y3 := hr1.cellAt 3 (by decide); have y4 := hr1.cellAt 4 (by decide)
  simp only [List.getElem?_cons_zero, List.getElem?_cons_succ] at x0 x1 x2 x3 x4 y0 y1 y2 y3 y4
  have fx2 := hx1.frozenAt 2
  have f0 := hr1.frozenAt 0; have f1 := hr1.frozenAt 1; have f2 := hr1.frozenAt 2; have f3 := hr1.frozenAt 3; have f4 := hr1.frozenAt 4
  have hszz : w.heap.size + 1 < w1.heap.size := by omega
  have HO := Lib.hid (own_base ho (B' := w.heap.size + 2) (by have := HZ0.out; omega))
  clear k2 k2' hx1 hr1 hb1 ho
  go_wp2
  refine bodyPost_ret (v := .agg #[.int .i64 p0, .int .i64 p1, .slice A n c', .int .i64 q0, .int .i64 q1]) (by simp [results, Tryz.results69, go_sem, x0, x1, x2, x3, x4, y0, y1, y2, y3, y4, hszz]) rfl ⟨A, c', rfl, ?_, ?_⟩
  · refine ownsRow_setCell_below ?_ (a := ⟨w.heap.size + 1, _, none⟩) (by show w.heap.size + 1 < w.heap.size + 2; omega) _
    refine ownsRow_setCell_below ?_ (a := ⟨w.heap.size + 1, _, none⟩) (by show w.heap.size + 1 < w.heap.size + 2; omega) _
    refine ownsRow_setCell_below ?_ (a := ⟨w.heap.size + 1, _, none⟩) (by show w.heap.size + 1 < w.heap.size + 2; omega) _
    refine ownsRow_setCell_below ?_ (a := ⟨w.heap.size + 1, _, none⟩) (by show w.heap.size + 1 < w.heap.size + 2; omega) _
    refine ownsRow_setCell_below ?_ (a := ⟨w.heap.size + 1, _, none⟩) (by show w.heap.size + 1 < w.heap.size + 2; omega) _
    refine ownsRow_setCell_below ?_ (a := ⟨w.heap.size, _, none⟩) (by show w.heap.size < w.heap.size + 2; omega) _
    exact HO.out
  · refine Below.setCell ?_ (p := ⟨w.heap.size + 1, _, none⟩) (by show w.heap.size ≤ w.heap.size + 1; omega) _
    refine Below.setCell ?_ (p := ⟨w.heap.size + 1, _, none⟩) (by show w.heap.size ≤ w.heap.size + 1; omega) _
    refine Below.setCell ?_ (p := ⟨w.heap.size + 1, _, none⟩) (by show w.heap.size ≤ w.heap.size + 1; omega) _
    refine Below.setCell ?_ (p := ⟨w.heap.size + 1, _, none⟩) (by show w.heap.size ≤ w.heap.size + 1; omega) _
    refine Below.setCell ?_ (p := ⟨w.heap.size + 1, _, none⟩) (by show w.heap.size ≤ w.heap.size + 1; omega) _
    refine Below.setCell ?_ (p := ⟨w.heap.size, _, none⟩) (by show w.heap.size ≤ w.heap.size; omega) _
    exact HB1.out
set_option maxRecDepth 100000 in
set_option maxHeartbeats 400000 in
theorem fclone_ (b n c : Nat) (qs : List Q4) (w : World) (hz : qs.length = n) (hbig : n ≤ 1048576) (hr : Rd w w.heap.size (some ⟨b, 0, none⟩) (qs.flatMap Q4.cells)) :
    Calls Tryz.prog 68 #[.slice (some ⟨b, 0, none⟩) n c] w fun e w' => ∃ (A : Option Addr) (c' : Nat), e = .returned (.slice A n c') ∧ w'.ownsRow w.heap.size 109 4 (.slice A n c') n (qs.flatMap Q4.cells) ∧ Below w.heap.size w w' := by
  obtain ⟨i0, hi, hz0_, hz1_, hz2_⟩ := info_parts Tryz.inf_Fib
  have HI := Lib.hid hi; have HZ0 := Lib.hid hz0_; have HZ1 := Lib.hid hz1_; have HZ2 := Lib.hid hz2_
  clear hi hz0_ hz1_ hz2_
  have q22 : ∀ (w : World) (a : Option Addr) (n c n' c' : Nat), (binOp .eql 30 (.slice a n c) (.slice none n' c')).run Tryz.prog w = .ok (.bool a.isNone) w := fun w a n c n' c' => Lib.run_eql_slice_nil w _ _ a n c n' c' Tryz.underlying30
  have HR := Lib.hid hr
  have HN := Lib.hid hz
  have HLN : Hid ((qs.flatMap Q4.cells).length = qs.length * 4) := Lib.hid (flat_len Q4.cells 4 qs (fun r _ => rfl))
  clear hr hz
  go_enter Tryz.func68, Tryz.ntmps68
  go_wp2_with (at_builtin; refine wpList_append_own _ rfl _ _ 30 rfl w.heap.size 109 i0 (.agg #[.int .i64 0, .int .i64 0, .int .i64 0, .int .i64 0]) 4 32 Tryz.underlying30 HI.out HZ0.out HZ1.out HZ2.out rfl (by decide) _ _ _ rfl (World.ownsRow_made w #[] 0 (Nat.le_refl _) (Nat.zero_le _) rfl) ⟨b, 0, none⟩ n c (qs.flatMap Q4.cells) rfl ?qc1 ?qc2 ?qc3 ?qc4 ?qc5 ?qc6 ?_)
  case qc1 => rw [HLN.out, HN.out]
  case qc2 =>
    intro j u hj
    exact Lib.cell?_alloc_some _ (rd_cells HR.out (Below.refl _ _) j u hj)
  case qc3 => exact one_q4s qs
  case qc4 => unfold maxLen; omega
  case qc5 => omega
  case qc6 => simp
  intro v' w1 hown hgrow hnil
  have hown2 : w1.ownsRow w.heap.size 109 4 v' n (qs.flatMap Q4.cells) := by simpa using hown
  obtain ⟨A1, c1, rfl⟩ := formOf hown2
  clear hown
  go_wp2
  go_ret
  exact ⟨A1, c1, rfl, hown2, ((Below.refl _ w).alloc (Nat.le_refl _) _).grown hgrow (by simp) (by intro k hk; simp [Value.ownBlock] at hk; omega)⟩
end Go.Proofs.YtflniajjecfgeaaGreatDoor
