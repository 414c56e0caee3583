/- Deep copies of the specification's: contracts of spec.l4Own, spec.l9Copy. No condition but those typed. -/
import Derived.Test.YtflniajjecfgeaaGreatDoorOwn
import Derived.Test.YtflniajjecfgeaaGreatDoorGC
import Derived.Test.YtflniajjecfgeaaGreatDoorGA
import Derived.Test.YtflniajjecfgeaaGreatDoorFail
namespace Go.Proofs.YtflniajjecfgeaaGreatDoor
open Go.ChangeShapes Go.WideShapes Go.ChangeAt Go.RowKit

theorem Bel.fz {w W w2 : World} {g o : Nat} (h : Bel w W) (hb2 : Below W.heap.size W w2) (hg : g < w.heap.size) : w2.frozen? ⟨g, o, none⟩ = W.frozen? ⟨g, o, none⟩ := (bcell hb2).2 g o (Nat.lt_of_lt_of_le hg (Below.size h))
set_option maxRecDepth 100000 in
set_option maxHeartbeats 4000000 in
theorem l4Own_ (st : Int) (ad : Addr) (n c : Nat) (zs : List Int) (w : World) (hn : zs.length = n) (hs : n ≤ 1048576) (hr : Rd w w.heap.size (some ad) (zs.map (Value.int .i64))) :
    Calls Tryz.prog 99 #[.agg #[.int .i64 st, .slice (some ad) n c]] w fun e w' => ∃ (A : Option Addr) (c' : Nat), e = .returned (.agg #[.int .i64 st, .slice A n c']) ∧ w'.ownsRow (w.heap.size + 2) 3 1 (.slice A n c') n (zs.map (Value.int .i64)) ∧ Below w.heap.size w w' := by
  have HN := Lib.hid hn; have HR := Lib.hid hr
  clear hn hr
  go_enter Tryz.func99, Tryz.ntmps99
  go_wp2_with fail
  obtain ⟨W0, hW0⟩ : ∃ W0, (w.alloc (Obj.cells #[.int .i64 st, .slice (some ad) n c] 59)).alloc (Obj.cells #[.int .i64 0, .slice none 0 0] 59) = W0 := ⟨_, rfl⟩
  have hb0 : Below w.heap.size w W0 := by rw [← hW0]; exact ((Below.refl _ _).alloc (Nat.le_refl _) _).alloc (by simp) _
  have k0 : W0.cell? ⟨w.heap.size, 0, none⟩ = some (.int .i64 st) := by rw [← hW0]; simp [go_sem]
  have k1 : W0.cell? ⟨w.heap.size, 1, none⟩ = some (.slice (some ad) n c) := by rw [← hW0]; simp [go_sem]
  have m0 : W0.cell? ⟨w.heap.size + 1, 0, none⟩ = some (.int .i64 0) := by rw [← hW0]; simp [go_sem]
  have m1 : W0.cell? ⟨w.heap.size + 1, 1, none⟩ = some (.slice none 0 0) := by rw [← hW0]; simp [go_sem]
  have f0 : W0.frozen? ⟨w.heap.size + 1, 0, none⟩ = false := by rw [← hW0]; simp [go_sem]
  have f1 : W0.frozen? ⟨w.heap.size + 1, 1, none⟩ = false := by rw [← hW0]; simp [go_sem]
  have hz0 : W0.heap.size = w.heap.size + 2 := by rw [← hW0]; simp
  have hbd : Bel W0 W0.drew := Bel.of (Below.refl _ _).drew
  have HB0 := Lib.hid hb0; have HZ0 := Lib.hid hz0
  rw [hW0]
  have hzz : w.heap.size + 1 < W0.heap.size := by omega
  have hzy : w.heap.size < W0.heap.size := by omega
  clear hW0 hb0 hz0
  have CO : Hid (∀ U, Bel W0 U → Calls Tryz.prog 124 #[.slice (some ad) n c] U (IntsO zs U)) := Lib.hid (fun U hU => own_ ad n c zs U HN.out hs ((HR.out.moved HB0.out).moved (Bel.out hU)))
  have HK : Hid (∀ u, Below W0.heap.size W0 u → u.cell? ⟨w.heap.size, 0, none⟩ = some (.int .i64 st) ∧ u.cell? ⟨w.heap.size, 1, none⟩ = some (.slice (some ad) n c) ∧ u.cell? ⟨w.heap.size + 1, 0, none⟩ = some (.int .i64 0) ∧ u.cell? ⟨w.heap.size + 1, 1, none⟩ = some (.slice none 0 0) ∧ u.frozen? ⟨w.heap.size + 1, 0, none⟩ = false ∧ u.frozen? ⟨w.heap.size + 1, 1, none⟩ = false) := Lib.hid (fun u hu => ⟨(hu.cell (p := ⟨w.heap.size, 0, none⟩) hzy).trans k0, (hu.cell (p := ⟨w.heap.size, 1, none⟩) hzy).trans k1, (hu.cell (p := ⟨w.heap.size + 1, 0, none⟩) hzz).trans m0, (hu.cell (p := ⟨w.heap.size + 1, 1, none⟩) hzz).trans m1, (hu.frozen (p := ⟨w.heap.size + 1, 0, none⟩) hzz).trans f0, (hu.frozen (p := ⟨w.heap.size + 1, 1, none⟩) hzz).trans f1⟩)
  go_region_with ((go_at_call 124; refine (CO.out _ (by first | exact hbd | exact Below.refl _ _ | exact (Below.refl _ _).drew | exact drewN_below (Below.refl _ _) _)).mono ?_; rintro e u1 ⟨A1, N1, c1, rfl, HN1, ho1, hb8⟩; have hbu : Below W0.heap.size W0 u1 := Below.trans (by first | exact hbd | exact Below.refl _ _ | exact (Below.refl _ _).drew | exact drewN_below (Below.refl _ _) _) hb8; obtain ⟨q0, q1, q2, q3, q4, q5⟩ := HK.out u1 hbu))
  all_goals
    go_wp2_with fail
    obtain rfl : N1 = n := HN1.out.trans HN.out
    have hbU := HB0.out.trans (hbu.mono (by have := HZ0.out; omega))
    have hzu : w.heap.size + 1 < u1.heap.size := Nat.lt_of_lt_of_le hzz hbu.size
    have hou := own_base ho1 (B' := w.heap.size + 2) (by first | exact Nat.le_of_eq HZ0.out.symm | (have := HZ0.out; simp; omega))
    refine bodyPost_ret (v := .agg #[.int .i64 st, .slice A1 N1 c1]) (by simp [results, Tryz.results99, go_sem, q2, q3, hzu]) rfl ⟨A1, c1, rfl, ?_, ?_⟩
    · exact ownsRow_setCell_below (ownsRow_setCell_below hou (a := ⟨w.heap.size + 1, 0, none⟩) (by show w.heap.size + 1 < w.heap.size + 2; omega) _) (a := ⟨w.heap.size + 1, 1, none⟩) (by show w.heap.size + 1 < w.heap.size + 2; omega) _
    · exact (hbU.setCell (p := ⟨w.heap.size + 1, 0, none⟩) (by show w.heap.size ≤ w.heap.size + 1; omega) _).setCell (p := ⟨w.heap.size + 1, 1, none⟩) (by show w.heap.size ≤ w.heap.size + 1; omega) _
set_option maxRecDepth 100000 in
set_option maxHeartbeats 8000000 in
theorem l9Copy_ (p0 p1 : Int) (ad : Addr) (n c : Nat) (zs : List Int) (q0 q1 : Int) (w : World) (hn : zs.length = n) (hs : n ≤ 1048576) (hr : Rd w w.heap.size (some ad) (zs.map (Value.int .i64))) :
    Calls Tryz.prog 62 #[.agg #[.int .i64 p0, .int .i64 p1, .slice (some ad) n c, .int .i64 q0, .int .i64 q1]] w fun e w' => ∃ (A : Option Addr) (c' : Nat), e = .returned (.agg #[.int .i64 p0, .int .i64 p1, .slice A n c', .int .i64 q0, .int .i64 q1]) ∧ w'.ownsRow (w.heap.size + 2) 3 1 (.slice A n c') n (zs.map (Value.int .i64)) ∧ Below w.heap.size w w' := by
  have HN := Lib.hid hn; have HR := Lib.hid hr
  clear hn hr
  go_enter Tryz.func62, Tryz.ntmps62
  go_wp2_with fail
  obtain ⟨W0, hW0⟩ : ∃ W0, (w.alloc (Obj.cells #[.int .i64 p0, .int .i64 p1, .slice (some ad) n c, .int .i64 q0, .int .i64 q1] 62)).alloc (Obj.cells #[.int .i64 0, .int .i64 0, .slice none 0 0, .int .i64 0, .int .i64 0] 62) = W0 := ⟨_, rfl⟩
  have hb0 : Below w.heap.size w W0 := by rw [← hW0]; exact ((Below.refl _ _).alloc (Nat.le_refl _) _).alloc (by simp) _
  have k0 : W0.cell? ⟨w.heap.size, 0, none⟩ = some (.int .i64 p0) := by rw [← hW0]; simp [go_sem]
  have k1 : W0.cell? ⟨w.heap.size, 1, none⟩ = some (.int .i64 p1) := by rw [← hW0]; simp [go_sem]
  have k2 : W0.cell? ⟨w.heap.size, 2, none⟩ = some (.slice (some ad) n c) := by rw [← hW0]; simp [go_sem]
  have k3 : W0.cell? ⟨w.heap.size, 3, none⟩ = some (.int .i64 q0) := by rw [← hW0]; simp [go_sem]
  have k4 : W0.cell? ⟨w.heap.size, 4, none⟩ = some (.int .i64 q1) := by rw [← hW0]; simp [go_sem]
  have m0 : W0.cell? ⟨w.heap.size + 1, 0, none⟩ = some (.int .i64 0) := by rw [← hW0]; simp [go_sem]
  have m1 : W0.cell? ⟨w.heap.size + 1, 1, none⟩ = some (.int .i64 0) := by rw [← hW0]; simp [go_sem]
  have m2 : W0.cell? ⟨w.heap.size + 1, 2, none⟩ = some (.slice none 0 0) := by rw [← hW0]; simp [go_sem]
  have m3 : W0.cell? ⟨w.heap.size + 1, 3, none⟩ = some (.int .i64 0) := by rw [← hW0]; simp [go_sem]
  have m4 : W0.cell? ⟨w.heap.size + 1, 4, none⟩ = some (.int .i64 0) := by rw [← hW0]; simp [go_sem]
  have f0 : W0.frozen? ⟨w.heap.size + 1, 0, none⟩ = false := by rw [← hW0]; simp [go_sem]
  have f1 : W0.frozen? ⟨w.heap.size + 1, 1, none⟩ = false := by rw [← hW0]; simp [go_sem]
  have f2 : W0.frozen? ⟨w.heap.size + 1, 2, none⟩ = false := by rw [← hW0]; simp [go_sem]
  have f3 : W0.frozen? ⟨w.heap.size + 1, 3, none⟩ = false := by rw [← hW0]; simp [go_sem]
  have f4 : W0.frozen? ⟨w.heap.size + 1, 4, none⟩ = false := by rw [← hW0]; simp [go_sem]
  have hz0 : W0.heap.size = w.heap.size + 2 := by rw [← hW0]; simp
  have hbd : Bel W0 W0.drew := Bel.of (Below.refl _ _).drew
  have HB0 := Lib.hid hb0; have HZ0 := Lib.hid hz0
  rw [hW0]
  have hzz : w.heap.size + 1 < W0.heap.size := by omega
  have hzy : w.heap.size < W0.heap.size := by omega
  clear hW0 hb0 hz0
  have CO : Hid (∀ U, Bel W0 U → Calls Tryz.prog 99 #[.agg #[.int .i64 p1, .slice (some ad) n c]] U _) := Lib.hid (fun U hU => l4Own_ p1 ad n c zs U HN.out hs ((HR.out.moved HB0.out).moved (Bel.out hU)))
  have HK : Hid (∀ u, Below W0.heap.size W0 u → u.cell? ⟨w.heap.size, 0, none⟩ = some (.int .i64 p0) ∧ u.cell? ⟨w.heap.size, 1, none⟩ = some (.int .i64 p1) ∧ u.cell? ⟨w.heap.size, 2, none⟩ = some (.slice (some ad) n c) ∧ u.cell? ⟨w.heap.size, 3, none⟩ = some (.int .i64 q0) ∧ u.cell? ⟨w.heap.size, 4, none⟩ = some (.int .i64 q1) ∧ u.cell? ⟨w.heap.size + 1, 0, none⟩ = some (.int .i64 0) ∧ u.cell? ⟨w.heap.size + 1, 1, none⟩ = some (.int .i64 0) ∧ u.cell? ⟨w.heap.size + 1, 2, none⟩ = some (.slice none 0 0) ∧ u.cell? ⟨w.heap.size + 1, 3, none⟩ = some (.int .i64 0) ∧ u.cell? ⟨w.heap.size + 1, 4, none⟩ = some (.int .i64 0) ∧ u.frozen? ⟨w.heap.size + 1, 0, none⟩ = false ∧ u.frozen? ⟨w.heap.size + 1, 1, none⟩ = false ∧ u.frozen? ⟨w.heap.size + 1, 2, none⟩ = false ∧ u.frozen? ⟨w.heap.size + 1, 3, none⟩ = false ∧ u.frozen? ⟨w.heap.size + 1, 4, none⟩ = false) := Lib.hid (fun u hu => ⟨(hu.cell (p := ⟨w.heap.size, 0, none⟩) hzy).trans k0, (hu.cell (p := ⟨w.heap.size, 1, none⟩) hzy).trans k1, (hu.cell (p := ⟨w.heap.size, 2, none⟩) hzy).trans k2, (hu.cell (p := ⟨w.heap.size, 3, none⟩) hzy).trans k3, (hu.cell (p := ⟨w.heap.size, 4, none⟩) hzy).trans k4, (hu.cell (p := ⟨w.heap.size + 1, 0, none⟩) hzz).trans m0, (hu.cell (p := ⟨w.heap.size + 1, 1, none⟩) hzz).trans m1, (hu.cell (p := ⟨w.heap.size + 1, 2, none⟩) hzz).trans m2, (hu.cell (p := ⟨w.heap.size + 1, 3, none⟩) hzz).trans m3, (hu.cell (p := ⟨w.heap.size + 1, 4, none⟩) hzz).trans m4, (hu.frozen (p := ⟨w.heap.size + 1, 0, none⟩) hzz).trans f0, (hu.frozen (p := ⟨w.heap.size + 1, 1, none⟩) hzz).trans f1, (hu.frozen (p := ⟨w.heap.size + 1, 2, none⟩) hzz).trans f2, (hu.frozen (p := ⟨w.heap.size + 1, 3, none⟩) hzz).trans f3, (hu.frozen (p := ⟨w.heap.size + 1, 4, none⟩) hzz).trans f4⟩)
  go_region_with ((go_at_call 99; refine (CO.out _ (by first | exact hbd | exact Below.refl _ _ | exact (Below.refl _ _).drew | exact drewN_below (Below.refl _ _) _)).mono ?_; rintro e u1 ⟨A1, c1, rfl, ho1, hb8⟩; have hbu : Below W0.heap.size W0 u1 := Below.trans (by first | exact hbd | exact Below.refl _ _ | exact (Below.refl _ _).drew | exact drewN_below (Below.refl _ _) _) hb8; obtain ⟨a0, a1, a2, a3, a4, b0, b1, b2, b3, b4, z0, z1, z2, z3, z4⟩ := HK.out u1 hbu))
  all_goals
    go_wp2_with fail
    have hbU := HB0.out.trans (hbu.mono (by have := HZ0.out; omega))
    have hzu : w.heap.size + 1 < u1.heap.size := Nat.lt_of_lt_of_le hzz hbu.size
    have hou := own_base ho1 (B' := w.heap.size + 2) (by first | exact Nat.le_of_eq HZ0.out.symm | (have := HZ0.out; simp; omega))
    refine bodyPost_ret (v := .agg #[.int .i64 p0, .int .i64 p1, .slice A1 n c1, .int .i64 q0, .int .i64 q1]) (by simp [results, Tryz.results62, go_sem, b0, b1, b2, b3, b4, hzu]) rfl ⟨A1, c1, rfl, ?_, ?_⟩
    · repeat (first | with_reducible exact hou | refine ownsRow_setCell_below ?_ (a := ⟨w.heap.size + 1, _, none⟩) (by show w.heap.size + 1 < w.heap.size + 2; omega) _)
    · repeat (first | with_reducible exact hbU | refine Below.setCell ?_ (p := ⟨w.heap.size + 1, _, none⟩) (by show w.heap.size ≤ w.heap.size + 1; omega) _)
end Go.Proofs.YtflniajjecfgeaaGreatDoor
