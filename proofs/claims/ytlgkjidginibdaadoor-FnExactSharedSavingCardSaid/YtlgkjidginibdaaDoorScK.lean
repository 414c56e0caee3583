/- Whether a service clashes with another one: contract of the implementation. No condition but those typed. -/
import Derived.Test.YtlgkjidginibdaaDoorSvP
import Derived.Test.YtlgkjidginibdaaDoorScI
import Derived.Test.YtlgkjidginibdaaDoorScM
import Derived.BigRegion
import Derived.BigQuiet
import Derived.Deep.RegionHeld3
namespace Go.Proofs.YtlgkjidginibdaaDoor
open Go.ChangeShapes Go.WideShapes Go.ChangeAt Go.RowKit


theorem meetsG_ {p q : Q2} {M N : Nat} (hM : M < 2 ^ 20) (hN : N < 2 ^ 20) (hpq : M &&& N ≠ 0 → blkP p.a p.b ∧ blkP q.a q.b) (w : World) :
    Calls Tryd.prog 105 #[.agg #[.int .i64 p.a, .int .i64 p.b, .int .i64 (M : Int)], .agg #[.int .i64 q.a, .int .i64 q.b, .int .i64 (N : Int)]] w fun e w' => e = .returned (.bool (decide ((M &&& N) ≠ 0) && pb (ovP p q))) ∧ Below w.heap.size w w' := by
  by_cases h0 : M &&& N = 0
  · have hb0 : Below w.heap.size w ((w.alloc (Obj.cells #[.int .i64 p.a, .int .i64 p.b, .int .i64 (M : Int)] 70)).alloc (Obj.cells #[.int .i64 q.a, .int .i64 q.b, .int .i64 (N : Int)] 70)) := ((Below.refl _ _).alloc (Nat.le_refl _) _).alloc (by simp) _
    obtain ⟨a, b⟩ := p
    obtain ⟨c, d⟩ := q
    simp only at hb0 ⊢
    have HB0 := Lib.hid hb0
    have eab := and_i64t M N (by omega) (by omega)
    rw [h0] at eab
    have ez : (decide ((M &&& N) ≠ 0) && pb (ovP ⟨a, b⟩ ⟨c, d⟩)) = false := by rw [h0]; rfl
    rw [ez]
    clear hb0 hpq h0 ez
    go_enter Tryd.func105, Tryd.ntmps105
    go_wp2
    go_ret
    exact ⟨rfl, HB0.out⟩
  · exact meets_ hM hN (hpq h0).1 (hpq h0).2 w
theorem belT' {W u v : World} (h1 : Below W.heap.size W u) (h2 : Below u.heap.size u v) : Below W.heap.size W v := h1.trans (h2.mono h1.size)
theorem belAl {W u : World} (h : Below W.heap.size W u) (o : Obj) : Below W.heap.size W (u.alloc o) := h.alloc h.size o
theorem chk_F {c : Bool} {v : Value} {P : Prop} (h1 : c = false) (h2 : P) : (c = true ∧ v = .nilIface) ∨ (c = false ∧ P) := .inr ⟨h1, h2⟩
set_option maxRecDepth 100000 in
set_option maxHeartbeats 8000000 in
theorem chk_ {g1 g2 n1 n2 c1 c2_ : Nat} {ss : List ByteArray} {fs : List Q4} {w : World} (h : NetAt g1 g2 n1 n2 c1 c2_ ss fs w) (hv : netP ss fs) (x y : Sv) (hx : SvAt w x) (hy : SvAt w y) (hpx : svP ss fs x.d) (hpy : svP ss fs y.d) :
    Calls Tryd.prog 93 #[.agg #[.slice (some ⟨g1, 0, none⟩) n1 c1, .slice (some ⟨g2, 0, none⟩) n2 c2_], .agg #[.int .i64 x.i, .int .i64 x.k, .int .i64 x.s1, .slice x.A x.n x.c, .int .i64 x.x1, .int .i64 x.y1, .int .i64 x.s2, .slice x.A2 x.m x.c2, .int .i64 x.x2, .int .i64 x.y2], .agg #[.int .i64 y.i, .int .i64 y.k, .int .i64 y.s1, .slice y.A y.n y.c, .int .i64 y.x1, .int .i64 y.y1, .int .i64 y.s2, .slice y.A2 y.m y.c2, .int .i64 y.x2, .int .i64 y.y2]] w fun e w' => ∃ v, e = .returned v ∧ Hid ((coD fs x.d y.d = true ∧ v = .nilIface) ∨ (coD fs x.d y.d = false ∧ ∃ p, v = .iface 145 (.pointer p))) ∧ Below w.heap.size w w' := by
  have hzx := svP_zs hpx; have hux := svP_us hpx; have hzy := svP_zs hpy; have huy := svP_us hpy
  have h11 := cl_mt (p := ⟨x.d.x1, x.d.y1⟩) (q := ⟨y.d.x1, y.d.y1⟩) hv hzx hzy (fun _ => hpx.2.1.2) (fun _ => hpy.2.1.2)
  have h12 := cl_mt (p := ⟨x.d.x1, x.d.y1⟩) (q := ⟨y.d.x2, y.d.y2⟩) hv hzx huy (fun _ => hpx.2.1.2) (fun e => svP_b2 hpy e)
  have h21 := cl_mt (p := ⟨x.d.x2, x.d.y2⟩) (q := ⟨y.d.x1, y.d.y1⟩) hv hux hzy (fun e => svP_b2 hpx e) (fun _ => hpy.2.1.2)
  have h22 := cl_mt (p := ⟨x.d.x2, x.d.y2⟩) (q := ⟨y.d.x2, y.d.y2⟩) hv hux huy (fun e => svP_b2 hpx e) (fun e => svP_b2 hpy e)
  have bx1 := hpx.2.1.2; have by1 := hpy.2.1.2
  have bx2 := fun e => svP_b2 hpx e; have by2 := fun e => svP_b2 hpy e
  have hco : coD fs x.d y.d = coB (clB x.d.zs y.d.zs ⟨x.d.x1, x.d.y1⟩ ⟨y.d.x1, y.d.y1⟩) (clB x.d.zs y.d.us ⟨x.d.x1, x.d.y1⟩ ⟨y.d.x2, y.d.y2⟩) (clB x.d.us y.d.zs ⟨x.d.x2, x.d.y2⟩ ⟨y.d.x1, y.d.y1⟩) (decide (x.d.k = 2) && decide (y.d.k = 2)) (pb (apP fs x.d.zs y.d.zs)) (clB x.d.us y.d.us ⟨x.d.x2, x.d.y2⟩ ⟨y.d.x2, y.d.y2⟩) := rfl
  rw [h11, h12, h21, h22] at hco
  clear h11 h12 h21 h22 hpx hpy
  obtain ⟨res, hres⟩ : ∃ b, coD fs x.d y.d = b := ⟨_, rfl⟩
  rw [hres] at hco ⊢
  clear hres
  obtain ⟨ai, ak, as1, aA, an, ac, azs, ax1, ay1, as2, aA2, am, ac2, aus, ax2, ay2⟩ := x
  obtain ⟨bi, bk, bs1, bA, bn, bc, bzs, bx1_, by1_, bs2, bA2, bm, bc2, bus, bx2_, by2_⟩ := y
  obtain ⟨⟨hna, hsa, hra⟩, ⟨hma, hsa2, hqa⟩⟩ := hx
  obtain ⟨⟨hnb, hsb, hrb⟩, ⟨hmb, hsb2, hqb⟩⟩ := hy
  simp only [Sv.d] at hzx hux hzy huy bx1 by1 bx2 by2 hco hna hsa hra hma hsa2 hqa hnb hsb hrb hmb hsb2 hqb ⊢
  have DX1 := mem_bd hv hna hzx; have DX2 := mem_bd hv hma hux; have DY1 := mem_bd hv hnb hzy; have DY2 := mem_bd hv hmb huy
  have lx1 := maskT_lt DX1; have lx2 := maskT_lt DX2; have ly1 := maskT_lt DY1; have ly2 := maskT_lt DY2
  have CW1 := Lib.hid (fun (U : World) (hU : Below w.heap.size w U) => wclm_ ai ak as1 ax1 ay1 as2 ax2 ay2 aA an ac aA2 am ac2 (zs := azs) U hna hsa (hra.moved hU) DX1)
  have CS1 := Lib.hid (fun (U : World) (hU : Below w.heap.size w U) => sclm_ ai ak as1 ax1 ay1 as2 ax2 ay2 aA an ac aA2 am ac2 (us := aus) U hma hsa2 (hqa.moved hU) DX2)
  have CW2 := Lib.hid (fun (U : World) (hU : Below w.heap.size w U) => wclm_ bi bk bs1 bx1_ by1_ bs2 bx2_ by2_ bA bn bc bA2 bm bc2 (zs := bzs) U hnb hsb (hrb.moved hU) DY1)
  have CS2 := Lib.hid (fun (U : World) (hU : Below w.heap.size w U) => sclm_ bi bk bs1 bx1_ by1_ bs2 bx2_ by2_ bA bn bc bA2 bm bc2 (us := bus) U hmb hsb2 (hqb.moved hU) DY2)
  have CY := Lib.hid (fun (U : World) (hU : Below w.heap.size w U) => mayShare_ (c := ac) (c3 := bc) (h.moved hU) hv ai ak as1 ax1 ay1 as2 ax2 ay2 bi bk bs1 bx1_ by1_ bs2 bx2_ by2_ hna (hra.moved hU) hsa hnb (hrb.moved hU) hsb hzx hzy aA2 bA2 am ac2 bm bc2)
  have nn : ∀ {l : List Int} {k : Nat}, l.length = k → maskN l k ≠ 0 → l ≠ [] := fun e1 e2 e3 => by subst e3; subst e1; exact e2 rfl
  have nl : ∀ {M N : Nat}, M &&& N ≠ 0 → M ≠ 0 := fun e1 e2 => e1 (by rw [e2]; exact Nat.zero_and _)
  have nr : ∀ {M N : Nat}, M &&& N ≠ 0 → N ≠ 0 := fun e1 e2 => e1 (by rw [e2]; exact Nat.and_zero _)
  have CM11 := Lib.hid (fun (U : World) => meetsG_ (p := ⟨ax1, ay1⟩) (q := ⟨bx1_, by1_⟩) lx1 ly1 (fun _ => ⟨bx1, by1⟩) U)
  have CM12 := Lib.hid (fun (U : World) => meetsG_ (p := ⟨ax1, ay1⟩) (q := ⟨bx2_, by2_⟩) lx1 ly2 (fun e => ⟨bx1, by2 (nn hmb (nr e))⟩) U)
  have CM21 := Lib.hid (fun (U : World) => meetsG_ (p := ⟨ax2, ay2⟩) (q := ⟨bx1_, by1_⟩) lx2 ly1 (fun e => ⟨bx2 (nn hma (nl e)), by1⟩) U)
  have CM22 := Lib.hid (fun (U : World) => meetsG_ (p := ⟨ax2, ay2⟩) (q := ⟨bx2_, by2_⟩) lx2 ly2 (fun e => ⟨bx2 (nn hma (nl e)), by2 (nn hmb (nr e))⟩) U)
  unfold svMt at hco
  rw [hna, hma, hnb, hmb] at hco
  unfold mayB at CY
  clear nn nl nr bx1 by1 bx2 by2 lx1 lx2 ly1 ly2 DX1 DX2 DY1 DY2 hzx hux hzy huy
  obtain ⟨M1, hM1⟩ : ∃ M, maskN azs an = M := ⟨_, rfl⟩
  obtain ⟨M2, hM2⟩ : ∃ M, maskN aus am = M := ⟨_, rfl⟩
  obtain ⟨N1, hN1⟩ : ∃ M, maskN bzs bn = M := ⟨_, rfl⟩
  obtain ⟨N2, hN2⟩ : ∃ M, maskN bus bm = M := ⟨_, rfl⟩
  rw [hM1, hM2, hN1, hN2] at hco
  rw [hM1] at CW1; rw [hM2] at CS1; rw [hN1] at CW2; rw [hN2] at CS2
  rw [hM1, hN1] at CM11; rw [hM1, hN2] at CM12; rw [hM2, hN1] at CM21; rw [hM2, hN2] at CM22
  simp only at CM11 CM12 CM21 CM22
  obtain ⟨t11, h11⟩ : ∃ b, (decide ((M1 &&& N1) ≠ 0) && pb (ovP ⟨ax1, ay1⟩ ⟨bx1_, by1_⟩)) = b := ⟨_, rfl⟩
  obtain ⟨t12, h12⟩ : ∃ b, (decide ((M1 &&& N2) ≠ 0) && pb (ovP ⟨ax1, ay1⟩ ⟨bx2_, by2_⟩)) = b := ⟨_, rfl⟩
  obtain ⟨t21, h21⟩ : ∃ b, (decide ((M2 &&& N1) ≠ 0) && pb (ovP ⟨ax2, ay2⟩ ⟨bx1_, by1_⟩)) = b := ⟨_, rfl⟩
  obtain ⟨t22, h22⟩ : ∃ b, (decide ((M2 &&& N2) ≠ 0) && pb (ovP ⟨ax2, ay2⟩ ⟨bx2_, by2_⟩)) = b := ⟨_, rfl⟩
  rw [h11] at CM11 hco; rw [h12] at CM12 hco; rw [h21] at CM21 hco; rw [h22] at CM22 hco
  obtain ⟨my, hmy⟩ : ∃ b, (decide (ak = 2) && (decide (bk = 2) && pb (apP fs azs bzs))) = b := ⟨_, rfl⟩
  rw [hmy] at CY
  have HCO : Hid (res = (!(t11 || (t12 || t21)) && (my || !t22))) := Lib.hid (by rw [hco, ← hmy]; unfold coB; rw [Bool.and_assoc]; rfl)
  clear h11 h12 h21 h22 hmy hco hM1 hM2 hN1 hN2 hna hsa hra hma hsa2 hqa hnb hsb hrb hmb hsb2 hqb h hv
  obtain ⟨W0, hW0⟩ : ∃ W0, ((w.alloc (Obj.cells #[.slice (some ⟨g1, 0, none⟩) n1 c1, .slice (some ⟨g2, 0, none⟩) n2 c2_] 34)).alloc (Obj.cells #[.int .i64 ai, .int .i64 ak, .int .i64 as1, .slice aA an ac, .int .i64 ax1, .int .i64 ay1, .int .i64 as2, .slice aA2 am ac2, .int .i64 ax2, .int .i64 ay2] 67)).alloc (Obj.cells #[.int .i64 bi, .int .i64 bk, .int .i64 bs1, .slice bA bn bc, .int .i64 bx1_, .int .i64 by1_, .int .i64 bs2, .slice bA2 bm bc2, .int .i64 bx2_, .int .i64 by2_] 67) = W0 := ⟨_, rfl⟩
  have hb0 : Below w.heap.size w W0 := by rw [← hW0]; exact (((Below.refl _ _).alloc (Nat.le_refl _) _).alloc (by simp) _).alloc (by simp; omega) _
  have k0_0 : W0.cell? ⟨w.heap.size, 0, none⟩ = some (.slice (some ⟨g1, 0, none⟩) n1 c1) := by rw [← hW0]; simp [go_sem]
  have k0_1 : W0.cell? ⟨w.heap.size, 1, none⟩ = some (.slice (some ⟨g2, 0, none⟩) n2 c2_) := by rw [← hW0]; simp [go_sem]
  have k1_0 : W0.cell? ⟨w.heap.size + 1, 0, none⟩ = some (.int .i64 ai) := by rw [← hW0]; simp [go_sem]
  have k1_1 : W0.cell? ⟨w.heap.size + 1, 1, none⟩ = some (.int .i64 ak) := by rw [← hW0]; simp [go_sem]
  have k1_2 : W0.cell? ⟨w.heap.size + 1, 2, none⟩ = some (.int .i64 as1) := by rw [← hW0]; simp [go_sem]
  have k1_3 : W0.cell? ⟨w.heap.size + 1, 3, none⟩ = some (.slice aA an ac) := by rw [← hW0]; simp [go_sem]
  have k1_4 : W0.cell? ⟨w.heap.size + 1, 4, none⟩ = some (.int .i64 ax1) := by rw [← hW0]; simp [go_sem]
  have k1_5 : W0.cell? ⟨w.heap.size + 1, 5, none⟩ = some (.int .i64 ay1) := by rw [← hW0]; simp [go_sem]
  have k1_6 : W0.cell? ⟨w.heap.size + 1, 6, none⟩ = some (.int .i64 as2) := by rw [← hW0]; simp [go_sem]
  have k1_7 : W0.cell? ⟨w.heap.size + 1, 7, none⟩ = some (.slice aA2 am ac2) := by rw [← hW0]; simp [go_sem]
  have k1_8 : W0.cell? ⟨w.heap.size + 1, 8, none⟩ = some (.int .i64 ax2) := by rw [← hW0]; simp [go_sem]
  have k1_9 : W0.cell? ⟨w.heap.size + 1, 9, none⟩ = some (.int .i64 ay2) := by rw [← hW0]; simp [go_sem]
  have k2_0 : W0.cell? ⟨w.heap.size + 1 + 1, 0, none⟩ = some (.int .i64 bi) := by rw [← hW0]; simp [go_sem]
  have k2_1 : W0.cell? ⟨w.heap.size + 1 + 1, 1, none⟩ = some (.int .i64 bk) := by rw [← hW0]; simp [go_sem]
  have k2_2 : W0.cell? ⟨w.heap.size + 1 + 1, 2, none⟩ = some (.int .i64 bs1) := by rw [← hW0]; simp [go_sem]
  have k2_3 : W0.cell? ⟨w.heap.size + 1 + 1, 3, none⟩ = some (.slice bA bn bc) := by rw [← hW0]; simp [go_sem]
  have k2_4 : W0.cell? ⟨w.heap.size + 1 + 1, 4, none⟩ = some (.int .i64 bx1_) := by rw [← hW0]; simp [go_sem]
  have k2_5 : W0.cell? ⟨w.heap.size + 1 + 1, 5, none⟩ = some (.int .i64 by1_) := by rw [← hW0]; simp [go_sem]
  have k2_6 : W0.cell? ⟨w.heap.size + 1 + 1, 6, none⟩ = some (.int .i64 bs2) := by rw [← hW0]; simp [go_sem]
  have k2_7 : W0.cell? ⟨w.heap.size + 1 + 1, 7, none⟩ = some (.slice bA2 bm bc2) := by rw [← hW0]; simp [go_sem]
  have k2_8 : W0.cell? ⟨w.heap.size + 1 + 1, 8, none⟩ = some (.int .i64 bx2_) := by rw [← hW0]; simp [go_sem]
  have k2_9 : W0.cell? ⟨w.heap.size + 1 + 1, 9, none⟩ = some (.int .i64 by2_) := by rw [← hW0]; simp [go_sem]
  have hz : w.heap.size + 1 + 1 < W0.heap.size := by rw [← hW0]; simp
  have HK : Hid (∀ U, Below W0.heap.size W0 U → U.cell? ⟨w.heap.size, 0, none⟩ = some (.slice (some ⟨g1, 0, none⟩) n1 c1) ∧ U.cell? ⟨w.heap.size, 1, none⟩ = some (.slice (some ⟨g2, 0, none⟩) n2 c2_) ∧ w.heap.size < U.heap.size ∧ U.cell? ⟨w.heap.size + 1, 0, none⟩ = some (.int .i64 ai) ∧ U.cell? ⟨w.heap.size + 1, 1, none⟩ = some (.int .i64 ak) ∧ U.cell? ⟨w.heap.size + 1, 2, none⟩ = some (.int .i64 as1) ∧ U.cell? ⟨w.heap.size + 1, 3, none⟩ = some (.slice aA an ac) ∧ U.cell? ⟨w.heap.size + 1, 4, none⟩ = some (.int .i64 ax1) ∧ U.cell? ⟨w.heap.size + 1, 5, none⟩ = some (.int .i64 ay1) ∧ U.cell? ⟨w.heap.size + 1, 6, none⟩ = some (.int .i64 as2) ∧ U.cell? ⟨w.heap.size + 1, 7, none⟩ = some (.slice aA2 am ac2) ∧ U.cell? ⟨w.heap.size + 1, 8, none⟩ = some (.int .i64 ax2) ∧ U.cell? ⟨w.heap.size + 1, 9, none⟩ = some (.int .i64 ay2) ∧ w.heap.size + 1 < U.heap.size ∧ U.cell? ⟨w.heap.size + 1 + 1, 0, none⟩ = some (.int .i64 bi) ∧ U.cell? ⟨w.heap.size + 1 + 1, 1, none⟩ = some (.int .i64 bk) ∧ U.cell? ⟨w.heap.size + 1 + 1, 2, none⟩ = some (.int .i64 bs1) ∧ U.cell? ⟨w.heap.size + 1 + 1, 3, none⟩ = some (.slice bA bn bc) ∧ U.cell? ⟨w.heap.size + 1 + 1, 4, none⟩ = some (.int .i64 bx1_) ∧ U.cell? ⟨w.heap.size + 1 + 1, 5, none⟩ = some (.int .i64 by1_) ∧ U.cell? ⟨w.heap.size + 1 + 1, 6, none⟩ = some (.int .i64 bs2) ∧ U.cell? ⟨w.heap.size + 1 + 1, 7, none⟩ = some (.slice bA2 bm bc2) ∧ U.cell? ⟨w.heap.size + 1 + 1, 8, none⟩ = some (.int .i64 bx2_) ∧ U.cell? ⟨w.heap.size + 1 + 1, 9, none⟩ = some (.int .i64 by2_) ∧ w.heap.size + 1 + 1 < U.heap.size) := Lib.hid fun U hU => ⟨(hU.cell (p := ⟨w.heap.size, 0, none⟩) (by show w.heap.size < _; omega)).trans k0_0, (hU.cell (p := ⟨w.heap.size, 1, none⟩) (by show w.heap.size < _; omega)).trans k0_1, by have := hU.size; omega, (hU.cell (p := ⟨w.heap.size + 1, 0, none⟩) (by show w.heap.size + 1 < _; omega)).trans k1_0, (hU.cell (p := ⟨w.heap.size + 1, 1, none⟩) (by show w.heap.size + 1 < _; omega)).trans k1_1, (hU.cell (p := ⟨w.heap.size + 1, 2, none⟩) (by show w.heap.size + 1 < _; omega)).trans k1_2, (hU.cell (p := ⟨w.heap.size + 1, 3, none⟩) (by show w.heap.size + 1 < _; omega)).trans k1_3, (hU.cell (p := ⟨w.heap.size + 1, 4, none⟩) (by show w.heap.size + 1 < _; omega)).trans k1_4, (hU.cell (p := ⟨w.heap.size + 1, 5, none⟩) (by show w.heap.size + 1 < _; omega)).trans k1_5, (hU.cell (p := ⟨w.heap.size + 1, 6, none⟩) (by show w.heap.size + 1 < _; omega)).trans k1_6, (hU.cell (p := ⟨w.heap.size + 1, 7, none⟩) (by show w.heap.size + 1 < _; omega)).trans k1_7, (hU.cell (p := ⟨w.heap.size + 1, 8, none⟩) (by show w.heap.size + 1 < _; omega)).trans k1_8, (hU.cell (p := ⟨w.heap.size + 1, 9, none⟩) (by show w.heap.size + 1 < _; omega)).trans k1_9, by have := hU.size; omega, (hU.cell (p := ⟨w.heap.size + 1 + 1, 0, none⟩) (by show w.heap.size + 1 + 1 < _; omega)).trans k2_0, (hU.cell (p := ⟨w.heap.size + 1 + 1, 1, none⟩) (by show w.heap.size + 1 + 1 < _; omega)).trans k2_1, (hU.cell (p := ⟨w.heap.size + 1 + 1, 2, none⟩) (by show w.heap.size + 1 + 1 < _; omega)).trans k2_2, (hU.cell (p := ⟨w.heap.size + 1 + 1, 3, none⟩) (by show w.heap.size + 1 + 1 < _; omega)).trans k2_3, (hU.cell (p := ⟨w.heap.size + 1 + 1, 4, none⟩) (by show w.heap.size + 1 + 1 < _; omega)).trans k2_4, (hU.cell (p := ⟨w.heap.size + 1 + 1, 5, none⟩) (by show w.heap.size + 1 + 1 < _; omega)).trans k2_5, (hU.cell (p := ⟨w.heap.size + 1 + 1, 6, none⟩) (by show w.heap.size + 1 + 1 < _; omega)).trans k2_6, (hU.cell (p := ⟨w.heap.size + 1 + 1, 7, none⟩) (by show w.heap.size + 1 + 1 < _; omega)).trans k2_7, (hU.cell (p := ⟨w.heap.size + 1 + 1, 8, none⟩) (by show w.heap.size + 1 + 1 < _; omega)).trans k2_8, (hU.cell (p := ⟨w.heap.size + 1 + 1, 9, none⟩) (by show w.heap.size + 1 + 1 < _; omega)).trans k2_9, by have := hU.size; omega⟩
  have HMV : Hid (∀ U, Below W0.heap.size W0 U → Below w.heap.size w U) := Lib.hid fun U hU => hb0.trans (hU.mono hb0.size)
  clear k0_0 k0_1 k1_0 k1_1 k1_2 k1_3 k1_4 k1_5 k1_6 k1_7 k1_8 k1_9 k2_0 k2_1 k2_2 k2_3 k2_4 k2_5 k2_6 k2_7 k2_8 k2_9 hz hb0
  go_enter Tryd.func93, Tryd.ntmps93
  have HKS : Hid (∀ U, Below W0.heap.size W0 U → (U.cell? ⟨w.heap.size + 1, 0, none⟩ = some (.int .i64 ai) ∧ U.cell? ⟨w.heap.size + 1, 1, none⟩ = some (.int .i64 ak) ∧ U.cell? ⟨w.heap.size + 1, 2, none⟩ = some (.int .i64 as1) ∧ U.cell? ⟨w.heap.size + 1, 3, none⟩ = some (.slice aA an ac) ∧ U.cell? ⟨w.heap.size + 1, 4, none⟩ = some (.int .i64 ax1) ∧ U.cell? ⟨w.heap.size + 1, 5, none⟩ = some (.int .i64 ay1) ∧ U.cell? ⟨w.heap.size + 1, 6, none⟩ = some (.int .i64 as2) ∧ U.cell? ⟨w.heap.size + 1, 7, none⟩ = some (.slice aA2 am ac2) ∧ U.cell? ⟨w.heap.size + 1, 8, none⟩ = some (.int .i64 ax2) ∧ U.cell? ⟨w.heap.size + 1, 9, none⟩ = some (.int .i64 ay2) ∧ w.heap.size + 1 < U.heap.size)) := Lib.hid fun U hU => by
    obtain ⟨q0, q1, q2, q3, q4, q5, q6, q7, q8, q9, q10, q11, q12, q13, q14, q15, q16, q17, q18, q19, q20, q21, q22, q23, q24⟩ := HK.out U hU
    exact ⟨q3, q4, q5, q6, q7, q8, q9, q10, q11, q12, q13⟩
  obtain ⟨q0, q1, q2, q3, q4, q5, q6, q7, q8, q9, q10, q11, q12, q13, q14, q15, q16, q17, q18, q19, q20, q21, q22, q23, q24⟩ := HK.out W0 (Below.refl _ _)
  go_upto_region 1 with fail
  try rw [hW0]
  clear hW0
  go_cut [15, 16, 17] (fun s15 s16 s17 wx => ∃ g, s15 = .slice (some ⟨g, 0, none⟩) 2 2 ∧ s16 = .int .i64 2 ∧ s17 = .int .i64 0 ∧ Hid (wx.cell? ⟨g, 0, none⟩ = some (.int .i64 ax1) ∧ wx.cell? ⟨g, 1, none⟩ = some (.int .i64 ay1) ∧ wx.cell? ⟨g, 2, none⟩ = some (.int .i64 (M1 : Int)) ∧ wx.cell? ⟨g, 3, none⟩ = some (.int .i64 ax2) ∧ wx.cell? ⟨g, 4, none⟩ = some (.int .i64 ay2) ∧ wx.cell? ⟨g, 5, none⟩ = some (.int .i64 (M2 : Int)) ∧ g < wx.heap.size) ∧ Hid (Below W0.heap.size W0 wx))
  case first =>
    clear q0 q1 q2 q3 q4 q5 q6 q7 q8 q9 q10 q11 q12 q13 q14 q15 q16 q17 q18 q19 q20 q21 q22 q23 q24
    go_region_held3 (fun U => U.cell? ⟨w.heap.size + 1, 0, none⟩ = some (.int .i64 ai) ∧ U.cell? ⟨w.heap.size + 1, 1, none⟩ = some (.int .i64 ak) ∧ U.cell? ⟨w.heap.size + 1, 2, none⟩ = some (.int .i64 as1) ∧ U.cell? ⟨w.heap.size + 1, 3, none⟩ = some (.slice aA an ac) ∧ U.cell? ⟨w.heap.size + 1, 4, none⟩ = some (.int .i64 ax1) ∧ U.cell? ⟨w.heap.size + 1, 5, none⟩ = some (.int .i64 ay1) ∧ U.cell? ⟨w.heap.size + 1, 6, none⟩ = some (.int .i64 as2) ∧ U.cell? ⟨w.heap.size + 1, 7, none⟩ = some (.slice aA2 am ac2) ∧ U.cell? ⟨w.heap.size + 1, 8, none⟩ = some (.int .i64 ax2) ∧ U.cell? ⟨w.heap.size + 1, 9, none⟩ = some (.int .i64 ay2) ∧ w.heap.size + 1 < U.heap.size)
      (((with_reducible refine HKS.out _ ?_); (repeat (first | with_reducible exact Below.refl _ _ | with_reducible exact HUA.out | with_reducible exact HUB.out | with_reducible refine Below.drew ?_ | with_reducible refine belAl ?_ _))))
      (first
        | (go_at_call 33
           (refine (CW1.out _ (HMV.out _ ?_)).mono ?_); (focus (repeat (first | with_reducible exact Below.refl _ _ | with_reducible exact HUA.out | with_reducible exact HUB.out | with_reducible refine Below.drew ?_ | with_reducible refine belAl ?_ _)))
           rintro e uA ⟨rfl, hbA⟩
           have HUA : Hid (Below W0.heap.size W0 uA) := Lib.hid (by refine belT' ?_ hbA; (repeat (first | with_reducible exact Below.refl _ _ | with_reducible exact HUA.out | with_reducible exact HUB.out | with_reducible refine Below.drew ?_ | with_reducible refine belAl ?_ _)))
           clear hbA)
        | (go_at_call 35
           (refine (CS1.out _ (HMV.out _ ?_)).mono ?_); (focus (repeat (first | with_reducible exact Below.refl _ _ | with_reducible exact HUA.out | with_reducible exact HUB.out | with_reducible refine Below.drew ?_ | with_reducible refine belAl ?_ _)))
           rintro e uB ⟨rfl, hbB⟩
           have HUB : Hid (Below W0.heap.size W0 uB) := Lib.hid (by refine belT' ?_ hbB; (repeat (first | with_reducible exact Below.refl _ _ | with_reducible exact HUA.out | with_reducible exact HUB.out | with_reducible refine Below.drew ?_ | with_reducible refine belAl ?_ _)))
           clear hbB))
    all_goals
      go_wp2_with fail
      go_meet
      refine ⟨_, rfl, rfl, rfl, Lib.hid ⟨by simp [go_sem], by simp [go_sem], by simp [go_sem], by simp [go_sem], by simp [go_sem], by simp [go_sem], by simp⟩, Lib.hid ?_⟩
      (repeat (first | with_reducible exact Below.refl _ _ | with_reducible exact HUA.out | with_reducible exact HUB.out | with_reducible refine Below.drew ?_ | with_reducible refine belAl ?_ _))
  case rest =>
  clear q0 q1 q2 q3 q4 q5 q6 q7 q8 q9 q10 q11 q12 q13 q14 q15 q16 q17 q18 q19 q20 q21 q22 q23 q24
  revert hcut; generalize wc = w1; intro hcut
  obtain ⟨g, h15, h16, h17, HG, HU1⟩ := hcut
  subst h15 h16 h17
  have HGU : Hid (∀ U, Below w1.heap.size w1 U → U.cell? ⟨g, 0, none⟩ = some (.int .i64 ax1) ∧ U.cell? ⟨g, 1, none⟩ = some (.int .i64 ay1) ∧ U.cell? ⟨g, 2, none⟩ = some (.int .i64 (M1 : Int)) ∧ U.cell? ⟨g, 3, none⟩ = some (.int .i64 ax2) ∧ U.cell? ⟨g, 4, none⟩ = some (.int .i64 ay2) ∧ U.cell? ⟨g, 5, none⟩ = some (.int .i64 (M2 : Int)) ∧ g < U.heap.size) := Lib.hid fun U hU => by
    obtain ⟨a0, a1, a2, a3, a4, a5, a6⟩ := HG.out
    exact ⟨(hU.cell (p := ⟨g, 0, none⟩) a6).trans a0, (hU.cell (p := ⟨g, 1, none⟩) a6).trans a1, (hU.cell (p := ⟨g, 2, none⟩) a6).trans a2, (hU.cell (p := ⟨g, 3, none⟩) a6).trans a3, (hU.cell (p := ⟨g, 4, none⟩) a6).trans a4, (hU.cell (p := ⟨g, 5, none⟩) a6).trans a5, Nat.lt_of_lt_of_le a6 hU.size⟩
  have HM1 : Hid (∀ U, Below w1.heap.size w1 U → Below W0.heap.size W0 U) := Lib.hid fun U hU => belT' HU1.out hU
  clear HG
  go_wp2
  go_loopw [17] (fun q wr => ∃ k : Nat, k ≤ 2 ∧ q = .int .i64 k ∧ Hid (1 ≤ k → t11 = false) ∧ Hid (2 ≤ k → t21 = false) ∧ Below w1.heap.size w1 wr) (fun q _ => 2 - (intOf q).toNat)
  case atStart => exact ⟨0, by omega, rfl, Lib.hid (fun h => absurd h (by omega)), Lib.hid (fun h => absurd h (by omega)), Below.refl _ _⟩
  case round =>
    obtain ⟨k, hk, rfl, HF1, HF2, hb⟩ := hrel
    have HBR := Lib.hid hb
    clear hb
    by_cases hlt : k < 2
    case pos =>
      obtain rfl | rfl : k = 0 ∨ k = 1 := by omega
      case inl => 
        obtain ⟨f0, f1, f2, f3, f4, f5, f6⟩ := HGU.out wr HBR.out
        obtain ⟨q0, q1, q2, q3, q4, q5, q6, q7, q8, q9, q10, q11, q12, q13, q14, q15, q16, q17, q18, q19, q20, q21, q22, q23, q24⟩ := HK.out wr (HM1.out _ HBR.out)
        clear f3 f4 f5
        go_wp2_with fail
        obtain ⟨X1, hX1⟩ : ∃ X, wr.alloc (Obj.cells #[.int .i64 ax1, .int .i64 ay1, .int .i64 (M1 : Int)] 70) = X := ⟨_, rfl⟩
        have kx0 : X1.cell? ⟨wr.heap.size, 0, none⟩ = some (.int .i64 ax1) := by rw [← hX1]; simp [go_sem]
        have kx1 : X1.cell? ⟨wr.heap.size, 1, none⟩ = some (.int .i64 ay1) := by rw [← hX1]; simp [go_sem]
        have kx2 : X1.cell? ⟨wr.heap.size, 2, none⟩ = some (.int .i64 (M1 : Int)) := by rw [← hX1]; simp [go_sem]
        have hzx : wr.heap.size < X1.heap.size := by rw [← hX1]; simp
        have HX1 : Hid (Below w1.heap.size w1 X1) := Lib.hid (by rw [← hX1]; exact HBR.out.alloc HBR.out.size _)
        try rw [hX1]
        clear hX1 f0 f1 f2 f6 q0 q1 q2 q3 q4 q5 q6 q7 q8 q9 q10 q11 q12 q13 q14 q15 q16 q17 q18 q19 q20 q21 q22 q23 q24
        refine (CW2.out _ (HMV.out _ (HM1.out _ HX1.out))).mono ?_
        rintro e w2 ⟨rfl, hb2⟩
        have HU2 : Hid (Below w1.heap.size w1 w2) := Lib.hid (belT' HX1.out hb2)
        have l0 := (hb2.cell (p := ⟨wr.heap.size, 0, none⟩) hzx).trans kx0
        have l1 := (hb2.cell (p := ⟨wr.heap.size, 1, none⟩) hzx).trans kx1
        have l2 := (hb2.cell (p := ⟨wr.heap.size, 2, none⟩) hzx).trans kx2
        have hzl : wr.heap.size < w2.heap.size := Nat.lt_of_lt_of_le hzx hb2.size
        clear hb2 kx0 kx1 kx2 hzx
        go_wp2_with fail
        obtain ⟨X2, hX2⟩ : ∃ X, w2.alloc (Obj.cells #[.int .i64 bx1_, .int .i64 by1_, .int .i64 (N1 : Int)] 70) = X := ⟨_, rfl⟩
        have ky0 : X2.cell? ⟨w2.heap.size, 0, none⟩ = some (.int .i64 bx1_) := by rw [← hX2]; simp [go_sem]
        have ky1 : X2.cell? ⟨w2.heap.size, 1, none⟩ = some (.int .i64 by1_) := by rw [← hX2]; simp [go_sem]
        have ky2 : X2.cell? ⟨w2.heap.size, 2, none⟩ = some (.int .i64 (N1 : Int)) := by rw [← hX2]; simp [go_sem]
        have hzy : w2.heap.size < X2.heap.size := by rw [← hX2]; simp
        have HX2 : Hid (Below w1.heap.size w1 X2) := Lib.hid (by rw [← hX2]; exact HU2.out.alloc HU2.out.size _)
        try rw [hX2]
        clear hX2 l0 l1 l2 hzl
        refine (CM11.out _).mono ?_
        rintro e w3 ⟨rfl, hb3⟩
        have HU3 : Hid (Below w1.heap.size w1 w3) := Lib.hid (belT' HX2.out hb3)
        have m0 := (hb3.cell (p := ⟨w2.heap.size, 0, none⟩) hzy).trans ky0
        have m1 := (hb3.cell (p := ⟨w2.heap.size, 1, none⟩) hzy).trans ky1
        have m2 := (hb3.cell (p := ⟨w2.heap.size, 2, none⟩) hzy).trans ky2
        have hzm : w2.heap.size < w3.heap.size := Nat.lt_of_lt_of_le hzy hb3.size
        clear hb3 ky0 ky1 ky2 hzy
        cases t11
        case true =>
          have HE : Hid (res = false) := Lib.hid (by rw [HCO.out]; simp)
          go_wp2
          go_ret
          refine ⟨_, rfl, Lib.hid (.inr ⟨HE.out, _, rfl⟩), HMV.out _ (HM1.out _ ?_)⟩
          exact HU3.out.alloc HU3.out.size _
        case false =>
          clear m0 m1 m2 hzm
          go_wp2
          go_roundw
          case rel => exact ⟨1, by omega, by go_num, Lib.hid (fun _ => by first | rfl | trivial), Lib.hid (fun h => absurd h (by omega)), HU3.out⟩
          case measure => simp [intOf]
      case inr => 
        obtain ⟨f0, f1, f2, f3, f4, f5, f6⟩ := HGU.out wr HBR.out
        obtain ⟨q0, q1, q2, q3, q4, q5, q6, q7, q8, q9, q10, q11, q12, q13, q14, q15, q16, q17, q18, q19, q20, q21, q22, q23, q24⟩ := HK.out wr (HM1.out _ HBR.out)
        clear f0 f1 f2
        go_wp2_with fail
        obtain ⟨X1, hX1⟩ : ∃ X, wr.alloc (Obj.cells #[.int .i64 ax2, .int .i64 ay2, .int .i64 (M2 : Int)] 70) = X := ⟨_, rfl⟩
        have kx0 : X1.cell? ⟨wr.heap.size, 0, none⟩ = some (.int .i64 ax2) := by rw [← hX1]; simp [go_sem]
        have kx1 : X1.cell? ⟨wr.heap.size, 1, none⟩ = some (.int .i64 ay2) := by rw [← hX1]; simp [go_sem]
        have kx2 : X1.cell? ⟨wr.heap.size, 2, none⟩ = some (.int .i64 (M2 : Int)) := by rw [← hX1]; simp [go_sem]
        have hzx : wr.heap.size < X1.heap.size := by rw [← hX1]; simp
        have HX1 : Hid (Below w1.heap.size w1 X1) := Lib.hid (by rw [← hX1]; exact HBR.out.alloc HBR.out.size _)
        try rw [hX1]
        clear hX1 f3 f4 f5 f6 q0 q1 q2 q3 q4 q5 q6 q7 q8 q9 q10 q11 q12 q13 q14 q15 q16 q17 q18 q19 q20 q21 q22 q23 q24
        refine (CW2.out _ (HMV.out _ (HM1.out _ HX1.out))).mono ?_
        rintro e w2 ⟨rfl, hb2⟩
        have HU2 : Hid (Below w1.heap.size w1 w2) := Lib.hid (belT' HX1.out hb2)
        have l0 := (hb2.cell (p := ⟨wr.heap.size, 0, none⟩) hzx).trans kx0
        have l1 := (hb2.cell (p := ⟨wr.heap.size, 1, none⟩) hzx).trans kx1
        have l2 := (hb2.cell (p := ⟨wr.heap.size, 2, none⟩) hzx).trans kx2
        have hzl : wr.heap.size < w2.heap.size := Nat.lt_of_lt_of_le hzx hb2.size
        clear hb2 kx0 kx1 kx2 hzx
        go_wp2_with fail
        obtain ⟨X2, hX2⟩ : ∃ X, w2.alloc (Obj.cells #[.int .i64 bx1_, .int .i64 by1_, .int .i64 (N1 : Int)] 70) = X := ⟨_, rfl⟩
        have ky0 : X2.cell? ⟨w2.heap.size, 0, none⟩ = some (.int .i64 bx1_) := by rw [← hX2]; simp [go_sem]
        have ky1 : X2.cell? ⟨w2.heap.size, 1, none⟩ = some (.int .i64 by1_) := by rw [← hX2]; simp [go_sem]
        have ky2 : X2.cell? ⟨w2.heap.size, 2, none⟩ = some (.int .i64 (N1 : Int)) := by rw [← hX2]; simp [go_sem]
        have hzy : w2.heap.size < X2.heap.size := by rw [← hX2]; simp
        have HX2 : Hid (Below w1.heap.size w1 X2) := Lib.hid (by rw [← hX2]; exact HU2.out.alloc HU2.out.size _)
        try rw [hX2]
        clear hX2 l0 l1 l2 hzl
        refine (CM21.out _).mono ?_
        rintro e w3 ⟨rfl, hb3⟩
        have HU3 : Hid (Below w1.heap.size w1 w3) := Lib.hid (belT' HX2.out hb3)
        have m0 := (hb3.cell (p := ⟨w2.heap.size, 0, none⟩) hzy).trans ky0
        have m1 := (hb3.cell (p := ⟨w2.heap.size, 1, none⟩) hzy).trans ky1
        have m2 := (hb3.cell (p := ⟨w2.heap.size, 2, none⟩) hzy).trans ky2
        have hzm : w2.heap.size < w3.heap.size := Nat.lt_of_lt_of_le hzy hb3.size
        clear hb3 ky0 ky1 ky2 hzy
        cases t21
        case true =>
          have HE : Hid (res = false) := Lib.hid (by rw [HCO.out]; simp)
          go_wp2
          go_ret
          refine ⟨_, rfl, Lib.hid (.inr ⟨HE.out, _, rfl⟩), HMV.out _ (HM1.out _ ?_)⟩
          exact HU3.out.alloc HU3.out.size _
        case false =>
          clear m0 m1 m2 hzm
          go_wp2
          go_roundw
          case rel => exact ⟨2, by omega, by go_num, Lib.hid (fun _ => HF1.out (by omega)), Lib.hid (fun _ => by first | rfl | trivial), HU3.out⟩
          case measure => simp [intOf]
    case neg =>
      obtain rfl : k = 2 := by omega
      obtain rfl := HF1.out (by omega)
      obtain rfl := HF2.out (by omega)
      obtain ⟨q0, q1, q2, q3, q4, q5, q6, q7, q8, q9, q10, q11, q12, q13, q14, q15, q16, q17, q18, q19, q20, q21, q22, q23, q24⟩ := HK.out wr (HM1.out _ HBR.out)
      go_wp2_with fail
      clear q0 q1 q2 q3 q4 q5 q6 q7 q8 q9 q10 q11 q12 q13 q14 q15 q16 q17 q18 q19 q20 q21 q22 q23 q24
      refine (CS2.out _ (HMV.out _ (HM1.out _ HBR.out))).mono ?_
      rintro e w2 ⟨rfl, hb2⟩
      have HU2 : Hid (Below w1.heap.size w1 w2) := Lib.hid (belT' HBR.out hb2)
      clear hb2
      obtain ⟨q0, q1, q2, q3, q4, q5, q6, q7, q8, q9, q10, q11, q12, q13, q14, q15, q16, q17, q18, q19, q20, q21, q22, q23, q24⟩ := HK.out w2 (HM1.out _ HU2.out)
      obtain ⟨X2, hX2⟩ : ∃ X, w2.alloc (Obj.cells #[.int .i64 bx2_, .int .i64 by2_, .int .i64 (N2 : Int)] 70) = X := ⟨_, rfl⟩
      have HX2 : Hid (Below w1.heap.size w1 X2) := Lib.hid (by rw [← hX2]; exact HU2.out.alloc HU2.out.size _)
      have ky0 : X2.cell? ⟨w2.heap.size, 0, none⟩ = some (.int .i64 bx2_) := by rw [← hX2]; simp [go_sem]
      have ky1 : X2.cell? ⟨w2.heap.size, 1, none⟩ = some (.int .i64 by2_) := by rw [← hX2]; simp [go_sem]
      have ky2 : X2.cell? ⟨w2.heap.size, 2, none⟩ = some (.int .i64 (N2 : Int)) := by rw [← hX2]; simp [go_sem]
      have hzy : w2.heap.size < X2.heap.size := by rw [← hX2]; simp
      go_upto_region 9 with fail
      try rw [hX2]
      clear hX2 q0 q1 q2 q3 q4 q5 q6 q7 q8 q9 q10 q11 q12 q13 q14 q15 q16 q17 q18 q19 q20 q21 q22 q23 q24
      obtain ⟨X, F, x0, hx0, hTT, HST⟩ := above X2
      haveI : Nonempty X := ⟨x0⟩
      have HXX := Lib.hid hx0
      have HT2 : Hid (∀ x, Below X2.heap.size X2 (F x)) := Lib.hid hTT
      have HTX : Hid (∀ x, Below W0.heap.size W0 (F x)) := Lib.hid fun x => HM1.out _ (HX2.out.trans ((hTT x).mono HX2.out.size))
      clear hTT hx0
      have s0_ : ∀ x, (F x).cell? ⟨w.heap.size, 0, none⟩ = some (.slice (some ⟨g1, 0, none⟩) n1 c1) := fun x => (HK.out _ (HTX.out x)).1
      have s1_ : ∀ x, (F x).cell? ⟨w.heap.size, 1, none⟩ = some (.slice (some ⟨g2, 0, none⟩) n2 c2_) := fun x => (HK.out _ (HTX.out x)).2.1
      have s2_ : ∀ x, w.heap.size < (F x).heap.size := fun x => (HK.out _ (HTX.out x)).2.2.1
      have s3_ : ∀ x, (F x).cell? ⟨w.heap.size + 1, 0, none⟩ = some (.int .i64 ai) := fun x => (HK.out _ (HTX.out x)).2.2.2.1
      have s4_ : ∀ x, (F x).cell? ⟨w.heap.size + 1, 1, none⟩ = some (.int .i64 ak) := fun x => (HK.out _ (HTX.out x)).2.2.2.2.1
      have s5_ : ∀ x, (F x).cell? ⟨w.heap.size + 1, 2, none⟩ = some (.int .i64 as1) := fun x => (HK.out _ (HTX.out x)).2.2.2.2.2.1
      have s6_ : ∀ x, (F x).cell? ⟨w.heap.size + 1, 3, none⟩ = some (.slice aA an ac) := fun x => (HK.out _ (HTX.out x)).2.2.2.2.2.2.1
      have s7_ : ∀ x, (F x).cell? ⟨w.heap.size + 1, 4, none⟩ = some (.int .i64 ax1) := fun x => (HK.out _ (HTX.out x)).2.2.2.2.2.2.2.1
      have s8_ : ∀ x, (F x).cell? ⟨w.heap.size + 1, 5, none⟩ = some (.int .i64 ay1) := fun x => (HK.out _ (HTX.out x)).2.2.2.2.2.2.2.2.1
      have s9_ : ∀ x, (F x).cell? ⟨w.heap.size + 1, 6, none⟩ = some (.int .i64 as2) := fun x => (HK.out _ (HTX.out x)).2.2.2.2.2.2.2.2.2.1
      have s10_ : ∀ x, (F x).cell? ⟨w.heap.size + 1, 7, none⟩ = some (.slice aA2 am ac2) := fun x => (HK.out _ (HTX.out x)).2.2.2.2.2.2.2.2.2.2.1
      have s11_ : ∀ x, (F x).cell? ⟨w.heap.size + 1, 8, none⟩ = some (.int .i64 ax2) := fun x => (HK.out _ (HTX.out x)).2.2.2.2.2.2.2.2.2.2.2.1
      have s12_ : ∀ x, (F x).cell? ⟨w.heap.size + 1, 9, none⟩ = some (.int .i64 ay2) := fun x => (HK.out _ (HTX.out x)).2.2.2.2.2.2.2.2.2.2.2.2.1
      have s13_ : ∀ x, w.heap.size + 1 < (F x).heap.size := fun x => (HK.out _ (HTX.out x)).2.2.2.2.2.2.2.2.2.2.2.2.2.1
      have s14_ : ∀ x, (F x).cell? ⟨w.heap.size + 1 + 1, 0, none⟩ = some (.int .i64 bi) := fun x => (HK.out _ (HTX.out x)).2.2.2.2.2.2.2.2.2.2.2.2.2.2.1
      have s15_ : ∀ x, (F x).cell? ⟨w.heap.size + 1 + 1, 1, none⟩ = some (.int .i64 bk) := fun x => (HK.out _ (HTX.out x)).2.2.2.2.2.2.2.2.2.2.2.2.2.2.2.1
      have s16_ : ∀ x, (F x).cell? ⟨w.heap.size + 1 + 1, 2, none⟩ = some (.int .i64 bs1) := fun x => (HK.out _ (HTX.out x)).2.2.2.2.2.2.2.2.2.2.2.2.2.2.2.2.1
      have s17_ : ∀ x, (F x).cell? ⟨w.heap.size + 1 + 1, 3, none⟩ = some (.slice bA bn bc) := fun x => (HK.out _ (HTX.out x)).2.2.2.2.2.2.2.2.2.2.2.2.2.2.2.2.2.1
      have s18_ : ∀ x, (F x).cell? ⟨w.heap.size + 1 + 1, 4, none⟩ = some (.int .i64 bx1_) := fun x => (HK.out _ (HTX.out x)).2.2.2.2.2.2.2.2.2.2.2.2.2.2.2.2.2.2.1
      have s19_ : ∀ x, (F x).cell? ⟨w.heap.size + 1 + 1, 5, none⟩ = some (.int .i64 by1_) := fun x => (HK.out _ (HTX.out x)).2.2.2.2.2.2.2.2.2.2.2.2.2.2.2.2.2.2.2.1
      have s20_ : ∀ x, (F x).cell? ⟨w.heap.size + 1 + 1, 6, none⟩ = some (.int .i64 bs2) := fun x => (HK.out _ (HTX.out x)).2.2.2.2.2.2.2.2.2.2.2.2.2.2.2.2.2.2.2.2.1
      have s21_ : ∀ x, (F x).cell? ⟨w.heap.size + 1 + 1, 7, none⟩ = some (.slice bA2 bm bc2) := fun x => (HK.out _ (HTX.out x)).2.2.2.2.2.2.2.2.2.2.2.2.2.2.2.2.2.2.2.2.2.1
      have s22_ : ∀ x, (F x).cell? ⟨w.heap.size + 1 + 1, 8, none⟩ = some (.int .i64 bx2_) := fun x => (HK.out _ (HTX.out x)).2.2.2.2.2.2.2.2.2.2.2.2.2.2.2.2.2.2.2.2.2.2.1
      have s23_ : ∀ x, (F x).cell? ⟨w.heap.size + 1 + 1, 9, none⟩ = some (.int .i64 by2_) := fun x => (HK.out _ (HTX.out x)).2.2.2.2.2.2.2.2.2.2.2.2.2.2.2.2.2.2.2.2.2.2.2.1
      have s24_ : ∀ x, w.heap.size + 1 + 1 < (F x).heap.size := fun x => (HK.out _ (HTX.out x)).2.2.2.2.2.2.2.2.2.2.2.2.2.2.2.2.2.2.2.2.2.2.2.2
      have sy0 : ∀ x, (F x).cell? ⟨w2.heap.size, 0, none⟩ = some (.int .i64 bx2_) := fun x => ((HT2.out x).cell (p := ⟨w2.heap.size, 0, none⟩) hzy).trans ky0
      have sy1 : ∀ x, (F x).cell? ⟨w2.heap.size, 1, none⟩ = some (.int .i64 by2_) := fun x => ((HT2.out x).cell (p := ⟨w2.heap.size, 1, none⟩) hzy).trans ky1
      have sy2 : ∀ x, (F x).cell? ⟨w2.heap.size, 2, none⟩ = some (.int .i64 (N2 : Int)) := fun x => ((HT2.out x).cell (p := ⟨w2.heap.size, 2, none⟩) hzy).trans ky2
      have syz : ∀ x, w2.heap.size < (F x).heap.size := fun x => Nat.lt_of_lt_of_le hzy (HT2.out x).size
      have HSY : Hid (∀ x, ((F x).cell? ⟨w2.heap.size, 0, none⟩ = some (.int .i64 bx2_) ∧ (F x).cell? ⟨w2.heap.size, 1, none⟩ = some (.int .i64 by2_) ∧ (F x).cell? ⟨w2.heap.size, 2, none⟩ = some (.int .i64 (N2 : Int)) ∧ w2.heap.size < (F x).heap.size)) := Lib.hid fun x => ⟨sy0 x, sy1 x, sy2 x, syz x⟩
      have D1 := Lib.hid (fun x => CW1.out (F x) (HMV.out _ (HTX.out x)))
      have D2 := Lib.hid (fun x => CS1.out (F x) (HMV.out _ (HTX.out x)))
      have D3 := Lib.hid (fun x => CY.out (F x) (HMV.out _ (HTX.out x)))
      clear ky0 ky1 ky2 hzy
      cases t12
      case true =>
        have HE : Hid (res = false) := Lib.hid (by rw [HCO.out]; simp)
        refine wp_region_class F (by kernel_rfl) (by kernel_rfl) x0 HXX.out ?_
        repeat (go_big_quiet_step (first | (go_at_call 33; first | with_reducible exact Calls.inClass HST (D1.out _)) | (go_at_call 105; first | with_reducible exact Calls.inClass HST (CM12.out _))))
        refine wpQuiet_nil ?_
        rintro _ ⟨t, rfl⟩
        have HBT := Lib.hid (HTX.out t)
        obtain ⟨m0, m1, m2, hzm⟩ := HSY.out t
        clear s0_ s1_ s2_ s3_ s4_ s5_ s6_ s7_ s8_ s9_ s10_ s11_ s12_ s13_ s14_ s15_ s16_ s17_ s18_ s19_ s20_ s21_ s22_ s23_ s24_ sy0 sy1 sy2 syz HSY
        generalize F t = w3 at HBT m0 m1 m2 hzm ⊢
        go_wp2
        go_ret
        exact ⟨_, rfl, Lib.hid (.inr ⟨HE.out, _, rfl⟩), HMV.out _ (HBT.out.alloc HBT.out.size _)⟩
      case false =>
      cases t22
      case false =>
        have HE : Hid (res = true) := Lib.hid (by rw [HCO.out]; cases my <;> rfl)
        refine wp_region_class F (by kernel_rfl) (by kernel_rfl) x0 HXX.out ?_
        repeat (go_big_quiet_step (first | (go_at_call 33; first | with_reducible exact Calls.inClass HST (D1.out _)) | (go_at_call 105; first | with_reducible exact Calls.inClass HST (CM12.out _) | with_reducible exact Calls.inClass HST (CM22.out _)) | (go_at_call 35; first | with_reducible exact Calls.inClass HST (D2.out _))))
        refine wpQuiet_nil ?_
        rintro _ ⟨t, rfl⟩
        have HBT := Lib.hid (HTX.out t)
        obtain ⟨m0, m1, m2, hzm⟩ := HSY.out t
        clear s0_ s1_ s2_ s3_ s4_ s5_ s6_ s7_ s8_ s9_ s10_ s11_ s12_ s13_ s14_ s15_ s16_ s17_ s18_ s19_ s20_ s21_ s22_ s23_ s24_ sy0 sy1 sy2 syz HSY
        generalize F t = w3 at HBT m0 m1 m2 hzm ⊢
        go_wp2
        go_ret
        exact ⟨_, rfl, Lib.hid (.inl ⟨HE.out, rfl⟩), HMV.out _ HBT.out⟩
      case true =>
      cases my
      case false =>
        have HE : Hid (res = false) := Lib.hid (by rw [HCO.out]; rfl)
        refine wp_region_class F (by kernel_rfl) (by kernel_rfl) x0 HXX.out ?_
        repeat (go_big_quiet_step (first | (go_at_call 33; first | with_reducible exact Calls.inClass HST (D1.out _)) | (go_at_call 105; first | with_reducible exact Calls.inClass HST (CM12.out _) | with_reducible exact Calls.inClass HST (CM22.out _)) | (go_at_call 35; first | with_reducible exact Calls.inClass HST (D2.out _)) | (go_at_call 106; first | with_reducible exact Calls.inClass HST (D3.out _))))
        refine wpQuiet_nil ?_
        rintro _ ⟨t, rfl⟩
        have HBT := Lib.hid (HTX.out t)
        obtain ⟨m0, m1, m2, hzm⟩ := HSY.out t
        clear s0_ s1_ s2_ s3_ s4_ s5_ s6_ s7_ s8_ s9_ s10_ s11_ s12_ s13_ s14_ s15_ s16_ s17_ s18_ s19_ s20_ s21_ s22_ s23_ s24_ sy0 sy1 sy2 syz HSY
        generalize F t = w3 at HBT m0 m1 m2 hzm ⊢
        go_wp2
        go_ret
        exact ⟨_, rfl, Lib.hid (.inr ⟨HE.out, _, rfl⟩), HMV.out _ (HBT.out.alloc HBT.out.size _)⟩
      case true =>
        have HE : Hid (res = true) := Lib.hid (by rw [HCO.out]; rfl)
        refine wp_region_class F (by kernel_rfl) (by kernel_rfl) x0 HXX.out ?_
        repeat (go_big_quiet_step (first | (go_at_call 33; first | with_reducible exact Calls.inClass HST (D1.out _)) | (go_at_call 105; first | with_reducible exact Calls.inClass HST (CM12.out _) | with_reducible exact Calls.inClass HST (CM22.out _)) | (go_at_call 35; first | with_reducible exact Calls.inClass HST (D2.out _)) | (go_at_call 106; first | with_reducible exact Calls.inClass HST (D3.out _))))
        refine wpQuiet_nil ?_
        rintro _ ⟨t, rfl⟩
        have HBT := Lib.hid (HTX.out t)
        obtain ⟨m0, m1, m2, hzm⟩ := HSY.out t
        clear s0_ s1_ s2_ s3_ s4_ s5_ s6_ s7_ s8_ s9_ s10_ s11_ s12_ s13_ s14_ s15_ s16_ s17_ s18_ s19_ s20_ s21_ s22_ s23_ s24_ sy0 sy1 sy2 syz HSY
        generalize F t = w3 at HBT m0 m1 m2 hzm ⊢
        go_wp2
        go_ret
        exact ⟨_, rfl, Lib.hid (.inl ⟨HE.out, rfl⟩), HMV.out _ HBT.out⟩

end Go.Proofs.YtlgkjidginibdaaDoor
