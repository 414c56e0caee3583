/- Lights that would collide with a light: contracts of CollidingLights, both sides. No condition but those typed. -/
import Derived.Test.YtnbeomnlobfpfaaOcR
import Derived.Test.YtnbeomnlobfpfaaGD
import Derived.Test.YtnbeomnlobfpfaaGB
import Derived.Test.YtnbeomnlobfpfaaGA
import Derived.Test.YtnbeomnlobfpfaaFail
namespace Go.Proofs.Ytnbeomnlobfpfaa
open Go.ChangeShapes Go.WideShapes Go.ChangeAt Go.RowKit

theorem col_symm {a b : LtD} (h : colP a b) : colP b a := by
  obtain ⟨h1, h2⟩ := h
  obtain ⟨f, ha, hb⟩ := uses_iff.1 h1
  exact ⟨uses_iff.2 ⟨f, hb, ha⟩, by rw [Nat.and_comm]; exact h2⟩
theorem apart_two {a b : LtD} : apartP [a, b] ↔ ¬ colP a b := by
  constructor
  · intro h; exact h 1 0 (by omega) (by simp)
  · intro h i j hji hi
    have hi2 : i < 2 := hi
    obtain rfl : i = 1 := by omega
    obtain rfl : j = 0 := by omega
    exact h
def clI (x d : LtD) : Prop := d.p0 ≠ x.p0 ∧ colP d x
noncomputable def clK (ds : List LtD) (x : LtD) : Nat → List Int
  | 0 => []
  | k + 1 => if pb (clI x (dn ds k)) then clK ds x k ++ [(dn ds k).p0] else clK ds x k
theorem cl_in {ds : List LtD} {x : LtD} {k : Nat} {d : LtD} (hd : dn ds k = d) (h : clI x d) : clK ds x (k + 1) = clK ds x k ++ [d.p0] := by
  subst hd; rw [clK, pb_true h]; rfl
theorem cl_out {ds : List LtD} {x : LtD} {k : Nat} {d : LtD} (hd : dn ds k = d) (h : ¬ clI x d) : clK ds x (k + 1) = clK ds x k := by
  subst hd; rw [clK, pb_false h]; rfl
theorem clK_len (ds : List LtD) (x : LtD) : ∀ k, (clK ds x k).length ≤ k
  | 0 => Nat.le_refl _
  | k + 1 => by
    have := clK_len ds x k
    rw [clK]; split
    · rw [List.length_append]; simp only [List.length_cons, List.length_nil]; omega
    · omega
def clP (ss : List ByteArray) (fs : List Q4) (ds : List LtD) (x : LtD) : Prop := planP ss fs ds ∧ lightP ss fs x
noncomputable def clL (ss : List ByteArray) (fs : List Q4) (ds : List LtD) (x : LtD) : List Int := if pb (clP ss fs ds x) then clK ds x ds.length else []
theorem cl_no {ss : List ByteArray} {fs : List Q4} {ds : List LtD} {x : LtD} (h : ¬ clP ss fs ds x) : clL ss fs ds x = [] ∧ pb (clP ss fs ds x) = false := by
  have hb := pb_false h
  exact ⟨by unfold clL; rw [hb]; rfl, hb⟩
theorem cl_yes {ss : List ByteArray} {fs : List Q4} {ds : List LtD} {x : LtD} (h : clP ss fs ds x) : clL ss fs ds x = clK ds x ds.length ∧ pb (clP ss fs ds x) = true := by
  have hb := pb_true h
  exact ⟨by unfold clL; rw [hb]; rfl, hb⟩
theorem clL_len (ss : List ByteArray) (fs : List Q4) (ds : List LtD) (x : LtD) : (clL ss fs ds x).length ≤ ds.length := by
  by_cases h : clP ss fs ds x
  · rw [(cl_yes h).1]; exact clK_len _ _ _
  · rw [(cl_no h).1]; simp
theorem two_rd (W : World) (x y : Lt) : Rd (W.alloc (Obj.cells #[.int .i64 x.p0, .int .i64 x.p1, .slice x.A x.n x.c, .int .i64 x.q0, .int .i64 x.q1, .int .i64 y.p0, .int .i64 y.p1, .slice y.A y.n y.c, .int .i64 y.q0, .int .i64 y.q1] 88)) (W.alloc (Obj.cells #[.int .i64 x.p0, .int .i64 x.p1, .slice x.A x.n x.c, .int .i64 x.q0, .int .i64 x.q1, .int .i64 y.p0, .int .i64 y.p1, .slice y.A y.n y.c, .int .i64 y.q0, .int .i64 y.q1] 88)).heap.size (some ⟨W.heap.size, 0, none⟩) ([x, y].flatMap Lt.cells) := by
  have h9 := World.ownsRow_lit (base := W.heap.size) (e := 88) (size := 5) W #[.int .i64 x.p0, .int .i64 x.p1, .slice x.A x.n x.c, .int .i64 x.q0, .int .i64 x.q1, .int .i64 y.p0, .int .i64 y.p1, .slice y.A y.n y.c, .int .i64 y.q0, .int .i64 y.q1] 2 (Nat.le_refl _) (by unfold maxLen; omega) rfl
  exact Rd.ofOwnK h9
set_option maxRecDepth 100000 in
set_option maxHeartbeats 8000000 in
theorem specCL {g1 g2 g3 n1 n2 n3 c1 c2 B : Nat} {ss : List ByteArray} {fs : List Q4} {ys : List Lt} {ds : List LtD} {w : World} (h : NetAt g1 g2 n1 n2 c1 c2 ss fs w) (hT : Lts B g3 n3 ys w) (hd : ys.map Lt.d = ds) (hs : n3 ≤ 1048576) (x : Lt) (hx : LtAt w x) :
    Calls Try.prog 46 #[.agg #[.slice (some ⟨g1, 0, none⟩) n1 c1, .slice (some ⟨g2, 0, none⟩) n2 c2, .slice (some ⟨g3, 0, none⟩) n3 n3], .agg #[.int .i64 x.p0, .int .i64 x.p1, .slice x.A x.n x.c, .int .i64 x.q0, .int .i64 x.q1]] w (IntsP (clL ss fs ds x.d) (pb (clP ss fs ds x.d)) w) := by
  have HNT := Lib.hid h; have HT := Lib.hid hT; have HD := Lib.hid hd; have HXA := Lib.hid hx
  have HLD : Hid (ds.length = n3) := Lib.hid (by rw [← hd, List.length_map]; exact hT.len)
  clear h hT hd hx
  obtain ⟨xd, hxd⟩ : ∃ d, x.d = d := ⟨_, rfl⟩
  have HXD := Lib.hid hxd
  obtain ⟨RL, hRL⟩ : ∃ r, clL ss fs ds x.d = r := ⟨_, rfl⟩
  obtain ⟨RB, hRB⟩ : ∃ r, pb (clP ss fs ds x.d) = r := ⟨_, rfl⟩
  rw [hRL, hRB]
  have HNO : Hid (¬ clP ss fs ds x.d → RL = [] ∧ RB = false) := Lib.hid (fun e => by rw [← hRL, ← hRB]; exact cl_no e)
  have HYES : Hid (clP ss fs ds x.d → RL = clK ds x.d ds.length ∧ RB = true) := Lib.hid (fun e => by rw [← hRL, ← hRB]; exact cl_yes e)
  clear hRL hRB hxd
  go_enter Try.func46, Try.ntmps46
  go_wp2_with fail
  obtain ⟨W0, hW0⟩ : ∃ W0, (((w.alloc (Obj.cells #[.slice (some ⟨g1, 0, none⟩) n1 c1, .slice (some ⟨g2, 0, none⟩) n2 c2, .slice (some ⟨g3, 0, none⟩) n3 n3] 37)).alloc (Obj.cells #[.int .i64 x.p0, .int .i64 x.p1, .slice x.A x.n x.c, .int .i64 x.q0, .int .i64 x.q1] 88)).alloc (Obj.cells #[] 3)) = W0 := ⟨_, rfl⟩
  have hb0 : Below w.heap.size w W0 := by rw [← hW0]; exact (((Below.refl _ _).alloc (Nat.le_refl _) _).alloc (by simp) _).alloc (by simp; omega) _
  have hk0 : W0.cell? ⟨w.heap.size, 0, none⟩ = some (.slice (some ⟨g1, 0, none⟩) n1 c1) := by rw [← hW0]; simp [go_sem]
  have hk1 : W0.cell? ⟨w.heap.size, 1, none⟩ = some (.slice (some ⟨g2, 0, none⟩) n2 c2) := by rw [← hW0]; simp [go_sem]
  have hk2 : W0.cell? ⟨w.heap.size, 2, none⟩ = some (.slice (some ⟨g3, 0, none⟩) n3 n3) := by rw [← hW0]; simp [go_sem]
  have hm0 : W0.cell? ⟨w.heap.size + 1, 0, none⟩ = some (.int .i64 x.p0) := by rw [← hW0]; simp [go_sem]
  have hm1 : W0.cell? ⟨w.heap.size + 1, 1, none⟩ = some (.int .i64 x.p1) := by rw [← hW0]; simp [go_sem]
  have hm2 : W0.cell? ⟨w.heap.size + 1, 2, none⟩ = some (.slice x.A x.n x.c) := by rw [← hW0]; simp [go_sem]
  have hm3 : W0.cell? ⟨w.heap.size + 1, 3, none⟩ = some (.int .i64 x.q0) := by rw [← hW0]; simp [go_sem]
  have hm4 : W0.cell? ⟨w.heap.size + 1, 4, none⟩ = some (.int .i64 x.q1) := by rw [← hW0]; simp [go_sem]
  have hz0 : w.heap.size + 2 < W0.heap.size := by rw [← hW0]; simp
  have HO0 : Hid (W0.ownsRow (w.heap.size + 2) 3 1 (.slice (some ⟨w.heap.size + 2, 0, none⟩) 0 0) 0 (([] : List Int).map (Value.int .i64))) := Lib.hid (by
    rw [← hW0]
    have h9 := World.ownsRow_lit (base := w.heap.size + 2) (e := 3) (size := 1) ((w.alloc (Obj.cells #[.slice (some ⟨g1, 0, none⟩) n1 c1, .slice (some ⟨g2, 0, none⟩) n2 c2, .slice (some ⟨g3, 0, none⟩) n3 n3] 37)).alloc (Obj.cells #[.int .i64 x.p0, .int .i64 x.p1, .slice x.A x.n x.c, .int .i64 x.q0, .int .i64 x.q1] 88)) #[] 0 (by simp) (by unfold maxLen; omega) rfl
    simpa using h9)
  have HB0 := Lib.hid hb0
  have HK : Hid (∀ W, Below (w.heap.size + 2) W0 W → W.cell? ⟨w.heap.size, 0, none⟩ = some (.slice (some ⟨g1, 0, none⟩) n1 c1) ∧ W.cell? ⟨w.heap.size, 1, none⟩ = some (.slice (some ⟨g2, 0, none⟩) n2 c2) ∧ W.cell? ⟨w.heap.size, 2, none⟩ = some (.slice (some ⟨g3, 0, none⟩) n3 n3) ∧ W.cell? ⟨w.heap.size + 1, 0, none⟩ = some (.int .i64 x.p0) ∧ W.cell? ⟨w.heap.size + 1, 1, none⟩ = some (.int .i64 x.p1) ∧ W.cell? ⟨w.heap.size + 1, 2, none⟩ = some (.slice x.A x.n x.c) ∧ W.cell? ⟨w.heap.size + 1, 3, none⟩ = some (.int .i64 x.q0) ∧ W.cell? ⟨w.heap.size + 1, 4, none⟩ = some (.int .i64 x.q1)) := Lib.hid (fun W hW => ⟨(hW.cell (p := ⟨w.heap.size, 0, none⟩) (by simp)).trans hk0, (hW.cell (p := ⟨w.heap.size, 1, none⟩) (by simp)).trans hk1, (hW.cell (p := ⟨w.heap.size, 2, none⟩) (by simp)).trans hk2, (hW.cell (p := ⟨w.heap.size + 1, 0, none⟩) (by simp)).trans hm0, (hW.cell (p := ⟨w.heap.size + 1, 1, none⟩) (by simp)).trans hm1, (hW.cell (p := ⟨w.heap.size + 1, 2, none⟩) (by simp)).trans hm2, (hW.cell (p := ⟨w.heap.size + 1, 3, none⟩) (by simp)).trans hm3, (hW.cell (p := ⟨w.heap.size + 1, 4, none⟩) (by simp)).trans hm4⟩)
  have HZ0 : Hid (w.heap.size + 2 ≤ W0.heap.size) := Lib.hid (by omega)
  rw [hW0]
  clear hW0 hb0 hk0 hk1 hk2 hm0 hm1 hm2 hm3 hm4 hz0
  have CG := Lib.hid (l9Good_ (HNT.out.moved HB0.out) (HT.out.moved HB0.out) HD.out hs)
  by_cases hp : planP ss fs ds
  case neg =>
    have HE := Lib.hid (HNO.out (fun e => hp e.1))
    rw [pb_false hp] at CG
    clear hp
    refine CG.out.mono ?_
    rintro e w1 ⟨rfl, hb1⟩
    have HB1 := Lib.hid (HB0.out.trans (hb1.mono HB0.out.size))
    have HO1 := Lib.hid (ownB HO0.out hb1)
    clear hb1
    go_wp2
    go_ret2
    obtain ⟨rfl, rfl⟩ := HE.out
    exact ⟨_, 0, 0, rfl, Lib.hid rfl, own_base HO1.out (by omega), HB1.out⟩
  case pos =>
  have HP := Lib.hid hp
  rw [pb_true hp] at CG
  clear hp
  refine CG.out.mono ?_
  rintro e w1 ⟨rfl, hb1⟩
  have HBW1 : Hid (Below (w.heap.size + 2) W0 w1) := Lib.hid (hb1.mono HZ0.out)
  have HB1 := Lib.hid (HB0.out.trans (hb1.mono HB0.out.size))
  have HO1 := Lib.hid (ownB HO0.out hb1)
  clear hb1
  obtain ⟨k0, k1, k2, m0, m1, m2, m3, m4⟩ := HK.out w1 HBW1.out
  have CL := Lib.hid (l9Light_ (HNT.out.moved HB1.out) x (HXA.out.moved HB1.out))
  by_cases hl : lightP ss fs x.d
  case neg =>
    have HE := Lib.hid (HNO.out (fun e => hl e.2))
    rw [pb_false hl] at CL
    clear hl
    go_wp2_with fail
    refine CL.out.mono ?_
    rintro e w2 ⟨rfl, hb2⟩
    have HB2 := Lib.hid (HB1.out.trans (hb2.mono HB1.out.size))
    have HO2 := Lib.hid (ownB HO1.out hb2)
    clear hb2 k0 k1 k2 m0 m1 m2 m3 m4
    go_wp2
    go_ret2
    obtain ⟨rfl, rfl⟩ := HE.out
    exact ⟨_, 0, 0, rfl, Lib.hid rfl, own_base HO2.out (by omega), HB2.out⟩
  case pos =>
  have HL := Lib.hid hl
  have HE := Lib.hid (HYES.out ⟨HP.out, hl⟩)
  rw [pb_true hl] at CL
  clear hl
  have hn12 : n3 ≤ 12 := by have := HP.out.2.1; have := HLD.out; omega
  have HBLK : Hid (∀ t, t < ds.length → blkP (dn ds t).q0 (dn ds t).q1) := Lib.hid (fun t ht => (HP.out.2.2.1 t ht).1.2.2)
  have HXB : Hid (blkP x.q0 x.q1) := Lib.hid HL.out.2.2
  go_wp2_with fail
  refine CL.out.mono ?_
  rintro e w2 ⟨rfl, hb2⟩
  have HBW2 : Hid (Below (w.heap.size + 2) W0 w2) := Lib.hid (HBW1.out.trans (hb2.mono (by have := HBW1.out.size; have := HZ0.out; omega)))
  have HO2 := Lib.hid (ownB HO1.out hb2)
  clear hb2 k0 k1 k2 m0 m1 m2 m3 m4 HO1 HBW1 HB1
  go_wp2
  go_loopw [6, 7] (fun o i wr => ∃ (k N c : Nat) (A : Option Addr), k ≤ n3 ∧ i = .int .i64 (k : Int) ∧ o = .slice A N c ∧ Hid (N = (clK ds x.d k).length) ∧ Hid (wr.ownsRow (w.heap.size + 2) 3 1 (.slice A N c) N ((clK ds x.d k).map (Value.int .i64))) ∧ Below (w.heap.size + 2) W0 wr) (fun _ i _ => n3 - (intOf i).toNat)
  case atStart => exact ⟨0, 0, 0, _, Nat.zero_le _, rfl, rfl, Lib.hid rfl, HO2, HBW2.out⟩
  case round =>
    clear HO2 HBW2
    obtain ⟨k, N, c, A, hk, rfl, rfl, HNN, HOW, hb⟩ := hrel
    have HBR := Lib.hid hb
    have HBRW := Lib.hid (HB0.out.trans (hb.mono (by omega)))
    clear hb
    have HSZ : Hid (w.heap.size + 2 ≤ wr.heap.size) := Lib.hid (by have := HBR.out.size; have := HZ0.out; omega)
    have hN12 : N ≤ 12 := by have := HNN.out; have := clK_len ds x.d k; omega
    by_cases hlt : k < n3
    case neg =>
      obtain rfl : k = n3 := by omega
      clear hlt
      obtain ⟨k0, k1, k2, m0, m1, m2, m3, m4⟩ := HK.out wr HBR.out
      go_wp2
      go_ret2
      obtain ⟨e1, rfl⟩ := HE.out
      rw [e1, HLD.out]
      exact ⟨_, N, c, rfl, HNN, own_base HOW.out (by omega), HBRW.out⟩
    case pos =>
    have hkl : k < ys.length := by have := HT.out.len; omega
    have HKD : Hid (k < ds.length) := Lib.hid (by have := HLD.out; omega)
    obtain ⟨y, hke⟩ : ∃ y, ys[k]'hkl = y := ⟨_, rfl⟩
    have HDK := Lib.hid (dn_at HD.out hkl hke)
    have HYA : Hid (LtAt w y) := Lib.hid (by rw [← hke]; exact HT.out.at_ _ (List.getElem_mem hkl))
    have HYB : Hid (blkP y.q0 y.q1) := Lib.hid (by have := HBLK.out k HKD.out; rw [HDK.out] at this; exact this)
    obtain ⟨T, f, x0, hx0, hTT, HST⟩ := above wr
    haveI : Nonempty T := ⟨x0⟩
    have HXX := Lib.hid hx0
    have HTX : Hid (∀ x, Below (w.heap.size + 2) W0 (f x)) := Lib.hid (fun x => HBR.out.trans ((hTT x).mono HSZ.out))
    have HTO : Hid (∀ x, Below wr.heap.size wr (f x)) := Lib.hid hTT
    have HBX : Hid (∀ x, Below w.heap.size w (f x)) := Lib.hid (fun x => HB0.out.trans ((HTX.out x).mono (by omega)))
    clear hTT hx0
    have hf : ∀ x, (f x).cell? ⟨g3, k * 5, none⟩ = some (.int .i64 y.p0) ∧ (f x).cell? ⟨g3, k * 5 + 1, none⟩ = some (.int .i64 y.p1) ∧ (f x).cell? ⟨g3, k * 5 + 2, none⟩ = some (.slice y.A y.n y.c) ∧ (f x).cell? ⟨g3, k * 5 + 3, none⟩ = some (.int .i64 y.q0) ∧ (f x).cell? ⟨g3, k * 5 + 4, none⟩ = some (.int .i64 y.q1) := fun x => by
      obtain ⟨_, f0, f1, f2, f3, f4⟩ := (HT.out.moved (HBX.out x)).rd.ltc hkl
      rw [Nat.zero_add, hke] at f0 f1 f2 f3 f4
      exact ⟨f0, f1, f2, f3, f4⟩
    have f0 := fun x => (hf x).1
    have f1 := fun x => (hf x).2.1
    have f2 := fun x => (hf x).2.2.1
    have f3 := fun x => (hf x).2.2.2.1
    have f4 := fun x => (hf x).2.2.2.2
    have k2 := fun x => (HK.out _ (HTX.out x)).2.2.1
    have m0 := fun x => (HK.out _ (HTX.out x)).2.2.2.1
    have m1 := fun x => (HK.out _ (HTX.out x)).2.2.2.2.1
    have m2 := fun x => (HK.out _ (HTX.out x)).2.2.2.2.2.1
    have m3 := fun x => (HK.out _ (HTX.out x)).2.2.2.2.2.2.1
    have m4 := fun x => (HK.out _ (HTX.out x)).2.2.2.2.2.2.2
    clear hf hke
    have CC : Hid (∀ z, Calls Try.prog 111 #[.agg #[.int .i64 y.p0, .int .i64 y.p1, .slice y.A y.n y.c, .int .i64 y.q0, .int .i64 y.q1], .agg #[.int .i64 x.p0, .int .i64 x.p1, .slice x.A x.n x.c, .int .i64 x.q0, .int .i64 x.q1]] (f z) (RetP (.bool (colB y.d x.d)) (f z))) := Lib.hid fun z => l9Collide_ y x (f z) (HYA.out.moved (HBX.out z)) (HXA.out.moved (HBX.out z)) HYB.out HXB.out
    have kr2 := (HK.out wr HBR.out).2.2.1
    have hszr := HSZ.out
    by_cases hid : y.p0 = x.p0
    case pos =>
      have HS2 := Lib.hid (cl_out (x := x.d) HDK.out (fun e => e.1 hid))
      have heb : (y.p0 == x.p0) = true := beq_iff_eq.2 hid
      have hdb : decide (y.p0 = x.p0) = true := decide_eq_true hid
      have hnb : decide (y.p0 ≠ x.p0) = false := decide_eq_false (fun e => e hid)
      go_wp2_with fail
      refine wp_region_class f (by kernel_rfl) (by kernel_rfl) x0 HXX.out ?_
      repeat (go_big_quiet_step (fail))
      refine wpQuiet_nil ?_
      rintro _ ⟨t, rfl⟩
      have HB3 := Lib.hid (HTX.out t)
      have HOW3 := Lib.hid (ownB HOW.out (HTO.out t))
      clear f0 f1 f2 f3 f4 k2 m0 m1 m2 m3 m4
      generalize f t = w3 at HB3 HOW3 ⊢
      go_wp2
      go_roundw
      case rel => exact ⟨k + 1, N, c, A, by omega, by go_num, rfl, Lib.hid (by rw [HS2.out]; exact HNN.out), Lib.hid (by rw [HS2.out]; exact HOW3.out), HB3.out⟩
      case measure => simp [intOf]; omega
    case neg =>
    have heb : (y.p0 == x.p0) = false := beq_eq_false_iff_ne.2 hid
    have hnb : decide (y.p0 ≠ x.p0) = true := decide_eq_true hid
    have hnq : (y.p0 != x.p0) = true := bne_iff_ne.2 hid
    by_cases hc : colP y.d x.d
    case neg =>
      have HS2 := Lib.hid (cl_out (x := x.d) HDK.out (fun e => hc e.2))
      have ec : colB y.d x.d = false := pb_false hc
      rw [ec] at CC
      clear ec hc
      go_wp2_with fail
      refine wp_region_class f (by kernel_rfl) (by kernel_rfl) x0 HXX.out ?_
      repeat (go_big_quiet_step (first | (go_at_call 111; exact Calls.inClass HST (CC.out _))))
      refine wpQuiet_nil ?_
      rintro _ ⟨t, rfl⟩
      have HB3 := Lib.hid (HTX.out t)
      have HOW3 := Lib.hid (ownB HOW.out (HTO.out t))
      clear f0 f1 f2 f3 f4 k2 m0 m1 m2 m3 m4
      generalize f t = w3 at HB3 HOW3 ⊢
      go_wp2
      go_roundw
      case rel => exact ⟨k + 1, N, c, A, by omega, by go_num, rfl, Lib.hid (by rw [HS2.out]; exact HNN.out), Lib.hid (by rw [HS2.out]; exact HOW3.out), HB3.out⟩
      case measure => simp [intOf]; omega
    case pos =>
      have HS2 := Lib.hid (cl_in (x := x.d) HDK.out ⟨hid, hc⟩)
      have ec : colB y.d x.d = true := pb_true hc
      rw [ec] at CC
      clear ec hc
      go_wp2_with fail
      refine wp_region_class f (by kernel_rfl) (by kernel_rfl) x0 HXX.out ?_
      repeat (go_big_quiet_step (first | (go_at_call 111; exact Calls.inClass HST (CC.out _))))
      refine wpQuiet_nil ?_
      rintro _ ⟨t, rfl⟩
      have HB3 := Lib.hid (HTX.out t)
      have HOW3 := Lib.hid (ownB HOW.out (HTO.out t))
      have HS3 : Hid (w.heap.size + 2 ≤ (f t).heap.size) := Lib.hid (by have := (HTO.out t).size; have := HSZ.out; omega)
      have r0 := f0 t
      have r2 := k2 t
      clear f0 f1 f2 f3 f4 k2 m0 m1 m2 m3 m4
      generalize f t = w3 at HB3 HOW3 HS3 r0 r2 ⊢
      go_wp2_with (at_builtin; refine wp_app rfl (.tmp 45) (.tmp 52) 57 3 rfl (w.heap.size + 2) Try.underlying57 Try.inf_int rfl (by decide) (by decide) _ N _ rfl (HOW3.out.alloc _) _ _ [.int .i64 y.p0] rfl rfl (news1 (new_at_ _ _ _ _ rfl)) (news_int _) (by omega) (by have := HS3.out; simp; omega) ?_)
      intro A2 d2 N2 w4 hN2 hown2 hgrow2 hloc2
      subst hN2
      have hB4 : Below (w.heap.size + 2) W0 w4 := (HB3.out.alloc HS3.out _).grown hgrow2 (by have := HS3.out; simp; omega) (fun g hg => (HOW3.out.lt g hg).1)
      have HNN3 : Hid (N + 1 = (clK ds x.d (k + 1)).length) := Lib.hid (by rw [HS2.out, List.length_append, ← HNN.out]; rfl)
      have HOW4 : Hid (w4.ownsRow (w.heap.size + 2) 3 1 (.slice A2 (N + 1) d2) (N + 1) ((clK ds x.d (k + 1)).map (Value.int .i64))) := Lib.hid (by rw [HS2.out, List.map_append]; exact hown2)
      clear hown2 hgrow2 hloc2
      obtain ⟨N3, hN3⟩ : ∃ N3, N + 1 = N3 := ⟨_, rfl⟩
      rw [hN3] at HNN3 HOW4 ⊢
      clear hN3
      go_wp2
      go_roundw
      case rel => exact ⟨k + 1, N3, d2, A2, by omega, by go_num, rfl, HNN3, HOW4, hB4⟩
      case measure => simp [intOf]; omega
end Go.Proofs.Ytnbeomnlobfpfaa
