/- The trace of a walk: contract of impl.traceOf. No condition but those typed. -/
import Derived.Test.YtkpendpjdemknaaAdI
namespace Go.Proofs.Ytkpendpjdemknaa
open Go.ChangeShapes Go.WideShapes Go.ChangeAt Go.RowKit

def zer5 : Obj := Obj.cells #[.int .i64 0, .int .i64 0, .int .i64 0, .int .i64 0, .int .i64 0] 150
theorem bB7 {w X : World} {o : Obj} (h : Below w.heap.size w X) : Below w.heap.size w (X.alloc o) := h.alloc h.size o
theorem bD7 {w X : World} {o : Obj} (h : Below w.heap.size w X) : Below w.heap.size w (X.alloc o).drew := (h.alloc h.size o).drew
theorem nbx7 {w X : World} (h : Below w.heap.size w X) : (X.alloc (Obj.cells #[.int .i64 0, .int .i64 0, .int .i64 0, .int .i64 0, .int .i64 0] 150)).ownsRow w.heap.size 150 5 (.slice (some ⟨X.heap.size, 0, none⟩) 1 1) 1 [.int .i64 0, .int .i64 0, .int .i64 0, .int .i64 0, .int .i64 0] := one_row5 X _ _ _ _ _ h.size
theorem nbx7D {w X : World} (h : Below w.heap.size w X) : (X.alloc (Obj.cells #[.int .i64 0, .int .i64 0, .int .i64 0, .int .i64 0, .int .i64 0] 150)).drew.ownsRow w.heap.size 150 5 (.slice (some ⟨X.heap.size, 0, none⟩) 1 1) 1 [.int .i64 0, .int .i64 0, .int .i64 0, .int .i64 0, .int .i64 0] := one_row5 X _ _ _ _ _ h.size
def set5 (X : World) (b : Nat) (v0 v1 v2 v3 v4 : Value) : World := ((((X.setCell ⟨b, 0, none⟩ v0).setCell ⟨b, 1, none⟩ v1).setCell ⟨b, 2, none⟩ v2).setCell ⟨b, 3, none⟩ v3).setCell ⟨b, 4, none⟩ v4
theorem set5B {w X : World} {b : Nat} (h : Below w.heap.size w X) (hb : w.heap.size ≤ b) (v0 v1 v2 v3 v4 : Value) : Below w.heap.size w (set5 X b v0 v1 v2 v3 v4) :=
  ((((h.setCell (p := ⟨b, 0, none⟩) hb _).setCell (p := ⟨b, 1, none⟩) hb _).setCell (p := ⟨b, 2, none⟩) hb _).setCell (p := ⟨b, 3, none⟩) hb _).setCell (p := ⟨b, 4, none⟩) hb _
theorem trS {w X : World} {b : Nat} {xs : List Value} (v0 v1 v2 v3 v4 : Value) (h : Below w.heap.size w X) (hB : X.ownsRow w.heap.size 150 5 (.slice (some ⟨b, 0, none⟩) 1 1) 1 xs) : Below w.heap.size w (((((X.setCell ⟨b, 0, none⟩ v0).setCell ⟨b, 1, none⟩ v1).setCell ⟨b, 2, none⟩ v2).setCell ⟨b, 3, none⟩ v3).setCell ⟨b, 4, none⟩ v4) := set5B h (hB.lt b rfl).1 _ _ _ _ _
theorem trS2 {w X : World} (o : Obj) (v0 v1 v2 v3 v4 : Value) (h : Below w.heap.size w X) : Below w.heap.size w ((((((X.alloc o).setCell ⟨X.heap.size, 0, none⟩ v0).setCell ⟨X.heap.size, 1, none⟩ v1).setCell ⟨X.heap.size, 2, none⟩ v2).setCell ⟨X.heap.size, 3, none⟩ v3).setCell ⟨X.heap.size, 4, none⟩ v4) := set5B (h.alloc h.size o) h.size _ _ _ _ _
theorem tr_st {X : World} {B b : Nat} {z0 z1 z2 z3 z4 : Value} (v0 v1 v2 v3 v4 : Value) (h : X.ownsRow B 150 5 (.slice (some ⟨b, 0, none⟩) 1 1) 1 [z0, z1, z2, z3, z4]) :
    (((((X.setCell ⟨b, 0, none⟩ v0).setCell ⟨b, 1, none⟩ v1).setCell ⟨b, 2, none⟩ v2).setCell ⟨b, 3, none⟩ v3).setCell ⟨b, 4, none⟩ v4).ownsRow B 150 5 (.slice (some ⟨b, 0, none⟩) 1 1) 1 [v0, v1, v2, v3, v4] := by
  have h9 := ((((h.stored 0 v0).1.stored 1 v1).1.stored 2 v2).1.stored 3 v3).1.stored 4 v4
  simpa using h9.1
def TrR (w1 : World) (vs : List Value) (s : Value) (w' : World) : Prop := ∃ b : Nat, s = .pointer (some ⟨b, 0, none⟩) ∧ Hid (w'.ownsRow w1.heap.size 150 5 (.slice (some ⟨b, 0, none⟩) 1 1) 1 vs) ∧ Bel w1 w'
theorem tr_fin {w1 X : World} {b : Nat} {z0 z1 z2 z3 z4 : Value} (v0 v1 v2 v3 v4 : Value) (h : X.ownsRow w1.heap.size 150 5 (.slice (some ⟨b, 0, none⟩) 1 1) 1 [z0, z1, z2, z3, z4]) (hb : Below w1.heap.size w1 X) :
    TrR w1 [v0, v1, v2, v3, v4] (.pointer (some ⟨b, 0, none⟩)) (((((X.setCell ⟨b, 0, none⟩ v0).setCell ⟨b, 1, none⟩ v1).setCell ⟨b, 2, none⟩ v2).setCell ⟨b, 3, none⟩ v3).setCell ⟨b, 4, none⟩ v4) :=
  ⟨b, rfl, Lib.hid (tr_st _ _ _ _ _ h), Bel.of (trS _ _ _ _ _ hb h)⟩
theorem tr_fin2 {w1 X : World} (v0 v1 v2 v3 v4 : Value) (hb : Below w1.heap.size w1 X) : TrR w1 [v0, v1, v2, v3, v4] (.pointer (some ⟨X.heap.size, 0, none⟩)) (X.alloc (Obj.cells #[v0, v1, v2, v3, v4] 150)) :=
  ⟨_, rfl, Lib.hid (one_row5 X _ _ _ _ _ hb.size), Bel.of (hb.alloc hb.size _)⟩

set_option maxRecDepth 100000 in
set_option maxHeartbeats 3000000 in
theorem trace_ {fs : List Q4} {xl ns : List Int} {g : Nat} (w : World) (h : Lk fs w g xl ns) (h1 : 1 ≤ xl.length) (hx : xl.length ≤ 1048576) (hbx : ∀ x ∈ xl, 0 ≤ x ∧ x < 20) (hbn : ∀ v ∈ ns, 0 ≤ v ∧ v < 20)
    {gs : List (List Int)} (hgs : gs.length ≤ 14) (hgb : ∀ z ∈ gs, mkN z < 2 ^ 20) {Ag : Option Addr} {ng cg : Nat} (hn : gs.length = ng) (hr : Rd w w.heap.size Ag ((gs.map fun z => (mkN z : Int)).map (Value.int .i64))) :
    Calls Try.prog 104 #[.slice Ag ng cg, .pointer (some ⟨g, 0, none⟩)] w fun e w' => e = .returned (trA (nth ns.reverse 0) (ns.headD 0) (mkN xl.reverse) (grM gs (mkN xl.reverse) gs.length) (mkN (inn ns))) ∧ Below w.heap.size w w' := by
  obtain ⟨nd, tl, la, p, hnd, hh, _⟩ := h.see
  have hln := h.len
  have HND : Hid (ns.headD 0 = nd) := Lib.hid (by rw [hnd]; rfl)
  obtain ⟨f0, f1, f2, f3, f4⟩ := five_cells hh
  have hgl := h.lt
  obtain ⟨a, ha⟩ : ∃ a, nth ns.reverse 0 = a := ⟨_, rfl⟩
  obtain ⟨F, hF⟩ : ∃ F, mkN xl.reverse = F := ⟨_, rfl⟩
  obtain ⟨I, hI⟩ : ∃ I, mkN (inn ns) = I := ⟨_, rfl⟩
  obtain ⟨M, hM⟩ : ∃ M, xl.length = M := ⟨_, rfl⟩
  have HF2 : Hid (F < 2 ^ 20) := Lib.hid (by rw [← hF]; exact maskT_lt (fun j hj => by have h9 := hbx _ (List.mem_reverse.1 (List.getElem_mem hj)); rw [nth_eq hj] at h9; exact h9))
  have HNR : Hid (ns.reverse.length = M + 1) := Lib.hid (by rw [List.length_reverse, hln, hM])
  have HNL : Hid (ns.length = M + 1) := Lib.hid (by rw [hln, hM])
  obtain ⟨GR, hGR⟩ : ∃ r, grM gs F gs.length = r := ⟨_, rfl⟩
  have HGR := Lib.hid hGR
  rw [HND.out, ha, hF, hI, hGR]
  clear hGR
  rw [hM] at h1 hx f2
  obtain ⟨W0, hW0⟩ : ∃ W0, w.alloc (Obj.cells #[.int .i64 0, .int .i64 0, .int .i64 0, .int .i64 0, .int .i64 0] 150) = W0 := ⟨_, rfl⟩
  have hb0 : Below w.heap.size w W0 := by rw [← hW0]; exact (Below.refl _ _).alloc (Nat.le_refl _) _
  have HR4 : Hid (W0.ownsRow w.heap.size 150 5 (.slice (some ⟨w.heap.size, 0, none⟩) 1 1) 1 [.int .i64 0, .int .i64 0, .int .i64 0, .int .i64 0, .int .i64 0]) := Lib.hid (by rw [← hW0]; exact one_row5 w _ _ _ _ _ (Nat.le_refl _))
  have HB0 := Lib.hid hb0
  have HLK : Hid (∀ U, Below W0.heap.size W0 U → Lk fs U g xl ns) := Lib.hid (fun U hU => Lk.over (hb0.trans (hU.mono hb0.size)) h)
  have HRG : Hid (∀ U, Below W0.heap.size W0 U → Rd U U.heap.size Ag ((gs.map fun z => (mkN z : Int)).map (Value.int .i64))) := Lib.hid (fun U hU => hr.moved (hb0.trans (hU.mono hb0.size)))
  have HKW : Hid (∀ U, Below W0.heap.size W0 U → U.cell? ⟨g, 0, none⟩ = some (.int .i64 nd) ∧ U.cell? ⟨g, 2, none⟩ = some (.int .i64 (M : Int)) ∧ g < U.heap.size) := Lib.hid (fun U hU => by
    have hb9 := hb0.trans (hU.mono hb0.size)
    exact ⟨(hb9.cell (p := ⟨g, 0, none⟩) hgl).trans f0, (hb9.cell (p := ⟨g, 2, none⟩) hgl).trans f2, Nat.lt_of_lt_of_le hgl hb9.size⟩)
  have HBX := Lib.hid hbx; have HBN := Lib.hid hbn; have HGB := Lib.hid hgb; have HN := Lib.hid hn; have HM := Lib.hid hM; have HA := Lib.hid ha; have HFE := Lib.hid hF; have HIE := Lib.hid hI
  have CN := Lib.hid (nodes_ W0 (HLK.out _ (Below.refl _ _)) (by rw [hM]; exact hx))
  rw [hM] at CN
  have hM1 := h1
  clear h h1 hbx hbn hgb hn hr hnd hh hln f0 f1 f2 f3 f4 hgl ha hF hI hM hb0
  go_enter Try.func104, Try.ntmps104
  go_wp2_with fail
  try rw [hW0]
  clear hW0
  refine CN.out.mono ?_
  rintro e w1 ⟨gN, rfl, hoN, hb1⟩
  have HB1 := Lib.hid hb1; have HON := Lib.hid hoN
  obtain ⟨N1, hN1⟩ : ∃ N1, M + 1 = N1 := ⟨_, rfl⟩
  rw [hN1] at HON HNR ⊢
  have HKR : Hid (∀ U, Below w1.heap.size w1 U → U.cell? ⟨g, 0, none⟩ = some (.int .i64 nd) ∧ U.cell? ⟨g, 2, none⟩ = some (.int .i64 (M : Int)) ∧ U.cell? ⟨gN, 0, none⟩ = some (.int .i64 a) ∧ g < U.heap.size ∧ gN < U.heap.size) := Lib.hid fun U hU => by
    obtain ⟨a1, a2, a3⟩ := HKW.out U (HB1.out.trans (hU.mono HB1.out.size))
    have h9 := (ownB HON.out hU).cellAt 0 (by omega)
    have h8 : (ns.reverse.map (Value.int .i64))[0]? = some (.int .i64 a) := by
      rw [List.getElem?_map, List.getElem?_eq_getElem (by have := HNR.out; omega), nth_eq (by have := HNR.out; omega), HA.out]; rfl
    exact ⟨a1, a2, h9.trans h8, a3, ((ownB HON.out hU).lt gN rfl).2⟩
  have HKS : Hid (∀ U, Below w1.heap.size w1 U → (U.cell? ⟨g, 0, none⟩ = some (.int .i64 nd) ∧ U.cell? ⟨g, 2, none⟩ = some (.int .i64 (M : Int)) ∧ U.cell? ⟨gN, 0, none⟩ = some (.int .i64 a) ∧ g < U.heap.size ∧ gN < U.heap.size ∧ Bel w1 U)) := Lib.hid fun U hU => by obtain ⟨a1, a2, a3, a4, a5⟩ := HKR.out U hU; exact ⟨a1, a2, a3, a4, a5, Bel.of hU⟩
  have CF := Lib.hid (fun (U : World) (hU : Below w1.heap.size w1 U) => fibers_ U (HLK.out U (HB1.out.trans (hU.mono HB1.out.size))) (by rw [HM.out]; exact hx))
  have CM2 : Hid (∀ U, Below w1.heap.size w1 U → ∀ (A : Option Addr) (n c : Nat), A = some ⟨gN, 1, none⟩ → n = M - 1 → Calls Try.prog 148 #[.slice A n c] U fun e w' => e = .returned (.int .i64 (I : Int)) ∧ U = w') := Lib.hid (fun U hU A n c hA hn9 => by
    have hil : (inn ns).length = n := by rw [inn_len, HNL.out]; omega
    subst hA
    have h9 := maskOf_ (some ⟨gN, 1, none⟩) n c (inn ns) U hil (by omega) (rd_mid (ownB HON.out hU) HNR.out _) (fun k hk => by have h8 := HBN.out _ (mem_inn (List.getElem_mem (by rw [hil]; exact hk))); rw [nth_eq (by rw [hil]; exact hk)] at h8; exact h8)
    rw [← hil] at h9
    rw [← hil, ← HIE.out]
    exact h9)
  have HU0 := Lib.hid (Below.refl w1.heap.size w1)
  have hN1a : (0 : Int) < (N1 : Int) := by omega
  have hN1b : (M : Int) ≤ (N1 : Int) := by omega
  have hM1b : (1 : Int) ≤ (M : Int) := by omega
  have hN1c : M ≤ N1 := by omega
  have hN1n : 0 < N1 := by omega
  have hN11 : ¬ N1 = 1 := by omega
  have hM1n : 0 < M := by omega
  clear hb1 hoN hN1
  go_upto_region 2 with fail
  go_cut [6] (fun s6 wx => TrR w1 [.int .i64 a, .int .i64 nd, .int .i64 (F : Int), .int .i64 0, .int .i64 (I : Int)] s6 wx)
  case first =>
    go_region_held3 (fun U => U.cell? ⟨g, 0, none⟩ = some (.int .i64 nd) ∧ U.cell? ⟨g, 2, none⟩ = some (.int .i64 (M : Int)) ∧ U.cell? ⟨gN, 0, none⟩ = some (.int .i64 a) ∧ g < U.heap.size ∧ gN < U.heap.size ∧ Bel w1 U)
      (first | with_reducible exact HKS.out _ (HU1.out) | with_reducible exact HKS.out _ (trS _ _ _ _ _ HU1.out hbx1.out) | with_reducible exact HKS.out _ (trS2 _ _ _ _ _ _ HU1.out) | with_reducible exact HKS.out _ (bB7 HU1.out) | with_reducible exact HKS.out _ (HU0.out) | with_reducible exact HKS.out _ (HU0.out.drew) | with_reducible exact HKS.out _ (bB7 HU0.out) | with_reducible exact HKS.out _ (bD7 HU0.out))
      (first
      | (go_at_call 150; (with_reducible refine (CF.out _ ?_).mono ?_); (first | with_reducible exact HU1.out | with_reducible exact bB7 HU1.out | with_reducible exact HU0.out | with_reducible exact HU0.out.drew | with_reducible exact bB7 HU0.out | with_reducible exact bD7 HU0.out); rw [HM.out]; rintro e u1 ⟨gF, rfl, hoF, hb2⟩; have HU1 := Lib.hid (belT (by (first | with_reducible exact HU1.out | with_reducible exact bB7 HU1.out | with_reducible exact HU0.out | with_reducible exact HU0.out.drew | with_reducible exact bB7 HU0.out | with_reducible exact bD7 HU0.out)) hb2); have HOF := Lib.hid hoF; have CM1 := Lib.hid (fun (U : World) (hU : Below u1.heap.size u1 U) => maskOf_ (some ⟨gF, 0, none⟩) M M xl.reverse U (by rw [List.length_reverse, HM.out]) hx ((Rd.ofOwnK HOF.out).moved hU) (fun k hk => by have hk9 : k < xl.reverse.length := (by rw [List.length_reverse, HM.out]; exact hk); have h9 := HBX.out _ (List.mem_reverse.1 (List.getElem_mem hk9)); rw [nth_eq hk9] at h9; exact h9)); clear hoF; (first | (with_reducible have hbx1 := Lib.hid (ownB (nbx7 HU0.out) hb2); obtain ⟨⟨_, _, _, _, _⟩, ⟨_, _, _, _, _⟩, _⟩ := tr_facts hbx1.out) | (with_reducible have hbx1 := Lib.hid (ownB (nbx7D HU0.out) hb2); obtain ⟨⟨_, _, _, _, _⟩, ⟨_, _, _, _, _⟩, _⟩ := tr_facts hbx1.out) | skip))
      | (go_at_call 148; (with_reducible refine (CM1.out _ ?_).mono ?_); (first | with_reducible exact Below.refl _ _ | with_reducible exact (Below.refl _ _).alloc (Nat.le_refl _) _); rw [show maskN xl.reverse M = F by rw [← HFE.out]; unfold mkN; rw [List.length_reverse, HM.out]]; rintro e u9 ⟨rfl, rfl⟩)
      | (go_at_call 148; (refine (CM2.out _ ?_ _ _ _ ?_ ?_).mono ?_); (first | with_reducible exact HU1.out | with_reducible exact bB7 HU1.out | with_reducible exact HU0.out | with_reducible exact HU0.out.drew | with_reducible exact bB7 HU0.out | with_reducible exact bD7 HU0.out); (first | rfl | (simp; done)); (first | rfl | omega | (simp; done)); rintro e u9 ⟨rfl, rfl⟩))
    all_goals
      go_wp2_with fail
      go_meet
      first | with_reducible exact tr_fin _ _ _ _ _ hbx1.out HU1.out | with_reducible exact tr_fin2 _ _ _ _ _ HU1.out | with_reducible refine tr_fin2 _ _ _ _ _ ?_
  case rest =>
  have HU9 := HU0
  clear HU0 CF CM2 HKS HKR hN1a hN1b hM1b hN1c hN1n hN11 hM1n hM1
  revert hcut; generalize wc = w2; intro hcut
  obtain ⟨b, h6_, HTR, hbl⟩ := hcut
  subst h6_
  have HB2 := Lib.hid (HB1.out.trans ((Bel.out hbl).mono HB1.out.size))
  have HGE : Hid (w1.heap.size ≤ b) := Lib.hid (HTR.out.lt b rfl).1
  have HW1 : Hid (w.heap.size < w1.heap.size) := Lib.hid (Nat.lt_of_lt_of_le (HR4.out.lt w.heap.size rfl).2 HB1.out.size)
  have hng : ng ≤ 14 := by have := HN.out; omega
  have HG14 := Lib.hid hgs
  clear hbl HU9 hgs
  go_wp2
  go_loopw [32] (fun i wr => ∃ k : Nat, k ≤ ng ∧ i = .int .i64 (k : Int) ∧ Hid (wr.ownsRow w1.heap.size 150 5 (.slice (some ⟨b, 0, none⟩) 1 1) 1 [.int .i64 a, .int .i64 nd, .int .i64 (F : Int), .int .i64 (grM gs F k : Int), .int .i64 (I : Int)]) ∧ Below W0.heap.size W0 wr) (fun i _ => ng - (intOf i).toNat)
  case atStart => exact ⟨0, Nat.zero_le _, rfl, HTR, HB2.out⟩
  case round =>
    obtain ⟨k, hk, rfl, HTK, hb⟩ := hrel
    have HBR := Lib.hid hb
    clear hb
    by_cases hlt : k < ng
    case neg =>
      have HKE : Hid (gs.length = k) := Lib.hid (by have := HN.out; omega)
      rw [show grM gs F k = GR by rw [← HGR.out, HKE.out]] at HTK
      obtain ⟨⟨x0, x1, x2, x3, x4⟩, _, x5⟩ := tr_facts HTK.out
      obtain ⟨⟨c0, c1, c2, c3, c4⟩, ⟨y0, y1, y2, y3, y4⟩, y5⟩ := tr_facts (ownB HR4.out HBR.out)
      have hne : ¬ b = w.heap.size := by have := HGE.out; have := HW1.out; omega
      have hne2 : ¬ w.heap.size = b := fun e => hne e.symm
      go_wp2
      refine bodyPost_ret (v := trA a nd F GR I) ?_ rfl ?_
      · unfold trA; simp [results, Try.results104, go_sem, c0, c1, c2, c3, c4, y0, y1, y2, y3, y4, y5]
      · exact ⟨rfl, set5B (HB0.out.trans (HBR.out.mono HB0.out.size)) (Nat.le_refl _) _ _ _ _ _⟩
    case pos =>
    have hkl : k < gs.length := by have := HN.out; omega
    have hkm : k < (gs.map fun z => (mkN z : Int)).length := by rw [List.length_map]; exact hkl
    obtain ⟨ad, hA, hbl, hcell⟩ := ints_at (HRG.out wr HBR.out) hkm
    subst hA
    rw [List.getElem_map] at hcell
    have HGK : Hid (gs.getD k [] = gs[k]) := Lib.hid (by rw [List.getD_eq_getElem?_getD, List.getElem?_eq_getElem hkl]; rfl)
    have l4 : mkN gs[k] < 2 ^ 20 := HGB.out _ (List.getElem_mem hkl)
    have HIN : Hid ((mkN gs[k] &&& F) ≠ 0 → grM gs F (k + 1) = grM gs F k ||| 2 ^ k) := Lib.hid (fun e => grM_in (by rw [HGK.out]; exact e))
    have HOUT : Hid ((mkN gs[k] &&& F) = 0 → grM gs F (k + 1) = grM gs F k) := Lib.hid (fun e => grM_out (by rw [HGK.out, e]; simp))
    obtain ⟨gk, hgk⟩ : ∃ gk, mkN gs[k] = gk := ⟨_, rfl⟩
    rw [hgk] at hcell l4 HIN HOUT
    have eab := and_i64t gk F (by omega) (by have := HF2.out; omega)
    obtain ⟨d, hd⟩ : ∃ d, gk &&& F = d := ⟨_, rfl⟩
    rw [hd] at eab HIN HOUT
    obtain ⟨⟨x0, x1, x2, x3, x4⟩, ⟨z0, z1, z2, z3, z4⟩, x5⟩ := tr_facts HTK.out
    clear hd hgk
    by_cases hd0 : d = 0
    case pos =>
      have HTK2 : Hid (wr.ownsRow w1.heap.size 150 5 (.slice (some ⟨b, 0, none⟩) 1 1) 1 [.int .i64 a, .int .i64 nd, .int .i64 (F : Int), .int .i64 (grM gs F (k + 1) : Int), .int .i64 (I : Int)]) := Lib.hid (by rw [HOUT.out hd0]; exact HTK.out)
      subst hd0
      go_wp2
      go_roundw
      case rel => exact ⟨k + 1, by omega, by go_num, HTK2, HBR.out⟩
      case measure => simp [intOf]; omega
    case neg =>
      obtain ⟨G, hG⟩ : ∃ G, grM gs F k = G := ⟨_, rfl⟩
      have hGl : G < 2 ^ 20 := by
        have h1 := grM_lt gs F k
        have h2 : (2 : Nat) ^ k ≤ 2 ^ 20 := Nat.pow_le_pow_right (by decide) (by omega)
        omega
      have hp : 2 ^ k < 2 ^ 20 := Nat.pow_lt_pow_right (by decide) (by omega)
      have HX : bits .or .i64 (G : Int) ((2 : Int) ^ k) = ((G ||| 2 ^ k : Nat) : Int) := by
        have := or_i64_ G (2 ^ k) (by omega) (by omega)
        rw [show ((2 ^ k : Nat) : Int) = (2 : Int) ^ k by simp] at this
        exact this
      have HG1 := Lib.hid (HIN.out hd0)
      rw [hG] at HG1 x3 HTK
      obtain ⟨G2, hG2⟩ : ∃ G2, (G ||| 2 ^ k) = G2 := ⟨_, rfl⟩
      rw [hG2] at HX HG1
      have HTK2 : Hid ((wr.setCell ⟨b, 3, none⟩ (.int .i64 (G2 : Int))).ownsRow w1.heap.size 150 5 (.slice (some ⟨b, 0, none⟩) 1 1) 1 [.int .i64 a, .int .i64 nd, .int .i64 (F : Int), .int .i64 (grM gs F (k + 1) : Int), .int .i64 (I : Int)]) := Lib.hid (by
        have h9 := (HTK.out.stored 3 (.int .i64 (G2 : Int))).1
        rw [HG1.out]
        simpa using h9)
      have HBS : Hid (Below W0.heap.size W0 (wr.setCell ⟨b, 3, none⟩ (.int .i64 (G2 : Int)))) := Lib.hid (HBR.out.setCell (p := ⟨b, 3, none⟩) (Nat.le_trans HB1.out.size HGE.out) _)
      have hw1 : (2 : Int) ^ k ≤ 1048575 := by
        have : ((2 ^ k : Nat) : Int) ≤ 1048575 := by omega
        simpa using this
      have hw0 : 0 ≤ (2 : Int) ^ k := Int.pow_nonneg (by omega)
      have hd1 : ¬ ((d : Int) = 0) := by omega
      have hkI : (0 : Int) ≤ (k : Int) := by omega
      have hk64 : k ≤ 14 := by omega
      clear hG hG2 hp hGl
      go_wp2_with fail
      go_region
      all_goals
        go_wp2_with fail
        go_roundw
        case rel => exact ⟨k + 1, by omega, by go_num, Lib.hid (by first | exact HTK2.out | exact own_heapW rfl HTK2.out), by first | exact HBS.out | exact HBS.out.drew⟩
        case measure => simp [intOf]; omega
end Go.Proofs.Ytkpendpjdemknaa
