/- The fewest sets without which two nodes are not connected: contracts of spec.l6Cut and impl.fewestBetween. Condition: the table of math/bits holds what Go's text lays (on impl's side). -/
import Derived.Test.YtnbeomnlobfpfaaDoorCh
import Derived.Test.YtnbeomnlobfpfaaDoorLst
import Derived.Test.YtnbeomnlobfpfaaDoorGB
import Derived.Test.YtnbeomnlobfpfaaDoorAvP
import Derived.Deep.DeepCutAuto
namespace Go.Proofs.YtnbeomnlobfpfaaDoor
open Go.ChangeShapes Go.WideShapes Go.ChangeAt Go.RowKit

/-- the list of the first of m counts from i on that has one; else another list. -/
def few (g : Nat → Option (List Int)) (alt : List Int) : Nat → Nat → List Int
  | _, 0 => alt
  | i, m + 1 => match g i with
    | some l => l
    | none => few g alt (i + 1) m
theorem few_some {g : Nat → Option (List Int)} {alt l : List Int} {i m : Nat} (h : g i = some l) : few g alt i (m + 1) = l := by rw [few, h]
theorem few_none {g : Nat → Option (List Int)} {alt : List Int} {i m : Nat} (h : g i = none) : few g alt i (m + 1) = few g alt (i + 1) m := by rw [few, h]
theorem few_len {g : Nat → Option (List Int)} {alt : List Int} {B : Nat} (ha : alt.length ≤ B) (hg : ∀ i l, i < B → g i = some l → l.length ≤ B) : ∀ {m i : Nat}, i + m ≤ B → (few g alt i m).length ≤ B
  | 0, _, _ => ha
  | m + 1, i, h => by
    cases hi : g i with
    | none => rw [few_none hi]; exact few_len ha hg (by omega)
    | some l => rw [few_some hi]; exact hg i l (by omega) hi
noncomputable def fewL (fs : List Q4) (x y : Nat) (S : List Nat) : List Int := few (fun c => chs (bdB fs x y) S c 0 0) (selK (fun _ => true) S.length) 0 S.length
theorem fewL_len (fs : List Q4) (x y : Nat) (S : List Nat) : (fewL fs x y S).length ≤ S.length :=
  few_len (sel_len _ _) (fun i l hi h => by rw [chs_len h]; omega) (by omega)
theorem bl_all {n : Nat} (hn : n ≤ 20) : bl (2 ^ n - 1) = selK (fun _ => true) n := by
  rw [bl_sel (n := n) (by omega) (by have := Nat.two_pow_pos n; omega)]
  refine sel_ext fun i hi => ?_
  rw [Nat.testBit_two_pow_sub_one, decide_eq_true hi]
set_option maxRecDepth 100000 in
set_option maxHeartbeats 2000000 in
theorem cut_ {g1 g2 n1 n2 c1 c2 : Nat} {ss : List ByteArray} {fs : List Q4} {w : World} (h : NetAt g1 g2 n1 n2 c1 c2 ss fs w) (hv : netP ss fs) (x y : Nat) (hx : x < n1) (hy : y < n1) {A : Option Addr} {N cc : Nat} {S : List Nat} (hN : S.length = N) (hs : N ≤ 20) (hb : ∀ k, k < N → S.getD k 0 < 2 ^ 20) (hr : Rd w w.heap.size A (S.map fun s : Nat => Value.int .i64 (s : Int))) :
    Calls Tryd.prog 35 #[.agg #[.slice (some ⟨g1, 0, none⟩) n1 c1, .slice (some ⟨g2, 0, none⟩) n2 c2], .int .i64 (x : Int), .int .i64 (y : Int), .slice A N cc] w (IntP (fewL fs x y S) w) := by
  have HNT := Lib.hid h; have HR := Lib.hid hr
  obtain ⟨R, hR⟩ : ∃ r, fewL fs x y S = r := ⟨_, rfl⟩
  obtain ⟨gf, hgf⟩ : ∃ gf : Nat → Option (List Int), (fun c => chs (bdB fs x y) S c 0 0) = gf := ⟨_, rfl⟩
  have HGF : Hid (∀ c, gf c = chs (bdB fs x y) S c 0 0) := Lib.hid (fun c => by rw [← hgf])
  have HR0 : Hid (few gf (selK (fun _ => true) N) 0 (N - 0) = R) := Lib.hid (by rw [← hR, ← hgf, ← hN]; rfl)
  have CC : Hid (∀ (c : Nat) (W : World), c ≤ 21 → Below w.heap.size w W → Calls Tryd.prog 73 #[.agg #[.slice (some ⟨g1, 0, none⟩) n1 c1, .slice (some ⟨g2, 0, none⟩) n2 c2], .int .i64 (x : Int), .int .i64 (y : Int), .slice A N cc, .int .i64 0, .int .i64 (c : Int), .int .i64 0] W (ChP (gf c) W)) := Lib.hid (fun c W hc hW => by
    have h9 := choose_ (cc := cc) hv x y hx hy hN hs hb c hc W (HNT.out.moved hW) (HR.out.moved hW) 0 0 (by omega) (by decide)
    rw [← HGF.out] at h9
    exact h9)
  rw [hR]
  clear h hr hN hb hR hgf hv
  go_enter Tryd.func35, Tryd.ntmps35
  go_wp2_with fail
  obtain ⟨W0, hW0⟩ : ∃ W0, (w.alloc (Obj.cells #[.slice (some ⟨g1, 0, none⟩) n1 c1, .slice (some ⟨g2, 0, none⟩) n2 c2] 32)) = W0 := ⟨_, rfl⟩
  have hb0 : Below w.heap.size w W0 := by rw [← hW0]; exact (Below.refl _ _).alloc (Nat.le_refl _) _
  have k0_0 : W0.cell? ⟨w.heap.size, 0, none⟩ = some (.slice (some ⟨g1, 0, none⟩) n1 c1) := by rw [← hW0]; simp [go_sem]
  have k0_1 : W0.cell? ⟨w.heap.size, 1, none⟩ = some (.slice (some ⟨g2, 0, none⟩) n2 c2) := by rw [← hW0]; simp [go_sem]
  have hz0 : w.heap.size < W0.heap.size := by rw [← hW0]; simp
  have HKB : Hid (∀ W, Below W0.heap.size W0 W → W.cell? ⟨w.heap.size, 0, none⟩ = some (.slice (some ⟨g1, 0, none⟩) n1 c1) ∧ W.cell? ⟨w.heap.size, 1, none⟩ = some (.slice (some ⟨g2, 0, none⟩) n2 c2) ∧ w.heap.size < W.heap.size) := Lib.hid (fun W hW => ⟨(hW.cell (p := ⟨w.heap.size, 0, none⟩) (by show w.heap.size < _; omega)).trans k0_0, (hW.cell (p := ⟨w.heap.size, 1, none⟩) (by show w.heap.size < _; omega)).trans k0_1, Nat.lt_of_lt_of_le hz0 hW.size⟩)
  have HSZ0 : Hid (W0.heap.size = w.heap.size + 1) := Lib.hid (by rw [← hW0]; simp)
  have HB0 := Lib.hid hb0
  rw [hW0]
  clear hW0 hb0 hz0 k0_0 k0_1
  go_wp2
  go_loopw [9] (fun l wr => ∃ i : Nat, i ≤ N ∧ l = .int .i64 i ∧ Hid (few gf (selK (fun _ => true) N) i (N - i) = R) ∧ Below W0.heap.size W0 wr) (fun l _ => N - (intOf l).toNat)
  case atStart => exact ⟨0, Nat.zero_le _, rfl, HR0, Below.refl _ _⟩
  case round =>
    obtain ⟨i, hi, rfl, HF, hb⟩ := hrel
    have HWR := Lib.hid hb
    have HBR := Lib.hid (HB0.out.trans (hb.mono HB0.out.size))
    clear hb
    by_cases hlt : i < N
    case neg =>
      obtain rfl : i = N := by omega
      have HX : Hid (selK (fun _ => true) i = R) := Lib.hid (by have h9 := HF.out; rw [Nat.sub_self] at h9; exact h9)
      have hltI : ¬ (i : Int) < i := by omega
      clear hlt
      go_wp2
      have hszr := HBR.out.size
      have HOL := Lib.hid (lit_rowH (w := wr) rfl w.heap.size hszr)
      have HBL := Lib.hid (HBR.out.alloc hszr (Obj.cells #[] 3))
      go_loopw [12, 13] (fun v l wq => ∃ (k : Nat) (A1 : Option Addr) (N1 d1 : Nat), k ≤ i ∧ l = .int .i64 k ∧ v = .slice A1 N1 d1 ∧ N1 ≤ k ∧ Hid (N1 = (selK (fun _ => true) k).length) ∧ Hid (wq.ownsRow w.heap.size 3 1 (.slice A1 N1 d1) N1 ((selK (fun _ => true) k).map (Value.int .i64))) ∧ Below w.heap.size w wq) (fun _ l _ => i - (intOf l).toNat)
      case atStart => exact ⟨0, _, 0, _, Nat.zero_le _, rfl, rfl, Nat.le_refl _, Lib.hid rfl, HOL, HBL.out⟩
      case round =>
        obtain ⟨k, A1, N1, d1, hk, rfl, rfl, hN1, HN1, HOW, hb⟩ := hrel
        have HBQ := Lib.hid hb
        clear hb
        by_cases hlk : k < i
        case neg =>
          obtain rfl : k = i := by omega
          have hlkI : ¬ (k : Int) < k := by omega
          clear hlk
          go_wp2
          go_ret
          rw [← HX.out]
          exact ⟨A1, N1, d1, rfl, HN1, HOW.out, HBQ.out⟩
        case pos =>
        have hlkI : (k : Int) < i := by omega
        have hsz : w.heap.size ≤ wr.heap.size := HBQ.out.size
        have HTO : Hid (selK (fun _ => true) (k + 1) = selK (fun _ => true) k ++ [(k : Int)]) := Lib.hid (sel_in rfl)
        go_wp2_with (at_builtin; refine wp_app rfl (.tmp 38) (.tmp 40) 27 3 rfl w.heap.size Tryd.underlying27 Tryd.inf_int rfl (by decide) (by decide) _ N1 _ rfl (HOW.out.alloc _) _ _ [.int .i64 (k : Int)] rfl rfl (news1 (new_at_ _ _ _ _ rfl)) (news_int _) (by omega) (by simp; omega) ?_)
        intro A3 d3 N3 w3 hN3 hown3 hgrow3 hloc3
        have HB3 := Lib.hid ((HBQ.out.alloc hsz _).grown hgrow3 (by simp; omega) (fun g hg => (HOW.out.lt g hg).1))
        have HO3 : Hid (w3.ownsRow w.heap.size 3 1 (.slice A3 N3 d3) N3 ((selK (fun _ => true) (k + 1)).map (Value.int .i64))) := Lib.hid (by rw [HTO.out, List.map_append]; exact hown3)
        have HN4 : Hid (N3 = (selK (fun _ => true) (k + 1)).length) := Lib.hid (by rw [HTO.out, List.length_append, ← HN1.out, hN3]; rfl)
        have hN5 : N3 ≤ k + 1 := by omega
        clear hown3 hgrow3 hloc3 hN3
        go_wp2
        go_roundw
        case rel => exact ⟨k + 1, A3, N3, d3, by omega, by go_num, rfl, hN5, HN4, HO3, HB3.out⟩
        case measure => simp [intOf]; omega
    case pos =>
    have hltI : (i : Int) < N := by omega
    have C := Lib.hid (CC.out i wr (by omega) HBR.out)
    obtain ⟨o, ho⟩ : ∃ o, gf i = o := ⟨_, rfl⟩
    rw [ho] at C
    have HO := Lib.hid ho
    clear ho
    obtain ⟨k0, k1, hgz⟩ := HKB.out _ HWR.out
    go_wp2_with fail
    clear k0 k1 hgz
    refine C.out.mono ?_
    rintro e w5 ⟨A9, N9, c9, rfl, HN9, HO9, hb9⟩
    have HW5 := Lib.hid (HWR.out.trans (hb9.mono HWR.out.size))
    have HB5 := Lib.hid (HBR.out.trans (hb9.mono HBR.out.size))
    clear hb9
    cases o
    case none =>
      have HF2 : Hid (few gf (selK (fun _ => true) N) (i + 1) (N - (i + 1)) = R) := Lib.hid (by
        have h9 := HF.out
        rw [show N - i = (N - (i + 1)) + 1 by omega, few_none HO.out] at h9; exact h9)
      go_wp2
      go_roundw
      case rel => exact ⟨i + 1, by omega, by go_num, HF2, HW5.out⟩
      case measure => simp [intOf]; omega
    case some r =>
      have HF2 : Hid (r = R) := Lib.hid (by
        have h9 := HF.out
        rw [show N - i = (N - (i + 1)) + 1 by omega, few_some HO.out] at h9; exact h9)
      go_wp2
      go_ret
      rw [← HF2.out]
      exact ⟨A9, N9, c9, rfl, HN9, own_base HO9.out HBR.out.size, HB5.out⟩
set_option maxRecDepth 100000 in
set_option maxHeartbeats 2000000 in
theorem fewest_ {g1 g2 n1 n2 c1 c2 : Nat} {ss : List ByteArray} {fs : List Q4} {w : World} (h : NetAt g1 g2 n1 n2 c1 c2 ss fs w) (hv : netP ss fs) (x y : Nat) (hx : x < n1) (hy : y < n1) {A : Option Addr} {N cc : Nat} {S : List Nat} (hN : S.length = N) (hs : N ≤ 20) (hb : ∀ k, k < N → S.getD k 0 < 2 ^ 20) (hr : Rd w w.heap.size A (S.map fun s : Nat => Value.int .i64 (s : Int))) (hTab : Tab w) :
    Calls Tryd.prog 40 #[.agg #[.slice (some ⟨g1, 0, none⟩) n1 c1, .slice (some ⟨g2, 0, none⟩) n2 c2], .int .i64 (x : Int), .int .i64 (y : Int), .slice A N cc] w (IntP (fewL fs x y S) w) := by
  have HTB := Lib.hid hTab
  clear hTab
  have HNT := Lib.hid h; have HR := Lib.hid hr
  obtain ⟨R, hR⟩ : ∃ r, fewL fs x y S = r := ⟨_, rfl⟩
  obtain ⟨gf, hgf⟩ : ∃ gf : Nat → Option (List Int), (fun c => chs (bdB fs x y) S c 0 0) = gf := ⟨_, rfl⟩
  have HGF : Hid (∀ c, gf c = chs (bdB fs x y) S c 0 0) := Lib.hid (fun c => by rw [← hgf])
  have HR0 : Hid (few gf (selK (fun _ => true) N) 0 (N - 0) = R) := Lib.hid (by rw [← hR, ← hgf, ← hN]; rfl)
  have CC : Hid (∀ (c : Nat) (W : World), c ≤ 21 → Below w.heap.size w W → Calls Tryd.prog 79 #[.agg #[.slice (some ⟨g1, 0, none⟩) n1 c1, .slice (some ⟨g2, 0, none⟩) n2 c2], .int .i64 (x : Int), .int .i64 (y : Int), .slice A N cc, .int .i64 0, .int .i64 (c : Int), .int .i64 0] W (ChP (gf c) W)) := Lib.hid (fun c W hc hW => by
    have h9 := first_ (cc := cc) hv x y hx hy hN hs hb c hc W (HNT.out.moved hW) (HR.out.moved hW) 0 0 (by omega) (by decide)
    rw [← HGF.out] at h9
    exact h9)
  rw [hR]
  clear h hr hN hb hR hgf hv
  go_enter Tryd.func40, Tryd.ntmps40
  go_wp2_with fail
  obtain ⟨W0, hW0⟩ : ∃ W0, (w.alloc (Obj.cells #[.slice (some ⟨g1, 0, none⟩) n1 c1, .slice (some ⟨g2, 0, none⟩) n2 c2] 32)) = W0 := ⟨_, rfl⟩
  have hb0 : Below w.heap.size w W0 := by rw [← hW0]; exact (Below.refl _ _).alloc (Nat.le_refl _) _
  have k0_0 : W0.cell? ⟨w.heap.size, 0, none⟩ = some (.slice (some ⟨g1, 0, none⟩) n1 c1) := by rw [← hW0]; simp [go_sem]
  have k0_1 : W0.cell? ⟨w.heap.size, 1, none⟩ = some (.slice (some ⟨g2, 0, none⟩) n2 c2) := by rw [← hW0]; simp [go_sem]
  have hz0 : w.heap.size < W0.heap.size := by rw [← hW0]; simp
  have HKB : Hid (∀ W, Below W0.heap.size W0 W → W.cell? ⟨w.heap.size, 0, none⟩ = some (.slice (some ⟨g1, 0, none⟩) n1 c1) ∧ W.cell? ⟨w.heap.size, 1, none⟩ = some (.slice (some ⟨g2, 0, none⟩) n2 c2) ∧ w.heap.size < W.heap.size) := Lib.hid (fun W hW => ⟨(hW.cell (p := ⟨w.heap.size, 0, none⟩) (by show w.heap.size < _; omega)).trans k0_0, (hW.cell (p := ⟨w.heap.size, 1, none⟩) (by show w.heap.size < _; omega)).trans k0_1, Nat.lt_of_lt_of_le hz0 hW.size⟩)
  have HSZ0 : Hid (W0.heap.size = w.heap.size + 1) := Lib.hid (by rw [← hW0]; simp)
  have HB0 := Lib.hid hb0
  rw [hW0]
  clear hW0 hb0 hz0 k0_0 k0_1
  go_wp2
  go_loopw [14] (fun l wr => ∃ i : Nat, i ≤ N ∧ l = .int .i64 i ∧ Hid (few gf (selK (fun _ => true) N) i (N - i) = R) ∧ Below W0.heap.size W0 wr) (fun l _ => N - (intOf l).toNat)
  case atStart => exact ⟨0, Nat.zero_le _, rfl, HR0, Below.refl _ _⟩
  case round =>
    obtain ⟨i, hi, rfl, HF, hb⟩ := hrel
    have HWR := Lib.hid hb
    have HBR := Lib.hid (HB0.out.trans (hb.mono HB0.out.size))
    clear hb
    by_cases hlt : i < N
    case neg =>
      obtain rfl : i = N := by omega
      have HX : Hid (selK (fun _ => true) i = R) := Lib.hid (by have h9 := HF.out; rw [Nat.sub_self] at h9; exact h9)
      have hltI : ¬ (i : Int) < i := by omega
      clear hlt
      obtain ⟨P, hP⟩ : ∃ p, 2 ^ i = p := ⟨_, rfl⟩
      have hsh : ((2 : Int) ^ i) = (P : Int) := by rw [← hP]; simp
      have hP20 : P ≤ 2 ^ 20 := by rw [← hP]; exact Nat.pow_le_pow_right (by decide) hs
      have hP0 : 1 ≤ P := by rw [← hP]; exact Nat.one_le_two_pow
      have CL := Lib.hid (listOf_ (P - 1) wr (by omega) (HTB.out.over HBR.out))
      rw [show bl (P - 1) = R by rw [← hP, bl_all hs]; exact HX.out, show ((P - 1 : Nat) : Int) = (P : Int) - 1 by omega] at CL
      clear hP
      go_wp2_with fail
      refine CL.out.mono ?_
      rintro e w5 ⟨A9, N9, c9, rfl, HN9, ho9, hb9⟩
      have HB5 := Lib.hid (HBR.out.trans (hb9.mono HBR.out.size))
      have HO9 := Lib.hid (own_base ho9 HBR.out.size)
      clear ho9 hb9
      go_wp2
      go_ret
      exact ⟨A9, N9, c9, rfl, HN9, HO9.out, HB5.out⟩
    case pos =>
    have hltI : (i : Int) < N := by omega
    have C := Lib.hid (CC.out i wr (by omega) HBR.out)
    obtain ⟨o, ho⟩ : ∃ o, gf i = o := ⟨_, rfl⟩
    rw [ho] at C
    have HO := Lib.hid ho
    clear ho
    obtain ⟨k0, k1, hgz⟩ := HKB.out _ HWR.out
    go_wp2_with fail
    clear k0 k1 hgz
    refine C.out.mono ?_
    rintro e w5 ⟨A9, N9, c9, rfl, HN9, HO9, hb9⟩
    have HW5 := Lib.hid (HWR.out.trans (hb9.mono HWR.out.size))
    have HB5 := Lib.hid (HBR.out.trans (hb9.mono HBR.out.size))
    clear hb9
    cases o
    case none =>
      have HF2 : Hid (few gf (selK (fun _ => true) N) (i + 1) (N - (i + 1)) = R) := Lib.hid (by
        have h9 := HF.out
        rw [show N - i = (N - (i + 1)) + 1 by omega, few_none HO.out] at h9; exact h9)
      go_wp2
      go_roundw
      case rel => exact ⟨i + 1, by omega, by go_num, HF2, HW5.out⟩
      case measure => simp [intOf]; omega
    case some r =>
      have HF2 : Hid (r = R) := Lib.hid (by
        have h9 := HF.out
        rw [show N - i = (N - (i + 1)) + 1 by omega, few_some HO.out] at h9; exact h9)
      go_wp2
      go_ret
      rw [← HF2.out]
      exact ⟨A9, N9, c9, rfl, HN9, own_base HO9.out HBR.out.size, HB5.out⟩
end Go.Proofs.YtnbeomnlobfpfaaDoor
