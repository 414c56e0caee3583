/- The first list of sets without which two nodes are not connected: contracts of spec.l6Choose and impl.firstBetween. No condition but those typed. -/
import Derived.Test.YtnbeomnlobfpfaaDoorLab
import Derived.Test.YtnbeomnlobfpfaaDoorRch
import Derived.Test.YtnbeomnlobfpfaaDoorPut
import Derived.Test.YtnbeomnlobfpfaaDoorOwn
import Derived.Test.YtnbeomnlobfpfaaDoorGB
import Derived.Test.YtnbeomnlobfpfaaDoorFail
import Derived.Test.YtnbeomnlobfpfaaDoorGA
import Derived.Laws.AppendOwnNone
import Derived.Deep.CutBlock
import Derived.Deep.DeepCutAuto
namespace Go.Proofs.YtnbeomnlobfpfaaDoor
open Go.ChangeShapes Go.WideShapes Go.ChangeAt Go.RowKit

/-- the first of m numbers from i on for which f has a list. -/
def srch (f : Nat → Option (List Int)) : Nat → Nat → Option (List Int)
  | _, 0 => none
  | i, m + 1 => match f i with
    | some r => some ((i : Int) :: r)
    | none => srch f (i + 1) m
theorem srch_some {f : Nat → Option (List Int)} {i m : Nat} {r : List Int} (h : f i = some r) : srch f i (m + 1) = some ((i : Int) :: r) := by rw [srch, h]
theorem srch_none {f : Nat → Option (List Int)} {i m : Nat} (h : f i = none) : srch f i (m + 1) = srch f (i + 1) m := by rw [srch, h]
def chs (bad : Nat → Bool) (S : List Nat) : Nat → Nat → Nat → Option (List Int)
  | 0, _, gone => if bad gone then some [] else none
  | c + 1, first, gone => srch (fun i => chs bad S c (i + 1) (gone ||| S.getD i 0)) first (S.length - c - first)
theorem srch_len {f : Nat → Option (List Int)} {n : Nat} (hf : ∀ i r, f i = some r → r.length = n) : ∀ {m i : Nat} {r : List Int}, srch f i m = some r → r.length = n + 1
  | 0, _, _, h => by cases h
  | m + 1, i, r, h => by
    cases hi : f i with
    | none => rw [srch_none hi] at h; exact srch_len hf h
    | some q =>
      rw [srch_some hi] at h
      cases h
      rw [List.length_cons, hf i q hi]
theorem chs_len {bad : Nat → Bool} {S : List Nat} : ∀ {c first gone : Nat} {r : List Int}, chs bad S c first gone = some r → r.length = c
  | 0, _, gone, r, h => by
    unfold chs at h
    split at h
    · cases h; rfl
    · cases h
  | c + 1, first, gone, r, h => srch_len (fun _ _ h9 => chs_len h9) h
noncomputable def bdB (fs : List Q4) (x y : Nat) (gone : Nat) : Bool := !pb (Cn fs gone (x : Int) (y : Int))
theorem chs_zero {bad : Nat → Bool} {S : List Nat} {first gone : Nat} {b : Bool} (h : bad gone = b) : chs bad S 0 first gone = if b then some [] else none := by rw [chs, h]
def ChP (o : Option (List Int)) (w : World) (e : Ending) (w' : World) : Prop :=
  ∃ (A : Option Addr) (N c : Nat), e = .returned (.tuple #[.slice A N c, .bool o.isSome]) ∧ Hid (N = (o.getD []).length) ∧ Hid (w'.ownsRow w.heap.size 3 1 (.slice A N c) N ((o.getD []).map (Value.int .i64))) ∧ Below w.heap.size w w'
theorem row_of {w : World} {x : Int} {H : Nat} (hH : w.heap.size = H) (base : Nat) (hb : base ≤ w.heap.size) : (w.alloc (Obj.cells #[.int .i64 x] 3)).ownsRow base 3 1 (.slice (some ⟨H, 0, none⟩) 1 1) 1 [.int .i64 x] := by
  subst hH
  have h9 := World.ownsRow_lit (base := base) (e := 3) (size := 1) w #[.int .i64 x] 1 hb (by unfold maxLen; omega) rfl
  simpa using h9
theorem or_i64c (a b : Nat) (ha : a < 2 ^ 20) (hb : b < 2 ^ 20) : bits .or .i64 (a : Int) (b : Int) = ((a ||| b : Nat) : Int) := or_i64_ a b (by omega) (by omega)
set_option maxRecDepth 100000 in
set_option maxHeartbeats 8000000 in
theorem choose_ {g1 g2 n1 n2 c1 c2 : Nat} {ss : List ByteArray} {fs : List Q4} (hv : netP ss fs) (x y : Nat) (hx : x < n1) (hy : y < n1) {A : Option Addr} {N cc : Nat} {S : List Nat} (hN : S.length = N) (hs : N ≤ 20) (hb : ∀ k, k < N → S.getD k 0 < 2 ^ 20) :
    ∀ (c : Nat), c ≤ 21 → ∀ (w : World), NetAt g1 g2 n1 n2 c1 c2 ss fs w → Rd w w.heap.size A (S.map fun s : Nat => Value.int .i64 (s : Int)) → ∀ (first gone : Nat), first ≤ 21 → gone < 2 ^ 20 →
    Calls Tryd.prog 73 #[.agg #[.slice (some ⟨g1, 0, none⟩) n1 c1, .slice (some ⟨g2, 0, none⟩) n2 c2], .int .i64 (x : Int), .int .i64 (y : Int), .slice A N cc, .int .i64 (first : Int), .int .i64 (c : Int), .int .i64 (gone : Int)] w (ChP (chs (bdB fs x y) S c first gone) w) := by
  intro c
  induction c with
  | zero =>
    intro _ w h hr first gone hfi hgo
    have HNT := Lib.hid h; have HV := Lib.hid hv; have HL1 := Lib.hid h.ln1
    obtain ⟨q, hq⟩ : ∃ q, pb (Cn fs gone (x : Int) (y : Int)) = q := ⟨_, rfl⟩
    have HCZ : Hid (chs (bdB fs x y) S 0 first gone = if (!q) then some [] else none) := Lib.hid (chs_zero (by unfold bdB; rw [hq]))
    obtain ⟨O, hO⟩ : ∃ o, (if (!q) then some [] else none : Option (List Int)) = o := ⟨_, rfl⟩
    rw [HCZ.out, hO]
    have HOZ := Lib.hid hO
    clear hO
    have HQ := Lib.hid hq
    clear h hr hq hb
    go_enter Tryd.func73, Tryd.ntmps73
    go_wp2_with fail
    obtain ⟨W0, hW0⟩ : ∃ W0, (w.alloc (Obj.cells #[.slice (some ⟨g1, 0, none⟩) n1 c1, .slice (some ⟨g2, 0, none⟩) n2 c2] 32)) = W0 := ⟨_, rfl⟩
    have hb0 : Below w.heap.size w W0 := by rw [← hW0]; exact (Below.refl _ _).alloc (Nat.le_refl _) _
    have k0_0 : W0.cell? ⟨w.heap.size, 0, none⟩ = some (.slice (some ⟨g1, 0, none⟩) n1 c1) := by rw [← hW0]; simp [go_sem]
    have k0_1 : W0.cell? ⟨w.heap.size, 1, none⟩ = some (.slice (some ⟨g2, 0, none⟩) n2 c2) := by rw [← hW0]; simp [go_sem]
    have hz0 : w.heap.size < W0.heap.size := by rw [← hW0]; simp
    have HKB : Hid (∀ W, Below W0.heap.size W0 W → W.cell? ⟨w.heap.size, 0, none⟩ = some (.slice (some ⟨g1, 0, none⟩) n1 c1) ∧ W.cell? ⟨w.heap.size, 1, none⟩ = some (.slice (some ⟨g2, 0, none⟩) n2 c2) ∧ w.heap.size < W.heap.size) := Lib.hid (fun W hW => ⟨(hW.cell (p := ⟨w.heap.size, 0, none⟩) (by show w.heap.size < _; omega)).trans k0_0, (hW.cell (p := ⟨w.heap.size, 1, none⟩) (by show w.heap.size < _; omega)).trans k0_1, Nat.lt_of_lt_of_le hz0 hW.size⟩)
    have HSZ0 : Hid (W0.heap.size = w.heap.size + 1) := Lib.hid (by rw [← hW0]; simp)
    have HB0 := Lib.hid hb0
    rw [hW0]
    clear hW0 hb0 hz0 k0_0 k0_1
    refine (labels_ (HNT.out.moved HB0.out) HV.out gone hgo).mono ?_
    rintro e w1 ⟨L, A9, N9, c9, rfl, HN9, HL9, ho9, hb1⟩
    have HB1 := Lib.hid (HB0.out.trans (hb1.mono HB0.out.size))
    have HR9 := Lib.hid (Rd.ofOwn ho9)
    clear hb1 ho9
    obtain ⟨ad, hA, hbl, cx⟩ := ints_at HR9.out (k := x) (by rw [HL9.out.len]; exact hx)
    obtain ⟨ad2, hA2, _, cy⟩ := ints_at HR9.out (k := y) (by rw [HL9.out.len]; exact hy)
    subst hA
    obtain rfl : ad = ad2 := by injection hA2
    clear hA2
    have HSM := Lib.hid (HL9.out.same (i := x) (j := y) hx hy)
    have ex : L[x]'(by rw [HL9.out.len]; exact hx) = L.getD x 0 := by rw [List.getD_eq_getElem?_getD, List.getElem?_eq_getElem (by rw [HL9.out.len]; exact hx)]; rfl
    have ey : L[y]'(by rw [HL9.out.len]; exact hy) = L.getD y 0 := by rw [List.getD_eq_getElem?_getD, List.getElem?_eq_getElem (by rw [HL9.out.len]; exact hy)]; rfl
    rw [ex] at cx; rw [ey] at cy
    obtain ⟨lx, hlx⟩ : ∃ z, L.getD x 0 = z := ⟨_, rfl⟩
    obtain ⟨ly, hly⟩ : ∃ z, L.getD y 0 = z := ⟨_, rfl⟩
    rw [hlx] at cx HSM; rw [hly] at cy HSM
    have hxN : (x : Int) < N9 := by have := HN9.out; omega
    have hyN : (y : Int) < N9 := by have := HN9.out; omega
    have hx0 : 0 ≤ (x : Int) := by omega
    have hy0 : 0 ≤ (y : Int) := by omega
    obtain ⟨p, hp⟩ : ∃ p, (lx != ly) = p := ⟨_, rfl⟩
    have HPQ : Hid ((!q) = p) := Lib.hid (by
      rw [← HQ.out, ← hp]
      by_cases e : lx = ly
      · rw [pb_true (HSM.out.1 e)]; simp [e]
      · rw [pb_false (fun h9 => e (HSM.out.2 h9))]; simp [e])
    clear ex ey hlx hly
    have HOZ2 : Hid ((if p then some [] else none : Option (List Int)) = O) := Lib.hid (by rw [← HPQ.out]; exact HOZ.out)
    go_wp2_with fail
    go_region_held3 (fun U => U.cell? (ad.add x) = some (.int .i64 lx) ∧ U.cell? (ad.add y) = some (.int .i64 ly)) (go_keep) (fail)
    all_goals
      go_wp2_with fail
      go_ret2
      cases p
      · obtain rfl : none = O := HOZ2.out
        exact ⟨_, 0, _, rfl, Lib.hid rfl, Lib.hid (lit_rowH rfl _ HB1.out.size), (HB1.out.alloc HB1.out.size _).drew⟩
      · obtain rfl : some [] = O := HOZ2.out
        exact ⟨_, 0, _, rfl, Lib.hid rfl, Lib.hid (lit_rowH rfl _ HB1.out.size), (HB1.out.alloc HB1.out.size _).drew⟩
  | succ c ih =>
    intro hc w h hr first gone hfi hgo
    have HNT := Lib.hid h; have HV := Lib.hid hv; have HR := Lib.hid hr; have HNS := Lib.hid hN; have HSB := Lib.hid hb
    have IH := Lib.hid (ih (by omega))
    have hgI := info_parts Tryd.inf_int
    obtain ⟨i0, hi, hz0_, hz1_, hz2_⟩ := hgI
    have HI := Lib.hid hi; have HZ0 := Lib.hid hz0_; have HZ1 := Lib.hid hz1_; have HZ2 := Lib.hid hz2_
    obtain ⟨O, hO⟩ : ∃ o, chs (bdB fs x y) S (c + 1) first gone = o := ⟨_, rfl⟩
    obtain ⟨fx, hfx⟩ : ∃ fx : Nat → Option (List Int), (fun i => chs (bdB fs x y) S c (i + 1) (gone ||| S.getD i 0)) = fx := ⟨_, rfl⟩
    have HFX : Hid (∀ i, fx i = chs (bdB fs x y) S c (i + 1) (gone ||| S.getD i 0)) := Lib.hid (fun i => by rw [← hfx])
    have HO0 : Hid (srch fx first (N - c - first) = O) := Lib.hid (by rw [← hO, ← hfx, ← hN]; rfl)
    obtain ⟨ci, hci⟩ : ∃ z : Int, ((c + 1 : Nat) : Int) = z := ⟨_, rfl⟩
    rw [hO, hci]
    have hc0 : ¬ ci = 0 := by omega
    have hc1 : (ci == 0) = false := beq_eq_false_iff_ne.2 hc0
    have HCC : Hid (ci - 1 = (c : Int)) := Lib.hid (by omega)
    have hcb1 : 1 ≤ ci := by omega
    have hcb2 : ci ≤ 21 := by omega
    have HCI : Hid (((c + 1 : Nat) : Int) = ci) := Lib.hid hci
    clear hci
    clear h hr hN hb ih hi hz0_ hz1_ hz2_ hO hfx hv
    go_enter Tryd.func73, Tryd.ntmps73
    go_wp2_with fail
    obtain ⟨W0, hW0⟩ : ∃ W0, (w.alloc (Obj.cells #[.slice (some ⟨g1, 0, none⟩) n1 c1, .slice (some ⟨g2, 0, none⟩) n2 c2] 32)) = W0 := ⟨_, rfl⟩
    have hb0 : Below w.heap.size w W0 := by rw [← hW0]; exact (Below.refl _ _).alloc (Nat.le_refl _) _
    have k0_0 : W0.cell? ⟨w.heap.size, 0, none⟩ = some (.slice (some ⟨g1, 0, none⟩) n1 c1) := by rw [← hW0]; simp [go_sem]
    have k0_1 : W0.cell? ⟨w.heap.size, 1, none⟩ = some (.slice (some ⟨g2, 0, none⟩) n2 c2) := by rw [← hW0]; simp [go_sem]
    have hz0 : w.heap.size < W0.heap.size := by rw [← hW0]; simp
    have HKB : Hid (∀ W, Below W0.heap.size W0 W → W.cell? ⟨w.heap.size, 0, none⟩ = some (.slice (some ⟨g1, 0, none⟩) n1 c1) ∧ W.cell? ⟨w.heap.size, 1, none⟩ = some (.slice (some ⟨g2, 0, none⟩) n2 c2) ∧ w.heap.size < W.heap.size) := Lib.hid (fun W hW => ⟨(hW.cell (p := ⟨w.heap.size, 0, none⟩) (by show w.heap.size < _; omega)).trans k0_0, (hW.cell (p := ⟨w.heap.size, 1, none⟩) (by show w.heap.size < _; omega)).trans k0_1, Nat.lt_of_lt_of_le hz0 hW.size⟩)
    have HSZ0 : Hid (W0.heap.size = w.heap.size + 1) := Lib.hid (by rw [← hW0]; simp)
    have HB0 := Lib.hid hb0
    rw [hW0]
    clear hW0 hb0 hz0 k0_0 k0_1
    have HZW : Hid (Below W0.heap.size W0 W0) := Lib.hid (Below.refl _ _)
    go_loopw [17] (fun l wr => ∃ i : Nat, i ≤ 42 ∧ l = .int .i64 i ∧ Hid (srch fx i (N - c - i) = O) ∧ Below W0.heap.size W0 wr) (fun l _ => 60 - (intOf l).toNat)
    case atStart => exact ⟨first, by omega, rfl, HO0, HZW.out⟩
    case round =>
      obtain ⟨i, hi42, rfl, HSR, hb⟩ := hrel
      have HWR := Lib.hid hb
      have HBR := Lib.hid (HB0.out.trans (hb.mono HB0.out.size))
      clear hb
      by_cases hle : i + (c + 1) ≤ N
      case neg =>
        have hleI : ¬ (i : Int) + ci ≤ N := by have := HCI.out; omega
        have HNO : Hid (none = O) := Lib.hid (by have h9 := HSR.out; rw [show N - c - i = 0 by omega] at h9; exact h9)
        clear hle
        go_wp2
        go_ret2
        rw [← HNO.out]
        exact ⟨_, 0, _, rfl, Lib.hid rfl, Lib.hid (lit_rowH rfl _ HBR.out.size), HBR.out.alloc HBR.out.size _⟩
      case pos =>
      have hleI : (i : Int) + ci ≤ N := by have := HCI.out; omega
      have hiS : i < S.length := by have := HNS.out; omega
      have hSi := HSB.out i (by omega)
      obtain ⟨s, hsi⟩ : ∃ s, S.getD i 0 = s := ⟨_, rfl⟩
      rw [hsi] at hSi
      obtain ⟨ad, hA, hbl, hcell⟩ := HR.out i (.int .i64 (s : Int)) (by rw [List.getElem?_map, List.getElem?_eq_getElem hiS, ← hsi, List.getD_eq_getElem?_getD, List.getElem?_eq_getElem hiS]; rfl)
      subst hA
      rw [← HBR.out.cell (by rw [addBlock]; exact hbl)] at hcell
      have hadb : (ad.add i).block < wr.heap.size := by rw [addBlock]; exact Nat.lt_of_lt_of_le hbl HBR.out.size
      have hor := or_i64c gone s hgo hSi
      have hg2 : gone ||| s < 2 ^ 20 := Nat.or_lt_two_pow hgo hSi
      obtain ⟨o, ho⟩ : ∃ o, fx i = o := ⟨_, rfl⟩
      have HFI : Hid (chs (bdB fs x y) S c (i + 1) (gone ||| s) = o) := Lib.hid (by rw [← ho, HFX.out, hsi])
      have HM : Hid (∃ m, N - c - i = m + 1 ∧ N - c - (i + 1) = m) := Lib.hid ⟨N - c - i - 1, by omega, by omega⟩
      have HOF := Lib.hid ho
      have CC : Hid (∀ U, Bel wr U → Calls Tryd.prog 73 #[.agg #[.slice (some ⟨g1, 0, none⟩) n1 c1, .slice (some ⟨g2, 0, none⟩) n2 c2], .int .i64 (x : Int), .int .i64 (y : Int), .slice (some ad) N cc, .int .i64 ((i : Int) + 1), .int .i64 (ci - 1), .int .i64 ((gone ||| s : Nat) : Int)] U (ChP o U)) := Lib.hid (fun U hU => by
        have h9 := IH.out U ((HNT.out.moved HBR.out).moved hU.out) ((HR.out.moved HBR.out).moved hU.out) (i + 1) (gone ||| s) (by omega) hg2
        rw [HFI.out, show ((i + 1 : Nat) : Int) = (i : Int) + 1 by omega, ← HCC.out] at h9
        exact h9)
      obtain ⟨g9, hg9⟩ : ∃ g9, gone ||| s = g9 := ⟨_, rfl⟩
      rw [hg9] at hor CC
      obtain ⟨k0, k1, hgz⟩ := HKB.out _ HWR.out
      have hiN : (i : Int) < N := by omega
      have hi1 : IntKind.i64.wrap ((i : Int) + 1) = (i : Int) + 1 := IntWalk.i64_in _ (by omega)
      have hcw : IntKind.i64.wrap (ci - 1) = ci - 1 := IntWalk.i64_in _ (by omega)
      clear hsi hg9 hbl ho hSi hg2 hiS hle
      have hbd : Bel wr wr.drew := Bel.of (Below.refl _ _).drew
      go_upto_block 0 with fail
      go_cut [18, 19] (fun sa sb wx => ∃ (A9 : Option Addr) (N9 c9 : Nat), sa = .slice A9 N9 c9 ∧ sb = .bool o.isSome ∧ Hid (N9 = (o.getD []).length) ∧ Hid (wx.ownsRow wr.heap.size 3 1 (.slice A9 N9 c9) N9 ((o.getD []).map (Value.int .i64))) ∧ Bel wr wx)
      case first =>
        go_upto_region 7 with fail
        go_region_held3 (fun U => U.cell? ⟨w.heap.size, 0, none⟩ = some (.slice (some ⟨g1, 0, none⟩) n1 c1) ∧ U.cell? ⟨w.heap.size, 1, none⟩ = some (.slice (some ⟨g2, 0, none⟩) n2 c2) ∧ U.cell? (ad.add i) = some (.int .i64 (s : Int)) ∧ Bel wr U)
          (first | (go_keep; done) | (go_split_ands; (refine ⟨?_, ?_, ?_, ?_⟩ <;> first | assumption | exact Bel.step (by assumption) hb9 | exact (Bel.at_ (by assumption) hb9 (by assumption)).trans (by assumption) | exact (hb9.cell (Nat.lt_of_lt_of_le hadb (Bel.out (by assumption)).size)).trans (by assumption))))
          (first
            | (go_at_call 73; go_split_ands; (with_reducible refine (CC.out _ (by assumption)).mono ?_); rintro e u1 ⟨A9, N9, c9, rfl, HN9, HO9, hb9⟩; have HO8 := Lib.hid (own_base HO9.out (Bel.out (by assumption)).size)))
        all_goals
          go_split_ands
          have hbl9 : Bel wr u1 := by assumption
          go_wp2_with fail
          go_meet
          exact ⟨A9, N9, c9, rfl, rfl, HN9, HO8, hbl9⟩
      case rest =>
      clear hbd k0 k1 hgz hcell hadb hor hi1 hcw
      revert hcut; generalize wc = w5; intro hcut
      obtain ⟨A9, N9, c9, h0_, h1_, HN9, HO9, hb9⟩ := hcut
      subst h0_ h1_
      have HW5 := Lib.hid (HWR.out.trans ((Bel.out hb9).mono HWR.out.size))
      have HB5 := Lib.hid (HBR.out.trans ((Bel.out hb9).mono HBR.out.size))
      clear hb9
      cases o
      case none =>
        have HSR2 : Hid (srch fx (i + 1) (N - c - (i + 1)) = O) := Lib.hid (by
          obtain ⟨m, h1, h2⟩ := HM.out
          rw [h2, ← srch_none (m := m) HOF.out, ← h1]; exact HSR.out)
        go_wp2
        go_roundw
        case rel => exact ⟨i + 1, by omega, by go_num, HSR2, HW5.out⟩
        case measure => simp [intOf]; omega
      case some r =>
        have HOS : Hid (some ((i : Int) :: r) = O) := Lib.hid (by
          obtain ⟨m, h1, h2⟩ := HM.out
          rw [← srch_some (m := m) HOF.out, ← h1]; exact HSR.out)
        have HN8 : Hid (N9 = r.length) := HN9
        have HO7 : Hid (w5.ownsRow w.heap.size 3 1 (.slice A9 N9 c9) N9 (r.map (Value.int .i64))) := Lib.hid (own_base HO9.out HBR.out.size)
        have hsz5 := HB5.out.size
        have hrl : N9 ≤ 1048576 := by rw [HN8.out, chs_len HFI.out]; omega
        cases A9
        case none =>
          obtain ⟨rfl, rfl⟩ : N9 = 0 ∧ c9 = 0 := by
            rcases HO7.out.2 with ⟨h9, _⟩ | ⟨g9, cap, cur, h9, _⟩
            · injection h9 with _ h8 h7; exact ⟨h8, h7⟩
            · injection h9 with h8; cases h8
          have hr0 : r = [] := List.eq_nil_of_length_eq_zero HN8.out.symm
          go_wp2_with (at_builtin; refine wpList_append_own_none rfl (.tmp 64) (.tmp 65) 27 rfl w.heap.size 3 i0 1 Tryd.underlying27 HI.out (.slice (some ⟨w5.heap.size, 0, none⟩) 1 1) 1 [.int .i64 (i : Int)] rfl (row_of rfl _ hsz5) rfl ?_)
          go_wp2
          go_ret2
          rw [← HOS.out, hr0]
          exact ⟨_, 1, _, rfl, Lib.hid rfl, Lib.hid (row_of rfl _ hsz5), HB5.out.alloc hsz5 _⟩
        case some ad9 =>
          go_wp2_with (at_builtin; refine wpList_append_own _ rfl (.tmp 64) (.tmp 65) 27 rfl w.heap.size 3 i0 (.int .i64 0) 1 8 Tryd.underlying27 HI.out HZ0.out HZ1.out HZ2.out rfl (by decide) (.slice (some ⟨w5.heap.size, 0, none⟩) 1 1) 1 [.int .i64 (i : Int)] rfl (row_of rfl _ hsz5) ad9 N9 c9 (r.map (Value.int .i64)) rfl (by rw [List.length_map, Nat.mul_one]; exact HN8.out.symm) (fun j u hu => by
            obtain ⟨a9, e9, _, h9⟩ := Rd.ofOwn (ownB HO7.out ((Below.refl w5.heap.size w5).alloc (Nat.le_refl _) _)) j u hu
            rw [Option.some.inj e9]; exact h9) (news_ints _) (by unfold maxLen; omega) (by omega) (by simp; omega) ?_)
          intro v7 w7 hown7 hgrow7 _
          have HB7 := Lib.hid ((HB5.out.alloc hsz5 (Obj.cells #[.int .i64 (i : Int)] 3)).grown hgrow7 (by simp; omega) (fun g hg => Nat.le_trans hsz5 (Nat.le_of_eq (by simpa [Value.ownBlock] using hg))))
          obtain ⟨A7, c7, rfl⟩ := formOf hown7
          have HO6 := Lib.hid hown7
          clear hown7 hgrow7
          go_wp2
          go_ret2
          rw [← HOS.out]
          exact ⟨A7, _, c7, rfl, Lib.hid (by show 1 + N9 = (((i : Int) :: r)).length; rw [List.length_cons, HN8.out, Nat.add_comm]), HO6, HB7.out⟩
set_option maxRecDepth 100000 in
set_option maxHeartbeats 8000000 in
theorem first_ {g1 g2 n1 n2 c1 c2 : Nat} {ss : List ByteArray} {fs : List Q4} (hv : netP ss fs) (x y : Nat) (hx : x < n1) (hy : y < n1) {A : Option Addr} {N cc : Nat} {S : List Nat} (hN : S.length = N) (hs : N ≤ 20) (hb : ∀ k, k < N → S.getD k 0 < 2 ^ 20) :
    ∀ (c : Nat), c ≤ 21 → ∀ (w : World), NetAt g1 g2 n1 n2 c1 c2 ss fs w → Rd w w.heap.size A (S.map fun s : Nat => Value.int .i64 (s : Int)) → ∀ (first gone : Nat), first ≤ 21 → gone < 2 ^ 20 →
    Calls Tryd.prog 79 #[.agg #[.slice (some ⟨g1, 0, none⟩) n1 c1, .slice (some ⟨g2, 0, none⟩) n2 c2], .int .i64 (x : Int), .int .i64 (y : Int), .slice A N cc, .int .i64 (first : Int), .int .i64 (c : Int), .int .i64 (gone : Int)] w (ChP (chs (bdB fs x y) S c first gone) w) := by
  intro c
  induction c with
  | zero =>
    intro _ w h hr first gone hfi hgo
    have HNT := Lib.hid h; have HV := Lib.hid hv; have HL1 := Lib.hid h.ln1
    obtain ⟨q, hq⟩ : ∃ q, pb (Cn fs gone (x : Int) (y : Int)) = q := ⟨_, rfl⟩
    have HCZ : Hid (chs (bdB fs x y) S 0 first gone = if (!q) then some [] else none) := Lib.hid (chs_zero (by unfold bdB; rw [hq]))
    obtain ⟨O, hO⟩ : ∃ o, (if (!q) then some [] else none : Option (List Int)) = o := ⟨_, rfl⟩
    rw [HCZ.out, hO]
    have HOZ := Lib.hid hO
    clear hO
    have HQ := Lib.hid hq
    clear h hr hq hb
    go_enter Tryd.func79, Tryd.ntmps79
    go_wp2_with fail
    obtain ⟨W0, hW0⟩ : ∃ W0, (w.alloc (Obj.cells #[.slice (some ⟨g1, 0, none⟩) n1 c1, .slice (some ⟨g2, 0, none⟩) n2 c2] 32)) = W0 := ⟨_, rfl⟩
    have hb0 : Below w.heap.size w W0 := by rw [← hW0]; exact (Below.refl _ _).alloc (Nat.le_refl _) _
    have k0_0 : W0.cell? ⟨w.heap.size, 0, none⟩ = some (.slice (some ⟨g1, 0, none⟩) n1 c1) := by rw [← hW0]; simp [go_sem]
    have k0_1 : W0.cell? ⟨w.heap.size, 1, none⟩ = some (.slice (some ⟨g2, 0, none⟩) n2 c2) := by rw [← hW0]; simp [go_sem]
    have hz0 : w.heap.size < W0.heap.size := by rw [← hW0]; simp
    have HKB : Hid (∀ W, Below W0.heap.size W0 W → W.cell? ⟨w.heap.size, 0, none⟩ = some (.slice (some ⟨g1, 0, none⟩) n1 c1) ∧ W.cell? ⟨w.heap.size, 1, none⟩ = some (.slice (some ⟨g2, 0, none⟩) n2 c2) ∧ w.heap.size < W.heap.size) := Lib.hid (fun W hW => ⟨(hW.cell (p := ⟨w.heap.size, 0, none⟩) (by show w.heap.size < _; omega)).trans k0_0, (hW.cell (p := ⟨w.heap.size, 1, none⟩) (by show w.heap.size < _; omega)).trans k0_1, Nat.lt_of_lt_of_le hz0 hW.size⟩)
    have HSZ0 : Hid (W0.heap.size = w.heap.size + 1) := Lib.hid (by rw [← hW0]; simp)
    have HB0 := Lib.hid hb0
    rw [hW0]
    clear hW0 hb0 hz0 k0_0 k0_1
    have CA := Lib.hid (areCon_ (HNT.out.moved HB0.out) HV.out x y gone hx hy hgo)
    rw [HQ.out] at CA
    refine CA.out.mono ?_
    rintro e w1 ⟨rfl, hb1⟩
    have HB1 := Lib.hid (HB0.out.trans (hb1.mono HB0.out.size))
    clear hb1
    cases q
    case false =>
      obtain rfl : some [] = O := HOZ.out
      go_wp2
      go_ret2
      exact ⟨none, 0, 0, rfl, Lib.hid rfl, Lib.hid (World.ownsRow_nil _ _ _ _), HB1.out⟩
    case true =>
      obtain rfl : none = O := HOZ.out
      go_wp2
      go_ret2
      exact ⟨none, 0, 0, rfl, Lib.hid rfl, Lib.hid (World.ownsRow_nil _ _ _ _), HB1.out⟩
  | succ c ih =>
    intro hc w h hr first gone hfi hgo
    have HNT := Lib.hid h; have HV := Lib.hid hv; have HR := Lib.hid hr; have HNS := Lib.hid hN; have HSB := Lib.hid hb
    have IH := Lib.hid (ih (by omega))
    have hgI := info_parts Tryd.inf_int
    obtain ⟨i0, hi, hz0_, hz1_, hz2_⟩ := hgI
    have HI := Lib.hid hi; have HZ0 := Lib.hid hz0_; have HZ1 := Lib.hid hz1_; have HZ2 := Lib.hid hz2_
    obtain ⟨O, hO⟩ : ∃ o, chs (bdB fs x y) S (c + 1) first gone = o := ⟨_, rfl⟩
    obtain ⟨fx, hfx⟩ : ∃ fx : Nat → Option (List Int), (fun i => chs (bdB fs x y) S c (i + 1) (gone ||| S.getD i 0)) = fx := ⟨_, rfl⟩
    have HFX : Hid (∀ i, fx i = chs (bdB fs x y) S c (i + 1) (gone ||| S.getD i 0)) := Lib.hid (fun i => by rw [← hfx])
    have HO0 : Hid (srch fx first (N - c - first) = O) := Lib.hid (by rw [← hO, ← hfx, ← hN]; rfl)
    obtain ⟨ci, hci⟩ : ∃ z : Int, ((c + 1 : Nat) : Int) = z := ⟨_, rfl⟩
    rw [hO, hci]
    have hc0 : ¬ ci = 0 := by omega
    have hc1 : (ci == 0) = false := beq_eq_false_iff_ne.2 hc0
    have HCC : Hid (ci - 1 = (c : Int)) := Lib.hid (by omega)
    have hcb1 : 1 ≤ ci := by omega
    have hcb2 : ci ≤ 21 := by omega
    have HCI : Hid (((c + 1 : Nat) : Int) = ci) := Lib.hid hci
    clear hci
    clear h hr hN hb ih hi hz0_ hz1_ hz2_ hO hfx hv
    go_enter Tryd.func79, Tryd.ntmps79
    go_wp2_with fail
    obtain ⟨W0, hW0⟩ : ∃ W0, (w.alloc (Obj.cells #[.slice (some ⟨g1, 0, none⟩) n1 c1, .slice (some ⟨g2, 0, none⟩) n2 c2] 32)) = W0 := ⟨_, rfl⟩
    have hb0 : Below w.heap.size w W0 := by rw [← hW0]; exact (Below.refl _ _).alloc (Nat.le_refl _) _
    have k0_0 : W0.cell? ⟨w.heap.size, 0, none⟩ = some (.slice (some ⟨g1, 0, none⟩) n1 c1) := by rw [← hW0]; simp [go_sem]
    have k0_1 : W0.cell? ⟨w.heap.size, 1, none⟩ = some (.slice (some ⟨g2, 0, none⟩) n2 c2) := by rw [← hW0]; simp [go_sem]
    have hz0 : w.heap.size < W0.heap.size := by rw [← hW0]; simp
    have HKB : Hid (∀ W, Below W0.heap.size W0 W → W.cell? ⟨w.heap.size, 0, none⟩ = some (.slice (some ⟨g1, 0, none⟩) n1 c1) ∧ W.cell? ⟨w.heap.size, 1, none⟩ = some (.slice (some ⟨g2, 0, none⟩) n2 c2) ∧ w.heap.size < W.heap.size) := Lib.hid (fun W hW => ⟨(hW.cell (p := ⟨w.heap.size, 0, none⟩) (by show w.heap.size < _; omega)).trans k0_0, (hW.cell (p := ⟨w.heap.size, 1, none⟩) (by show w.heap.size < _; omega)).trans k0_1, Nat.lt_of_lt_of_le hz0 hW.size⟩)
    have HSZ0 : Hid (W0.heap.size = w.heap.size + 1) := Lib.hid (by rw [← hW0]; simp)
    have HB0 := Lib.hid hb0
    rw [hW0]
    clear hW0 hb0 hz0 k0_0 k0_1
    have HZW : Hid (Below W0.heap.size W0 W0) := Lib.hid (Below.refl _ _)
    go_loopw [16] (fun l wr => ∃ i : Nat, i ≤ 42 ∧ l = .int .i64 i ∧ Hid (srch fx i (N - c - i) = O) ∧ Below W0.heap.size W0 wr) (fun l _ => 60 - (intOf l).toNat)
    case atStart => exact ⟨first, by omega, rfl, HO0, HZW.out⟩
    case round =>
      obtain ⟨i, hi42, rfl, HSR, hb⟩ := hrel
      have HWR := Lib.hid hb
      have HBR := Lib.hid (HB0.out.trans (hb.mono HB0.out.size))
      clear hb
      by_cases hle : i + (c + 1) ≤ N
      case neg =>
        have hleI : ¬ (i : Int) + ci ≤ N := by have := HCI.out; omega
        have HNO : Hid (none = O) := Lib.hid (by have h9 := HSR.out; rw [show N - c - i = 0 by omega] at h9; exact h9)
        clear hle
        go_wp2
        go_ret2
        rw [← HNO.out]
        exact ⟨none, 0, 0, rfl, Lib.hid rfl, Lib.hid (World.ownsRow_nil _ _ _ _), HBR.out⟩
      case pos =>
      have hleI : (i : Int) + ci ≤ N := by have := HCI.out; omega
      have hiS : i < S.length := by have := HNS.out; omega
      have hSi := HSB.out i (by omega)
      obtain ⟨s, hsi⟩ : ∃ s, S.getD i 0 = s := ⟨_, rfl⟩
      rw [hsi] at hSi
      obtain ⟨ad, hA, hbl, hcell⟩ := HR.out i (.int .i64 (s : Int)) (by rw [List.getElem?_map, List.getElem?_eq_getElem hiS, ← hsi, List.getD_eq_getElem?_getD, List.getElem?_eq_getElem hiS]; rfl)
      subst hA
      rw [← HBR.out.cell (by rw [addBlock]; exact hbl)] at hcell
      have hadb : (ad.add i).block < wr.heap.size := by rw [addBlock]; exact Nat.lt_of_lt_of_le hbl HBR.out.size
      have hor := or_i64c gone s hgo hSi
      have hg2 : gone ||| s < 2 ^ 20 := Nat.or_lt_two_pow hgo hSi
      obtain ⟨o, ho⟩ : ∃ o, fx i = o := ⟨_, rfl⟩
      have HFI : Hid (chs (bdB fs x y) S c (i + 1) (gone ||| s) = o) := Lib.hid (by rw [← ho, HFX.out, hsi])
      have HM : Hid (∃ m, N - c - i = m + 1 ∧ N - c - (i + 1) = m) := Lib.hid ⟨N - c - i - 1, by omega, by omega⟩
      have HOF := Lib.hid ho
      have CC : Hid (∀ U, Bel wr U → Calls Tryd.prog 79 #[.agg #[.slice (some ⟨g1, 0, none⟩) n1 c1, .slice (some ⟨g2, 0, none⟩) n2 c2], .int .i64 (x : Int), .int .i64 (y : Int), .slice (some ad) N cc, .int .i64 ((i : Int) + 1), .int .i64 (ci - 1), .int .i64 ((gone ||| s : Nat) : Int)] U (ChP o U)) := Lib.hid (fun U hU => by
        have h9 := IH.out U ((HNT.out.moved HBR.out).moved hU.out) ((HR.out.moved HBR.out).moved hU.out) (i + 1) (gone ||| s) (by omega) hg2
        rw [HFI.out, show ((i + 1 : Nat) : Int) = (i : Int) + 1 by omega, ← HCC.out] at h9
        exact h9)
      obtain ⟨g9, hg9⟩ : ∃ g9, gone ||| s = g9 := ⟨_, rfl⟩
      rw [hg9] at hor CC
      obtain ⟨k0, k1, hgz⟩ := HKB.out _ HWR.out
      have hiN : (i : Int) < N := by omega
      have hi1 : IntKind.i64.wrap ((i : Int) + 1) = (i : Int) + 1 := IntWalk.i64_in _ (by omega)
      have hcw : IntKind.i64.wrap (ci - 1) = ci - 1 := IntWalk.i64_in _ (by omega)
      clear hsi hg9 hbl ho hSi hg2 hiS hle
      have hbd : Bel wr wr.drew := Bel.of (Below.refl _ _).drew
      go_upto_block 0 with fail
      go_cut [17, 18] (fun sa sb wx => ∃ (A9 : Option Addr) (N9 c9 : Nat), sa = .slice A9 N9 c9 ∧ sb = .bool o.isSome ∧ Hid (N9 = (o.getD []).length) ∧ Hid (wx.ownsRow wr.heap.size 3 1 (.slice A9 N9 c9) N9 ((o.getD []).map (Value.int .i64))) ∧ Bel wr wx)
      case first =>
        go_upto_region 6 with fail
        go_region_held3 (fun U => U.cell? ⟨w.heap.size, 0, none⟩ = some (.slice (some ⟨g1, 0, none⟩) n1 c1) ∧ U.cell? ⟨w.heap.size, 1, none⟩ = some (.slice (some ⟨g2, 0, none⟩) n2 c2) ∧ U.cell? (ad.add i) = some (.int .i64 (s : Int)) ∧ Bel wr U)
          (first | (go_keep; done) | (go_split_ands; (refine ⟨?_, ?_, ?_, ?_⟩ <;> first | assumption | exact Bel.step (by assumption) hb9 | exact (Bel.at_ (by assumption) hb9 (by assumption)).trans (by assumption) | exact (hb9.cell (Nat.lt_of_lt_of_le hadb (Bel.out (by assumption)).size)).trans (by assumption))))
          (first
            | (go_at_call 79; go_split_ands; (with_reducible refine (CC.out _ (by assumption)).mono ?_); rintro e u1 ⟨A9, N9, c9, rfl, HN9, HO9, hb9⟩; have HO8 := Lib.hid (own_base HO9.out (Bel.out (by assumption)).size)))
        all_goals
          go_split_ands
          have hbl9 : Bel wr u1 := by assumption
          go_wp2_with fail
          go_meet
          exact ⟨A9, N9, c9, rfl, rfl, HN9, HO8, hbl9⟩
      case rest =>
      clear hbd k0 k1 hgz hcell hadb hor hi1 hcw
      revert hcut; generalize wc = w5; intro hcut
      obtain ⟨A9, N9, c9, h0_, h1_, HN9, HO9, hb9⟩ := hcut
      subst h0_ h1_
      have HW5 := Lib.hid (HWR.out.trans ((Bel.out hb9).mono HWR.out.size))
      have HB5 := Lib.hid (HBR.out.trans ((Bel.out hb9).mono HBR.out.size))
      clear hb9
      cases o
      case none =>
        have HSR2 : Hid (srch fx (i + 1) (N - c - (i + 1)) = O) := Lib.hid (by
          obtain ⟨m, h1, h2⟩ := HM.out
          rw [h2, ← srch_none (m := m) HOF.out, ← h1]; exact HSR.out)
        go_wp2
        go_roundw
        case rel => exact ⟨i + 1, by omega, by go_num, HSR2, HW5.out⟩
        case measure => simp [intOf]; omega
      case some r =>
        have HOS : Hid (some ((i : Int) :: r) = O) := Lib.hid (by
          obtain ⟨m, h1, h2⟩ := HM.out
          rw [← srch_some (m := m) HOF.out, ← h1]; exact HSR.out)
        have HN8 : Hid (N9 = r.length) := HN9
        have HO7 : Hid (w5.ownsRow w.heap.size 3 1 (.slice A9 N9 c9) N9 (r.map (Value.int .i64))) := Lib.hid (own_base HO9.out HBR.out.size)
        have hsz5 := HB5.out.size
        have hrl : N9 ≤ 1048576 := by rw [HN8.out, chs_len HFI.out]; omega
        cases A9
        case none =>
          obtain ⟨rfl, rfl⟩ : N9 = 0 ∧ c9 = 0 := by
            rcases HO7.out.2 with ⟨h9, _⟩ | ⟨g9, cap, cur, h9, _⟩
            · injection h9 with _ h8 h7; exact ⟨h8, h7⟩
            · injection h9 with h8; cases h8
          have hr0 : r = [] := List.eq_nil_of_length_eq_zero HN8.out.symm
          go_wp2_with (at_builtin; refine wpList_append_own_none rfl (.tmp 56) (.tmp 57) 27 rfl w.heap.size 3 i0 1 Tryd.underlying27 HI.out (.slice (some ⟨w5.heap.size, 0, none⟩) 1 1) 1 [.int .i64 (i : Int)] rfl (row_of rfl _ hsz5) rfl ?_)
          go_wp2
          go_ret2
          rw [← HOS.out, hr0]
          exact ⟨_, 1, _, rfl, Lib.hid rfl, Lib.hid (row_of rfl _ hsz5), HB5.out.alloc hsz5 _⟩
        case some ad9 =>
          go_wp2_with (at_builtin; refine wpList_append_own _ rfl (.tmp 56) (.tmp 57) 27 rfl w.heap.size 3 i0 (.int .i64 0) 1 8 Tryd.underlying27 HI.out HZ0.out HZ1.out HZ2.out rfl (by decide) (.slice (some ⟨w5.heap.size, 0, none⟩) 1 1) 1 [.int .i64 (i : Int)] rfl (row_of rfl _ hsz5) ad9 N9 c9 (r.map (Value.int .i64)) rfl (by rw [List.length_map, Nat.mul_one]; exact HN8.out.symm) (fun j u hu => by
            obtain ⟨a9, e9, _, h9⟩ := Rd.ofOwn (ownB HO7.out ((Below.refl w5.heap.size w5).alloc (Nat.le_refl _) _)) j u hu
            rw [Option.some.inj e9]; exact h9) (news_ints _) (by unfold maxLen; omega) (by omega) (by simp; omega) ?_)
          intro v7 w7 hown7 hgrow7 _
          have HB7 := Lib.hid ((HB5.out.alloc hsz5 (Obj.cells #[.int .i64 (i : Int)] 3)).grown hgrow7 (by simp; omega) (fun g hg => Nat.le_trans hsz5 (Nat.le_of_eq (by simpa [Value.ownBlock] using hg))))
          obtain ⟨A7, c7, rfl⟩ := formOf hown7
          have HO6 := Lib.hid hown7
          clear hown7 hgrow7
          go_wp2
          go_ret2
          rw [← HOS.out]
          exact ⟨A7, _, c7, rfl, Lib.hid (by show 1 + N9 = (((i : Int) :: r)).length; rw [List.length_cons, HN8.out, Nat.add_comm]), HO6, HB7.out⟩
end Go.Proofs.YtnbeomnlobfpfaaDoor
