/- Plans: how fragmented each fiber is: contracts of FragmentationOf, both sides. Condition: the table of math/bits holds what Go's text lays. -/
import Derived.Test.YtnbeomnlobfpfaaDoorFm
import Derived.Test.YtnbeomnlobfpfaaDoorUse3
namespace Go.Proofs.YtnbeomnlobfpfaaDoor
open Go.ChangeShapes Go.WideShapes Go.ChangeAt Go.RowKit Go.Maps

/-- an answer: a list of ints, an int and a word. -/
def IntsG (zs : List Int) (G : Int) (b : Bool) (w : World) (e : Ending) (w' : World) : Prop :=
  ∃ (A : Option Addr) (N c : Nat), e = .returned (.tuple #[.slice A N c, .int .i64 G, .bool b]) ∧ Hid (N = zs.length) ∧ w'.ownsRow w.heap.size 3 1 (.slice A N c) N (zs.map (Value.int .i64)) ∧ Below w.heap.size w w'
def frgN (m : Nat) : Int := if popN m 24 = 24 then 0 else 1000 - (1000 * (lonN m : Int) + (24 - (popN m 24 : Int)) - 1) / (24 - (popN m 24 : Int))
theorem use_fr {m : Nat} (h : m < 16777216) : ∃ a b : Int, useR (m : Int) = .tuple #[.int .i64 a, .int .i64 b, .int .i64 (frgN m), .bool true] := by
  have hp : mskP (m : Int) := ⟨by omega, by omega⟩
  by_cases h2 : popN m 24 = 24
  · exact ⟨_, _, by rw [← use_full hp h2]; unfold frgN; rw [if_pos h2]⟩
  · exact ⟨_, _, by rw [← use_part hp h2]; unfold frgN; rw [if_neg h2]⟩
def fgO (M : List Int) (k : Nat) : List Int := (M.take k).map fun z => frgN z.toNat
def fgG (M : List Int) : Nat → Int
  | 0 => 0
  | k + 1 => max (fgG M k) (frgN (M.getD k 0).toNat)
theorem fgO_len {M : List Int} {k : Nat} (h : k ≤ M.length) : (fgO M k).length = k := by unfold fgO; rw [List.length_map, List.length_take]; omega
theorem fgO_snoc {M : List Int} {k : Nat} (h : k < M.length) {u : Nat} (hu : M.getD k 0 = (u : Int)) : fgO M (k + 1) = fgO M k ++ [frgN u] := by
  unfold fgO
  rw [List.take_succ_eq_append_getElem h, List.map_append]
  have : M[k] = (u : Int) := by rw [← hu, List.getD_eq_getElem?_getD, List.getElem?_eq_getElem h]; rfl
  rw [this]; rfl
theorem fgO_all (M : List Int) : fgO M M.length = M.map fun z => frgN z.toNat := by unfold fgO; rw [List.take_length]
theorem fgG_step {M : List Int} {k u : Nat} (hu : M.getD k 0 = (u : Int)) : fgG M (k + 1) = max (fgG M k) (frgN u) := by
  show max (fgG M k) (frgN (M.getD k 0).toNat) = _
  rw [hu]; rfl
noncomputable def fgL (ss : List ByteArray) (fs : List Q4) (ds : List LtD) : List Int := (fmL ss fs ds).map fun z => frgN z.toNat
noncomputable def fgV (ss : List ByteArray) (fs : List Q4) (ds : List LtD) : Int := fgG (fmL ss fs ds) (fmL ss fs ds).length
theorem fgL_len (ss : List ByteArray) (fs : List Q4) (ds : List LtD) : (fgL ss fs ds).length ≤ fs.length := by unfold fgL; rw [List.length_map]; exact fmL_len ss fs ds
theorem fg_no {ss : List ByteArray} {fs : List Q4} {ds : List LtD} (e : ¬ planP ss fs ds) : fgL ss fs ds = [] ∧ fgV ss fs ds = 0 := by
  unfold fgL fgV; rw [(fm_no e).1]; exact ⟨rfl, rfl⟩
theorem fm_at (ds : List LtD) (n k : Nat) (h : k < n) : (fmK ds n).getD k 0 = (usedK ds ds.length (k : Int) : Int) := by
  unfold fmK; rw [List.getD_eq_getElem?_getD, List.getElem?_map, List.getElem?_range h]; rfl
theorem fg_set (M : List Int) (k n u : Nat) (hk : k < n) (hn : M.length = n) (hu : M.getD k 0 = (u : Int)) {v : Int} (hv : frgN u = v) :
    ((fgO M k ++ List.replicate (n - k) (0 : Int)).map (Value.int .i64)).set k (.int .i64 v) = (fgO M (k + 1) ++ List.replicate (n - (k + 1)) (0 : Int)).map (Value.int .i64) := by
  obtain ⟨m, hm⟩ : ∃ m, n - k = m + 1 := ⟨n - k - 1, by omega⟩
  have hm2 : n - (k + 1) = m := by omega
  have hl := fgO_len (M := M) (k := k) (by omega)
  rw [hm, hm2, fgO_snoc (by omega) hu, hv, List.map_append, List.set_append_right _ _ (by simp [hl]), List.length_map, hl, Nat.sub_self, List.replicate_succ, List.map_cons, List.set_cons_zero]
  simp
theorem fg_get (M : List Int) (k n : Nat) (hk : k < n) (hn : M.length = n) : (fgO M k ++ List.replicate (n - k) (0 : Int)).getD k 0 = 0 := by
  have hl := fgO_len (M := M) (k := k) (by omega)
  rw [List.getD_eq_getElem?_getD, List.getElem?_append_right (by omega), hl, Nat.sub_self, List.getElem?_replicate, if_pos (by omega)]; rfl

set_option maxRecDepth 100000 in
set_option maxHeartbeats 4000000 in
theorem specFG {g1 g2 g3 n1 n2 n3 c1 c2 B : Nat} {ss : List ByteArray} {fs : List Q4} {ys : List Lt} {ds : List LtD} {w : World} (h : NetAt g1 g2 n1 n2 c1 c2 ss fs w) (hT : Lts B g3 n3 ys w) (hd : ys.map Lt.d = ds) (hs : n3 ≤ 1048576) :
    Calls Tryd.prog 21 #[.agg #[.slice (some ⟨g1, 0, none⟩) n1 c1, .slice (some ⟨g2, 0, none⟩) n2 c2, .slice (some ⟨g3, 0, none⟩) n3 n3]] w (IntsG (fgL ss fs ds) (fgV ss fs ds) (fmB ss fs ds) w) := by
  have HL2 := Lib.hid h.ln2
  have HNT := Lib.hid h; have HT := Lib.hid hT; have HD := Lib.hid hd
  have HLD : Hid (ds.length = n3) := Lib.hid (by rw [← hd, List.length_map]; exact hT.len)
  clear h hT hd
  obtain ⟨RL, hRL⟩ : ∃ r, fgL ss fs ds = r := ⟨_, rfl⟩
  obtain ⟨RV, hRV⟩ : ∃ r, fgV ss fs ds = r := ⟨_, rfl⟩
  obtain ⟨RB, hRB⟩ : ∃ r, fmB ss fs ds = r := ⟨_, rfl⟩
  rw [hRL, hRV, hRB]
  have HRL := Lib.hid hRL; have HRV := Lib.hid hRV; have HRB := Lib.hid hRB
  clear hRL hRV hRB
  go_enter Tryd.func21, Tryd.ntmps21
  go_wp2_with fail
  obtain ⟨W0, hW0⟩ : ∃ W0, (w.alloc (Obj.cells #[.slice (some ⟨g1, 0, none⟩) n1 c1, .slice (some ⟨g2, 0, none⟩) n2 c2, .slice (some ⟨g3, 0, none⟩) n3 n3] 47)).alloc (Obj.cells #[] 3) = W0 := ⟨_, rfl⟩
  have hb0 : Below w.heap.size w W0 := by rw [← hW0]; exact ((Below.refl _ _).alloc (Nat.le_refl _) _).alloc (by simp) _
  have hk0 : W0.cell? ⟨w.heap.size, 0, none⟩ = some (.slice (some ⟨g1, 0, none⟩) n1 c1) := by rw [← hW0]; simp [go_sem]
  have hk1 : W0.cell? ⟨w.heap.size, 1, none⟩ = some (.slice (some ⟨g2, 0, none⟩) n2 c2) := by rw [← hW0]; simp [go_sem]
  have hk2 : W0.cell? ⟨w.heap.size, 2, none⟩ = some (.slice (some ⟨g3, 0, none⟩) n3 n3) := by rw [← hW0]; simp [go_sem]
  have hz0 : w.heap.size + 1 < W0.heap.size := by rw [← hW0]; simp
  have hown0 : W0.ownsRow (w.heap.size + 1) 3 1 (.slice (some ⟨w.heap.size + 1, 0, none⟩) 0 0) 0 [] := by
    rw [← hW0]
    have := World.ownsRow_lit (base := w.heap.size + 1) (e := 3) (size := 1) (w.alloc (Obj.cells #[.slice (some ⟨g1, 0, none⟩) n1 c1, .slice (some ⟨g2, 0, none⟩) n2 c2, .slice (some ⟨g3, 0, none⟩) n3 n3] 47)) #[] 0 (by simp) (by unfold maxLen; omega) rfl
    simpa using this
  have HO0 := Lib.hid hown0
  clear hown0
  have HB0 := Lib.hid hb0
  rw [hW0]
  clear hW0 hb0
  have CG := Lib.hid (l9Good_ (HNT.out.moved HB0.out) (HT.out.moved HB0.out) HD.out hs)
  obtain ⟨b, hb⟩ : ∃ b, pb (planP ss fs ds) = b := ⟨_, rfl⟩
  rw [hb] at CG
  have HPB := Lib.hid hb
  clear hb
  refine CG.out.mono ?_
  rintro e w1 ⟨rfl, hb1⟩
  have HB1 := Lib.hid (HB0.out.trans (hb1.mono HB0.out.size))
  have l0 := (hb1.cell (p := ⟨w.heap.size, 0, none⟩) (by show w.heap.size < _; omega)).trans hk0
  have l1 := (hb1.cell (p := ⟨w.heap.size, 1, none⟩) (by show w.heap.size < _; omega)).trans hk1
  have l2 := (hb1.cell (p := ⟨w.heap.size, 2, none⟩) (by show w.heap.size < _; omega)).trans hk2
  have hzw : w.heap.size + 1 < w1.heap.size := Nat.lt_of_lt_of_le hz0 hb1.size
  have HO1 := Lib.hid (ownB HO0.out hb1)
  clear hb1 hk0 hk1 hk2 hz0
  cases b
  case false =>
    have HNP : Hid (¬ planP ss fs ds) := Lib.hid (fun hp => by have := pb_true hp; rw [HPB.out] at this; cases this)
    have HE1 : Hid (RL = []) := Lib.hid (by rw [← HRL.out]; exact (fg_no HNP.out).1)
    have HE2 : Hid (RV = 0) := Lib.hid (by rw [← HRV.out]; exact (fg_no HNP.out).2)
    have HE3 : Hid (RB = false) := Lib.hid (by rw [← HRB.out]; exact HPB.out)
    obtain rfl := HE1.out
    obtain rfl := HE2.out
    obtain rfl := HE3.out
    go_wp2
    go_ret3
    exact ⟨_, 0, _, rfl, Lib.hid rfl, own_base HO1.out (by omega), HB1.out⟩
  case true =>
  have HPL : Hid (planP ss fs ds) := Lib.hid (of_pb HPB.out)
  have HM : Hid (fmL ss fs ds = fmK ds n2) := Lib.hid (by rw [(fm_yes HPL.out).1, HL2.out])
  have HML : Hid ((fmK ds n2).length = n2) := Lib.hid (fm_len _ _)
  have HE1 : Hid (RL = fgO (fmK ds n2) n2) := Lib.hid (by rw [← HRL.out]; unfold fgL; rw [HM.out, ← fgO_all, HML.out])
  have HE2 : Hid (RV = fgG (fmK ds n2) n2) := Lib.hid (by rw [← HRV.out]; unfold fgV; rw [HM.out, HML.out])
  have HE3 : Hid (RB = true) := Lib.hid (by rw [← HRB.out]; exact HPB.out)
  obtain rfl := HE3.out
  have hnf : n2 ≤ 14 := by have := HPL.out.1.2.1; have := HL2.out; omega
  have HBLK : Hid (∀ t, t < ds.length → blkP (dn ds t).q0 (dn ds t).q1) := Lib.hid (fun t ht => (HPL.out.2.2.1 t ht).1.2.2)
  have HK0 := Lib.hid l0; have HK1 := Lib.hid l1; have HK2 := Lib.hid l2
  have HZB : Hid (w.heap.size + 1 ≤ w1.heap.size) := Lib.hid (by omega)
  clear hzw l0 l1 l2
  go_wp2
  go_loopw [5, 6, 7] (fun v y i wr => ∃ (k : Nat) (z : Int) (A1 : Option Addr) (c1' : Nat), k ≤ n2 ∧ i = .int .i64 k ∧ v = .slice A1 k c1' ∧ y = .int .i64 z ∧ Hid (z = fgG (fmK ds n2) k) ∧ Hid (wr.ownsRow (w.heap.size + 1) 3 1 (.slice A1 k c1') k ((fgO (fmK ds n2) k).map (Value.int .i64))) ∧ Below (w.heap.size + 1) w1 wr) (fun _ _ i _ => n2 - (intOf i).toNat)
  case atStart => exact ⟨0, 0, _, _, Nat.zero_le _, rfl, rfl, rfl, Lib.hid rfl, HO1, Below.refl _ _⟩
  case round =>
    obtain ⟨k, z, A1, c1', hk, rfl, rfl, rfl, HZ, HOW, hb⟩ := hrel
    have HBW := Lib.hid (HB1.out.trans (hb.mono (Nat.le_succ _)))
    have l0 := (hb.cell (p := ⟨w.heap.size, 0, none⟩) (by show w.heap.size < _; omega)).trans HK0.out
    have l1 := (hb.cell (p := ⟨w.heap.size, 1, none⟩) (by show w.heap.size < _; omega)).trans HK1.out
    have l2 := (hb.cell (p := ⟨w.heap.size, 2, none⟩) (by show w.heap.size < _; omega)).trans HK2.out
    have HBR := Lib.hid hb
    have HSZ : Hid (w.heap.size + 1 ≤ wr.heap.size) := Lib.hid (by have := hb.size; have := HZB.out; omega)
    clear hb
    by_cases hlt : k < n2
    case neg =>
      obtain rfl : k = n2 := by omega
      have HG : Hid (z = RV) := Lib.hid (by rw [HZ.out, HE2.out])
      have HL : Hid (fgO (fmK ds k) k = RL) := Lib.hid HE1.out.symm
      rw [HL.out] at HOW
      have HN : Hid (k = RL.length) := Lib.hid (by rw [← HL.out, fgO_len (by rw [fm_len]; exact Nat.le_refl _)])
      obtain rfl := HG.out
      clear hlt
      go_wp2
      go_ret3
      exact ⟨A1, k, c1', rfl, HN, own_base HOW.out (Nat.le_succ _), HBW.out⟩
    case pos =>
    have CU := Lib.hid (l9Used_ (HNT.out.moved HBW.out) (HT.out.moved HBW.out) HD.out hs HBLK.out (k : Int))
    have hul : usedK ds ds.length (k : Int) < 2 ^ 24 := used_lt (fun t ht => HBLK.out t ht)
    have hga := fm_at ds n2 k hlt
    obtain ⟨u, hu⟩ : ∃ u, usedK ds ds.length (k : Int) = u := ⟨_, rfl⟩
    rw [hu] at CU hga hul
    have HSN := Lib.hid (fgO_snoc (M := fmK ds n2) (k := k) (by have := HML.out; omega) hga)
    have HGS := Lib.hid (fgG_step (M := fmK ds n2) hga)
    obtain ⟨p, q, hpq⟩ := use_fr (m := u) (by omega)
    have CS : Hid (∀ W, Calls Tryd.prog 53 #[.int .i64 (u : Int)] W (RetP (.tuple #[.int .i64 p, .int .i64 q, .int .i64 (frgN u), .bool true]) W)) := Lib.hid (fun W => by rw [← hpq]; exact specUse _ W)
    obtain ⟨x, hx⟩ : ∃ x, frgN u = x := ⟨_, rfl⟩
    rw [hx] at CS HSN HGS
    have CM := Lib.hid (fun W => most_ z x W)
    clear hu hga hul hpq hx
    go_wp2_with fail
    refine CU.out.mono ?_
    rintro e w2 ⟨rfl, hb2⟩
    have HOW2 := Lib.hid (ownB HOW.out hb2)
    have HB2 : Hid (Below (w.heap.size + 1) w1 w2) := Lib.hid (HBR.out.trans (hb2.mono HSZ.out))
    have HS2 : Hid (w.heap.size + 1 ≤ w2.heap.size) := Lib.hid (by have := hb2.size; have := HSZ.out; omega)
    clear hb2 l0 l1 l2
    go_wp2_with fail
    refine (CS.out _).mono ?_
    rintro e w4 ⟨rfl, hb4⟩
    have HOW4 := Lib.hid (ownB HOW2.out hb4)
    have HB4 : Hid (Below (w.heap.size + 1) w1 w4) := Lib.hid (HB2.out.trans (hb4.mono HS2.out))
    have HS4 : Hid (w.heap.size + 1 ≤ w4.heap.size) := Lib.hid (by have := hb4.size; have := HS2.out; omega)
    clear hb4
    go_wp2_with (at_builtin; refine wp_app rfl (.tmp 34) (.tmp 36) 27 3 rfl (w.heap.size + 1) Tryd.underlying27 Tryd.inf_int rfl (by decide) (by decide) _ k _ rfl (HOW4.out.alloc _) _ _ [.int .i64 x] rfl rfl (news1 (new_at_ _ _ _ _ rfl)) (news_int _) (by omega) (by have := HS4.out; simp; omega) ?_)
    intro A2 d2 N2 w3 hN2 hown2 hgrow2 hloc2
    subst hN2
    have hB3 : Below (w.heap.size + 1) w1 w3 := (HB4.out.alloc HS4.out _).grown hgrow2 (by have := HS4.out; simp; omega) (fun g hg => (HOW4.out.lt g hg).1)
    have HOW3 : Hid (w3.ownsRow (w.heap.size + 1) 3 1 (.slice A2 (k + 1) d2) (k + 1) ((fgO (fmK ds n2) (k + 1)).map (Value.int .i64))) := Lib.hid (by rw [HSN.out, List.map_append]; exact hown2)
    have HB3 := Lib.hid hB3
    clear hown2 hgrow2 hloc2 hB3
    obtain ⟨k2, hk2⟩ : ∃ k2, k + 1 = k2 := ⟨_, rfl⟩
    have HKE := Lib.hid hk2
    rw [hk2] at HOW3 HGS ⊢
    have e9 : IntKind.i64.wrap ((k : Int) + 1) = (k2 : Int) := by rw [IntWalk.i64_in _ (by omega)]; omega
    have HZ2 : Hid ((if z < x then x else z) = fgG (fmK ds n2) k2) := Lib.hid (by rw [HGS.out, ← HZ.out]; split <;> omega)
    obtain ⟨z2, hz2⟩ : ∃ z2, (if z < x then x else z) = z2 := ⟨_, rfl⟩
    rw [hz2] at CM HZ2
    clear hk2 hz2
    go_wp2_with fail
    refine (CM.out _).mono ?_
    rintro e w' ⟨rfl, rfl⟩
    go_wp2
    go_roundw
    case rel => exact ⟨k2, z2, A2, d2, by have := HKE.out; omega, rfl, rfl, rfl, HZ2, HOW3, HB3.out⟩
    case measure => have := HKE.out; simp [intOf]; omega

set_option maxRecDepth 100000 in
set_option maxHeartbeats 4000000 in
theorem implFG {g1 g2 g3 n1 n2 n3 c1 c2 B : Nat} {ss : List ByteArray} {fs : List Q4} {ys : List Lt} {ds : List LtD} {w : World} (h : NetAt g1 g2 n1 n2 c1 c2 ss fs w) (hT : Lts B g3 n3 ys w) (hd : ys.map Lt.d = ds) (hs : n3 ≤ 1048576) (hTab : Tab w) :
    Calls Tryd.prog 22 #[.agg #[.slice (some ⟨g1, 0, none⟩) n1 c1, .slice (some ⟨g2, 0, none⟩) n2 c2, .slice (some ⟨g3, 0, none⟩) n3 n3]] w (IntsG (fgL ss fs ds) (fgV ss fs ds) (fmB ss fs ds) w) := by
  have HNT := Lib.hid h; have HT := Lib.hid hT; have HD := Lib.hid hd; have HTB := Lib.hid hTab
  have HL2 := Lib.hid h.ln2
  clear h hT hd hTab
  obtain ⟨i0, hi, hz0_, hz1_, hz2_⟩ := info_parts Tryd.inf_int
  have HI := Lib.hid hi; have HZ0 := Lib.hid hz0_; have HZ1 := Lib.hid hz1_; have HZ2 := Lib.hid hz2_
  clear hi hz0_ hz1_ hz2_
  have HUS : Hid (∀ k, k < (fmL ss fs ds).length → ∃ u : Nat, (fmL ss fs ds).getD k 0 = (u : Int) ∧ u < 16777216) := Lib.hid (fun k hk => by
    by_cases hp : planP ss fs ds
    · have h1 := (fm_yes hp).1
      rw [h1] at hk ⊢
      rw [fm_len] at hk
      exact ⟨_, fm_at ds _ k hk, used_lt (fun t ht => (hp.2.2.1 t ht).1.2.2)⟩
    · rw [(fm_no hp).1] at hk; exact absurd hk (Nat.not_lt_zero _))
  have HM14 : Hid ((fmL ss fs ds).length ≤ 14) := Lib.hid (by
    by_cases hp : planP ss fs ds
    · have := fmL_len ss fs ds; have := hp.1.2.1; omega
    · rw [(fm_no hp).1]; exact Nat.zero_le _)
  have HFL : Hid (fgL ss fs ds = fgO (fmL ss fs ds) (fmL ss fs ds).length) := Lib.hid (by rw [fgO_all]; rfl)
  have HFV : Hid (fgV ss fs ds = fgG (fmL ss fs ds) (fmL ss fs ds).length) := Lib.hid rfl
  rw [HFL.out, HFV.out]
  clear HFL HFV
  obtain ⟨M, hM⟩ : ∃ M, fmL ss fs ds = M := ⟨_, rfl⟩
  obtain ⟨RB, hRB⟩ : ∃ r, fmB ss fs ds = r := ⟨_, rfl⟩
  rw [hM] at HUS HM14
  have HMM := Lib.hid hM; have HRB := Lib.hid hRB
  rw [hM, hRB]
  clear hM hRB
  go_enter Tryd.func22, Tryd.ntmps22
  go_wp2_with fail
  obtain ⟨W0, hW0⟩ : ∃ W0, w.alloc (Obj.cells #[.slice (some ⟨g1, 0, none⟩) n1 c1, .slice (some ⟨g2, 0, none⟩) n2 c2, .slice (some ⟨g3, 0, none⟩) n3 n3] 47) = W0 := ⟨_, rfl⟩
  have hb0 : Below w.heap.size w W0 := by rw [← hW0]; exact (Below.refl _ _).alloc (Nat.le_refl _) _
  have HB0 := Lib.hid hb0
  rw [hW0]
  clear hW0 hb0
  have CM := Lib.hid (implFM (HNT.out.moved HB0.out) (HT.out.moved HB0.out) HD.out hs)
  rw [HMM.out, HRB.out] at CM
  refine CM.out.mono ?_
  rintro e w1 ⟨A, N, c, rfl, HN, hown, hb1⟩
  have HB1 := Lib.hid (HB0.out.trans (hb1.mono HB0.out.size))
  have HRD := Lib.hid (Rd.ofOwn hown)
  clear hb1 hown
  have hn14 : N ≤ 14 := by have := HM14.out; have := HN.out; omega
  go_wp2_with (at_make; refine wpList_make_full _ rfl _ _ 27 rfl w1.heap.size 3 i0 (.int .i64 0) 1 Tryd.underlying27 HI.out HZ0.out HZ1.out .i64 .i64 _ _ N rfl rfl rfl rfl (by rw [HZ2.out]; omega) (by unfold maxLen; omega) (Nat.le_refl _) ?_)
  intro w4 hown4 hgrow4
  have HB4 : Hid (Below w1.heap.size w1 w4) := Lib.hid ((Below.refl _ _).grown hgrow4 (Nat.le_refl _) (fun k h => by cases h))
  rw [toList_madeCells_one] at hown4
  have HO4 : Hid (w4.ownsRow w1.heap.size 3 1 (.slice (some ⟨w1.heap.size, 0, none⟩) N N) N ((fgO M 0 ++ List.replicate (N - 0) (0 : Int)).map (Value.int .i64))) := Lib.hid (by
    have : (fgO M 0 ++ List.replicate (N - 0) (0 : Int)).map (Value.int .i64) = List.replicate N (Value.int .i64 0) := by simp [fgO]
    rw [this]; exact hown4)
  clear hown4 hgrow4
  go_wp2
  go_loopw [8, 21] (fun v i wr => ∃ (k : Nat) (z : Int), k ≤ N ∧ i = .int .i64 k ∧ v = .int .i64 z ∧ Hid (z = fgG M k) ∧ Hid (wr.ownsRow w1.heap.size 3 1 (.slice (some ⟨w1.heap.size, 0, none⟩) N N) N ((fgO M k ++ List.replicate (N - k) (0 : Int)).map (Value.int .i64))) ∧ Below w1.heap.size w1 wr) (fun _ i _ => N - (intOf i).toNat)
  case atStart => exact ⟨0, 0, Nat.zero_le _, rfl, rfl, Lib.hid rfl, HO4, HB4.out⟩
  case round =>
    obtain ⟨k, z, hk, rfl, rfl, HZ, HOW, hb⟩ := hrel
    have HBR := Lib.hid hb
    have HBW := Lib.hid (HB1.out.trans (hb.mono HB1.out.size))
    clear hb
    by_cases hlt : k < N
    case neg =>
      obtain rfl : k = N := by omega
      have HRW : Hid (wr.ownsRow w1.heap.size 3 1 (.slice (some ⟨w1.heap.size, 0, none⟩) k k) k ((fgO M k).map (Value.int .i64))) := Lib.hid (by
        have h9 := HOW.out
        rw [Nat.sub_self, List.replicate_zero, List.append_nil] at h9
        exact h9)
      have HNL : Hid (k = (fgO M k).length) := Lib.hid (by rw [fgO_len (by have := HN.out; omega)])
      obtain rfl := HZ.out
      clear hlt
      go_wp2
      go_ret3
      rw [show M.length = k from HN.out.symm]
      exact ⟨_, k, k, rfl, HNL, own_base HRW.out HB1.out.size, HBW.out⟩
    case pos =>
    obtain ⟨u, hgu, hu24⟩ := HUS.out k (by have := HN.out; omega)
    obtain ⟨ad, hA, hbl, hc⟩ := ints_at (HRD.out.moved HBR.out) (k := k) (by have := HN.out; omega)
    subst hA
    have hcu : M[k]'(by have := HN.out; omega) = (u : Int) := by rw [← hgu, List.getD_eq_getElem?_getD, List.getElem?_eq_getElem (by have := HN.out; omega)]; rfl
    rw [hcu] at hc
    have HGS := Lib.hid (fgG_step (M := M) hgu)
    obtain ⟨p, q, hpq⟩ := use_fr (m := u) hu24
    have CS : Hid (∀ W, Tab W → Calls Tryd.prog 57 #[.int .i64 (u : Int)] W (RetP (.tuple #[.int .i64 p, .int .i64 q, .int .i64 (frgN u), .bool true]) W)) := Lib.hid (fun W hW => by rw [← hpq]; exact implUse _ W hW)
    obtain ⟨x, hx⟩ : ∃ x, frgN u = x := ⟨_, rfl⟩
    rw [hx] at CS HGS
    have HFS : Hid (((fgO M k ++ List.replicate (N - k) (0 : Int)).map (Value.int .i64)).set k (.int .i64 x) = (fgO M (k + 1) ++ List.replicate (N - (k + 1)) (0 : Int)).map (Value.int .i64)) := Lib.hid (fg_set M k N u hlt HN.out.symm hgu hx)
    have HFG := Lib.hid (fg_get M k N hlt HN.out.symm)
    have HLX : Hid (N = (fgO M k ++ List.replicate (N - k) (0 : Int)).length) := Lib.hid (by rw [List.length_append, fgO_len (by have := HN.out; omega), List.length_replicate]; omega)
    clear hgu hu24 hcu hpq hx
    go_wp2_with fail
    refine (CS.out _ (HTB.out.over HBW.out)).mono ?_
    rintro e w2 ⟨rfl, hb2⟩
    have HB2 := Lib.hid (HBR.out.trans (hb2.mono HBR.out.size))
    have ho := ownB HOW.out hb2
    clear hb2 hc
    have hold := own_int (k := k) ho HLX.out hlt HFG.out
    have hfz := ho.frozenAt k
    have hst := (ho.stored k (.int .i64 x)).1
    rw [HFS.out] at hst
    have HST := Lib.hid hst
    have HBS := Lib.hid (HB2.out.setCell (p := ⟨w1.heap.size, k, none⟩) (Nat.le_refl _) (.int .i64 x))
    clear ho hst
    by_cases hm : z ≤ x
    case pos =>
      have e2 : max z x = x := by omega
      have HG2 : Hid (x = fgG M (k + 1)) := Lib.hid (by rw [HGS.out, ← HZ.out, e2])
      go_wp2
      go_roundw
      case rel => exact ⟨k + 1, x, by omega, by go_num, rfl, HG2, HST, HBS.out⟩
      case measure => simp [intOf]; omega
    case neg =>
      have e2 : max z x = z := by omega
      have HG2 : Hid (z = fgG M (k + 1)) := Lib.hid (by rw [HGS.out, ← HZ.out, e2])
      go_wp2
      go_roundw
      case rel => exact ⟨k + 1, z, by omega, by go_num, rfl, HG2, HST, HBS.out⟩
      case measure => simp [intOf]; omega
end Go.Proofs.YtnbeomnlobfpfaaDoor
