/- The fewest units: contract of impl.FewestUnits. Condition: the table of math/bits holds what Go's text lays. -/
import Derived.Test.YtlgkjidginibdaaDoorFuI
import Derived.BigRegion
import Derived.BigQuiet
import Derived.Deep.RegionHeld3
import Derived.Deep.DeepCutAuto
namespace Go.Proofs.YtlgkjidginibdaaDoor
open Go.ChangeShapes Go.WideShapes Go.ChangeAt Go.RowKit

theorem svTakeF {P : Program} {md : Region.Mode} {ops : Array Oper} {Q : Exit → Act → World → Prop} {S : World → Prop} {i : Nat} {oi : Oper} {d : Option Nat} {v : Value} {fuel : Nat} {listed : Array Bool} {a : Act} {w : World} (hi : ops[i]? = some oi) (hd : oi.dst = d)
    (hs : Region.noSelect ops = true) (hf : Region.free md ops listed i = true) (hr : (Region.ready md ops listed).contains i = true)
    (hQ : ∀ c a w, Q (.panic c) (a.put d v) w → Q (.panic c) a w) (hy : YieldsIf P ops S oi v a) (hS : S w)
    (h : wpAnyH P md ops Q S fuel (listed.setIfInBounds i true) (a.put d v) w) : wpAnyH P md ops Q S (fuel + 1) listed a w := by
  subst hd; exact wpAnyH_take hi hs hf hr hQ hy hS h
def hI (g : Nat → Pk) (y : Nat) : Int := if y % 2 = 0 then (g (y / 2)).u else (g (y / 2)).l
theorem hI_even (g : Nat → Pk) (x : Nat) : hI g (x * 2) = (g x).u := by unfold hI; rw [if_pos (by omega), show x * 2 / 2 = x by omega]
theorem hI_odd (g : Nat → Pk) (x : Nat) : hI g (x * 2 + 1) = (g x).l := by unfold hI; rw [if_neg (by omega), show (x * 2 + 1) / 2 = x by omega]
theorem hI_set {f g : Nat → Pk} {N q : Nat} {v : Pk} (hv : g q = v) (h : ∀ x, x ≠ q → f x = g x) : ((rwT (hI f) N).set (q * 2) v.u).set (q * 2 + 1) v.l = rwT (hI g) N := by
  have e1 : (rwT (hI f) N).set (q * 2) v.u = rwT (fun y => if y = q * 2 then v.u else hI f y) N := rwT_set (by simp) (fun x hx => by rw [if_neg hx])
  rw [e1]
  refine rwT_set (by rw [hI_odd, hv]) (fun x hx => ?_)
  by_cases h1 : x = q * 2
  · rw [if_pos h1, h1, hI_even, hv]
  · rw [if_neg h1]
    unfold hI
    rw [h (x / 2) (by omega)]
theorem hI_cell {w : World} {B gB P : Nat} {f : Nat → Pk} (h : w.ownsRow B 87 2 (.slice (some ⟨gB, 0, none⟩) P P) P ((rwT (hI f) (P * 2)).map (Value.int .i64))) {x : Nat} (hx : x < P) : w.cell? ⟨gB, x * 2, none⟩ = some (.int .i64 (f x).u) ∧ w.cell? ⟨gB, x * 2 + 1, none⟩ = some (.int .i64 (f x).l) := by
  have h0 := h.cellAt (x * 2) (by omega)
  have h1 := h.cellAt (x * 2 + 1) (by omega)
  rw [List.getElem?_map, List.getElem?_eq_getElem (by rw [rwT_len]; omega), rwT_get, hI_even] at h0
  rw [List.getElem?_map, List.getElem?_eq_getElem (by rw [rwT_len]; omega), rwT_get, hI_odd] at h1
  exact ⟨by rw [h0]; rfl, by rw [h1]; rfl⟩
theorem anI (a b : Nat) (ha : a < 2 ^ 62) (hb : b < 2 ^ 62) : bits .andNot .i64 (a : Int) (b : Int) = ((a &&& (2 ^ 64 - 1 - b) : Nat) : Int) := by
  have hp : (2 : Nat) ^ 62 ≤ 2 ^ 64 := Nat.pow_le_pow_right (by decide) (by decide)
  have ha' : a % 2 ^ 64 = a := Nat.mod_eq_of_lt (Nat.lt_of_lt_of_le ha hp)
  have hb' : b % 2 ^ 64 = b := Nat.mod_eq_of_lt (Nat.lt_of_lt_of_le hb hp)
  have hl : a &&& (2 ^ 64 - 1 - b) < 2 ^ 62 := Nat.lt_of_le_of_lt Nat.and_le_left ha
  show IntKind.i64.wrap ((BitVec.ofInt 64 (a : Int) &&& ~~~ BitVec.ofInt 64 (b : Int)).toNat : Int) = _
  rw [BitVec.ofInt_natCast, BitVec.ofInt_natCast, BitVec.toNat_and, BitVec.toNat_not, BitVec.toNat_ofNat, BitVec.toNat_ofNat, ha', hb', IntKind.wrap_i64]
  have : ((a &&& (2 ^ 64 - 1 - b) : Nat) : Int) < 2 ^ 62 := by exact_mod_cast hl
  omega
theorem an_fin : ∀ s : Fin 1024, ∀ i : Fin 10, s.val.testBit i.val = true → s.val &&& (2 ^ 64 - 1 - 2 ^ i.val) = s.val - 2 ^ i.val := by decide +kernel
theorem an_at {s i : Nat} (hs : s < 1024) (hi : i < 10) (h : s.testBit i = true) : bits .andNot .i64 (s : Int) ((2 : Int) ^ i) = ((s - 2 ^ i : Nat) : Int) := by
  have hp : 2 ^ i < 2 ^ 62 := Nat.pow_lt_pow_right (by decide) (by omega)
  rw [pow_int, anI s (2 ^ i) (by omega) hp, an_fin ⟨s, hs⟩ ⟨i, hi⟩ h]
theorem hI_zero (cap : Int) (L : List Int) : hI (dpI cap L 0) = fun _ => 0 := by
  have e : dpI cap L 0 = fun _ => ⟨0, 0⟩ := funext fun x => if_neg (by omega)
  rw [e]
  funext y
  unfold hI
  split <;> rfl
theorem Tryd.inf_Pk : (Tryd.prog.info? 87).map (fun i => (i.zero, i.size, i.bytes)) = some (some (.agg #[.int .i64 0, .int .i64 0]), 2, 16) := by kernel_rfl
def tbI (cap : Int) (L : List Int) (s q : Nat) (l : List Int) (x : Nat) : Pk := if x = q then (if l = [] then ⟨0, 0⟩ else upP (fdP cap L (dpT cap L s) q l)) else dpI cap L s x
theorem tbI_start {cap : Int} {L : List Int} {s q : Nat} (hq : q = s + 1) : tbI cap L s q [] = dpI cap L s := by
  funext x
  unfold tbI
  split
  · rename_i e; rw [if_pos rfl, dpI, if_neg (by omega)]
  · rfl
theorem tbI_end {cap : Int} {L : List Int} {s q : Nat} (hq : q = s + 1) (hn : L.length ≤ 24) (hs : q < 2 ^ L.length) (hne : bl q ≠ []) : tbI cap L s q (bl q) = dpI cap L q := by
  funext x
  unfold tbI
  split
  · rename_i e
    subst e
    try rw [if_neg hne]
    rw [dpI, if_pos (by omega), ← cdF_bl cap L _ hn hs]
    subst hq
    rw [dpT_new]
  · rename_i e
    subst hq
    unfold dpI
    rw [dpT_old s x e]
    by_cases h : 1 ≤ x ∧ x ≤ s
    · rw [if_pos h, if_pos (by omega)]
    · rw [if_neg h, if_neg (by omega)]
theorem tbI_other {cap : Int} {L : List Int} {s q : Nat} {l : List Int} {x : Nat} (h : x ≠ q) : tbI cap L s q l x = dpI cap L s x := if_neg h
theorem belAtB {w W w2 : World} {p : Addr} (h : Bel w W) (hb2 : Below W.heap.size W w2) (hg : p.block < w.heap.size) : w2.cell? p = W.cell? p := hb2.cell (Nat.lt_of_lt_of_le hg (Below.size (Bel.out h)))
theorem belLt {w U : World} {g : Nat} (h : Bel w U) (hg : g < w.heap.size) : g < U.heap.size := Nat.lt_of_lt_of_le hg (Below.size (Bel.out h))
theorem reAlloc {u : World} {p : Addr} {v : Value} (o1 o2 : Obj) (h : (u.alloc o1).cell? p = some v) (hg : p.block < u.heap.size) : (u.alloc o2).cell? p = some v := by
  have h1 := ((Below.refl u.heap.size u).alloc (Nat.le_refl _) o1).cell (p := p) hg
  have h2 := ((Below.refl u.heap.size u).alloc (Nat.le_refl _) o2).cell (p := p) hg
  rw [h2, ← h1]
  exact h
theorem boxKept {w u : World} {E : TypeId} (h : Below ((w.alloc (Obj.cells #[.int .i64 0, .int .i64 0] E)).drew).heap.size (w.alloc (Obj.cells #[.int .i64 0, .int .i64 0] E)).drew u) : Below w.heap.size w u ∧ w.heap.size < u.heap.size ∧ u.cell? ⟨w.heap.size, 0, none⟩ = some (.int .i64 0) ∧ u.cell? ⟨w.heap.size, 1, none⟩ = some (.int .i64 0) ∧ u.frozen? ⟨w.heap.size, 0, none⟩ = false ∧ u.frozen? ⟨w.heap.size, 1, none⟩ = false := by
  obtain ⟨W, hW⟩ : ∃ W, (w.alloc (Obj.cells #[.int .i64 0, .int .i64 0] E)).drew = W := ⟨_, rfl⟩
  have hz : W.heap.size = w.heap.size + 1 := by rw [← hW]; show (w.alloc _).heap.size = _; simp
  have h0 : Below w.heap.size w W := by rw [← hW]; exact ((Below.refl _ _).alloc (Nat.le_refl _) _).drew
  have c0 : W.cell? ⟨w.heap.size, 0, none⟩ = some (.int .i64 0) := by rw [← hW]; show (w.alloc _).cell? _ = _; simp [go_sem]
  have c1 : W.cell? ⟨w.heap.size, 1, none⟩ = some (.int .i64 0) := by rw [← hW]; show (w.alloc _).cell? _ = _; simp [go_sem]
  have d0 : W.frozen? ⟨w.heap.size, 0, none⟩ = false := by rw [← hW]; show (w.alloc _).frozen? _ = _; simp [go_sem]
  have d1 : W.frozen? ⟨w.heap.size, 1, none⟩ = false := by rw [← hW]; show (w.alloc _).frozen? _ = _; simp [go_sem]
  rw [hW] at h
  exact ⟨h0.trans (h.mono h0.size), by have := h.size; omega, (h.cell (p := ⟨w.heap.size, 0, none⟩) (by show w.heap.size < _; omega)).trans c0, (h.cell (p := ⟨w.heap.size, 1, none⟩) (by show w.heap.size < _; omega)).trans c1, (h.frozen (p := ⟨w.heap.size, 0, none⟩) (by show w.heap.size < _; omega)).trans d0, (h.frozen (p := ⟨w.heap.size, 1, none⟩) (by show w.heap.size < _; omega)).trans d1⟩
theorem take_ne {M : List Int} {t : Nat} (h0 : t ≠ 0) (h : t < M.length) : M.take t ≠ [] := by
  intro e
  have h9 := congrArg List.length e
  rw [List.length_take, List.length_nil] at h9
  omega
theorem bl_ne {q : Nat} (h : q < 1024) (h0 : q ≠ 0) : bl q ≠ [] := by
  obtain ⟨i, _, hb, _⟩ := top_at h h0
  intro e
  have h9 : (i : Int) ∈ bl q := (bl_mem (by omega)).2 ⟨i, rfl, hb⟩
  rw [e] at h9
  simp at h9
set_option maxRecDepth 100000 in
set_option maxHeartbeats 2000000 in
theorem implFU {A : Option Addr} {n c : Nat} {L : List Int} {w : World} (cap : Int) (hn : L.length = n) (hr : Rd w w.heap.size A (L.map (Value.int .i64))) (hs : n ≤ 1048576) (hTab : Tab w) :
    Calls Tryd.prog 23 #[.slice A n c, .int .i64 cap] w (RetP (fuR cap L) w) := by
  have HN := Lib.hid hn; have HRL := Lib.hid hr; have HTB := Lib.hid hTab
  have CR := Lib.hid (canPackT_ (c := c) cap hn hr hs)
  obtain ⟨rv, hrv⟩ : ∃ r, fuR cap L = r := ⟨_, rfl⟩
  have HRV := Lib.hid hrv
  rw [hrv]
  clear hrv hn hr hTab
  obtain ⟨i0, hi, hz0_, hz1_, hz2_⟩ := info_parts Tryd.inf_Pk
  have HI := Lib.hid hi; have HZI0 := Lib.hid hz0_; have HZI1 := Lib.hid hz1_; have HZI2 := Lib.hid hz2_
  clear hi hz0_ hz1_ hz2_
  by_cases hp : ratesT cap L
  case neg =>
    rw [pb_false hp] at CR
    have HE := Lib.hid (HRV.out.symm.trans (fu_no (pb_false hp)).symm).symm
    clear hp
    go_enter Tryd.func23, Tryd.ntmps23
    go_wp2_with fail
    refine CR.out.mono ?_
    rintro e w' ⟨rfl, rfl⟩
    go_wp2
    go_ret2
    exact ⟨by rw [← HE.out]; rfl, Below.refl _ _⟩
  case pos =>
  rw [pb_true hp] at CR
  have HT := Lib.hid hp
  have HPB : Hid (pb (ratesT cap L) = true) := Lib.hid (pb_true HT.out)
  have h10 : n ≤ 10 := by have := hp.1; have := HN.out; omega
  have hcap := HT.out.2.1
  have hP10 : 2 ^ n ≤ 1024 := Nat.le_trans (Nat.pow_le_pow_right (by decide) h10) (by decide)
  have hP1 : 1 ≤ 2 ^ n := Nat.one_le_two_pow
  clear hp
  obtain ⟨P, hP⟩ : ∃ p, 2 ^ n = p := ⟨_, rfl⟩
  have hPI : (2 : Int) ^ n = (P : Int) := by rw [← hP]; exact (Int.natCast_pow 2 n).symm
  rw [hP] at hP10 hP1
  have HP := Lib.hid hP
  clear hP
  have h10I : (n : Int) ≤ 10 := by omega
  go_enter Tryd.func23, Tryd.ntmps23
  go_wp2_with fail
  refine CR.out.mono ?_
  rintro e w' ⟨rfl, rfl⟩
  go_wp2_with (at_make; (try rw [hPI]); refine wpList_make_full _ rfl _ _ 84 rfl w.heap.size 87 i0 _ 2 Tryd.underlying84 HI.out HZI0.out HZI1.out .i64 .i64 P P P rfl rfl rfl rfl (by rw [HZI2.out]; omega) (by unfold maxLen; omega) (Nat.le_refl _) ?_)
  intro w1 hown1 hgrow1
  have hB1 : Below w.heap.size w w1 := (Below.refl _ _).grown hgrow1 (Nat.le_refl _) (fun k h => by cases h)
  have HB1 := Lib.hid hB1
  obtain ⟨gB, hgB⟩ : ∃ g, w.heap.size = g := ⟨_, rfl⟩
  have HGB := Lib.hid hgB
  have HO1 : Hid (w1.ownsRow w.heap.size 87 2 (.slice (some ⟨gB, 0, none⟩) P P) P ((rwT (hI (dpI cap L 0)) (P * 2)).map (Value.int .i64))) := Lib.hid (by
    rw [← hgB, hI_zero, rwT_zero, List.map_replicate, ← made2]; exact hown1)
  clear hown1 hgrow1 hB1
  rw [hgB]
  clear hgB HI HZI0 HZI1 HZI2
  go_wp2
  go_loopw [7] (fun i wr => ∃ s q : Nat, q ≤ P ∧ i = .int .i64 q ∧ Hid (q = s + 1) ∧ Hid (wr.ownsRow w.heap.size 87 2 (.slice (some ⟨gB, 0, none⟩) P P) P ((rwT (hI (dpI cap L s)) (P * 2)).map (Value.int .i64))) ∧ Hid (Below w.heap.size w wr)) (fun i _ => P - (intOf i).toNat)
  case atStart => exact ⟨0, 1, hP1, rfl, Lib.hid rfl, HO1, HB1⟩
  case round =>
    clear HO1 HB1
    obtain ⟨s, q, hq, rfl, HQ, HO, HB⟩ := hrel
    by_cases hlt : q < P
    case neg =>
      obtain rfl : P = q := by omega
      have hs1 : s < P := by have := HQ.out; omega
      obtain ⟨vU, vL⟩ := hI_cell HO.out hs1
      have hgs : gB < wr.heap.size := (HO.out.lt gB rfl).2
      have hps : ((P : Int) - 1) = (s : Int) := by have := HQ.out; omega
      have HE : Hid ((.tuple #[.int .i64 (dpI cap L s s).u, .bool true] : Value) = rv) := Lib.hid (by
        rw [← HRV.out]
        by_cases h0 : n = 0
        · rw [← fu_zero HPB.out (by rw [HN.out]; exact h0)]
          have hP0 := HP.out
          rw [h0] at hP0
          rw [dpI, if_neg (by have := HQ.out; have : (2 : Nat) ^ 0 = 1 := rfl; omega)]
        · rw [← fu_yes HPB.out (by rw [HN.out]; exact h0), HN.out, HP.out, show P - 1 = s by have := HQ.out; omega]
          have hP2 : 2 ^ 1 ≤ 2 ^ n := Nat.pow_le_pow_right (by decide) (by omega)
          rw [HP.out] at hP2
          rw [dpI, if_pos (by have := HQ.out; omega)]
          rfl)
      obtain ⟨u, hu⟩ : ∃ u, (dpI cap L s s).u = u := ⟨_, rfl⟩
      rw [hu] at vU HE
      clear vL hu hlt
      go_wp2
      go_ret2
      exact ⟨by rw [← HE.out]; rfl, HB.out⟩
    case pos =>
    obtain ⟨wr0, hwr0⟩ : ∃ W : World, W = wr := ⟨_, rfl⟩
    subst hwr0
    have hq1024 : q < 1024 := by omega
    have HMEM : Hid (∀ v ∈ bl q, ∃ i : Nat, v = (i : Int) ∧ q.testBit i = true) := Lib.hid (fun v hv => (bl_mem (by omega)).1 hv)
    have HL24 := Lib.hid (bl_len q)
    have HNE := Lib.hid (bl_ne hq1024 (by have := HQ.out; omega))
    have HEND := Lib.hid (tbI_end (cap := cap) (L := L) HQ.out (by have := HN.out; omega) (by rw [HN.out, HP.out]; exact hlt) HNE.out)
    have CL := Lib.hid (listOf_ q wr0 (by omega) (HTB.out.over HB.out))
    have HST : Hid (wr0.ownsRow w.heap.size 87 2 (.slice (some ⟨gB, 0, none⟩) P P) P ((rwT (hI (tbI cap L s q ((bl q).take 0))) (P * 2)).map (Value.int .i64))) := Lib.hid (by rw [List.take_zero, tbI_start HQ.out]; exact HO.out)
    obtain ⟨M, hM⟩ : ∃ M, bl q = M := ⟨_, rfl⟩
    rw [hM] at HMEM HL24 HNE HEND CL HST
    clear hM
    go_wp2_with fail
    refine CL.out.mono ?_
    rintro e w2 ⟨AM, NM, dM, rfl, HNM, hom, hb2⟩
    have HMO := Lib.hid hom
    have HST2 := Lib.hid (ownB HST.out hb2)
    have HB2 := Lib.hid (HB.out.trans (hb2.mono HB.out.size))
    have HWR := Lib.hid hb2.size
    clear hom hb2 CL HST
    have hN24 : NM ≤ 24 := by have := HNM.out; have := HL24.out; omega
    go_wp2
    go_loopw [28] (fun i wi => ∃ t : Nat, t ≤ NM ∧ i = .int .i64 t ∧ Hid (wi.ownsRow w.heap.size 87 2 (.slice (some ⟨gB, 0, none⟩) P P) P ((rwT (hI (tbI cap L s q (M.take t))) (P * 2)).map (Value.int .i64))) ∧ Hid (wi.ownsRow wr0.heap.size 3 1 (.slice AM NM dM) NM (M.map (Value.int .i64))) ∧ Hid (Below w.heap.size w wi)) (fun i _ => NM - (intOf i).toNat)
    case atStart => exact ⟨0, Nat.zero_le _, rfl, HST2, HMO, HB2⟩
    case round =>
      clear HST2 HMO HB2
      have HNB : Hid (∀ U : World, U.ownsRow wr0.heap.size 3 1 (.slice AM NM dM) NM (M.map (Value.int .i64)) → (Value.slice AM NM dM).ownBlock ≠ some gB) := Lib.hid (fun U h e => by have h1 := (h.lt gB e).1; have h2 := (HO.out.lt gB rfl).2; omega)
      obtain ⟨t, ht, rfl, HOW, HMI, HBW⟩ := hrel
      by_cases hlt2 : t < NM
      case neg =>
        obtain rfl : NM = t := by omega
        have HO9 : Hid (wr.ownsRow w.heap.size 87 2 (.slice (some ⟨gB, 0, none⟩) P P) P ((rwT (hI (dpI cap L q)) (P * 2)).map (Value.int .i64))) := Lib.hid (by rw [← HEND.out]; have h9 := HOW.out; rw [List.take_of_length_le (by have := HNM.out; omega)] at h9; exact h9)
        go_wp2
        go_roundw
        case rel => exact ⟨q, q + 1, by omega, by go_num, Lib.hid rfl, HO9, HBW⟩
        case measure => simp [intOf]; omega
      case pos =>
      have htl : t < M.length := by have := HNM.out; omega
      obtain ⟨ad, rfl, had, hcx⟩ := ints_at (Rd.ofOwn HMI.out) htl
      obtain ⟨i, hi9, hbit⟩ := HMEM.out M[t] (List.getElem_mem htl)
      rw [hi9] at hcx
      have HTK : Hid (M.take (t + 1) = M.take t ++ [(i : Int)]) := Lib.hid (by rw [List.take_succ_eq_append_getElem htl, hi9])
      have hin : i < n := Nat.lt_of_not_le (fun hle => by
        have h9 : q < 2 ^ i := Nat.lt_of_lt_of_le hlt (by rw [← HP.out]; exact Nat.pow_le_pow_right (by decide) hle)
        rw [Nat.testBit_lt_two_pow h9] at hbit
        cases hbit)
      have hi10 : i < 10 := by omega
      obtain ⟨_, _, x3⟩ := bit_at hq1024 hi10 hbit
      have han := an_at hq1024 hi10 hbit
      have hw1 : (2 : Int) ^ i ≤ 1048576 := by rw [pow_int]; have : 2 ^ i < 2 ^ 20 := Nat.pow_lt_pow_right (by decide) (by omega); omega
      have hw0 : 0 ≤ (2 : Int) ^ i := Int.pow_nonneg (by omega)
      have hps : q - 2 ^ i ≤ s := by have := HQ.out; have := Nat.two_pow_pos i; omega
      obtain ⟨p, hp⟩ : ∃ p, q - 2 ^ i = p := ⟨_, rfl⟩
      rw [hp] at han hps
      have hpq : p ≠ q := by have := HQ.out; omega
      have hpP : p < P := by have := HQ.out; omega
      obtain ⟨vU, vL⟩ := hI_cell HOW.out hpP
      rw [tbI_other hpq] at vU vL
      have hil : i < L.length := by have := HN.out; omega
      have hrr := HT.out.2.2 i hil
      have hgd : L.getD i 0 = L[i]'hil := by rw [List.getD_eq_getElem?_getD, List.getElem?_eq_getElem hil]; rfl
      obtain ⟨ad2, rfl, had2, hc2⟩ := ints_at (HRL.out.moved HBW.out) hil
      obtain ⟨r, hr⟩ : ∃ r, L[i]'hil = r := ⟨_, rfl⟩
      rw [hgd, hr] at hrr
      rw [hr] at hc2
      have hdin := dpT_in HT.out s p
      have hd10 := dpT_ten HT.out (s := s) (x := p) (by rw [HN.out, HP.out]; have := HQ.out; omega) (by rw [HN.out, HP.out]; exact hpP)
      have hIin : (0 ≤ (dpI cap L s p).u ∧ (dpI cap L s p).u ≤ 100) ∧ 0 ≤ (dpI cap L s p).l ∧ (dpI cap L s p).l ≤ 10000 := by
        unfold dpI upP
        split
        · dsimp only; omega
        · dsimp only; omega
      have hwd := wth_dp HT.out hrr hps
      have CW := Lib.hid (fun U => with_ cap r (dpI cap L s p) U hIin (by omega))
      rw [hwd] at CW
      have hsin := stp_in hrr hdin
      have HCD : Hid (cdP cap L (dpT cap L s) q i = stp cap r (dpT cap L s p)) := Lib.hid (by unfold cdP; rw [hp, hgd, hr])
      obtain ⟨cc, hcc⟩ : ∃ c, stp cap r (dpT cap L s p) = c := ⟨_, rfl⟩
      rw [hcc] at CW hsin HCD
      obtain ⟨bb, hbb⟩ : ∃ b, fdP cap L (dpT cap L s) q (M.take t) = b := ⟨_, rfl⟩
      have HF : Hid (fdP cap L (dpT cap L s) q (M.take (t + 1)) = btr cc bb) := Lib.hid (by rw [HTK.out, fdP_snoc, HCD.out, hbb])
      have HBB := Lib.hid hbb
      obtain ⟨d0, hd0⟩ : ∃ d, dpI cap L s p = d := ⟨_, rfl⟩
      rw [hd0] at vU vL CW hIin
      obtain ⟨du, dl⟩ := d0
      obtain ⟨cu, cl⟩ := cc
      dsimp only [upP] at CW hsin vU vL hIin
      have hcu : 0 ≤ cu ∧ cu ≤ 11 := by omega
      have hcl : 0 ≤ cl ∧ cl ≤ 10000 := by omega
      have hgB : gB < wr.heap.size := (HOW.out.lt gB rfl).2
      have hA2 : (ad2.add i).block < wr.heap.size := by rw [addBlock]; exact had2
      have hiI : (i : Int) < (n : Int) := by omega
      have hpI : (p : Int) < (P : Int) := by omega
      have hp0 : (0 : Int) ≤ (p : Int) := by omega
      have hwrp : IntKind.i64.wrap ((2 : Int) ^ i) = (2 : Int) ^ i := IntWalk.i64_in _ (by omega)
      have hi0 : (0 : Int) ≤ (i : Int) := by omega
      have hbl : Bel wr wr := Bel.of (Below.refl _ _)
      have hbl2 : Bel wr wr.drew := Bel.of (Below.refl _ _).drew
      clear hi9 hbit x3 hp hil hgd hr hwd hcc hbb hd0 hsin hdin hd10 hrr htl HCD
      go_upto_region 10 with fail
      clear hcx
      go_cut [10] (fun s10 wx => ∃ pb : Nat, s10 = .pointer (some ⟨pb, 0, none⟩) ∧ Hid (wr.heap.size ≤ pb ∧ pb < wx.heap.size) ∧ wx.cell? ⟨pb, 0, none⟩ = some (.int .i64 (cu + 1)) ∧ wx.cell? ⟨pb, 1, none⟩ = some (.int .i64 cl) ∧ Hid (Below wr.heap.size wr wx))
      case first =>
        go_region_with ((go_at_call 51; refine (CW.out _).mono ?_; rintro e u1 ⟨rfl, hb8⟩; (first | (have hbx : Below ((wr.alloc (Obj.cells #[.int .i64 0, .int .i64 0] 87)).drew).heap.size (wr.alloc (Obj.cells #[.int .i64 0, .int .i64 0] 87)).drew u1 := (by assumption); obtain ⟨hbu, hzz, q0, q1, f0, f1⟩ := boxKept hbx) | (have hbu : Below wr.heap.size wr u1 := Below.trans (by first | exact Below.refl _ _ | exact (Below.refl _ _).drew | exact drewN_below (Below.refl _ _) _) hb8))))
        all_goals
          go_wp2_with fail
          go_meet
          first
            | exact ⟨_, rfl, Lib.hid ⟨hbu.size, by simp⟩, by simp [go_sem], by simp [go_sem], Lib.hid (hbu.alloc hbu.size _)⟩
            | exact ⟨_, rfl, Lib.hid ⟨Nat.le_refl _, by simpa using hzz⟩, by simp [go_sem, q0, q1], by simp [go_sem, q0, q1], Lib.hid ((hbu.setCell (p := ⟨_, 0, none⟩) (Nat.le_refl _) _).setCell (p := ⟨_, 1, none⟩) (Nat.le_refl _) _)⟩
            | trace_state
      case rest =>
      revert hcut; generalize wc = wx; intro hcut
      obtain ⟨pb, rfl, HPB2, p0, p1, HBX⟩ := hcut
      have HOX := Lib.hid (ownB HOW.out HBX.out)
      have HMX := Lib.hid (ownB HMI.out HBX.out)
      have HBWX := Lib.hid (HBW.out.trans (HBX.out.mono HBW.out.size))
      have hpbx : pb < wx.heap.size := HPB2.out.2
      have hgBx : gB < wx.heap.size := Nat.lt_of_lt_of_le hgB HBX.out.size
      have hqI : (q : Int) < (P : Int) := by omega
      have HNEW : Hid (∀ U : World, btr ⟨cu, cl⟩ bb = ⟨cu, cl⟩ → U.ownsRow w.heap.size 87 2 (.slice (some ⟨gB, 0, none⟩) P P) P ((rwT (hI (tbI cap L s q (M.take t))) (P * 2)).map (Value.int .i64)) → ((U.setCell ⟨gB, q * 2, none⟩ (.int .i64 (cu + 1))).setCell ⟨gB, q * 2 + 1, none⟩ (.int .i64 cl)).ownsRow w.heap.size 87 2 (.slice (some ⟨gB, 0, none⟩) P P) P ((rwT (hI (tbI cap L s q (M.take (t + 1)))) (P * 2)).map (Value.int .i64))) := Lib.hid (fun U e h => by
        have h9 := ((h.stored (q * 2) (.int .i64 (cu + 1))).1.stored (q * 2 + 1) (.int .i64 cl)).1
        rw [← List.map_set, ← List.map_set, hI_set (g := tbI cap L s q (M.take (t + 1))) (v := ⟨cu + 1, cl⟩) (by
          unfold tbI
          rw [if_pos rfl, if_neg (by rw [HTK.out]; simp), HF.out, e]
          rfl) (fun x hx => by rw [tbI_other hx, tbI_other hx])] at h9
        exact h9)
      have HSAME : Hid (t ≠ 0 → btr ⟨cu, cl⟩ bb = bb → rwT (hI (tbI cap L s q (M.take t))) (P * 2) = rwT (hI (tbI cap L s q (M.take (t + 1)))) (P * 2)) := Lib.hid (fun h0 e => by
        have e1 : tbI cap L s q (M.take (t + 1)) = tbI cap L s q (M.take t) := funext fun x => by
          unfold tbI
          split
          · rw [if_neg (by rw [HTK.out]; simp), if_neg (take_ne h0 (by have := HNM.out; omega)), HF.out, e, HBB.out]
          · rfl
        rw [e1])
      have HMS : Hid (∀ U : World, U.ownsRow wr0.heap.size 3 1 (.slice (some ad) NM dM) NM (M.map (Value.int .i64)) → ((U.setCell ⟨gB, q * 2, none⟩ (.int .i64 (cu + 1))).setCell ⟨gB, q * 2 + 1, none⟩ (.int .i64 cl)).ownsRow wr0.heap.size 3 1 (.slice (some ad) NM dM) NM (M.map (Value.int .i64))) := Lib.hid (fun U h => own_setC (own_setC h (HNB.out _ h) _ _) (HNB.out _ h) _ _)
      have HBS : Hid (∀ U : World, Below w.heap.size w U → Below w.heap.size w ((U.setCell ⟨gB, q * 2, none⟩ (.int .i64 (cu + 1))).setCell ⟨gB, q * 2 + 1, none⟩ (.int .i64 cl))) := Lib.hid (fun U h => (h.setCell (p := ⟨gB, q * 2, none⟩) (by rw [← HGB.out]; exact Nat.le_refl _) _).setCell (p := ⟨gB, q * 2 + 1, none⟩) (by rw [← HGB.out]; exact Nat.le_refl _) _)
      obtain ⟨vqU, vqL⟩ := hI_cell HOX.out hlt
      have fqU := HOX.out.frozenAt (q * 2)
      have fqL := HOX.out.frozenAt (q * 2 + 1)
      clear vU vL hc2 had2 hA2 hbl hbl2 han hw1 hw0 hwrp
      by_cases h0 : t = 0
      case pos =>
        have ht0 : ((t : Int) == 0) = true := by rw [h0]; rfl
        have HB1 : Hid (btr ⟨cu, cl⟩ bb = ⟨cu, cl⟩) := Lib.hid (by
          rw [← HBB.out, h0, List.take_zero]
          show btr ⟨cu, cl⟩ (⟨1000, 0⟩ : Pk) = _
          unfold btr lsP
          rw [if_pos (decide_eq_true (Or.inl (by show cu < 1000; omega)))])
        have hbx0 : Bel wx wx.drew := Bel.of (Below.refl _ _).drew
        go_upto_region 11 with fail
        go_cut [68] (fun s68 wy => s68 = .bool true ∧ Hid (Below wx.heap.size wx wy))
        case first =>
          clear vqU vqL p0 p1 fqU fqL
          refine wp_region_held_drew (S := fun U => Bel wx U) (by kernel_rfl) ?_ (fun hHeld => ?_)
          · exact hbx0
          refine svTakeF (i := 0) (d := some 46) (v := .int .i64 (t : Int)) rfl rfl (by kernel_rfl) (by kernel_rfl) (by kernel_rfl) (fun _ _ _ h => h) (Or.inl ⟨by kernel_rfl, ?_⟩) (by assumption) ?_
          · (intro w9 hSw; (try dsimp only at hSw); go_simp)
          (try simp only [Act.put, List.setIfInBounds_toArray, List.set_cons_zero, List.set_cons_succ])
          refine svTakeF (i := 1) (d := some 47) (v := .bool true) rfl rfl (by kernel_rfl) (by kernel_rfl) (by kernel_rfl) (fun _ _ _ h => h) (Or.inl ⟨by kernel_rfl, ?_⟩) (by assumption) ?_
          · (intro w9 hSw; (try dsimp only at hSw); go_simp)
          (try simp only [Act.put, List.setIfInBounds_toArray, List.set_cons_zero, List.set_cons_succ])
          refine svTakeF (i := 2) (d := some 48) (v := .bool true) rfl rfl (by kernel_rfl) (by kernel_rfl) (by kernel_rfl) (fun _ _ _ h => h) (Or.inl ⟨by kernel_rfl, ?_⟩) (by assumption) ?_
          · (intro w9 hSw; (try dsimp only at hSw); go_simp)
          (try simp only [Act.put, List.setIfInBounds_toArray, List.set_cons_zero, List.set_cons_succ])
          refine svTakeF (i := 3) (d := some 49) (v := undef) rfl rfl (by kernel_rfl) (by kernel_rfl) (by kernel_rfl) (fun _ _ _ h => h) (Or.inr ⟨by kernel_rfl, rfl⟩) (by assumption) ?_
          (try simp only [Act.put, List.setIfInBounds_toArray, List.set_cons_zero, List.set_cons_succ])
          refine svTakeF (i := 4) (d := some 50) (v := undef) rfl rfl (by kernel_rfl) (by kernel_rfl) (by kernel_rfl) (fun _ _ _ h => h) (Or.inr ⟨by kernel_rfl, rfl⟩) (by assumption) ?_
          (try simp only [Act.put, List.setIfInBounds_toArray, List.set_cons_zero, List.set_cons_succ])
          refine svTakeF (i := 5) (d := some 51) (v := undef) rfl rfl (by kernel_rfl) (by kernel_rfl) (by kernel_rfl) (fun _ _ _ h => h) (Or.inr ⟨by kernel_rfl, rfl⟩) (by assumption) ?_
          (try simp only [Act.put, List.setIfInBounds_toArray, List.set_cons_zero, List.set_cons_succ])
          refine svTakeF (i := 6) (d := some 52) (v := undef) rfl rfl (by kernel_rfl) (by kernel_rfl) (by kernel_rfl) (fun _ _ _ h => h) (Or.inr ⟨by kernel_rfl, rfl⟩) (by assumption) ?_
          (try simp only [Act.put, List.setIfInBounds_toArray, List.set_cons_zero, List.set_cons_succ])
          refine svTakeF (i := 7) (d := some 53) (v := undef) rfl rfl (by kernel_rfl) (by kernel_rfl) (by kernel_rfl) (fun _ _ _ h => h) (Or.inr ⟨by kernel_rfl, rfl⟩) (by assumption) ?_
          (try simp only [Act.put, List.setIfInBounds_toArray, List.set_cons_zero, List.set_cons_succ])
          refine svTakeF (i := 8) (d := some 54) (v := undef) rfl rfl (by kernel_rfl) (by kernel_rfl) (by kernel_rfl) (fun _ _ _ h => h) (Or.inr ⟨by kernel_rfl, rfl⟩) (by assumption) ?_
          (try simp only [Act.put, List.setIfInBounds_toArray, List.set_cons_zero, List.set_cons_succ])
          refine svTakeF (i := 9) (d := some 55) (v := undef) rfl rfl (by kernel_rfl) (by kernel_rfl) (by kernel_rfl) (fun _ _ _ h => h) (Or.inr ⟨by kernel_rfl, rfl⟩) (by assumption) ?_
          (try simp only [Act.put, List.setIfInBounds_toArray, List.set_cons_zero, List.set_cons_succ])
          refine svTakeF (i := 10) (d := some 56) (v := undef) rfl rfl (by kernel_rfl) (by kernel_rfl) (by kernel_rfl) (fun _ _ _ h => h) (Or.inr ⟨by kernel_rfl, rfl⟩) (by assumption) ?_
          (try simp only [Act.put, List.setIfInBounds_toArray, List.set_cons_zero, List.set_cons_succ])
          refine svTakeF (i := 11) (d := some 57) (v := undef) rfl rfl (by kernel_rfl) (by kernel_rfl) (by kernel_rfl) (fun _ _ _ h => h) (Or.inr ⟨by kernel_rfl, rfl⟩) (by assumption) ?_
          (try simp only [Act.put, List.setIfInBounds_toArray, List.set_cons_zero, List.set_cons_succ])
          refine svTakeF (i := 12) (d := some 58) (v := undef) rfl rfl (by kernel_rfl) (by kernel_rfl) (by kernel_rfl) (fun _ _ _ h => h) (Or.inr ⟨by kernel_rfl, rfl⟩) (by assumption) ?_
          (try simp only [Act.put, List.setIfInBounds_toArray, List.set_cons_zero, List.set_cons_succ])
          refine svTakeF (i := 13) (d := some 59) (v := undef) rfl rfl (by kernel_rfl) (by kernel_rfl) (by kernel_rfl) (fun _ _ _ h => h) (Or.inr ⟨by kernel_rfl, rfl⟩) (by assumption) ?_
          (try simp only [Act.put, List.setIfInBounds_toArray, List.set_cons_zero, List.set_cons_succ])
          refine svTakeF (i := 14) (d := some 60) (v := undef) rfl rfl (by kernel_rfl) (by kernel_rfl) (by kernel_rfl) (fun _ _ _ h => h) (Or.inr ⟨by kernel_rfl, rfl⟩) (by assumption) ?_
          (try simp only [Act.put, List.setIfInBounds_toArray, List.set_cons_zero, List.set_cons_succ])
          refine svTakeF (i := 15) (d := some 61) (v := undef) rfl rfl (by kernel_rfl) (by kernel_rfl) (by kernel_rfl) (fun _ _ _ h => h) (Or.inr ⟨by kernel_rfl, rfl⟩) (by assumption) ?_
          (try simp only [Act.put, List.setIfInBounds_toArray, List.set_cons_zero, List.set_cons_succ])
          refine svTakeF (i := 16) (d := some 62) (v := undef) rfl rfl (by kernel_rfl) (by kernel_rfl) (by kernel_rfl) (fun _ _ _ h => h) (Or.inr ⟨by kernel_rfl, rfl⟩) (by assumption) ?_
          (try simp only [Act.put, List.setIfInBounds_toArray, List.set_cons_zero, List.set_cons_succ])
          refine svTakeF (i := 17) (d := some 63) (v := undef) rfl rfl (by kernel_rfl) (by kernel_rfl) (by kernel_rfl) (fun _ _ _ h => h) (Or.inr ⟨by kernel_rfl, rfl⟩) (by assumption) ?_
          (try simp only [Act.put, List.setIfInBounds_toArray, List.set_cons_zero, List.set_cons_succ])
          refine svTakeF (i := 18) (d := some 64) (v := undef) rfl rfl (by kernel_rfl) (by kernel_rfl) (by kernel_rfl) (fun _ _ _ h => h) (Or.inr ⟨by kernel_rfl, rfl⟩) (by assumption) ?_
          (try simp only [Act.put, List.setIfInBounds_toArray, List.set_cons_zero, List.set_cons_succ])
          refine svTakeF (i := 19) (d := some 65) (v := undef) rfl rfl (by kernel_rfl) (by kernel_rfl) (by kernel_rfl) (fun _ _ _ h => h) (Or.inr ⟨by kernel_rfl, rfl⟩) (by assumption) ?_
          (try simp only [Act.put, List.setIfInBounds_toArray, List.set_cons_zero, List.set_cons_succ])
          refine svTakeF (i := 20) (d := some 66) (v := undef) rfl rfl (by kernel_rfl) (by kernel_rfl) (by kernel_rfl) (fun _ _ _ h => h) (Or.inr ⟨by kernel_rfl, rfl⟩) (by assumption) ?_
          (try simp only [Act.put, List.setIfInBounds_toArray, List.set_cons_zero, List.set_cons_succ])
          refine svTakeF (i := 21) (d := some 67) (v := undef) rfl rfl (by kernel_rfl) (by kernel_rfl) (by kernel_rfl) (fun _ _ _ h => h) (Or.inr ⟨by kernel_rfl, rfl⟩) (by assumption) ?_
          (try simp only [Act.put, List.setIfInBounds_toArray, List.set_cons_zero, List.set_cons_succ])
          refine svTakeF (i := 22) (d := some 68) (v := .bool true) rfl rfl (by kernel_rfl) (by kernel_rfl) (by kernel_rfl) (fun _ _ _ h => h) (Or.inl ⟨by kernel_rfl, ?_⟩) (by assumption) ?_
          · (intro w9 hSw; (try dsimp only at hSw); go_simp)
          (try simp only [Act.put, List.setIfInBounds_toArray, List.set_cons_zero, List.set_cons_succ])
          refine wpAnyH_done (by kernel_rfl) ?_ _
          clear hHeld
          go_wp2_with fail
          go_meet
          exact ⟨rfl, Lib.hid (Below.refl _ _).drew⟩
        case rest =>
        revert hcut; generalize wc = wy; intro hcut
        obtain ⟨rfl, HBY⟩ := hcut
        have HOY := Lib.hid (ownB HOX.out HBY.out)
        have HMY := Lib.hid (ownB HMX.out HBY.out)
        have HBWY := Lib.hid (HBWX.out.trans (HBY.out.mono HBWX.out.size))
        have HN9 := Lib.hid (HNEW.out wy HB1.out HOY.out)
        have HM9 := Lib.hid (HMS.out wy HMY.out)
        have HB9 := Lib.hid (HBS.out wy HBWY.out)
        have y0 := (HBY.out.cell (p := ⟨pb, 0, none⟩) hpbx).trans p0
        have y1 := (HBY.out.cell (p := ⟨pb, 1, none⟩) hpbx).trans p1
        obtain ⟨yqU, yqL⟩ := hI_cell HOY.out hlt
        have gqU := HOY.out.frozenAt (q * 2)
        have gqL := HOY.out.frozenAt (q * 2 + 1)
        have hgBy : gB < wy.heap.size := Nat.lt_of_lt_of_le hgBx HBY.out.size
        have hpby : pb < wy.heap.size := Nat.lt_of_lt_of_le hpbx HBY.out.size
        have hq0 : (0 : Int) ≤ (q : Int) := by omega
        clear p0 p1 vqU vqL fqU fqL
        go_wp2
        go_roundw
        case rel => exact ⟨t + 1, by omega, by go_num, HN9, HM9, HB9⟩
        case measure => simp [intOf]; omega
      case neg =>
        have ht0 : ((t : Int) == 0) = false := beq_eq_false_iff_ne.2 (by omega)
        have hTQ : tbI cap L s q (M.take t) q = upP bb := by
          unfold tbI
          rw [if_pos rfl, if_neg (take_ne h0 (by have := HNM.out; omega)), HBB.out]
        rw [hTQ] at vqU vqL
        obtain ⟨bu, bl9⟩ := bb
        dsimp only [upP] at vqU vqL
        have hls := cmp_ls ⟨cu, cl⟩ ⟨bu, bl9⟩
        dsimp only at hls
        have CP1 : Hid (∀ W, Calls Tryd.prog 53 #[.int .i64 (cu + 1), .int .i64 (bu + 1)] W fun e w' => e = .returned (.int .i64 (cmpI (cu + 1) (bu + 1))) ∧ W = w') := Lib.hid (fun W => compare_ _ _ W)
        have CP2 : Hid (∀ W, Calls Tryd.prog 53 #[.int .i64 cl, .int .i64 bl9] W fun e w' => e = .returned (.int .i64 (cmpI cl bl9)) ∧ W = w') := Lib.hid (fun W => compare_ _ _ W)
        obtain ⟨r1, hr1⟩ : ∃ r, cmpI (cu + 1) (bu + 1) = r := ⟨_, rfl⟩
        obtain ⟨r2, hr2⟩ : ∃ r, cmpI cl bl9 = r := ⟨_, rfl⟩
        rw [hr1] at CP1 hls
        rw [hr2] at CP2 hls
        have CO : Hid (∀ (gg c : Nat) (W : World), W.cell? ⟨gg, 0, none⟩ = some (.int .i64 r1) → W.cell? ⟨gg, 1, none⟩ = some (.int .i64 r2) → Calls Tryd.prog 52 #[.slice (some ⟨gg, 0, none⟩) 2 c] W fun e w' => e = .returned (.int .i64 (orI r1 r2)) ∧ W = w') := Lib.hid (fun gg c W a b => or2_ gg c r1 r2 W a b)
        obtain ⟨ro, hro⟩ : ∃ r, orI r1 r2 = r := ⟨_, rfl⟩
        rw [hro] at CO hls
        have HLS := Lib.hid hls
        have hbx0 : Bel wx wx.drew := Bel.of (Below.refl _ _).drew
        clear hls hr1 hr2 hro hTQ
        go_upto_region 11 with fail
        go_cut [68] (fun s68 wy => s68 = .bool (decide (ro < 0)) ∧ Hid (Below wx.heap.size wx wy))
        case first =>
          go_region_held3 (fun U => U.cell? ⟨pb, 0, none⟩ = some (.int .i64 (cu + 1)) ∧ U.cell? ⟨pb, 1, none⟩ = some (.int .i64 cl) ∧ U.cell? ⟨gB, q * 2, none⟩ = some (.int .i64 (bu + 1)) ∧ U.cell? ⟨gB, q * 2 + 1, none⟩ = some (.int .i64 bl9) ∧ pb < U.heap.size ∧ gB < U.heap.size ∧ Bel wx U)
            (first | (go_keep; done) | (go_split_ands; (refine ⟨?_, ?_, ?_, ?_, ?_, ?_, ?_⟩ <;> first | assumption | exact keepAlloc _ (by assumption) | exact belA (by assumption) _ | exact belLt (belA (by assumption) _) (by assumption))))
            (first
              | (go_at_call 53; go_split_ands; (first | with_reducible refine (CP1.out _).mono ?_ | with_reducible refine (CP2.out _).mono ?_); rintro e u2 ⟨rfl, rfl⟩)
              | (go_at_call 52; go_split_ands; refine (CO.out _ _ _ ?_ ?_).mono ?_; exact two0 _ _ _ _ _ rfl; exact two1 _ _ _ _ _ rfl; rintro e u3 ⟨rfl, rfl⟩))
          all_goals
            go_split_ands
            go_wp2_with fail
            go_meet
            exact ⟨rfl, Lib.hid (Bel.out (by assumption))⟩
        case rest =>
        revert hcut; generalize wc = wy; intro hcut
        obtain ⟨rfl, HBY⟩ := hcut
        by_cases hlo : ro < 0
        case pos =>
          have HB1 : Hid (btr ⟨cu, cl⟩ ⟨bu, bl9⟩ = ⟨cu, cl⟩) := Lib.hid (by unfold btr; rw [if_pos (HLS.out.1 hlo)])
          have hlod : decide (ro < 0) = true := decide_eq_true hlo
          have HOY := Lib.hid (ownB HOX.out HBY.out)
          have HMY := Lib.hid (ownB HMX.out HBY.out)
          have HBWY := Lib.hid (HBWX.out.trans (HBY.out.mono HBWX.out.size))
          have HN9 := Lib.hid (HNEW.out wy HB1.out HOY.out)
          have HM9 := Lib.hid (HMS.out wy HMY.out)
          have HB9 := Lib.hid (HBS.out wy HBWY.out)
          have y0 := (HBY.out.cell (p := ⟨pb, 0, none⟩) hpbx).trans p0
          have y1 := (HBY.out.cell (p := ⟨pb, 1, none⟩) hpbx).trans p1
          obtain ⟨yqU, yqL⟩ := hI_cell HOY.out hlt
          have gqU := HOY.out.frozenAt (q * 2)
          have gqL := HOY.out.frozenAt (q * 2 + 1)
          have hgBy : gB < wy.heap.size := Nat.lt_of_lt_of_le hgBx HBY.out.size
          have hpby : pb < wy.heap.size := Nat.lt_of_lt_of_le hpbx HBY.out.size
          have hq0 : (0 : Int) ≤ (q : Int) := by omega
          clear p0 p1 vqU vqL fqU fqL
          go_wp2
          go_roundw
          case rel => exact ⟨t + 1, by omega, by go_num, HN9, HM9, HB9⟩
          case measure => simp [intOf]; omega
        case neg =>
          have HOY := Lib.hid (ownB HOX.out HBY.out)
          have HMY := Lib.hid (ownB HMX.out HBY.out)
          have HE9 : Hid (btr ⟨cu, cl⟩ ⟨bu, bl9⟩ = ⟨bu, bl9⟩) := Lib.hid (by unfold btr; rw [if_neg (fun h => hlo (HLS.out.2 h))])
          have HO9 : Hid (wy.ownsRow w.heap.size 87 2 (.slice (some ⟨gB, 0, none⟩) P P) P ((rwT (hI (tbI cap L s q (M.take (t + 1)))) (P * 2)).map (Value.int .i64))) := Lib.hid (by rw [← HSAME.out h0 HE9.out]; exact HOY.out)
          have HB9 := Lib.hid (HBWX.out.trans (HBY.out.mono HBWX.out.size))
          have hlod : decide (ro < 0) = false := decide_eq_false hlo
          clear p0 p1 vqU vqL fqU fqL
          go_wp2
          go_roundw
          case rel => exact ⟨t + 1, by omega, by go_num, HO9, HMY, HB9⟩
          case measure => simp [intOf]; omega
end Go.Proofs.YtlgkjidginibdaaDoor
