/- Sets of requests that conflict: contracts of spec.l12Clique and spec.l12Bound. No condition but those typed. -/
import Derived.Test.YtbnfogedmjjiaaaDoorCaH
import Derived.Test.YtbnfogedmjjiaaaDoorGA
import Derived.Test.YtbnfogedmjjiaaaDoorRch
import Derived.Test.YtbnfogedmjjiaaaDoorGB
import Derived.Deep.DeepCutAuto
namespace Go.Proofs.YtbnfogedmjjiaaaDoor
open Go.ChangeShapes Go.WideShapes Go.ChangeAt Go.RowKit Go.Maps

def smN (ds : List RqD) (z : Nat) : Nat → Int
  | 0 => 0
  | k + 1 => if z.testBit k then smN ds z k + (rqn ds k).q0 else smN ds z k
theorem sm_yes {ds : List RqD} {z k : Nat} (h : z.testBit k = true) : smN ds z (k + 1) = smN ds z k + (rqn ds k).q0 := by rw [smN, if_pos h]
theorem sm_no {ds : List RqD} {z k : Nat} (h : z.testBit k = false) : smN ds z (k + 1) = smN ds z k := by rw [smN, h]; rfl
def clqP (ds : List RqD) (z k : Nat) : Prop := ∀ i j, j < i → i < k → z.testBit i = true → z.testBit j = true → cfB (rqn ds i) (rqn ds j) = true
noncomputable def clqV (ds : List RqD) (z n : Nat) : Int := if pb (clqP ds z n) then smN ds z n else -1
theorem clq_yes {ds : List RqD} {z n : Nat} (h : clqP ds z n) : clqV ds z n = smN ds z n := by unfold clqV; rw [pb_true h]; rfl
theorem clq_no {ds : List RqD} {z n i j : Nat} (hij : j < i) (hi : i < n) (h1 : z.testBit i = true) (h2 : z.testBit j = true) (h3 : cfB (rqn ds i) (rqn ds j) = false) : clqV ds z n = -1 := by
  unfold clqV
  rw [pb_false (fun h => by have h4 := h i j hij hi h1 h2; rw [h3] at h4; cases h4)]; rfl
theorem clq_step {ds : List RqD} {z k : Nat} (h : clqP ds z k) (h2 : z.testBit k = true → ∀ j, j < k → z.testBit j = true → cfB (rqn ds k) (rqn ds j) = true) : clqP ds z (k + 1) := by
  intro i j hij hi h3 h4
  by_cases e : i = k
  · subst e; exact h2 h3 j hij h4
  · exact h i j hij (by omega) h3 h4
set_option maxRecDepth 100000 in
set_option maxHeartbeats 8000000 in
theorem l12Clique_ {B g n : Nat} {ys : List Rq} {ds : List RqD} {w : World} (hT : Rqs B g n ys w) (hd : ys.map Rq.d = ds) (hn7 : n ≤ 7) (hq : ∀ k, k < n → 1 ≤ (rqn ds k).q0 ∧ (rqn ds k).q0 ≤ 24) (z : Nat) (hz : z < 2 ^ 7) :
    Calls Tryd.prog 143 #[.slice (some ⟨g, 0, none⟩) n n, .int .i64 (z : Int)] w (RetP (.int .i64 (clqV ds z n)) w) := by
  have HT := Lib.hid hT; have HD := Lib.hid hd; have HQ := Lib.hid hq
  obtain ⟨R, hR⟩ : ∃ r, clqV ds z n = r := ⟨_, rfl⟩
  have HNO : Hid (∀ i j, j < i → i < n → z.testBit i = true → z.testBit j = true → cfB (rqn ds i) (rqn ds j) = false → -1 = R) := Lib.hid (fun i j h1 h2 h3 h4 h5 => by rw [← hR]; exact (clq_no h1 h2 h3 h4 h5).symm)
  have HYES : Hid (clqP ds z n → smN ds z n = R) := Lib.hid (fun e => by rw [← hR]; exact (clq_yes e).symm)
  rw [hR]
  clear hT hd hq hR
  go_enter Tryd.func143, Tryd.ntmps143
  go_wp2
  go_loopw [5, 6] (fun v l wr => ∃ (k : Nat) (S : Int), k ≤ n ∧ l = .int .i64 k ∧ v = .int .i64 S ∧ 0 ≤ S ∧ S ≤ 24 * (k : Int) ∧ Hid (smN ds z k = S) ∧ Hid (clqP ds z k) ∧ Below w.heap.size w wr) (fun _ l _ => n - (intOf l).toNat)
  case atStart => exact ⟨0, 0, Nat.zero_le _, rfl, rfl, Int.le_refl _, by omega, Lib.hid rfl, Lib.hid (fun i j _ h => by omega), Below.refl _ _⟩
  case round =>
    obtain ⟨k, S, hk, rfl, rfl, hS0, hS1, HS, HC, hb⟩ := hrel
    have HBR := Lib.hid hb
    clear hb
    by_cases hlt : k < n
    case neg =>
      obtain rfl : k = n := by omega
      obtain rfl : S = R := by rw [← HS.out]; exact HYES.out HC.out
      clear hlt
      go_wp2
      go_ret
      exact ⟨rfl, HBR.out⟩
    case pos =>
    have hltI : (k : Int) < n := by omega
    have hbit := bit_of z k (by omega)
    obtain ⟨tb, htb⟩ : ∃ b, z.testBit k = b := ⟨_, rfl⟩
    rw [htb] at hbit
    have HTB := Lib.hid htb
    clear htb
    cases tb
    case false =>
      rw [if_neg (by decide)] at hbit
      have HS2 : Hid (smN ds z (k + 1) = S) := Lib.hid (by rw [sm_no HTB.out]; exact HS.out)
      have HC2 : Hid (clqP ds z (k + 1)) := Lib.hid (clq_step HC.out (fun h => by rw [HTB.out] at h; cases h))
      go_wp2
      go_roundw
      case rel => exact ⟨k + 1, S, by omega, by go_num, rfl, hS0, by omega, HS2, HC2, HBR.out⟩
      case measure => simp [intOf]; omega
    case true =>
    rw [if_pos rfl] at hbit
    have hyl : k < ys.length := by have := HT.out.len; omega
    obtain ⟨y0, hy0⟩ : ∃ y, ys[k]'hyl = y := ⟨_, rfl⟩
    have HKY := Lib.hid (rqn_at HD.out hyl hy0)
    obtain ⟨hcA, f0, f1, f2⟩ := (HT.out.moved HBR.out).rd.rqc hyl
    rw [Nat.zero_add, hy0] at f2
    obtain ⟨cnt, hcnt⟩ : ∃ c, y0.q0 = c := ⟨_, rfl⟩
    rw [hcnt] at f2
    obtain ⟨hq1, hq2⟩ := HQ.out k hlt
    rw [HKY.out] at hq1 hq2
    have hq3 : 1 ≤ cnt := by rw [← hcnt]; exact hq1
    have hq4 : cnt ≤ 24 := by rw [← hcnt]; exact hq2
    have hsum : IntKind.i64.wrap (S + cnt) = S + cnt := IntWalk.i64_in _ (by omega)
    have HS2 : Hid (smN ds z (k + 1) = S + cnt) := Lib.hid (by rw [sm_yes HTB.out, HS.out, HKY.out, ← hcnt]; rfl)
    clear hcA f0 f1 hcnt hy0 hq1 hq2 HKY
    obtain ⟨S2, hS2⟩ : ∃ s, S + cnt = s := ⟨_, rfl⟩
    have hS20 : 0 ≤ S2 := by omega
    have hS21 : S2 ≤ 24 * (k : Int) + 24 := by omega
    rw [hS2] at hsum HS2
    go_wp2
    go_loopw [7] (fun l wq => ∃ j : Nat, j ≤ k ∧ l = .int .i64 j ∧ Hid (∀ i, i < j → z.testBit i = true → cfB (rqn ds k) (rqn ds i) = true) ∧ Below w.heap.size w wq) (fun l _ => k - (intOf l).toNat)
    case atStart => exact ⟨0, Nat.zero_le _, rfl, Lib.hid (fun i hi => by omega), HBR.out⟩
    case round =>
      obtain ⟨j, hj, rfl, HJ, hb⟩ := hrel
      have HBQ := Lib.hid hb
      clear hb f2
      by_cases hjk : j < k
      case neg =>
        obtain rfl : j = k := by omega
        have HC2 : Hid (clqP ds z (j + 1)) := Lib.hid (clq_step HC.out (fun _ => HJ.out))
        clear hjk
        go_wp2
        go_roundw
        case rel => exact ⟨j + 1, S2, by omega, by go_num, by go_num, hS20, by omega, HS2, HC2, HBQ.out⟩
        case measure => simp [intOf]; omega
      case pos =>
      have hjkI : (j : Int) < k := by omega
      have hjn : (j : Int) < n := by omega
      have hbit2 := bit_of z j (by omega)
      obtain ⟨tj, htj⟩ : ∃ b, z.testBit j = b := ⟨_, rfl⟩
      rw [htj] at hbit2
      have HTJ := Lib.hid htj
      clear htj
      obtain ⟨T, f, x0, hx0, hTT, HST⟩ := above wr
      haveI : Nonempty T := ⟨x0⟩
      have HXX := Lib.hid hx0
      have HBX : Hid (∀ x, Below w.heap.size w (f x)) := Lib.hid (fun x => HBQ.out.trans ((hTT x).mono HBQ.out.size))
      have HTX : Hid (∀ x, Below wr.heap.size wr (f x)) := Lib.hid hTT
      clear hTT hx0
      cases tj
      case false =>
        rw [if_neg (by decide)] at hbit2
        have HJ2 : Hid (∀ i, i < j + 1 → z.testBit i = true → cfB (rqn ds k) (rqn ds i) = true) := Lib.hid (fun i hi h => by
          by_cases e : i = j
          · subst e; rw [HTJ.out] at h; cases h
          · exact HJ.out i (by omega) h)
        go_wp2_with fail
        refine wp_region_class f (by kernel_rfl) (by kernel_rfl) x0 HXX.out ?_
        repeat (go_big_quiet_step (fail))
        refine wpQuiet_nil ?_
        rintro _ ⟨t, rfl⟩
        have HB3 := Lib.hid (HBX.out t)
        go_wp2
        go_roundw
        case rel => exact ⟨j + 1, by omega, by go_num, HJ2, HB3.out⟩
        case measure => simp [intOf]; omega
      case true =>
      rw [if_pos rfl] at hbit2
      have hyl : k < ys.length := by have := HT.out.len; omega
      obtain ⟨y, hye⟩ : ∃ y, ys[k]'hyl = y := ⟨_, rfl⟩
      have HKy := Lib.hid (rqn_at HD.out hyl hye)
      obtain ⟨hyn, hys, hyr⟩ := HT.out.at_ ys[k] (List.getElem_mem hyl)
      rw [hye] at hyn hys hyr
      have hry : ∀ x, (f x).cell? ⟨g, k * 3, none⟩ = some (.int .i64 y.p0) ∧ (f x).cell? ⟨g, k * 3 + 1, none⟩ = some (.slice y.A y.n y.c) ∧ (f x).cell? ⟨g, k * 3 + 2, none⟩ = some (.int .i64 y.q0) := fun x => by
        obtain ⟨_, f0, f1, f2⟩ := (HT.out.moved (HBX.out x)).rd.rqc hyl
        rw [Nat.zero_add, hye] at f0 f1 f2
        exact ⟨f0, f1, f2⟩
      obtain ⟨p0, A, mm, cc, zs, q0⟩ := y
      simp only at hry hyn hys hyr
      have ry0 := fun x => (hry x).1
      have ry1 := fun x => (hry x).2.1
      have ry2 := fun x => (hry x).2.2
      clear hry hye
      have hzl : j < ys.length := by have := HT.out.len; omega
      obtain ⟨z, hze⟩ : ∃ y, ys[j]'hzl = y := ⟨_, rfl⟩
      have HKz := Lib.hid (rqn_at HD.out hzl hze)
      obtain ⟨hzn, hzs, hzr⟩ := HT.out.at_ ys[j] (List.getElem_mem hzl)
      rw [hze] at hzn hzs hzr
      have hrz : ∀ x, (f x).cell? ⟨g, j * 3, none⟩ = some (.int .i64 z.p0) ∧ (f x).cell? ⟨g, j * 3 + 1, none⟩ = some (.slice z.A z.n z.c) ∧ (f x).cell? ⟨g, j * 3 + 2, none⟩ = some (.int .i64 z.q0) := fun x => by
        obtain ⟨_, f0, f1, f2⟩ := (HT.out.moved (HBX.out x)).rd.rqc hzl
        rw [Nat.zero_add, hze] at f0 f1 f2
        exact ⟨f0, f1, f2⟩
      obtain ⟨p1, A2, m2, c2, ks, q1⟩ := z
      simp only at hrz hzn hzs hzr
      have rz0 := fun x => (hrz x).1
      have rz1 := fun x => (hrz x).2.1
      have rz2 := fun x => (hrz x).2.2
      clear hrz hze
      have CF : Hid (∀ x, Calls Tryd.prog 188 #[.agg #[.int .i64 p0, .slice A mm cc, .int .i64 q0], .agg #[.int .i64 p1, .slice A2 m2 c2, .int .i64 q1]] (f x) (RetP (.bool (zs.any fun f => decide (f ∈ ks))) (f x))) := Lib.hid fun x =>
        cf12_ p0 q0 p1 q1 hyn hys (hyr.moved (HBX.out x)) hzn hzs (hzr.moved (HBX.out x))
      obtain ⟨b, hbe⟩ : ∃ b, (zs.any fun f => decide (f ∈ ks)) = b := ⟨_, rfl⟩
      rw [hbe] at CF
      have HCB : Hid (cfB (rqn ds k) (rqn ds j) = b) := Lib.hid (by rw [HKy.out, HKz.out]; exact hbe)
      clear hyn hys hyr hzn hzs hzr hbe
      cases b
      case false =>
        have HE := Lib.hid (HNO.out k j hjk hlt HTB.out HTJ.out HCB.out)
        go_wp2_with fail
        refine wp_region_class f (by kernel_rfl) (by kernel_rfl) x0 HXX.out ?_
        repeat (go_big_quiet_step (first | (go_at_call 188; exact Calls.inClass HST (CF.out _))))
        refine wpQuiet_nil ?_
        rintro _ ⟨t, rfl⟩
        have HB3 := Lib.hid (HBX.out t)
        clear ry0 ry1 ry2 rz0 rz1 rz2
        go_wp2
        go_ret
        exact ⟨reti HE.out, HB3.out⟩
      case true =>
        have HJ2 : Hid (∀ i, i < j + 1 → z.testBit i = true → cfB (rqn ds k) (rqn ds i) = true) := Lib.hid (fun i hi h => by
          by_cases e : i = j
          · subst e; exact HCB.out
          · exact HJ.out i (by omega) h)
        go_wp2_with fail
        refine wp_region_class f (by kernel_rfl) (by kernel_rfl) x0 HXX.out ?_
        repeat (go_big_quiet_step (first | (go_at_call 188; exact Calls.inClass HST (CF.out _))))
        refine wpQuiet_nil ?_
        rintro _ ⟨t, rfl⟩
        have HB3 := Lib.hid (HBX.out t)
        clear ry0 ry1 ry2 rz0 rz1 rz2
        go_wp2
        go_roundw
        case rel => exact ⟨j + 1, by omega, by go_num, HJ2, HB3.out⟩
        case measure => simp [intOf]; omega
theorem ret_tupB {p : Int × Nat} {G : Int} {b : Nat} (h : p = (G, b)) : Ending.returned (.tuple #[.int .i64 G, .int .i64 (b : Int)]) = .returned (.tuple #[.int .i64 p.1, .int .i64 (p.2 : Nat)]) := by rw [h]
/-- the greatest sum of the cliques among the first f sets, and the first set with it. -/
noncomputable def bdP (ds : List RqD) (n : Nat) : Nat → Int × Nat
  | 0 => (0, 0)
  | f + 1 => if clqV ds f n > (bdP ds n f).1 then (clqV ds f n, f) else bdP ds n f
theorem sm_in {ds : List RqD} {z : Nat} : ∀ {n : Nat}, (∀ k, k < n → 1 ≤ (rqn ds k).q0 ∧ (rqn ds k).q0 ≤ 24) → 0 ≤ smN ds z n ∧ smN ds z n ≤ 24 * (n : Int)
  | 0, _ => ⟨Int.le_refl _, by simp [smN]⟩
  | n + 1, h => by
    have ih := sm_in (ds := ds) (z := z) (n := n) (fun k hk => h k (by omega))
    have h9 := h n (by omega)
    unfold smN
    split <;> omega
theorem clq_in {ds : List RqD} {z n : Nat} (h : ∀ k, k < n → 1 ≤ (rqn ds k).q0 ∧ (rqn ds k).q0 ≤ 24) : -1 ≤ clqV ds z n ∧ clqV ds z n ≤ 24 * (n : Int) := by
  have h9 := sm_in (z := z) h
  unfold clqV
  split <;> omega
theorem bd_in {ds : List RqD} {n : Nat} (h : ∀ k, k < n → 1 ≤ (rqn ds k).q0 ∧ (rqn ds k).q0 ≤ 24) : ∀ f, 0 ≤ (bdP ds n f).1 ∧ (bdP ds n f).1 ≤ 24 * (n : Int) ∧ (bdP ds n f).2 ≤ f
  | 0 => ⟨Int.le_refl _, by show (0 : Int) ≤ _; omega, Nat.le_refl _⟩
  | f + 1 => by
    have ih := bd_in h f
    have h9 := clq_in (z := f) h
    unfold bdP
    split
    · exact ⟨by show 0 ≤ clqV ds f n; omega, h9.2, Nat.le_succ _⟩
    · exact ⟨ih.1, ih.2.1, by omega⟩
theorem bd_one (ds : List RqD) (n : Nat) : bdP ds n 1 = (0, 0) := by
  have h0 : ∀ k, smN ds 0 k = 0 := fun k => by
    induction k with
    | zero => rfl
    | succ k ih => rw [sm_no (Nat.zero_testBit k), ih]
  have e : clqV ds 0 n = 0 := by rw [clq_yes (fun i j _ _ h => by rw [Nat.zero_testBit] at h; cases h), h0]
  unfold bdP
  rw [e, if_neg (by show ¬ (0 : Int) > 0; omega)]; rfl
theorem bd_yes {ds : List RqD} {n f : Nat} (h : clqV ds f n > (bdP ds n f).1) : bdP ds n (f + 1) = (clqV ds f n, f) := by rw [bdP, if_pos h]
theorem bd_no {ds : List RqD} {n f : Nat} (h : ¬ clqV ds f n > (bdP ds n f).1) : bdP ds n (f + 1) = bdP ds n f := by rw [bdP, if_neg h]
set_option maxRecDepth 100000 in
set_option maxHeartbeats 8000000 in
theorem l12Bound_ {B g n : Nat} {ys : List Rq} {ds : List RqD} {w : World} (hT : Rqs B g n ys w) (hd : ys.map Rq.d = ds) (hn7 : n ≤ 7) (hq : ∀ k, k < n → 1 ≤ (rqn ds k).q0 ∧ (rqn ds k).q0 ≤ 24) :
    Calls Tryd.prog 75 #[.slice (some ⟨g, 0, none⟩) n n] w (RetP (.tuple #[.int .i64 (bdP ds n (2 ^ n)).1, .int .i64 ((bdP ds n (2 ^ n)).2 : Nat)]) w) := by
  have CQ : Hid (∀ W, Below w.heap.size w W → ∀ z : Nat, z < 2 ^ 7 → Calls Tryd.prog 143 #[.slice (some ⟨g, 0, none⟩) n n, .int .i64 (z : Int)] W (RetP (.int .i64 (clqV ds z n)) W)) := Lib.hid (fun W hW z hz => l12Clique_ (hT.moved hW) hd hn7 hq z hz)
  have HIN := Lib.hid (fun z => clq_in (z := z) hq)
  have HBI := Lib.hid (bd_in hq)
  obtain ⟨P, hP⟩ : ∃ p, 2 ^ n = p := ⟨_, rfl⟩
  have hP1 : P ≤ 2 ^ 7 := by rw [← hP]; exact Nat.pow_le_pow_right (by decide) hn7
  have hP0 : 1 ≤ P := by rw [← hP]; exact Nat.one_le_two_pow
  have hsh : ((2 : Int) ^ n) = (P : Int) := by rw [← hP]; simp
  rw [hP]
  clear hT hd hq hP
  go_enter Tryd.func75, Tryd.ntmps75
  go_wp2
  go_loopw [4, 5, 6] (fun v s l wr => ∃ (f b : Nat) (G : Int), f ≤ P ∧ 1 ≤ f ∧ l = .int .i64 f ∧ v = .int .i64 G ∧ s = .int .i64 b ∧ Hid (bdP ds n f = (G, b)) ∧ Below w.heap.size w wr) (fun _ _ l _ => P - (intOf l).toNat)
  case atStart => exact ⟨1, 0, 0, hP0, Nat.le_refl _, rfl, rfl, rfl, Lib.hid (bd_one _ _), Below.refl _ _⟩
  case round =>
    obtain ⟨f, b, G, hf, hf1, rfl, rfl, rfl, HG, hb⟩ := hrel
    have HBR := Lib.hid hb
    clear hb
    by_cases hlt : f < P
    case neg =>
      obtain rfl : f = P := by omega
      clear hlt
      go_wp2
      go_ret2
      exact ⟨ret_tupB HG.out, HBR.out⟩
    case pos =>
    have hltI : (f : Int) < P := by omega
    have C := Lib.hid (CQ.out wr HBR.out f (by omega))
    have HI := HIN.out f
    have HGI := HBI.out f
    rw [HG.out] at HGI
    obtain ⟨v, hv⟩ : ∃ v, clqV ds f n = v := ⟨_, rfl⟩
    rw [hv] at C HI
    have HV := Lib.hid hv
    clear hv
    obtain ⟨hi0, hi1⟩ := HI
    obtain ⟨hg0, hg1, _⟩ := HGI
    simp only at hg0 hg1
    by_cases hvg : G < v
    case pos =>
      have HG2 : Hid (bdP ds n (f + 1) = (v, f)) := Lib.hid (by rw [bd_yes (by rw [HV.out, HG.out]; exact hvg), HV.out])
      go_wp2_with fail
      refine C.out.mono ?_
      rintro e w2 ⟨rfl, hb2⟩
      have HB2 := Lib.hid (HBR.out.trans (hb2.mono HBR.out.size))
      clear hb2
      go_wp2
      go_roundw
      case rel => exact ⟨f + 1, f, v, by omega, by omega, by go_num, rfl, rfl, HG2, HB2.out⟩
      case measure => simp [intOf]; omega
    case neg =>
      have HG2 : Hid (bdP ds n (f + 1) = (G, b)) := Lib.hid (by rw [bd_no (by rw [HV.out, HG.out]; exact hvg), HG.out])
      go_wp2_with fail
      refine C.out.mono ?_
      rintro e w2 ⟨rfl, hb2⟩
      have HB2 := Lib.hid (HBR.out.trans (hb2.mono HBR.out.size))
      clear hb2
      go_wp2
      go_roundw
      case rel => exact ⟨f + 1, b, G, by omega, by omega, by go_num, rfl, rfl, HG2, HB2.out⟩
      case measure => simp [intOf]; omega
end Go.Proofs.YtbnfogedmjjiaaaDoor
