/- Sets of requests that conflict: contracts of impl.isClique, of the sum over a set's members and of impl.CliqueBound. Condition: the table of math/bits holds what Go's text lays. -/
import Derived.Test.YtbnfogedmjjiaaaDoorCb
import Derived.Test.YtbnfogedmjjiaaaDoorLst
import Derived.Test.YtbnfogedmjjiaaaDoorGB
import Derived.Test.YtbnfogedmjjiaaaDoorAvP
import Derived.Deep.DeepCutAuto
namespace Go.Proofs.YtbnfogedmjjiaaaDoor
open Go.ChangeShapes Go.WideShapes Go.ChangeAt Go.RowKit Go.Maps

def rqz (ds : List RqD) (zs : List Int) (a : Nat) : RqD := rqn ds (zs.getD a 0).toNat
def isqP (ds : List RqD) (zs : List Int) : Prop := ∀ a b, b < a → a < zs.length → cfB (rqz ds zs a) (rqz ds zs b) = true
theorem gd_app {L M : List Int} {a : Nat} (h : a < L.length) : (L ++ M).getD a 0 = L.getD a 0 := by
  rw [List.getD_eq_getElem?_getD, List.getD_eq_getElem?_getD, List.getElem?_append_left h]
theorem gd_end (L : List Int) (x : Int) : (L ++ [x]).getD L.length 0 = x := by
  rw [List.getD_eq_getElem?_getD, List.getElem?_append_right (Nat.le_refl _)]; simp
theorem gd_mem {L : List Int} {a : Nat} (h : a < L.length) : L.getD a 0 ∈ L := by
  rw [List.getD_eq_getElem?_getD, List.getElem?_eq_getElem h]; exact List.getElem_mem h
theorem isq_sel {ds : List RqD} {z : Nat} : ∀ {n : Nat}, isqP ds (selK z.testBit n) ↔ clqP ds z n
  | 0 => ⟨fun _ i j _ h => by omega, fun _ a b _ h => by simp [selK] at h⟩
  | n + 1 => by
    have ih := isq_sel (ds := ds) (z := z) (n := n)
    cases hz : z.testBit n
    · rw [sel_out hz, ih]
      refine ⟨fun h i j hij hi h1 h2 => ?_, fun h i j hij hi => h i j hij (by omega)⟩
      by_cases e : i = n
      · rw [e, hz] at h1; cases h1
      · exact h i j hij (by omega) h1 h2
    · rw [sel_in hz]
      have hl : ∀ a, a < (selK z.testBit n).length → rqz ds (selK z.testBit n ++ [(n : Int)]) a = rqz ds (selK z.testBit n) a := fun a ha => by unfold rqz; rw [gd_app ha]
      have he : rqz ds (selK z.testBit n ++ [(n : Int)]) (selK z.testBit n).length = rqn ds n := by unfold rqz; rw [gd_end]; rfl
      constructor
      · intro h i j hij hi h1 h2
        by_cases e : i = n
        · subst e
          have hm : (j : Int) ∈ selK z.testBit i := sel_mem.2 ⟨j, rfl, hij, h2⟩
          obtain ⟨b, hb, hbe⟩ := List.getElem_of_mem hm
          have h9 := h (selK z.testBit i).length b hb (by simp)
          rw [he, hl b hb] at h9
          unfold rqz at h9
          rw [List.getD_eq_getElem?_getD, List.getElem?_eq_getElem hb, hbe] at h9
          exact h9
        · refine ih.1 (fun a b hab ha => ?_) i j hij (by omega) h1 h2
          have h9 := h a b hab (by rw [List.length_append]; omega)
          rw [hl a ha, hl b (by omega)] at h9; exact h9
      · intro h a b hab ha
        rw [List.length_append] at ha
        simp only [List.length_cons, List.length_nil] at ha
        rcases Nat.lt_or_ge a (selK z.testBit n).length with h9 | h9
        · rw [hl a h9, hl b (by omega)]
          exact ih.2 (fun i j h1 h2 => h i j h1 (by omega)) a b hab h9
        · obtain rfl : a = (selK z.testBit n).length := by omega
          rw [he, hl b hab]
          obtain ⟨j, hj, hjn, hjb⟩ := sel_mem.1 (gd_mem hab)
          unfold rqz
          rw [hj]
          exact h n j hjn (by omega) hz hjb
def smL (ds : List RqD) (zs : List Int) : Nat → Int
  | 0 => 0
  | k + 1 => smL ds zs k + (rqz ds zs k).q0
theorem smL_app {ds : List RqD} {L M : List Int} : ∀ {k : Nat}, k ≤ L.length → smL ds (L ++ M) k = smL ds L k
  | 0, _ => rfl
  | k + 1, h => by
    unfold smL rqz
    rw [smL_app (by omega), gd_app (by omega)]
theorem smL_sel {ds : List RqD} {z : Nat} : ∀ {n : Nat}, smL ds (selK z.testBit n) (selK z.testBit n).length = smN ds z n
  | 0 => rfl
  | n + 1 => by
    have ih := smL_sel (ds := ds) (z := z) (n := n)
    cases hz : z.testBit n
    · rw [sel_out hz, sm_no hz, ih]
    · rw [sel_in hz, sm_yes hz, List.length_append]
      show smL ds (selK z.testBit n ++ [(n : Int)]) (selK z.testBit n).length + (rqz ds (selK z.testBit n ++ [(n : Int)]) (selK z.testBit n).length).q0 = _
      rw [smL_app (Nat.le_refl _), ih]
      unfold rqz
      rw [gd_end]; rfl
theorem smL_in {ds : List RqD} {zs : List Int} {n : Nat} (hq : ∀ k, k < n → 1 ≤ (rqn ds k).q0 ∧ (rqn ds k).q0 ≤ 24) (hz : ∀ k, k < zs.length → 0 ≤ zs.getD k 0 ∧ zs.getD k 0 < n) : ∀ k, k ≤ zs.length → 0 ≤ smL ds zs k ∧ smL ds zs k ≤ 24 * (k : Int)
  | 0, _ => ⟨Int.le_refl _, by show (0 : Int) ≤ _; omega⟩
  | k + 1, h => by
    have ih := smL_in hq hz k (by omega)
    have h1 := hz k (by omega)
    have h2 := hq (zs.getD k 0).toNat (by omega)
    unfold smL rqz
    omega
/-- the value of a set is its sum where it is a clique. -/
theorem clq_sel {ds : List RqD} {z n : Nat} (hn : n ≤ 24) (hz : z < 2 ^ n) : clqV ds z n = if pb (isqP ds (bl z)) then smL ds (bl z) (bl z).length else -1 := by
  rw [bl_sel hn hz, smL_sel]
  unfold clqV
  by_cases h : clqP ds z n
  · rw [pb_true h, pb_true (isq_sel.2 h)]
  · rw [pb_false h, pb_false (fun e => h (isq_sel.1 e))]
set_option maxRecDepth 100000 in
set_option maxHeartbeats 8000000 in
theorem isClique_ {B g n : Nat} {ys : List Rq} {ds : List RqD} {w : World} (hT : Rqs B g n ys w) (hd : ys.map Rq.d = ds) (hn7 : n ≤ 7) (hf : ∀ k, k < n → ∀ j, j < (rqn ds k).zs.length → 0 ≤ nth (rqn ds k).zs j ∧ nth (rqn ds k).zs j < 20) {A : Option Addr} {N c : Nat} {zs : List Int} (hN : zs.length = N) (hs : N ≤ 24) (hc : N ≤ c) (hcm : c ≤ 9223372036854775807) (hr : Rd w w.heap.size A (zs.map (Value.int .i64))) (hz : ∀ k, k < N → 0 ≤ zs.getD k 0 ∧ zs.getD k 0 < n) :
    Calls Tryd.prog 83 #[.slice (some ⟨g, 0, none⟩) n n, .slice A N c] w (RetP (.bool (pb (isqP ds zs))) w) := by
  have HT := Lib.hid hT; have HD := Lib.hid hd; have HF := Lib.hid hf; have HN := Lib.hid hN; have HR := Lib.hid hr; have HZ := Lib.hid hz
  obtain ⟨R, hR⟩ : ∃ r, pb (isqP ds zs) = r := ⟨_, rfl⟩
  have HNO : Hid (∀ a b, b < a → a < zs.length → cfB (rqz ds zs a) (rqz ds zs b) = false → false = R) := Lib.hid (fun a b h1 h2 h3 => by rw [← hR]; exact (pb_false (fun h => by have h4 := h a b h1 h2; rw [h3] at h4; cases h4)).symm)
  have HYES : Hid (isqP ds zs → true = R) := Lib.hid (fun e => by rw [← hR]; exact (pb_true e).symm)
  rw [hR]
  clear hT hd hf hN hr hz hR
  go_enter Tryd.func83, Tryd.ntmps83
  go_wp2
  go_loopw [11] (fun l wr => ∃ k : Nat, k ≤ N ∧ l = .int .i64 k ∧ Hid (∀ a b, b < a → a < k → cfB (rqz ds zs a) (rqz ds zs b) = true) ∧ Below w.heap.size w wr) (fun l _ => N - (intOf l).toNat)
  case atStart => exact ⟨0, Nat.zero_le _, rfl, Lib.hid (fun a b _ h => by omega), Below.refl _ _⟩
  case round =>
    obtain ⟨k, hk, rfl, HK, hb⟩ := hrel
    have HBR := Lib.hid hb
    clear hb
    by_cases hlt : k < N
    case neg =>
      have HE := Lib.hid (HYES.out (fun a b h1 h2 => HK.out a b h1 (by have := HN.out; omega)))
      have hltI : ¬ (k : Int) < N := by omega
      clear hlt
      go_wp2
      go_ret
      exact ⟨retb HE.out, HBR.out⟩
    case pos =>
    have hltI : (k : Int) < N := by omega
    have hkc : k ≤ c := by omega
    have hkcI : (k : Int) ≤ c := by omega
    have hkz : k < zs.length := by have := HN.out; omega
    obtain ⟨ad, hA, hbl, hc1⟩ := ints_at HR.out hkz
    subst hA
    rw [← HBR.out.cell (by rw [addBlock]; exact hbl)] at hc1
    obtain ⟨i, hi⟩ : ∃ i : Nat, zs.getD k 0 = i := ⟨(zs.getD k 0).toNat, by have := HZ.out k hlt; omega⟩
    have hin : i < n := by have := HZ.out k hlt; omega
    have e9 : zs[k]'hkz = (i : Int) := by rw [← hi, List.getD_eq_getElem?_getD, List.getElem?_eq_getElem hkz]; rfl
    rw [e9] at hc1
    have HI : Hid (rqz ds zs k = rqn ds i) := Lib.hid (by unfold rqz; rw [hi]; rfl)
    have hinI : (i : Int) < n := by omega
    clear e9 hi hbl
    go_wp2
    clear hc1
    go_loopw [20] (fun l wq => ∃ j : Nat, j ≤ k ∧ l = .int .i64 j ∧ Hid (∀ b, b < j → cfB (rqz ds zs k) (rqz ds zs b) = true) ∧ Below w.heap.size w wq) (fun l _ => k - (intOf l).toNat)
    case atStart => exact ⟨0, Nat.zero_le _, rfl, Lib.hid (fun b hb => by omega), HBR.out⟩
    case round =>
      obtain ⟨j, hj, rfl, HJ, hb⟩ := hrel
      have HBQ := Lib.hid hb
      clear hb
      by_cases hjk : j < k
      case neg =>
        have HK2 : Hid (∀ a b, b < a → a < k + 1 → cfB (rqz ds zs a) (rqz ds zs b) = true) := Lib.hid (fun a b h1 h2 => by
          by_cases e : a = k
          · subst e; exact HJ.out b (by omega)
          · exact HK.out a b h1 (by omega))
        have hjkI : ¬ (j : Int) < k := by omega
        clear hjk
        go_wp2
        go_roundw
        case rel => exact ⟨k + 1, by omega, by go_num, HK2, HBQ.out⟩
        case measure => simp [intOf]; omega
      case pos =>
      have hjkI : (j : Int) < k := by omega
      have hjz : j < zs.length := by have := HN.out; omega
      obtain ⟨ad2, hA2, hbl2, hc2⟩ := ints_at HR.out hjz
      obtain rfl : ad = ad2 := Option.some.inj hA2
      clear hA2
      rw [← HBQ.out.cell (by rw [addBlock]; exact hbl2)] at hc2
      obtain ⟨q, hq⟩ : ∃ i : Nat, zs.getD j 0 = i := ⟨(zs.getD j 0).toNat, by have := HZ.out j (by omega); omega⟩
      have hqn : q < n := by have := HZ.out j (by omega); omega
      have e9 : zs[j]'hjz = (q : Int) := by rw [← hq, List.getD_eq_getElem?_getD, List.getElem?_eq_getElem hjz]; rfl
      rw [e9] at hc2
      have HI2 : Hid (rqz ds zs j = rqn ds q) := Lib.hid (by unfold rqz; rw [hq]; rfl)
      have hqnI : (q : Int) < n := by omega
      clear e9 hq hbl2
      obtain ⟨T, f, x0, hx0, hTT, HST⟩ := above wr
      haveI : Nonempty T := ⟨x0⟩
      have HXX := Lib.hid hx0
      have HBX : Hid (∀ x, Below w.heap.size w (f x)) := Lib.hid (fun x => HBQ.out.trans ((hTT x).mono HBQ.out.size))
      have HTX : Hid (∀ x, Below wr.heap.size wr (f x)) := Lib.hid hTT
      clear hTT hx0
      have hcx : ∀ x, (f x).cell? (ad.add j) = some (.int .i64 (q : Int)) := fun x => by
        obtain ⟨ad3, hA3, hbl3, _⟩ := ints_at HR.out hjz
        obtain rfl : ad = ad3 := Option.some.inj hA3
        rw [(HTX.out x).cell (by rw [addBlock]; exact Nat.lt_of_lt_of_le hbl3 HBQ.out.size)]; exact hc2
      have hyl : i < ys.length := by have := HT.out.len; omega
      obtain ⟨y, hye⟩ : ∃ y, ys[i]'hyl = y := ⟨_, rfl⟩
      have HKy := Lib.hid (rqn_at HD.out hyl hye)
      obtain ⟨hyn, hys, hyr⟩ := HT.out.at_ ys[i] (List.getElem_mem hyl)
      rw [hye] at hyn hys hyr
      have hry : ∀ x, (f x).cell? ⟨g, i * 3, none⟩ = some (.int .i64 y.p0) ∧ (f x).cell? ⟨g, i * 3 + 1, none⟩ = some (.slice y.A y.n y.c) ∧ (f x).cell? ⟨g, i * 3 + 2, none⟩ = some (.int .i64 y.q0) := fun x => by
        obtain ⟨_, f0, f1, f2⟩ := (HT.out.moved (HBX.out x)).rd.rqc hyl
        rw [Nat.zero_add, hye] at f0 f1 f2
        exact ⟨f0, f1, f2⟩
      obtain ⟨p0, A, mm, cc, zs_, q0⟩ := y
      simp only at hry hyn hys hyr
      have ry0 := fun x => (hry x).1
      have ry1 := fun x => (hry x).2.1
      have ry2 := fun x => (hry x).2.2
      clear hry hye
      have hzl : q < ys.length := by have := HT.out.len; omega
      obtain ⟨z, hze⟩ : ∃ y, ys[q]'hzl = y := ⟨_, rfl⟩
      have HKz := Lib.hid (rqn_at HD.out hzl hze)
      obtain ⟨hzn, hzs, hzr⟩ := HT.out.at_ ys[q] (List.getElem_mem hzl)
      rw [hze] at hzn hzs hzr
      have hrz : ∀ x, (f x).cell? ⟨g, q * 3, none⟩ = some (.int .i64 z.p0) ∧ (f x).cell? ⟨g, q * 3 + 1, none⟩ = some (.slice z.A z.n z.c) ∧ (f x).cell? ⟨g, q * 3 + 2, none⟩ = some (.int .i64 z.q0) := fun x => by
        obtain ⟨_, f0, f1, f2⟩ := (HT.out.moved (HBX.out x)).rd.rqc hzl
        rw [Nat.zero_add, hze] at f0 f1 f2
        exact ⟨f0, f1, f2⟩
      obtain ⟨p1, A2, m2, c2, ks, q1⟩ := z
      simp only at hrz hzn hzs hzr
      have rz0 := fun x => (hrz x).1
      have rz1 := fun x => (hrz x).2.1
      have rz2 := fun x => (hrz x).2.2
      clear hrz hze
      have HFY := HF.out i hin
      have HFZ := HF.out q hqn
      rw [HKy.out] at HFY
      rw [HKz.out] at HFZ
      have HFY2 := Lib.hid HFY; have HFZ2 := Lib.hid HFZ
      clear HFY HFZ
      have CF : Hid (∀ x, Calls Tryd.prog 147 #[.agg #[.int .i64 p0, .slice A mm cc, .int .i64 q0], .agg #[.int .i64 p1, .slice A2 m2 c2, .int .i64 q1]] (f x) (RetP (.bool (zs_.any fun f => decide (f ∈ ks))) (f x))) := Lib.hid fun x =>
        areCf_ p0 q0 p1 q1 hyn hys (hyr.moved (HBX.out x)) hzn hzs (hzr.moved (HBX.out x)) (fun k9 hk9 => HFY2.out k9 (by rw [show (Rq.d ⟨p0, A, mm, cc, zs_, q0⟩).zs = zs_ from rfl]; omega)) (fun k9 hk9 => HFZ2.out k9 (by rw [show (Rq.d ⟨p1, A2, m2, c2, ks, q1⟩).zs = ks from rfl]; omega))
      obtain ⟨b, hbe⟩ : ∃ b, (zs_.any fun f => decide (f ∈ ks)) = b := ⟨_, rfl⟩
      rw [hbe] at CF
      have HCB : Hid (cfB (rqz ds zs k) (rqz ds zs j) = b) := Lib.hid (by rw [HI.out, HI2.out, HKy.out, HKz.out]; exact hbe)
      clear hyn hys hyr hzn hzs hzr hbe
      cases b
      case false =>
        have HE := Lib.hid (HNO.out k j hjk hkz HCB.out)
        go_wp2
        clear hc2
        go_wp2_with fail
        refine wp_region_class f (by kernel_rfl) (by kernel_rfl) x0 HXX.out ?_
        repeat (go_big_quiet_step (first | (go_at_call 147; exact Calls.inClass HST (CF.out _))))
        refine wpQuiet_nil ?_
        rintro _ ⟨t, rfl⟩
        have HB3 := Lib.hid (HBX.out t)
        clear ry0 ry1 ry2 rz0 rz1 rz2 hcx
        go_wp2
        go_ret
        exact ⟨retb HE.out, HB3.out⟩
      case true =>
        have HJ2 : Hid (∀ b, b < j + 1 → cfB (rqz ds zs k) (rqz ds zs b) = true) := Lib.hid (fun b hb => by
          by_cases e : b = j
          · subst e; exact HCB.out
          · exact HJ.out b (by omega))
        go_wp2
        clear hc2
        go_wp2_with fail
        refine wp_region_class f (by kernel_rfl) (by kernel_rfl) x0 HXX.out ?_
        repeat (go_big_quiet_step (first | (go_at_call 147; exact Calls.inClass HST (CF.out _))))
        refine wpQuiet_nil ?_
        rintro _ ⟨t, rfl⟩
        have HB3 := Lib.hid (HBX.out t)
        clear ry0 ry1 ry2 rz0 rz1 rz2 hcx
        go_wp2
        go_roundw
        case rel => exact ⟨j + 1, by omega, by go_num, HJ2, HB3.out⟩
        case measure => simp [intOf]; omega
set_option maxHeartbeats 1000000 in
theorem cbc_ {B g n : Nat} {ys : List Rq} {ds : List RqD} {w : World} (hT : Rqs B g n ys w) (hd : ys.map Rq.d = ds) (hn7 : n ≤ 7) (i : Nat) (hi : i < n) (Bp : Nat) (hB : w.cell? ⟨Bp, 0, none⟩ = some (.slice (some ⟨g, 0, none⟩) n n)) :
    Calls Tryd.prog 82 #[.int .i64 (i : Int), .pointer (some ⟨Bp, 0, none⟩)] w (RetP (.int .i64 (rqn ds i).q0) w) := by
  have hyl : i < ys.length := by have := hT.len; omega
  obtain ⟨y, hy⟩ : ∃ y, ys[i]'hyl = y := ⟨_, rfl⟩
  have HKy := Lib.hid (rqn_at hd hyl hy)
  obtain ⟨_, f0, f1, f2⟩ := hT.rd.rqc hyl
  rw [Nat.zero_add, hy] at f2
  have hiI : (i : Int) < n := by omega
  obtain ⟨v, hv⟩ : ∃ v, y.q0 = v := ⟨_, rfl⟩
  rw [hv] at f2
  have HE : Hid ((rqn ds i).q0 = v) := Lib.hid (by rw [HKy.out]; exact hv)
  clear hT hd hv hy f0 f1
  go_enter Tryd.func82, Tryd.ntmps82
  go_wp2
  go_ret
  exact ⟨by rw [HE.out]; rfl, Below.refl _ _⟩
set_option maxRecDepth 100000 in
set_option maxHeartbeats 8000000 in
theorem csum_ {B g n : Nat} {ys : List Rq} {ds : List RqD} {w : World} (hT : Rqs B g n ys w) (hd : ys.map Rq.d = ds) (hn7 : n ≤ 7) (hq : ∀ k, k < n → 1 ≤ (rqn ds k).q0 ∧ (rqn ds k).q0 ≤ 24) {A : Option Addr} {N c : Nat} {zs : List Int} (hN : zs.length = N) (hs : N ≤ 24) (hc : N ≤ c) (hcm : c ≤ 9223372036854775807) (hr : Rd w w.heap.size A (zs.map (Value.int .i64))) (hz : ∀ k, k < N → 0 ≤ zs.getD k 0 ∧ zs.getD k 0 < n) (Bp : Nat) (hB : w.cell? ⟨Bp, 0, none⟩ = some (.slice (some ⟨g, 0, none⟩) n n)) (hBs : Bp < w.heap.size) :
    Calls Tryd.prog 81 #[.slice A N c, .func (.func 82) #[] #[.pointer (some ⟨Bp, 0, none⟩)]] w (RetP (.int .i64 (smL ds zs N)) w) := by
  have HT := Lib.hid hT; have HD := Lib.hid hd; have HCB := Lib.hid hB; have HN := Lib.hid hN; have HR := Lib.hid hr; have HZ := Lib.hid hz
  have HBD : Hid (∀ k, k ≤ N → 0 ≤ smL ds zs k ∧ smL ds zs k ≤ 24 * (k : Int)) := Lib.hid (fun k hk => smL_in hq (fun j hj => hz j (by omega)) k (by omega))
  have HQ := Lib.hid hq
  clear hT hd hB hN hr hz hq
  go_enter Tryd.func81, Tryd.ntmps81
  go_wp2
  go_loopw [5, 10] (fun v i wr => ∃ (k : Nat) (y : Int), k ≤ N ∧ i = .int .i64 k ∧ v = .int .i64 y ∧ Hid (smL ds zs k = y) ∧ Below w.heap.size w wr) (fun _ i _ => N - (intOf i).toNat)
  case atStart => exact ⟨0, 0, Nat.zero_le _, rfl, rfl, Lib.hid rfl, Below.refl _ _⟩
  case round =>
    obtain ⟨k, y, hk, rfl, rfl, HY, hb⟩ := hrel
    have HBR := Lib.hid hb
    clear hb
    have hbd := HBD.out k hk
    rw [HY.out] at hbd
    obtain ⟨hy0, hy1⟩ := hbd
    have hy2 : y ≤ 576 := by omega
    clear hy1
    by_cases hlt : k < N
    case neg =>
      obtain rfl : k = N := by omega
      have hkn : ¬ (k : Int) < k := by omega
      clear hlt
      go_wp2
      go_ret
      exact ⟨by rw [HY.out]; rfl, HBR.out⟩
    case pos =>
    have hltI : (k : Int) < N := by omega
    have hkz : k < zs.length := by have := HN.out; omega
    obtain ⟨ad, hA, hbl, hc1⟩ := ints_at HR.out hkz
    subst hA
    rw [← HBR.out.cell (by rw [addBlock]; exact hbl)] at hc1
    obtain ⟨i, hi⟩ : ∃ i : Nat, zs.getD k 0 = i := ⟨(zs.getD k 0).toNat, by have := HZ.out k hlt; omega⟩
    have hin : i < n := by have := HZ.out k hlt; omega
    have e9 : zs[k]'hkz = (i : Int) := by rw [← hi, List.getD_eq_getElem?_getD, List.getElem?_eq_getElem hkz]; rfl
    rw [e9] at hc1
    have HS : Hid (smL ds zs (k + 1) = y + (rqn ds i).q0) := Lib.hid (by show smL ds zs k + (rqz ds zs k).q0 = _; unfold rqz; rw [HY.out, hi]; rfl)
    have CC := Lib.hid (cbc_ (HT.out.moved HBR.out) HD.out hn7 i hin Bp ((HBR.out.cell (p := ⟨Bp, 0, none⟩) hBs).trans HCB.out))
    have hqk := HQ.out i hin
    obtain ⟨u, hu⟩ : ∃ u, (rqn ds i).q0 = u := ⟨_, rfl⟩
    rw [hu] at CC HS hqk
    obtain ⟨hu0, hu1⟩ := hqk
    clear e9 hi hbl hu
    go_wp2_with fail
    go_at_call 82
    refine CC.out.mono ?_
    rintro e w2 ⟨rfl, hb2⟩
    have HB2 := Lib.hid (HBR.out.trans (hb2.mono HBR.out.size))
    clear hb2
    go_wp2
    go_roundw
    case rel => exact ⟨k + 1, y + u, by omega, by go_num, by go_num, HS, HB2.out⟩
    case measure => simp [intOf]; omega
noncomputable def cbG (ss : List ByteArray) (fs : List Q4) (ds : List RqD) : Int := if reqsB ss fs ds then (bdP ds ds.length (2 ^ ds.length)).1 else 0
noncomputable def cbL (ss : List ByteArray) (fs : List Q4) (ds : List RqD) : List Int := if reqsB ss fs ds then bl (bdP ds ds.length (2 ^ ds.length)).2 else []
theorem cb_no {ss : List ByteArray} {fs : List Q4} {ds : List RqD} (h : reqsB ss fs ds = false) : cbG ss fs ds = 0 ∧ cbL ss fs ds = [] := by unfold cbG cbL; rw [h]; exact ⟨rfl, rfl⟩
theorem cb_yes {ss : List ByteArray} {fs : List Q4} {ds : List RqD} (h : reqsB ss fs ds = true) : cbG ss fs ds = (bdP ds ds.length (2 ^ ds.length)).1 ∧ cbL ss fs ds = bl (bdP ds ds.length (2 ^ ds.length)).2 := by unfold cbG cbL; rw [h]; exact ⟨rfl, rfl⟩
def CbP (G : Int) (zs : List Int) (b : Bool) (w : World) (e : Ending) (w' : World) : Prop :=
  ∃ (A : Option Addr) (N c : Nat), e = .returned (.tuple #[.int .i64 G, .slice A N c, .bool b]) ∧ Hid (N = zs.length) ∧ w'.ownsRow w.heap.size 3 1 (.slice A N c) N (zs.map (Value.int .i64)) ∧ Below w.heap.size w w'
theorem cap_own {w : World} {B E s n N c : Nat} {A : Option Addr} {xs : List Value} (h : w.ownsRow B E s (.slice A N c) n xs) (hn : n = N) : N ≤ c ∧ c ≤ 9223372036854775807 := by
  rcases h.2 with ⟨h9, h8⟩ | ⟨g9, cap, cur, h9, _, _, h10, h11, _⟩
  · injection h9 with _ h7 h6; omega
  · injection h9 with _ _ h6; unfold maxLen at h11; omega
theorem bl_bd {z n : Nat} (hn : n ≤ 24) (hz : z < 2 ^ n) : ∀ k, k < (bl z).length → 0 ≤ (bl z).getD k 0 ∧ (bl z).getD k 0 < n := fun k hk => by
  have h9 := gd_mem hk
  rw [bl_sel hn hz] at h9 ⊢
  obtain ⟨i, e, hi, _⟩ := sel_mem.1 h9
  omega
set_option maxRecDepth 100000 in
set_option maxHeartbeats 8000000 in
theorem implCB {g1 g2 n1 n2 c1 c2 : Nat} {ss : List ByteArray} {fs : List Q4} {w : World} (h : NetAt g1 g2 n1 n2 c1 c2 ss fs w) {B g n : Nat} {ys : List Rq} {ds : List RqD} (hT : Rqs B g n ys w) (hd : ys.map Rq.d = ds) (hs : n ≤ 1048576) (hTab : Tab w) :
    Calls Tryd.prog 22 #[.agg #[.slice (some ⟨g1, 0, none⟩) n1 c1, .slice (some ⟨g2, 0, none⟩) n2 c2], .slice (some ⟨g, 0, none⟩) n n] w (CbP (cbG ss fs ds) (cbL ss fs ds) (reqsB ss fs ds) w) := by
  have HTB := Lib.hid hTab
  have HNT := Lib.hid h; have HT := Lib.hid hT; have HD := Lib.hid hd
  have HLD : Hid (ds.length = n) := Lib.hid (by rw [← hd, List.length_map]; exact hT.len)
  obtain ⟨RG, hRG⟩ : ∃ r, cbG ss fs ds = r := ⟨_, rfl⟩
  obtain ⟨RL, hRL⟩ : ∃ r, cbL ss fs ds = r := ⟨_, rfl⟩
  obtain ⟨RB, hRB⟩ : ∃ r, reqsB ss fs ds = r := ⟨_, rfl⟩
  have HNO : Hid (reqsB ss fs ds = false → 0 = RG ∧ [] = RL) := Lib.hid (fun e => by rw [← hRG, ← hRL]; exact ⟨(cb_no e).1.symm, (cb_no e).2.symm⟩)
  have HYES : Hid (reqsB ss fs ds = true → (bdP ds ds.length (2 ^ ds.length)).1 = RG ∧ bl (bdP ds ds.length (2 ^ ds.length)).2 = RL) := Lib.hid (fun e => by rw [← hRG, ← hRL]; exact ⟨(cb_yes e).1.symm, (cb_yes e).2.symm⟩)
  have CV := Lib.hid (fun (W : World) (hb : Below w.heap.size w W) => implReq (h.moved hb) (hT.moved hb) hd hs)
  rw [hRB] at CV
  rw [hRG, hRL, hRB]
  have HVB := Lib.hid hRB
  clear h hT hd hRG hRL hRB hTab
  go_enter Tryd.func22, Tryd.ntmps22
  go_wp2_with fail
  obtain ⟨W0, hW0⟩ : ∃ W0, ((w.alloc (Obj.cells #[.slice (some ⟨g1, 0, none⟩) n1 c1, .slice (some ⟨g2, 0, none⟩) n2 c2] 34)).alloc (Obj.cells #[.slice (some ⟨g, 0, none⟩) n n] 36)) = W0 := ⟨_, rfl⟩
  have hb0 : Below w.heap.size w W0 := by rw [← hW0]; exact ((Below.refl _ _).alloc (Nat.le_refl _) _).alloc (by simp) _
  have k0_0 : W0.cell? ⟨w.heap.size, 0, none⟩ = some (.slice (some ⟨g1, 0, none⟩) n1 c1) := by rw [← hW0]; simp [go_sem]
  have k0_1 : W0.cell? ⟨w.heap.size, 1, none⟩ = some (.slice (some ⟨g2, 0, none⟩) n2 c2) := by rw [← hW0]; simp [go_sem]
  have k1_0 : W0.cell? ⟨w.heap.size + 1, 0, none⟩ = some (.slice (some ⟨g, 0, none⟩) n n) := by rw [← hW0]; simp [go_sem]
  have hz0 : w.heap.size + 1 < W0.heap.size := by rw [← hW0]; simp
  have HKB : Hid (∀ W, Below W0.heap.size W0 W → W.cell? ⟨w.heap.size, 0, none⟩ = some (.slice (some ⟨g1, 0, none⟩) n1 c1) ∧ W.cell? ⟨w.heap.size, 1, none⟩ = some (.slice (some ⟨g2, 0, none⟩) n2 c2) ∧ W.cell? ⟨w.heap.size + 1, 0, none⟩ = some (.slice (some ⟨g, 0, none⟩) n n) ∧ w.heap.size + 1 < W.heap.size) := Lib.hid (fun W hW => ⟨(hW.cell (p := ⟨w.heap.size, 0, none⟩) (by show w.heap.size < _; omega)).trans k0_0, (hW.cell (p := ⟨w.heap.size, 1, none⟩) (by show w.heap.size < _; omega)).trans k0_1, (hW.cell (p := ⟨w.heap.size + 1, 0, none⟩) (by show w.heap.size + 1 < _; omega)).trans k1_0, Nat.lt_of_lt_of_le hz0 hW.size⟩)
  have HSZ0 : Hid (W0.heap.size = w.heap.size + 1 + 1) := Lib.hid (by rw [← hW0]; simp)
  have HB0 := Lib.hid hb0
  rw [hW0]
  clear hW0 hb0 hz0 k0_0 k0_1 k1_0
  refine (CV.out _ HB0.out).mono ?_
  rintro e w1 ⟨rfl, hb9⟩
  have HWw1 := Lib.hid hb9
  have HBw1 := Lib.hid (HB0.out.trans (hb9.mono HB0.out.size))
  clear hb9
  obtain ⟨k00, k01, k10, hgz⟩ := HKB.out _ HWw1.out
  cases RB
  case false =>
    have HE := Lib.hid (HNO.out HVB.out)
    clear k00 k01 k10 hgz
    go_wp2
    go_ret3
    obtain ⟨rfl, rfl⟩ := HE.out
    exact ⟨none, 0, 0, rfl, Lib.hid rfl, World.ownsRow_nil _ _ _ _, HBw1.out⟩
  case true =>
  have HF := Lib.hid (reqs_facts HVB.out)
  have hn7 : n ≤ 7 := by have := HF.out.2.1; have := HLD.out; omega
  have HQ : Hid (∀ k, k < n → 1 ≤ (rqn ds k).q0 ∧ (rqn ds k).q0 ≤ 24) := Lib.hid (fun k hk => HF.out.2.2 k (by have := HLD.out; omega))
  have HFB : Hid (∀ k, k < n → ∀ j, j < (rqn ds k).zs.length → 0 ≤ nth (rqn ds k).zs j ∧ nth (rqn ds k).zs j < 20) := Lib.hid (fun k hk => reqs_mem HVB.out k (by have := HLD.out; omega))
  have HE := Lib.hid (HYES.out HVB.out)
  rw [HLD.out] at HE
  obtain ⟨P, hP⟩ : ∃ p, 2 ^ n = p := ⟨_, rfl⟩
  have hP1 : P ≤ 2 ^ 7 := by rw [← hP]; exact Nat.pow_le_pow_right (by decide) hn7
  have hsh : ((2 : Int) ^ n) = (P : Int) := by rw [← hP]; simp
  have HBI := Lib.hid (bd_in HQ.out)
  have HCS : Hid (∀ z, z < P → clqV ds z n = if pb (isqP ds (bl z)) then smL ds (bl z) (bl z).length else -1) := Lib.hid (fun z hz => clq_sel (by omega) (by rw [hP]; exact hz))
  have HBL : Hid (∀ z, z < P → ∀ k, k < (bl z).length → 0 ≤ (bl z).getD k 0 ∧ (bl z).getD k 0 < n) := Lib.hid (fun z hz => bl_bd (by omega) (by rw [hP]; exact hz))
  rw [hP] at HE
  have HSI : Hid (∀ z, z < P → 0 ≤ smL ds (bl z) (bl z).length) := Lib.hid (fun z hz => (smL_in HQ.out (HBL.out z hz) _ (Nat.le_refl _)).1)
  have hPw : IntKind.i64.wrap (P : Int) = P := IntWalk.i64_in _ (by omega)
  clear hP
  go_wp2
  clear k00 k01 k10 hgz
  go_loopw [7, 8, 19] (fun v s l wr => ∃ (f b : Nat) (G : Int), f ≤ P ∧ l = .int .i64 f ∧ v = .int .i64 G ∧ s = .int .i64 b ∧ Hid (bdP ds n f = (G, b)) ∧ Below w1.heap.size w1 wr) (fun _ _ l _ => P - (intOf l).toNat)
  case atStart => exact ⟨0, 0, 0, Nat.zero_le _, rfl, rfl, rfl, Lib.hid rfl, Below.refl _ _⟩
  case round =>
    obtain ⟨f, b, G, hf, rfl, rfl, rfl, HG, hb⟩ := hrel
    have HBR := Lib.hid hb
    have HWR := Lib.hid (HWw1.out.trans (hb.mono HWw1.out.size))
    have HBW := Lib.hid (HBw1.out.trans (hb.mono HBw1.out.size))
    clear hb
    have HGI := HBI.out f
    rw [HG.out] at HGI
    obtain ⟨hg0, hg1, hgb⟩ := HGI
    simp only at hg0 hg1 hgb
    have CL := Lib.hid (listOf_ b wr (by omega) (HTB.out.over HBW.out))
    by_cases hlt : f < P
    case neg =>
      obtain rfl : f = P := by omega
      have HX : Hid (G = RG ∧ bl b = RL) := Lib.hid (by have h9 := HE.out; rw [HG.out] at h9; exact h9)
      have hltI : ¬ (f : Int) < f := by omega
      clear hlt
      go_wp2_with fail
      refine CL.out.mono ?_
      rintro e w2 ⟨A9, N9, c9, rfl, HN9, ho9, hb9⟩
      have HB2 := Lib.hid (HBW.out.trans (hb9.mono HBW.out.size))
      have HO9 := Lib.hid (own_base ho9 HBW.out.size)
      clear ho9 hb9
      go_wp2
      go_ret3
      obtain ⟨rfl, rfl⟩ := HX.out
      exact ⟨A9, N9, c9, rfl, HN9, HO9.out, HB2.out⟩
    case pos =>
    have hltI : (f : Int) < P := by omega
    have CL2 := Lib.hid (listOf_ f wr (by omega) (HTB.out.over HBW.out))
    clear CL
    obtain ⟨k00, k01, k10, hgz⟩ := HKB.out _ HWR.out
    go_wp2_with fail
    clear k00 k01 k10 hgz
    refine CL2.out.mono ?_
    rintro e w2 ⟨A9, N9, c9, rfl, HN9, ho9, hb9⟩
    have HB2 := Lib.hid (HBR.out.trans (hb9.mono HBR.out.size))
    have HW2 := Lib.hid (HWR.out.trans (hb9.mono HWR.out.size))
    have HBW2 := Lib.hid (HBW.out.trans (hb9.mono HBW.out.size))
    have HO9 := Lib.hid ho9
    have hcp := cap_own ho9 rfl
    obtain ⟨hcp1, hcp2⟩ := hcp
    clear ho9 hb9
    obtain ⟨k00, k01, k10, hgz⟩ := HKB.out _ HW2.out
    have hn24 : N9 ≤ 24 := by rw [HN9.out]; exact bl_len _
    have CS := Lib.hid (csum_ (c := c9) (HT.out.moved HBW2.out) HD.out hn7 HQ.out HN9.out.symm hn24 hcp1 hcp2 (Rd.ofOwn HO9.out) (fun k hk => HBL.out f hlt k (by have := HN9.out; omega)) (w.heap.size + 1) k10 hgz)
    obtain ⟨s, hs9⟩ : ∃ s, smL ds (bl f) N9 = s := ⟨_, rfl⟩
    rw [hs9] at CS
    have HSV : Hid (clqV ds f n = if pb (isqP ds (bl f)) then s else -1) := Lib.hid (by rw [HCS.out f hlt, ← HN9.out, hs9])
    clear hs9
    go_wp2_with fail
    clear k00 k01 k10 hgz
    refine CS.out.mono ?_
    rintro e w3 ⟨rfl, hb9⟩
    have HB3 := Lib.hid (HB2.out.trans (hb9.mono HB2.out.size))
    have HW3 := Lib.hid (HW2.out.trans (hb9.mono HW2.out.size))
    have HBW3 := Lib.hid (HBW2.out.trans (hb9.mono HBW2.out.size))
    have HR3 := Lib.hid (Rd.moved (Rd.ofOwn HO9.out) hb9)
    clear hb9
    by_cases hsG : G < s
    case neg =>
      have HG2 : Hid (bdP ds n (f + 1) = (G, b)) := Lib.hid (by
        rw [bd_no (by rw [HSV.out, HG.out]; show ¬ _ > G; split <;> omega), HG.out])
      go_wp2
      go_roundw
      case rel => exact ⟨f + 1, b, G, by omega, by go_num, rfl, rfl, HG2, HB3.out⟩
      case measure => simp [intOf]; omega
    case pos =>
    obtain ⟨k00, k01, k10, hgz⟩ := HKB.out _ HW3.out
    have CI := Lib.hid (isClique_ (c := c9) (HT.out.moved HBW3.out) HD.out hn7 HFB.out HN9.out.symm hn24 hcp1 hcp2 HR3.out (fun k hk => HBL.out f hlt k (by have := HN9.out; omega)))
    obtain ⟨q, hq⟩ : ∃ q, pb (isqP ds (bl f)) = q := ⟨_, rfl⟩
    rw [hq] at CI HSV
    clear hq
    go_wp2_with fail
    clear k00 k01 k10 hgz
    refine CI.out.mono ?_
    rintro e w4 ⟨rfl, hb9⟩
    have HB4 := Lib.hid (HB3.out.trans (hb9.mono HB3.out.size))
    clear hb9
    cases q
    case false =>
      have HG2 : Hid (bdP ds n (f + 1) = (G, b)) := Lib.hid (by
        rw [bd_no (by rw [HSV.out, HG.out]; show ¬ (-1 : Int) > G; omega), HG.out])
      go_wp2
      go_roundw
      case rel => exact ⟨f + 1, b, G, by omega, by go_num, rfl, rfl, HG2, HB4.out⟩
      case measure => simp [intOf]; omega
    case true =>
      have HG2 : Hid (bdP ds n (f + 1) = (s, f)) := Lib.hid (by
        have h9 : clqV ds f n = s := HSV.out
        rw [bd_yes (by rw [h9, HG.out]; exact hsG), h9])
      go_wp2
      go_roundw
      case rel => exact ⟨f + 1, f, s, by omega, by go_num, rfl, rfl, HG2, HB4.out⟩
      case measure => simp [intOf]; omega
end Go.Proofs.YtbnfogedmjjiaaaDoor
