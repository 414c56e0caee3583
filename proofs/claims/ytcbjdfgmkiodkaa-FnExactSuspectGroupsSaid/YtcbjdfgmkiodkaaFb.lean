/- The greatest sum of the counts of requests over a fiber: contracts of FiberBound, both sides. No condition but those typed. -/
import Derived.Test.YtcbjdfgmkiodkaaReq
import Derived.Test.YtcbjdfgmkiodkaaGB
import Derived.Test.YtcbjdfgmkiodkaaShelf
import Derived.Test.YtcbjdfgmkiodkaaGA
import Derived.Test.YtcbjdfgmkiodkaaCmp
import Derived.OwnWalk
namespace Go.Proofs.Ytcbjdfgmkiodkaa
open Go.ChangeShapes Go.WideShapes Go.ChangeAt Go.RowKit

def rqZ : RqD := ⟨0, [], 0⟩
def rqn (ds : List RqD) (k : Nat) : RqD := ds.getD k rqZ
theorem rqn_at {ys : List Rq} {ds : List RqD} (h : ys.map Rq.d = ds) {k : Nat} (hk : k < ys.length) {y : Rq} (hy : ys[k] = y) : rqn ds k = y.d := by
  unfold rqn
  rw [← h, List.getD_eq_getElem?_getD, List.getElem?_map, List.getElem?_eq_getElem hk, hy]; rfl
/-- the sum of the counts of the first k requests that use fiber f. -/
def fbF (ds : List RqD) (f : Nat) : Nat → Int
  | 0 => 0
  | k + 1 => fbF ds f k + (if (f : Int) ∈ (rqn ds k).zs then (rqn ds k).q0 else 0)
/-- the greatest sum among the first f fibers, and the first fiber with it. -/
def fbM (ds : List RqD) : Nat → Int × Nat
  | 0 => (0, 0)
  | f + 1 => if (fbM ds f).1 < fbF ds f ds.length then (fbF ds f ds.length, f) else fbM ds f
noncomputable def fbV (ss : List ByteArray) (fs : List Q4) (ds : List RqD) : Int := if reqsB ss fs ds then (fbM ds fs.length).1 else 0
noncomputable def fbI (ss : List ByteArray) (fs : List Q4) (ds : List RqD) : Int := if reqsB ss fs ds then ((fbM ds fs.length).2 : Int) else 0
noncomputable def fbR (ss : List ByteArray) (fs : List Q4) (ds : List RqD) : Value := .tuple #[.int .i64 (fbV ss fs ds), .int .i64 (fbI ss fs ds), .bool (reqsB ss fs ds)]
theorem fb_no {ss : List ByteArray} {fs : List Q4} {ds : List RqD} (h : reqsB ss fs ds = false) : (.tuple #[.int .i64 0, .int .i64 0, .bool false] : Value) = fbR ss fs ds := by unfold fbR fbV fbI; rw [h]; rfl
theorem fb_yes {ss : List ByteArray} {fs : List Q4} {ds : List RqD} (h : reqsB ss fs ds = true) : (.tuple #[.int .i64 (fbM ds fs.length).1, .int .i64 ((fbM ds fs.length).2 : Int), .bool true] : Value) = fbR ss fs ds := by unfold fbR fbV fbI; rw [h]; rfl
theorem reqs_facts {ss : List ByteArray} {fs : List Q4} {ds : List RqD} (h : reqsB ss fs ds = true) : netP ss fs ∧ ds.length ≤ 7 ∧ ∀ k, k < ds.length → 1 ≤ (rqn ds k).q0 ∧ (rqn ds k).q0 ≤ 24 := by
  unfold reqsB at h
  rw [Bool.and_eq_true, Bool.and_eq_true, List.all_eq_true] at h
  refine ⟨of_pb h.1.1, of_decide_eq_true h.1.2, fun k hk => ?_⟩
  have h1 := h.2 ds[k] (List.getElem_mem hk)
  unfold rqB at h1
  rw [Bool.and_eq_true] at h1
  have h2 := of_decide_eq_true h1.2
  have e : rqn ds k = ds[k] := by unfold rqn; rw [List.getD_eq_getElem?_getD, List.getElem?_eq_getElem hk]; rfl
  rw [e]; exact h2
theorem fbF_in {ds : List RqD} {f : Nat} (h : ∀ k, k < ds.length → 1 ≤ (rqn ds k).q0 ∧ (rqn ds k).q0 ≤ 24) : ∀ {k : Nat}, k ≤ ds.length → 0 ≤ fbF ds f k ∧ fbF ds f k ≤ 24 * (k : Int)
  | 0, _ => ⟨by show (0 : Int) ≤ 0; omega, by show (0 : Int) ≤ 24 * ((0 : Nat) : Int); omega⟩
  | k + 1, hk => by
    have ih := fbF_in (f := f) h (k := k) (by omega)
    have hq := h k (by omega)
    have e : fbF ds f (k + 1) = fbF ds f k + (if (f : Int) ∈ (rqn ds k).zs then (rqn ds k).q0 else 0) := rfl
    rw [e]
    split <;> omega
theorem fbM_in {ds : List RqD} (h : ∀ k, k < ds.length → 1 ≤ (rqn ds k).q0 ∧ (rqn ds k).q0 ≤ 24) (hl : ds.length ≤ 7) : ∀ {f : Nat}, 0 ≤ (fbM ds f).1 ∧ (fbM ds f).1 ≤ 168 ∧ (fbM ds f).2 ≤ f
  | 0 => ⟨by show (0 : Int) ≤ 0; omega, by show (0 : Int) ≤ 168; omega, Nat.le_refl _⟩
  | f + 1 => by
    have ih := fbM_in h hl (f := f)
    have h2 := fbF_in (f := f) h (Nat.le_refl ds.length)
    unfold fbM
    split
    · exact ⟨h2.1, by omega, by omega⟩
    · exact ⟨ih.1, ih.2.1, by omega⟩
theorem fbM_gt {ds : List RqD} {f : Nat} (h : (fbM ds f).1 < fbF ds f ds.length) : fbM ds (f + 1) = (fbF ds f ds.length, f) := by rw [fbM, if_pos h]
theorem fbM_le {ds : List RqD} {f : Nat} (h : ¬ (fbM ds f).1 < fbF ds f ds.length) : fbM ds (f + 1) = fbM ds f := by rw [fbM, if_neg h]

theorem cont_ (q n c : Nat) (zs : List Int) (x : Int) (w : World) (hn : zs.length = n) (hs : n ≤ 1048576) (hr : Rd w w.heap.size (some ⟨q, 0, none⟩) (zs.map (Value.int .i64))) :
    Calls Try.prog 178 #[.slice (some ⟨q, 0, none⟩) n c, .int .i64 x] w fun e w' => e = .returned (.bool (decide (x ∈ zs))) ∧ w' = w := by
  refine (Try.slices_Contains_int q 0 n c zs x w (by omega) (by omega) (fun j hj => ?_)).mono fun e w' h => ⟨?_, h.2⟩
  · have h9 := (hr.intc hj).2
    rw [List.getD_eq_getElem?_getD, List.getElem?_eq_getElem hj]; exact h9
  · rw [h.1, List.take_of_length_le (by omega)]
    congr 2
    by_cases hm : x ∈ zs
    · rw [decide_eq_true hm]; exact List.contains_iff_mem.2 hm
    · rw [decide_eq_false hm]; exact Bool.eq_false_iff.2 (fun h => hm (List.contains_iff_mem.1 h))

set_option maxHeartbeats 1000000 in
theorem fbc_ (p0 q0 : Int) (q n c : Nat) (zs : List Int) (x : Int) (Bp : Nat) (w : World) (hn : zs.length = n) (hs : n ≤ 1048576) (hr : Rd w w.heap.size (some ⟨q, 0, none⟩) (zs.map (Value.int .i64))) (hB : w.cell? ⟨Bp, 0, none⟩ = some (.int .i64 x)) (hBs : Bp < w.heap.size) :
    Calls Try.prog 177 #[.agg #[.int .i64 p0, .slice (some ⟨q, 0, none⟩) n c, .int .i64 q0], .pointer (some ⟨Bp, 0, none⟩)] w (RetP (.int .i64 (if x ∈ zs then q0 else 0)) w) := by
  have hb0 := (Below.refl w.heap.size w).alloc (Nat.le_refl _) (Obj.cells #[.int .i64 p0, .slice (some ⟨q, 0, none⟩) n c, .int .i64 q0] 197)
  have CC := Lib.hid (cont_ q n c zs x _ hn hs (hr.moved hb0))
  have HB := Lib.hid hb0
  clear hn hr hb0
  by_cases hm : x ∈ zs
  case pos =>
    rw [decide_eq_true hm] at CC
    rw [if_pos hm]
    clear hm
    go_enter Try.func177, Try.ntmps177
    go_wp2_with fail
    refine CC.out.mono ?_
    rintro _ _ ⟨rfl, rfl⟩
    go_wp2
    go_ret
    exact ⟨rfl, HB.out⟩
  case neg =>
    rw [decide_eq_false hm] at CC
    rw [if_neg hm]
    clear hm
    go_enter Try.func177, Try.ntmps177
    go_wp2_with fail
    refine CC.out.mono ?_
    rintro _ _ ⟨rfl, rfl⟩
    go_wp2
    go_ret
    exact ⟨rfl, HB.out⟩

set_option maxRecDepth 100000 in
set_option maxHeartbeats 4000000 in
theorem fsum_ {B g n : Nat} {ys : List Rq} {ds : List RqD} {w : World} (f : Nat) (Bp : Nat) (hT : Rqs B g n ys w) (hd : ys.map Rq.d = ds) (hB : w.cell? ⟨Bp, 0, none⟩ = some (.int .i64 (f : Int))) (hBs : Bp < w.heap.size) (hl : n ≤ 7) (hq : ∀ k, k < ds.length → 1 ≤ (rqn ds k).q0 ∧ (rqn ds k).q0 ≤ 24) :
    Calls Try.prog 176 #[.slice (some ⟨g, 0, none⟩) n n, .func (.func 177) #[] #[.pointer (some ⟨Bp, 0, none⟩)]] w (RetP (.int .i64 (fbF ds f ds.length)) w) := by
  have HT := Lib.hid hT; have HD := Lib.hid hd; have HCB := Lib.hid hB
  have HLD : Hid (ds.length = n) := Lib.hid (by rw [← hd, List.length_map]; exact hT.len)
  have HQ := Lib.hid hq
  have HBD : Hid (∀ k, k ≤ ds.length → 0 ≤ fbF ds f k ∧ fbF ds f k ≤ 24 * (k : Int)) := Lib.hid (fun k hk => fbF_in hq hk)
  clear hT hd hB hq
  go_enter Try.func176, Try.ntmps176
  go_wp2
  go_loopw [5, 10] (fun v i wr => ∃ (k : Nat) (y : Int), k ≤ n ∧ i = .int .i64 k ∧ v = .int .i64 y ∧ Hid (y = fbF ds f k) ∧ Below w.heap.size w wr) (fun _ i _ => n - (intOf i).toNat)
  case atStart => exact ⟨0, 0, Nat.zero_le _, rfl, rfl, Lib.hid rfl, Below.refl _ _⟩
  case round =>
    obtain ⟨k, y, hk, rfl, rfl, HY, hb⟩ := hrel
    have HBR := Lib.hid hb
    have hbd := HBD.out k (by have := HLD.out; omega)
    rw [← HY.out] at hbd
    obtain ⟨hy0, hy1⟩ := hbd
    have hy2 : y ≤ 168 := by omega
    clear hy1
    by_cases hlt : k < n
    case neg =>
      have HE : Hid (y = fbF ds f ds.length) := Lib.hid (by rw [HY.out]; congr 1; have := HLD.out; omega)
      have hkn : ¬ (k : Int) < n := by omega
      clear hlt
      go_wp2
      go_ret
      exact ⟨by rw [← HE.out]; rfl, hb⟩
    case pos =>
    have hky : k < ys.length := by have := HT.out.len; omega
    obtain ⟨z, hz⟩ : ∃ z, ys[k]'hky = z := ⟨_, rfl⟩
    have hrow := (HT.out.moved hb).rd.rqc hky
    rw [hz, Nat.zero_add] at hrow
    obtain ⟨hgl, f0, f1, f2⟩ := hrow
    have hdk := rqn_at HD.out hky hz
    obtain ⟨q, hqA, _, hzn, hzs, _, hown⟩ := HT.out.own ys[k] (List.getElem_mem hky)
    rw [hz] at hqA hzn hzs hown
    have hqk := HQ.out k (by have := HLD.out; omega)
    obtain ⟨p0, A, m, cc, zs, q0⟩ := z
    simp only at hqA hzn hzs f0 f1 f2
    subst hqA
    rw [hdk] at hqk
    have HS : Hid (fbF ds f (k + 1) = y + (if (f : Int) ∈ zs then q0 else 0)) := Lib.hid (by rw [HY.out]; show fbF ds f k + (if (f : Int) ∈ (rqn ds k).zs then (rqn ds k).q0 else 0) = _; rw [hdk]; rfl)
    obtain ⟨hq1, hq2⟩ : 1 ≤ q0 ∧ q0 ≤ 24 := hqk
    have hzz : 0 ≤ (if (f : Int) ∈ zs then q0 else 0) ∧ (if (f : Int) ∈ zs then q0 else 0) ≤ 24 := by split <;> omega
    have CC : Hid (∀ W, Below wr.heap.size wr W → Calls Try.prog 177 #[.agg #[.int .i64 p0, .slice (some ⟨q, 0, none⟩) m cc, .int .i64 q0], .pointer (some ⟨Bp, 0, none⟩)] W (RetP (.int .i64 (if (f : Int) ∈ zs then q0 else 0)) W)) := Lib.hid fun W hW => by
      have hbW := HBR.out.trans (hW.mono HBR.out.size)
      exact fbc_ p0 q0 q m cc zs f Bp W hzn hzs (Rd.moved (Rd.ofOwn hown) hbW) ((hbW.cell (p := ⟨_, _, none⟩) hBs).trans HCB.out) (Nat.lt_of_lt_of_le hBs hbW.size)
    obtain ⟨u, hu⟩ : ∃ u, (if (f : Int) ∈ zs then q0 else 0) = u := ⟨_, rfl⟩
    rw [hu] at CC HS hzz
    obtain ⟨hu0, hu1⟩ := hzz
    have HY1 : Hid (y + u = fbF ds f (k + 1)) := Lib.hid HS.out.symm
    clear hz hdk hown hzn hzs hu hb HS
    go_wp2_with fail
    have HB1 := Lib.hid ((Below.refl wr.heap.size wr).alloc (Nat.le_refl _) (Obj.cells #[.int .i64 p0, .slice (some ⟨q, 0, none⟩) m cc, .int .i64 q0] 197))
    go_at_call 177
    refine (CC.out _ HB1.out).mono ?_
    rintro e w2 ⟨rfl, hb2⟩
    have HB2 := Lib.hid (HBR.out.trans ((HB1.out.trans (hb2.mono HB1.out.size)).mono HBR.out.size))
    clear hb2
    go_wp2
    go_roundw
    case rel => exact ⟨k + 1, y + u, by omega, by go_num, by go_num, HY1, HB2.out⟩
    case measure => simp [intOf]; omega
set_option maxRecDepth 100000 in
set_option maxHeartbeats 8000000 in
theorem implFB {g1 g2 n1 n2 c1 c2 : Nat} {ss : List ByteArray} {fs : List Q4} {w : World} (h : NetAt g1 g2 n1 n2 c1 c2 ss fs w) {B g n : Nat} {ys : List Rq} {ds : List RqD} (hT : Rqs B g n ys w) (hd : ys.map Rq.d = ds) (hs : n ≤ 1048576) :
    Calls Try.prog 78 #[.agg #[.slice (some ⟨g1, 0, none⟩) n1 c1, .slice (some ⟨g2, 0, none⟩) n2 c2], .slice (some ⟨g, 0, none⟩) n n] w (RetP (fbR ss fs ds) w) := by
  have HNT := Lib.hid h; have HT := Lib.hid hT; have HD := Lib.hid hd
  have HL2 := Lib.hid h.ln2
  have HLD : Hid (ds.length = n) := Lib.hid (by rw [← hd, List.length_map]; exact hT.len)
  clear h hT hd
  obtain ⟨R, hR⟩ : ∃ r, fbR ss fs ds = r := ⟨_, rfl⟩
  have HNO : Hid (reqsB ss fs ds = false → (.tuple #[.int .i64 0, .int .i64 0, .bool false] : Value) = R) := Lib.hid (fun e => by rw [← hR]; exact fb_no e)
  have HYES : Hid (reqsB ss fs ds = true → (.tuple #[.int .i64 (fbM ds fs.length).1, .int .i64 ((fbM ds fs.length).2 : Int), .bool true] : Value) = R) := Lib.hid (fun e => by rw [← hR]; exact fb_yes e)
  rw [hR]
  clear hR
  go_enter Try.func78, Try.ntmps78
  go_wp2_with fail
  obtain ⟨W0, hW0⟩ : ∃ W0, (w.alloc (Obj.cells #[.slice (some ⟨g1, 0, none⟩) n1 c1, .slice (some ⟨g2, 0, none⟩) n2 c2] 32)) = W0 := ⟨_, rfl⟩
  have hb0 : Below w.heap.size w W0 := by rw [← hW0]; exact (Below.refl _ _).alloc (Nat.le_refl _) _
  have k1 : W0.cell? ⟨w.heap.size, 1, none⟩ = some (.slice (some ⟨g2, 0, none⟩) n2 c2) := by rw [← hW0]; simp [go_sem]
  have hz0 : w.heap.size < W0.heap.size := by rw [← hW0]; simp
  have HB0 := Lib.hid hb0; have HK1 := Lib.hid k1; have HZ0 := Lib.hid hz0
  rw [hW0]
  clear hW0 hb0 k1 hz0
  have CV := Lib.hid (implReq (HNT.out.moved HB0.out) (HT.out.moved HB0.out) HD.out hs)
  obtain ⟨v, hv⟩ : ∃ v, reqsB ss fs ds = v := ⟨_, rfl⟩
  rw [hv] at CV
  have HVB := Lib.hid hv
  clear hv
  refine CV.out.mono ?_
  rintro e w1 ⟨rfl, hb1⟩
  have HB1 := Lib.hid (HB0.out.trans (hb1.mono HB0.out.size))
  have k1 := (hb1.cell (p := ⟨w.heap.size, 1, none⟩) HZ0.out).trans HK1.out
  have hg1 : w.heap.size < w1.heap.size := Nat.lt_of_lt_of_le HZ0.out hb1.size
  clear hb1
  cases v
  case false =>
    have HE := Lib.hid (HNO.out HVB.out)
    clear k1 hg1
    go_wp2
    go_ret3
    exact ⟨ret_tupC HE.out, HB1.out⟩
  case true =>
  have HF := Lib.hid (reqs_facts HVB.out)
  have hn7 : n ≤ 7 := by have := HF.out.2.1; have := HLD.out; omega
  have hf14 : n2 ≤ 14 := by have := HF.out.1.2.1; have := HL2.out; omega
  have HMI : Hid (∀ f, 0 ≤ (fbM ds f).1 ∧ (fbM ds f).1 ≤ 168 ∧ (fbM ds f).2 ≤ f) := Lib.hid (fun f => fbM_in HF.out.2.2 HF.out.2.1)
  have HFI : Hid (∀ f, 0 ≤ fbF ds f ds.length ∧ fbF ds f ds.length ≤ 168) := Lib.hid (fun f => by have := fbF_in (f := f) HF.out.2.2 (Nat.le_refl ds.length); have := HLD.out; omega)
  have HE0 := Lib.hid (HYES.out HVB.out)
  rw [HL2.out] at HE0
  have HT1 := Lib.hid (HT.out.moved HB1.out)
  clear HYES HNO CV
  have HK1b := Lib.hid k1; have HG1 := Lib.hid hg1
  go_wp2
  clear k1
  go_loopw [7, 8, 18] (fun a b i wr => ∃ (k m x : Nat), k ≤ n2 ∧ i = .int .i64 k ∧ a = .int .i64 m ∧ b = .int .i64 x ∧ Hid ((fbM ds k).1 = m ∧ (fbM ds k).2 = x) ∧ Below w1.heap.size w1 wr) (fun _ _ i _ => n2 - (intOf i).toNat)
  case atStart => exact ⟨0, 0, 0, Nat.zero_le _, rfl, rfl, rfl, Lib.hid ⟨rfl, rfl⟩, Below.refl _ _⟩
  case round =>
    obtain ⟨k, m, x, hk, rfl, rfl, rfl, HM, hb⟩ := hrel
    have HBR := Lib.hid hb
    clear hb
    by_cases hlt : k < n2
    case neg =>
      obtain rfl : k = n2 := by omega
      have HE := HE0
      rw [HM.out.1, HM.out.2] at HE
      clear hlt
      go_wp2
      go_ret3
      exact ⟨ret_tupC HE.out, HB1.out.trans (HBR.out.mono HB1.out.size)⟩
    case pos =>
    obtain ⟨y, hy⟩ : ∃ y : Nat, fbF ds k ds.length = (y : Int) := ⟨(fbF ds k ds.length).toNat, by have := HFI.out k; omega⟩
    have hy1 : y ≤ 168 := by have := HFI.out k; omega
    have hm1 : m ≤ 168 := by have := HMI.out k; have := HM.out.1; omega
    have hx1 : x ≤ 14 := by have := HMI.out k; have := HM.out.2; omega
    obtain ⟨W2, hW2⟩ : ∃ W2, wr.alloc (Obj.cells #[.int .i64 (k : Int)] 3) = W2 := ⟨_, rfl⟩
    have hb2 : Below wr.heap.size wr W2 := by rw [← hW2]; exact (Below.refl _ _).alloc (Nat.le_refl _) _
    have hc2 : W2.cell? ⟨wr.heap.size, 0, none⟩ = some (.int .i64 (k : Int)) := by rw [← hW2]; simp [go_sem]
    have hz2 : wr.heap.size < W2.heap.size := by rw [← hW2]; simp
    have HB2 := Lib.hid (HBR.out.trans (hb2.mono HBR.out.size))
    have CS := Lib.hid (fsum_ k wr.heap.size (HT1.out.moved HB2.out) HD.out hc2 hz2 hn7 HF.out.2.2)
    rw [hy] at CS
    have HW2 := Lib.hid hW2; have HC2 := Lib.hid hc2; have HZ2 := Lib.hid hz2; have HY := Lib.hid hy
    clear hW2 hb2 hc2 hz2 hy
    go_wp2_with fail
    rw [HW2.out]
    refine CS.out.mono ?_
    rintro e w3 ⟨rfl, hb3⟩
    have HB3 := Lib.hid (HB2.out.trans (hb3.mono HB2.out.size))
    have hc3 := (hb3.cell (p := ⟨wr.heap.size, 0, none⟩) HZ2.out).trans HC2.out
    clear hb3
    by_cases hgt : m < y
    case pos =>
      have HM2 : Hid ((fbM ds (k + 1)).1 = y ∧ (fbM ds (k + 1)).2 = k) := Lib.hid (by
        rw [fbM_gt (by rw [HM.out.1, HY.out]; omega)]; exact ⟨HY.out, rfl⟩)
      go_wp2_with fail
      go_quiet (fail)
      go_wp2
      go_roundw
      case rel => exact ⟨k + 1, y, k, by omega, by go_num, rfl, rfl, HM2, drewN_below_ HB3.out _⟩
      case measure => simp [intOf]; omega
    case neg =>
      have HM2 : Hid ((fbM ds (k + 1)).1 = m ∧ (fbM ds (k + 1)).2 = x) := Lib.hid (by
        rw [fbM_le (by rw [HM.out.1, HY.out]; omega)]; exact HM.out)
      clear hc3
      go_wp2
      go_roundw
      case rel => exact ⟨k + 1, m, x, by omega, by go_num, rfl, rfl, HM2, HB3.out⟩
      case measure => simp [intOf]; omega
set_option maxRecDepth 100000 in
set_option maxHeartbeats 8000000 in
theorem specFB {g1 g2 n1 n2 c1 c2 : Nat} {ss : List ByteArray} {fs : List Q4} {w : World} (h : NetAt g1 g2 n1 n2 c1 c2 ss fs w) {B g n : Nat} {ys : List Rq} {ds : List RqD} (hT : Rqs B g n ys w) (hd : ys.map Rq.d = ds) (hs : n ≤ 1048576) :
    Calls Try.prog 77 #[.agg #[.slice (some ⟨g1, 0, none⟩) n1 c1, .slice (some ⟨g2, 0, none⟩) n2 c2], .slice (some ⟨g, 0, none⟩) n n] w (RetP (fbR ss fs ds) w) := by
  have HNT := Lib.hid h; have HT := Lib.hid hT; have HD := Lib.hid hd
  have HL2 := Lib.hid h.ln2
  have HLD : Hid (ds.length = n) := Lib.hid (by rw [← hd, List.length_map]; exact hT.len)
  clear h hT hd
  obtain ⟨R, hR⟩ : ∃ r, fbR ss fs ds = r := ⟨_, rfl⟩
  have HNO : Hid (reqsB ss fs ds = false → (.tuple #[.int .i64 0, .int .i64 0, .bool false] : Value) = R) := Lib.hid (fun e => by rw [← hR]; exact fb_no e)
  have HYES : Hid (reqsB ss fs ds = true → (.tuple #[.int .i64 (fbM ds fs.length).1, .int .i64 ((fbM ds fs.length).2 : Int), .bool true] : Value) = R) := Lib.hid (fun e => by rw [← hR]; exact fb_yes e)
  rw [hR]
  clear hR
  go_enter Try.func77, Try.ntmps77
  go_wp2_with fail
  obtain ⟨W0, hW0⟩ : ∃ W0, (w.alloc (Obj.cells #[.slice (some ⟨g1, 0, none⟩) n1 c1, .slice (some ⟨g2, 0, none⟩) n2 c2] 32)) = W0 := ⟨_, rfl⟩
  have hb0 : Below w.heap.size w W0 := by rw [← hW0]; exact (Below.refl _ _).alloc (Nat.le_refl _) _
  have k1 : W0.cell? ⟨w.heap.size, 1, none⟩ = some (.slice (some ⟨g2, 0, none⟩) n2 c2) := by rw [← hW0]; simp [go_sem]
  have hz0 : w.heap.size < W0.heap.size := by rw [← hW0]; simp
  have HB0 := Lib.hid hb0; have HK1 := Lib.hid k1; have HZ0 := Lib.hid hz0
  rw [hW0]
  clear hW0 hb0 k1 hz0
  have CV := Lib.hid (l12Good_ (HNT.out.moved HB0.out) (HT.out.moved HB0.out) HD.out hs)
  obtain ⟨v, hv⟩ : ∃ v, reqsB ss fs ds = v := ⟨_, rfl⟩
  rw [hv] at CV
  have HVB := Lib.hid hv
  clear hv
  refine CV.out.mono ?_
  rintro e w1 ⟨rfl, hb1⟩
  have HB1 := Lib.hid (HB0.out.trans (hb1.mono HB0.out.size))
  have k1 := (hb1.cell (p := ⟨w.heap.size, 1, none⟩) HZ0.out).trans HK1.out
  have hg1 : w.heap.size < w1.heap.size := Nat.lt_of_lt_of_le HZ0.out hb1.size
  clear hb1
  cases v
  case false =>
    have HE := Lib.hid (HNO.out HVB.out)
    clear k1 hg1
    go_wp2
    go_ret3
    exact ⟨ret_tupC HE.out, HB1.out⟩
  case true =>
  have HF := Lib.hid (reqs_facts HVB.out)
  have hn7 : n ≤ 7 := by have := HF.out.2.1; have := HLD.out; omega
  have hf14 : n2 ≤ 14 := by have := HF.out.1.2.1; have := HL2.out; omega
  have HMI : Hid (∀ f, 0 ≤ (fbM ds f).1 ∧ (fbM ds f).1 ≤ 168 ∧ (fbM ds f).2 ≤ f) := Lib.hid (fun f => fbM_in HF.out.2.2 HF.out.2.1)
  have HFI : Hid (∀ f, 0 ≤ fbF ds f ds.length ∧ fbF ds f ds.length ≤ 168) := Lib.hid (fun f => by have := fbF_in (f := f) HF.out.2.2 (Nat.le_refl ds.length); have := HLD.out; omega)
  have HE0 := Lib.hid (HYES.out HVB.out)
  rw [HL2.out] at HE0
  have HT1 := Lib.hid (HT.out.moved HB1.out)
  clear HYES HNO CV
  go_wp2
  go_loop [7, 8, 9] (fun a b i => ∃ (k m x : Nat), k ≤ n2 ∧ i = .int .i64 k ∧ a = .int .i64 m ∧ b = .int .i64 x ∧ Hid ((fbM ds k).1 = m ∧ (fbM ds k).2 = x)) (fun _ _ i => n2 - (intOf i).toNat)
  case atStart => exact ⟨0, 0, 0, Nat.zero_le _, rfl, rfl, rfl, Lib.hid ⟨rfl, rfl⟩⟩
  case round =>
    obtain ⟨k, m, x, hk, rfl, rfl, rfl, HM⟩ := hrel
    by_cases hlt : k < n2
    case neg =>
      obtain rfl : k = n2 := by omega
      have HE := HE0
      rw [HM.out.1, HM.out.2] at HE
      clear hlt
      go_wp2
      go_ret3
      exact ⟨ret_tupC HE.out, HB1.out⟩
    case pos =>
    have hm1 : m ≤ 168 := by have := HMI.out k; have := HM.out.1; omega
    have hx1 : x ≤ 14 := by have := HMI.out k; have := HM.out.2; omega
    go_wp2
    go_loop [10, 11] (fun s j => ∃ (i y : Nat), i ≤ n ∧ j = .int .i64 i ∧ s = .int .i64 y ∧ Hid (fbF ds k i = (y : Int)) ∧ y ≤ 168) (fun _ j => n - (intOf j).toNat)
    case atStart => exact ⟨0, 0, Nat.zero_le _, rfl, rfl, Lib.hid rfl, by omega⟩
    case round =>
      obtain ⟨i, y, hi, rfl, rfl, HY, hy1⟩ := hrel
      by_cases hli : i < n
      case neg =>
        have HY2 : Hid (fbF ds k ds.length = (y : Int)) := Lib.hid (by rw [← HY.out]; congr 1; have := HLD.out; omega)
        by_cases hgt : m < y
        case pos =>
          have HM2 : Hid ((fbM ds (k + 1)).1 = y ∧ (fbM ds (k + 1)).2 = k) := Lib.hid (by
            rw [fbM_gt (by rw [HM.out.1, HY2.out]; omega)]; exact ⟨HY2.out, rfl⟩)
          go_wp2
          go_round
          case rel => exact ⟨k + 1, y, k, by omega, by go_num, rfl, rfl, HM2⟩
          case measure => simp [intOf]; omega
        case neg =>
          have HM2 : Hid ((fbM ds (k + 1)).1 = m ∧ (fbM ds (k + 1)).2 = x) := Lib.hid (by
            rw [fbM_le (by rw [HM.out.1, HY2.out]; omega)]; exact HM.out)
          go_wp2
          go_round
          case rel => exact ⟨k + 1, m, x, by omega, by go_num, rfl, rfl, HM2⟩
          case measure => simp [intOf]; omega
      case pos =>
      have hky : i < ys.length := by have := HT.out.len; omega
      obtain ⟨z, hz⟩ : ∃ z, ys[i]'hky = z := ⟨_, rfl⟩
      have hrow := HT1.out.rd.rqc hky
      rw [hz, Nat.zero_add] at hrow
      obtain ⟨hgl, f0, f1, f2⟩ := hrow
      have hdk := rqn_at HD.out hky hz
      obtain ⟨hzn, hzs, hzr⟩ := HT1.out.at_ ys[i] (List.getElem_mem hky)
      rw [hz] at hzn hzs hzr
      have hqk := HF.out.2.2 i (by have := HLD.out; omega)
      obtain ⟨p0, A, mm, cc, zs, q0⟩ := z
      simp only at hzn hzs hzr f0 f1 f2
      rw [hdk] at hqk
      obtain ⟨hq1, hq2⟩ : 1 ≤ q0 ∧ q0 ≤ 24 := hqk
      have HS : Hid (fbF ds k (i + 1) = (y : Int) + (if (k : Int) ∈ zs then q0 else 0)) := Lib.hid (by rw [← HY.out]; show fbF ds k i + (if (k : Int) ∈ (rqn ds i).zs then (rqn ds i).q0 else 0) = _; rw [hdk]; rfl)
      have hbd : fbF ds k (i + 1) ≤ 168 := by have := fbF_in (f := k) HF.out.2.2 (k := i + 1) (by have := HLD.out; omega); omega
      rw [HS.out] at hbd
      have CH := Lib.hid (has_ A mm cc zs (k : Int) w1 hzn hzr (by omega))
      obtain ⟨u, rfl⟩ : ∃ u : Nat, q0 = (u : Int) := ⟨q0.toNat, by omega⟩
      clear hz hdk hzn hzr
      by_cases hmem : (k : Int) ∈ zs
      case pos =>
        rw [decide_eq_true hmem] at CH
        rw [if_pos hmem] at HS hbd
        have HY1 : Hid (fbF ds k (i + 1) = ((y + u : Nat) : Int)) := Lib.hid (by rw [HS.out]; simp)
        clear hmem HS
        go_wp2_with fail
        refine CH.out.mono ?_
        rintro _ _ ⟨rfl, rfl⟩
        go_wp2
        go_round
        case rel => exact ⟨i + 1, y + u, by omega, by go_num, by go_num, HY1, by omega⟩
        case measure => simp [intOf]; omega
      case neg =>
        rw [decide_eq_false hmem] at CH
        rw [if_neg hmem] at HS hbd
        have HY1 : Hid (fbF ds k (i + 1) = (y : Int)) := Lib.hid (by rw [HS.out]; simp)
        clear hmem HS
        go_wp2_with fail
        refine CH.out.mono ?_
        rintro _ _ ⟨rfl, rfl⟩
        go_wp2
        go_round
        case rel => exact ⟨i + 1, y, by omega, by go_num, rfl, HY1, by omega⟩
        case measure => simp [intOf]; omega
end Go.Proofs.Ytcbjdfgmkiodkaa
