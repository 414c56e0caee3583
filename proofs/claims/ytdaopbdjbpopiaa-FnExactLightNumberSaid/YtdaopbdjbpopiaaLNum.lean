/- Plans: contracts of LightNumber and PlanHeight, both sides. No condition but those typed. -/
import Derived.Test.YtdaopbdjbpopiaaPlanJ
namespace Go.Proofs.Ytdaopbdjbpopiaa
open Go.ChangeShapes Go.WideShapes Go.ChangeAt Go.RowKit Go.Maps

/-- the index of the first light with an Id. -/
def idxN (ds : List LtD) (id : Int) : Option Nat := ds.findIdx? fun d => decide (d.p0 = id)
theorem idx_at {ds : List LtD} {id : Int} {k : Nat} (hk : k < ds.length) (h : (dn ds k).p0 = id) (hn : ∀ i, i < k → (dn ds i).p0 ≠ id) : idxN ds id = some k := by
  unfold idxN
  rw [List.findIdx?_eq_some_iff_getElem]
  refine ⟨hk, by rw [← dn_eq hk]; simpa using h, fun j hj => ?_⟩
  rw [← dn_eq (by omega)]
  simpa using hn j hj
theorem idx_none {ds : List LtD} {id : Int} (hn : ∀ i, i < ds.length → (dn ds i).p0 ≠ id) : idxN ds id = none := by
  unfold idxN
  rw [List.findIdx?_eq_none_iff]
  intro d hd
  obtain ⟨i, hi, rfl⟩ := List.mem_iff_getElem.1 hd
  have := hn i hi
  rw [dn_eq hi] at this
  simpa using this
theorem idx_lt {ds : List LtD} {id : Int} {k : Nat} (h : idxN ds id = some k) : k < ds.length := by
  unfold idxN at h
  rw [List.findIdx?_eq_some_iff_getElem] at h
  exact h.1
def idxI (ds : List LtD) (id : Int) : Int := match idxN ds id with | some k => (k : Int) | none => -1
noncomputable def lnB (ss : List ByteArray) (fs : List Q4) (ds : List LtD) (id : Int) : Bool := pb (planP ss fs ds) && (idxN ds id).isSome
noncomputable def lnI (ss : List ByteArray) (fs : List Q4) (ds : List LtD) (id : Int) : Int := if lnB ss fs ds id then idxI ds id else 0
noncomputable def lnR (ss : List ByteArray) (fs : List Q4) (ds : List LtD) (id : Int) : Value := .tuple #[.int .i64 (lnI ss fs ds id), .bool (lnB ss fs ds id)]
theorem ln_bad {ss : List ByteArray} {fs : List Q4} {ds : List LtD} {id : Int} (h : pb (planP ss fs ds) = false) : (.tuple #[.int .i64 0, .bool false] : Value) = lnR ss fs ds id := by unfold lnR lnI lnB; rw [h]; rfl
theorem ln_none {ss : List ByteArray} {fs : List Q4} {ds : List LtD} {id : Int} (h : idxN ds id = none) : (.tuple #[.int .i64 0, .bool false] : Value) = lnR ss fs ds id := by unfold lnR lnI lnB; rw [h]; simp
theorem ln_some {ss : List ByteArray} {fs : List Q4} {ds : List LtD} {id : Int} {k : Nat} (hp : pb (planP ss fs ds) = true) (h : idxN ds id = some k) : (.tuple #[.int .i64 (k : Int), .bool true] : Value) = lnR ss fs ds id := by unfold lnR lnI lnB idxI; rw [h, hp]; rfl
theorem ret_tup {a b : Value} (h : a = b) : Ending.returned a = .returned b := by rw [h]

set_option maxRecDepth 100000 in
set_option maxHeartbeats 4000000 in
theorem l9Find_ {g1 g2 g3 n1 n2 n3 c1 c2 B : Nat} {ss : List ByteArray} {fs : List Q4} {ys : List Lt} {ds : List LtD} {w : World} (h : NetAt g1 g2 n1 n2 c1 c2 ss fs w) (hT : Lts B g3 n3 ys w) (hd : ys.map Lt.d = ds) (hs : n3 ≤ 1048576) (id : Int) :
    Calls Try.prog 137 #[.agg #[.slice (some ⟨g1, 0, none⟩) n1 c1, .slice (some ⟨g2, 0, none⟩) n2 c2, .slice (some ⟨g3, 0, none⟩) n3 n3], .int .i64 id] w (RetP (.int .i64 (idxI ds id)) w) := by
  have HNT := Lib.hid h; have HT := Lib.hid hT; have HD := Lib.hid hd
  have HLD : Hid (ds.length = n3) := Lib.hid (by rw [← hd, List.length_map]; exact hT.len)
  clear h hT hd
  obtain ⟨r, hrr⟩ : ∃ r, idxI ds id = r := ⟨_, rfl⟩
  rw [hrr]
  have HRR := Lib.hid hrr
  clear hrr
  go_enter Try.func137, Try.ntmps137
  go_wp2
  obtain ⟨W0, hW0⟩ : ∃ W0, w.alloc (Obj.cells #[.slice (some ⟨g1, 0, none⟩) n1 c1, .slice (some ⟨g2, 0, none⟩) n2 c2, .slice (some ⟨g3, 0, none⟩) n3 n3] 84) = W0 := ⟨_, rfl⟩
  have hb0 : Below w.heap.size w W0 := by rw [← hW0]; exact (Below.refl _ _).alloc (Nat.le_refl _) _
  have hk0 : W0.cell? ⟨w.heap.size, 0, none⟩ = some (.slice (some ⟨g1, 0, none⟩) n1 c1) := by rw [← hW0]; simp [go_sem]
  have hk1 : W0.cell? ⟨w.heap.size, 1, none⟩ = some (.slice (some ⟨g2, 0, none⟩) n2 c2) := by rw [← hW0]; simp [go_sem]
  have hk2 : W0.cell? ⟨w.heap.size, 2, none⟩ = some (.slice (some ⟨g3, 0, none⟩) n3 n3) := by rw [← hW0]; simp [go_sem]
  have hz0 : w.heap.size < W0.heap.size := by rw [← hW0]; simp
  have HB0 := Lib.hid hb0; have HK0 := Lib.hid hk0; have HK1 := Lib.hid hk1; have HK2 := Lib.hid hk2; have HZB := Lib.hid hz0
  rw [hW0]
  clear hW0 hb0 hk0 hk1 hk2 hz0
  go_loopw [5] (fun i wr => ∃ k : Nat, k ≤ n3 ∧ i = .int .i64 k ∧ Hid (∀ i, i < k → (dn ds i).p0 ≠ id) ∧ Below W0.heap.size W0 wr) (fun i _ => n3 - (intOf i).toNat)
  case atStart => exact ⟨0, Nat.zero_le _, rfl, Lib.hid (fun i hi => absurd hi (by omega)), Below.refl _ _⟩
  case round =>
    obtain ⟨k, hk, rfl, HA, hb⟩ := hrel
    have HBW := Lib.hid (HB0.out.trans (hb.mono HB0.out.size))
    have HBR := Lib.hid hb
    have k2 := (hb.cell (p := ⟨w.heap.size, 2, none⟩) HZB.out).trans HK2.out
    have hzw : w.heap.size < wr.heap.size := Nat.lt_of_lt_of_le HZB.out hb.size
    by_cases hlt : k < n3
    case neg =>
      have HE : Hid (-1 = r) := Lib.hid (by rw [← HRR.out]; unfold idxI; rw [idx_none (fun i hi => HA.out i (by have := HLD.out; omega))])
      clear hb
      go_wp2
      go_ret
      exact ⟨reti HE.out, HBW.out⟩
    case pos =>
    have hkl : k < ys.length := by have := HT.out.len; omega
    have HKD : Hid (k < ds.length) := Lib.hid (by have := HLD.out; omega)
    obtain ⟨y, hke⟩ : ∃ y, ys[k]'hkl = y := ⟨_, rfl⟩
    have HDK := Lib.hid (dn_at HD.out hkl hke)
    obtain ⟨hg, f0, f1, f2, f3, f4⟩ := (HT.out.moved HBW.out).rd.ltc hkl
    rw [Nat.zero_add, hke] at f0 f1 f2 f3 f4
    clear f1 f2 f3 f4 hke hkl hb
    by_cases he : y.p0 = id
    · have HE : Hid ((k : Int) = r) := Lib.hid (by rw [← HRR.out]; unfold idxI; rw [idx_at HKD.out (by rw [HDK.out]; exact he) HA.out])
      have he2 : (y.p0 == id) = true := by simpa using he
      clear he
      go_wp2
      go_ret
      exact ⟨reti HE.out, HBW.out⟩
    · have he2 : (y.p0 == id) = false := by simpa using he
      have HA2 : Hid (∀ i, i < k + 1 → (dn ds i).p0 ≠ id) := Lib.hid (fun i hi => by
        by_cases h : i < k
        · exact HA.out i h
        · obtain rfl : i = k := by omega
          rw [HDK.out]; exact he)
      clear he
      go_wp2
      go_roundw
      case rel => exact ⟨k + 1, by omega, by go_num, HA2, HBR.out⟩
      case measure => simp [intOf]; omega

set_option maxRecDepth 100000 in
set_option maxHeartbeats 4000000 in
theorem specLN {g1 g2 g3 n1 n2 n3 c1 c2 B : Nat} {ss : List ByteArray} {fs : List Q4} {ys : List Lt} {ds : List LtD} {w : World} (h : NetAt g1 g2 n1 n2 c1 c2 ss fs w) (hT : Lts B g3 n3 ys w) (hd : ys.map Lt.d = ds) (hs : n3 ≤ 1048576) (id : Int) :
    Calls Try.prog 64 #[.agg #[.slice (some ⟨g1, 0, none⟩) n1 c1, .slice (some ⟨g2, 0, none⟩) n2 c2, .slice (some ⟨g3, 0, none⟩) n3 n3], .int .i64 id] w (RetP (lnR ss fs ds id) w) := by
  have HNT := Lib.hid h; have HT := Lib.hid hT; have HD := Lib.hid hd
  have HLD : Hid (ds.length = n3) := Lib.hid (by rw [← hd, List.length_map]; exact hT.len)
  clear h hT hd
  obtain ⟨R, hRR⟩ : ∃ R, lnR ss fs ds id = R := ⟨_, rfl⟩
  rw [hRR]
  have HRR := Lib.hid hRR
  clear hRR
  go_enter Try.func64, Try.ntmps64
  go_wp2_with fail
  obtain ⟨W0, hW0⟩ : ∃ W0, w.alloc (Obj.cells #[.slice (some ⟨g1, 0, none⟩) n1 c1, .slice (some ⟨g2, 0, none⟩) n2 c2, .slice (some ⟨g3, 0, none⟩) n3 n3] 84) = W0 := ⟨_, rfl⟩
  have hb0 : Below w.heap.size w W0 := by rw [← hW0]; exact (Below.refl _ _).alloc (Nat.le_refl _) _
  have hk0 : W0.cell? ⟨w.heap.size, 0, none⟩ = some (.slice (some ⟨g1, 0, none⟩) n1 c1) := by rw [← hW0]; simp [go_sem]
  have hk1 : W0.cell? ⟨w.heap.size, 1, none⟩ = some (.slice (some ⟨g2, 0, none⟩) n2 c2) := by rw [← hW0]; simp [go_sem]
  have hk2 : W0.cell? ⟨w.heap.size, 2, none⟩ = some (.slice (some ⟨g3, 0, none⟩) n3 n3) := by rw [← hW0]; simp [go_sem]
  have hz0 : w.heap.size < W0.heap.size := by rw [← hW0]; simp
  have HB0 := Lib.hid hb0; have HK0 := Lib.hid hk0; have HK1 := Lib.hid hk1; have HK2 := Lib.hid hk2; have HZB := Lib.hid hz0
  rw [hW0]
  clear hW0 hb0 hk0 hk1 hk2 hz0
  have CG := Lib.hid (l9Good_ (HNT.out.moved HB0.out) (HT.out.moved HB0.out) HD.out hs)
  obtain ⟨b, hb⟩ : ∃ b, pb (planP ss fs ds) = b := ⟨_, rfl⟩
  rw [hb] at CG
  have HPB := Lib.hid hb
  clear hb
  refine CG.out.mono ?_
  rintro e w1 ⟨rfl, hb1⟩
  have HB1 := Lib.hid (HB0.out.trans (hb1.mono HB0.out.size))
  have HB1W := Lib.hid hb1
  have k0 := (hb1.cell (p := ⟨w.heap.size, 0, none⟩) HZB.out).trans HK0.out
  have k1 := (hb1.cell (p := ⟨w.heap.size, 1, none⟩) HZB.out).trans HK1.out
  have k2 := (hb1.cell (p := ⟨w.heap.size, 2, none⟩) HZB.out).trans HK2.out
  have hzw : w.heap.size < w1.heap.size := Nat.lt_of_lt_of_le HZB.out hb1.size
  clear hb1
  cases b
  case false =>
    have HE : Hid ((.tuple #[.int .i64 0, .bool false] : Value) = R) := Lib.hid (by rw [← HRR.out]; exact ln_bad HPB.out)
    go_wp2
    go_ret2
    exact ⟨ret_tup HE.out, HB1.out⟩
  case true =>
  have CF := Lib.hid (l9Find_ (HNT.out.moved HB1.out) (HT.out.moved HB1.out) HD.out hs id)
  obtain ⟨z, hz⟩ : ∃ z, idxI ds id = z := ⟨_, rfl⟩
  rw [hz] at CF
  have HZ := Lib.hid hz
  clear hz
  go_wp2_with fail
  refine CF.out.mono ?_
  rintro e w2 ⟨rfl, hb2⟩
  have HB2 := Lib.hid (HB1.out.trans (hb2.mono HB1.out.size))
  have l0 := (hb2.cell (p := ⟨w.heap.size, 0, none⟩) hzw).trans k0
  have l1 := (hb2.cell (p := ⟨w.heap.size, 1, none⟩) hzw).trans k1
  have l2 := (hb2.cell (p := ⟨w.heap.size, 2, none⟩) hzw).trans k2
  have hzw2 : w.heap.size < w2.heap.size := Nat.lt_of_lt_of_le hzw hb2.size
  clear hb2 k0 k1 k2
  cases hi : idxN ds id with
  | none =>
    have hz1 : z = -1 := by rw [← HZ.out]; unfold idxI; rw [hi]
    have HE : Hid ((.tuple #[.int .i64 0, .bool false] : Value) = R) := Lib.hid (by rw [← HRR.out]; exact ln_none hi)
    subst hz1
    clear hi
    go_wp2
    go_ret2
    exact ⟨ret_tup HE.out, HB2.out⟩
  | some k =>
    have hz1 : z = (k : Int) := by rw [← HZ.out]; unfold idxI; rw [hi]
    have HE : Hid ((.tuple #[.int .i64 (k : Int), .bool true] : Value) = R) := Lib.hid (by rw [← HRR.out]; exact ln_some HPB.out hi)
    have CF2 := Lib.hid (l9Find_ (HNT.out.moved HB2.out) (HT.out.moved HB2.out) HD.out hs id)
    rw [HZ.out] at CF2
    subst hz1
    clear hi
    go_wp2_with fail
    refine CF2.out.mono ?_
    rintro e w3 ⟨rfl, hb3⟩
    have HB3 := Lib.hid (HB2.out.trans (hb3.mono HB2.out.size))
    clear hb3
    go_wp2
    go_ret2
    exact ⟨ret_tup HE.out, HB3.out⟩

set_option maxRecDepth 100000 in
set_option maxHeartbeats 4000000 in
theorem implLN {g1 g2 g3 n1 n2 n3 c1 c2 B : Nat} {ss : List ByteArray} {fs : List Q4} {ys : List Lt} {ds : List LtD} {w : World} (h : NetAt g1 g2 n1 n2 c1 c2 ss fs w) (hT : Lts B g3 n3 ys w) (hd : ys.map Lt.d = ds) (hs : n3 ≤ 1048576) (id : Int) :
    Calls Try.prog 65 #[.agg #[.slice (some ⟨g1, 0, none⟩) n1 c1, .slice (some ⟨g2, 0, none⟩) n2 c2, .slice (some ⟨g3, 0, none⟩) n3 n3], .int .i64 id] w (RetP (lnR ss fs ds id) w) := by
  have HNT := Lib.hid h; have HT := Lib.hid hT; have HD := Lib.hid hd
  have HLD : Hid (ds.length = n3) := Lib.hid (by rw [← hd, List.length_map]; exact hT.len)
  clear h hT hd
  obtain ⟨R, hRR⟩ : ∃ R, lnR ss fs ds id = R := ⟨_, rfl⟩
  rw [hRR]
  have HRR := Lib.hid hRR
  clear hRR
  go_enter Try.func65, Try.ntmps65
  go_wp2_with fail
  obtain ⟨W0, hW0⟩ : ∃ W0, w.alloc (Obj.cells #[.slice (some ⟨g1, 0, none⟩) n1 c1, .slice (some ⟨g2, 0, none⟩) n2 c2, .slice (some ⟨g3, 0, none⟩) n3 n3] 84) = W0 := ⟨_, rfl⟩
  have hb0 : Below w.heap.size w W0 := by rw [← hW0]; exact (Below.refl _ _).alloc (Nat.le_refl _) _
  have hk0 : W0.cell? ⟨w.heap.size, 0, none⟩ = some (.slice (some ⟨g1, 0, none⟩) n1 c1) := by rw [← hW0]; simp [go_sem]
  have hk1 : W0.cell? ⟨w.heap.size, 1, none⟩ = some (.slice (some ⟨g2, 0, none⟩) n2 c2) := by rw [← hW0]; simp [go_sem]
  have hk2 : W0.cell? ⟨w.heap.size, 2, none⟩ = some (.slice (some ⟨g3, 0, none⟩) n3 n3) := by rw [← hW0]; simp [go_sem]
  have hz0 : w.heap.size < W0.heap.size := by rw [← hW0]; simp
  have HB0 := Lib.hid hb0; have HK0 := Lib.hid hk0; have HK1 := Lib.hid hk1; have HK2 := Lib.hid hk2; have HZB := Lib.hid hz0
  rw [hW0]
  clear hW0 hb0 hk0 hk1 hk2 hz0
  have CG := Lib.hid (implVP (HNT.out.moved HB0.out) (HT.out.moved HB0.out) HD.out hs)
  obtain ⟨b, hb⟩ : ∃ b, pb (planP ss fs ds) = b := ⟨_, rfl⟩
  rw [hb] at CG
  have HPB := Lib.hid hb
  clear hb
  refine CG.out.mono ?_
  rintro e w1 ⟨rfl, hb1⟩
  have HB1 := Lib.hid (HB0.out.trans (hb1.mono HB0.out.size))
  have HB1W := Lib.hid hb1
  have k2 := (hb1.cell (p := ⟨w.heap.size, 2, none⟩) HZB.out).trans HK2.out
  clear hb1
  cases b
  case false =>
    have HE : Hid ((.tuple #[.int .i64 0, .bool false] : Value) = R) := Lib.hid (by rw [← HRR.out]; exact ln_bad HPB.out)
    go_wp2
    go_ret2
    exact ⟨ret_tup HE.out, HB1.out⟩
  case true =>
  go_wp2
  clear k2
  go_loopw [14] (fun i wr => ∃ k : Nat, k ≤ n3 ∧ i = .int .i64 k ∧ Hid (∀ i, i < k → (dn ds i).p0 ≠ id) ∧ Below W0.heap.size W0 wr) (fun i _ => n3 - (intOf i).toNat)
  case atStart => exact ⟨0, Nat.zero_le _, rfl, Lib.hid (fun i hi => absurd hi (by omega)), HB1W.out⟩
  case round =>
    obtain ⟨k, hk, rfl, HA, hb⟩ := hrel
    have HBW := Lib.hid (HB0.out.trans (hb.mono HB0.out.size))
    have HBR := Lib.hid hb
    by_cases hlt : k < n3
    case neg =>
      have HE : Hid ((.tuple #[.int .i64 0, .bool false] : Value) = R) := Lib.hid (by rw [← HRR.out]; exact ln_none (idx_none (fun i hi => HA.out i (by have := HLD.out; omega))))
      clear hb
      go_wp2
      go_ret2
      exact ⟨ret_tup HE.out, HBW.out⟩
    case pos =>
    have hkl : k < ys.length := by have := HT.out.len; omega
    have HKD : Hid (k < ds.length) := Lib.hid (by have := HLD.out; omega)
    obtain ⟨y, hke⟩ : ∃ y, ys[k]'hkl = y := ⟨_, rfl⟩
    have HDK := Lib.hid (dn_at HD.out hkl hke)
    obtain ⟨hg, f0, f1, f2, f3, f4⟩ := (HT.out.moved HBW.out).rd.ltc hkl
    rw [Nat.zero_add, hke] at f0 f1 f2 f3 f4
    have HBX := Lib.hid (HBW.out.alloc HBW.out.size (Obj.cells #[.int .i64 y.p0, .int .i64 y.p1, .slice y.A y.n y.c, .int .i64 y.q0, .int .i64 y.q1] 171))
    have HBX2 := Lib.hid (HBR.out.alloc HBR.out.size (Obj.cells #[.int .i64 y.p0, .int .i64 y.p1, .slice y.A y.n y.c, .int .i64 y.q0, .int .i64 y.q1] 171))
    clear hke hkl hb
    by_cases he : y.p0 = id
    · have HE : Hid ((.tuple #[.int .i64 (k : Int), .bool true] : Value) = R) := Lib.hid (by rw [← HRR.out]; exact ln_some HPB.out (idx_at HKD.out (by rw [HDK.out]; exact he) HA.out))
      have he2 : (y.p0 == id) = true := by simpa using he
      clear he
      go_wp2
      go_ret2
      exact ⟨ret_tup HE.out, HBX.out⟩
    · have he2 : (y.p0 == id) = false := by simpa using he
      have HA2 : Hid (∀ i, i < k + 1 → (dn ds i).p0 ≠ id) := Lib.hid (fun i hi => by
        by_cases h : i < k
        · exact HA.out i h
        · obtain rfl : i = k := by omega
          rw [HDK.out]; exact he)
      clear he
      go_wp2
      go_roundw
      case rel => exact ⟨k + 1, by omega, by go_num, HA2, HBX2.out⟩
      case measure => simp [intOf]; omega
end Go.Proofs.Ytdaopbdjbpopiaa
