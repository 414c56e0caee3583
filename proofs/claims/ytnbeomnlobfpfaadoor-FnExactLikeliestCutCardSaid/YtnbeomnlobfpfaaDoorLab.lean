/- Labels of the parts of a network without a set of fibers: contract of spec.l6Labels. No condition but those typed. -/
import Derived.Test.YtnbeomnlobfpfaaDoorRch
import Derived.Test.YtnbeomnlobfpfaaDoorFail
import Derived.Test.YtnbeomnlobfpfaaDoorGB
namespace Go.Proofs.YtnbeomnlobfpfaaDoor
open Go.ChangeShapes Go.WideShapes Go.ChangeAt Go.RowKit

def LI (n1 : Nat) (fs : List Q4) (gone : Nat) (L : List Int) : Prop := L.length = n1 ∧ ∀ i, i < n1 → Cn fs gone (i : Int) (L.getD i 0) ∧ 0 ≤ L.getD i 0 ∧ L.getD i 0 ≤ (i : Int)
def LC (fs : List Q4) (gone k : Nat) (L : List Int) : Prop := ∀ i a b : Nat, i < k → gone.testBit i = false → Ends fs i (a : Int) (b : Int) → L.getD a 0 = L.getD b 0
def iotaL (k : Nat) : List Int := selK (fun _ => true) k
theorem iota_len : ∀ k, (iotaL k).length = k
  | 0 => rfl
  | k + 1 => by unfold iotaL; rw [sel_in rfl, List.length_append]; have := iota_len k; unfold iotaL at this; rw [this]; rfl
theorem iota_get {i : Nat} : ∀ {k : Nat}, i < k → (iotaL k).getD i 0 = (i : Int)
  | k + 1, h => by
    have hl := iota_len k
    unfold iotaL at hl ⊢
    rw [sel_in rfl, List.getD_eq_getElem?_getD]
    by_cases e : i < k
    · rw [List.getElem?_append_left (by omega), ← List.getD_eq_getElem?_getD]; exact iota_get e
    · obtain rfl : i = k := by omega
      rw [List.getElem?_append_right (by omega), hl, Nat.sub_self]; rfl
theorem LI.start {fs : List Q4} {gone n1 : Nat} : LI n1 fs gone (iotaL n1) := ⟨iota_len n1, fun i hi => by rw [iota_get hi]; exact ⟨Cn.refl _, by omega, Int.le_refl _⟩⟩
theorem getD_set {L : List Int} {a i : Nat} {v : Int} (ha : a < L.length) : (L.set a v).getD i 0 = if i = a then v else L.getD i 0 := by
  rw [List.getD_eq_getElem?_getD, List.getElem?_set, List.getD_eq_getElem?_getD]
  by_cases h : i = a
  · subst h; rw [if_pos rfl, if_pos ha, if_pos rfl]; rfl
  · rw [if_neg (fun e => h e.symm), if_neg h]
def sumZ (L : List Int) : Nat := (L.map Int.toNat).sum
theorem sum_set : ∀ {L : List Int} {a : Nat} {v : Int}, a < L.length → sumZ (L.set a v) + (L.getD a 0).toNat = sumZ L + v.toNat
  | x :: xs, 0, v, _ => by unfold sumZ; simp; omega
  | x :: xs, a + 1, v, h => by
    have h1 := sum_set (L := xs) (a := a) (v := v) (by simpa using h)
    have e : (x :: xs).getD (a + 1) 0 = xs.getD a 0 := by simp
    rw [e]
    unfold sumZ at h1 ⊢
    simp only [List.set_cons_succ, List.map_cons, List.sum_cons]
    omega
def low2 (x y : Int) : Int := if x < y then x else y
theorem low_cases (x y : Int) : (low2 x y = x ∧ x ≤ y) ∨ (low2 x y = y ∧ y ≤ x) := by
  unfold low2
  by_cases h : x < y
  · rw [if_pos h]; exact .inl ⟨rfl, by omega⟩
  · rw [if_neg h]; exact .inr ⟨rfl, by omega⟩
def both2 (L : List Int) (a b : Nat) (v : Int) : List Int := (L.set a v).set b v
theorem both2_get {L : List Int} {a b i : Nat} {v : Int} (ha : a < L.length) (hb : b < L.length) : (both2 L a b v).getD i 0 = if i = a ∨ i = b then v else L.getD i 0 := by
  unfold both2
  rw [getD_set (by rw [List.length_set]; exact hb), getD_set ha]
  by_cases h1 : i = b
  · rw [if_pos h1, if_pos (.inr h1)]
  · rw [if_neg h1]
    by_cases h2 : i = a
    · rw [if_pos h2, if_pos (.inl h2)]
    · rw [if_neg h2, if_neg (by rintro (h | h); exact h2 h; exact h1 h)]
theorem LI.step {n1 : Nat} {fs : List Q4} {gone : Nat} {L : List Int} (h : LI n1 fs gone L) {i a b : Nat} (hg : gone.testBit i = false) (he : Ends fs i (a : Int) (b : Int)) (ha : a < n1) (hb : b < n1) : LI n1 fs gone (both2 L a b (low2 (L.getD a 0) (L.getD b 0))) := by
  obtain ⟨hl, hp⟩ := h
  have pa := hp a ha
  have pb' := hp b hb
  have hab := Cn.one hg he
  refine ⟨by unfold both2; rw [List.length_set, List.length_set]; exact hl, fun j hj => ?_⟩
  rw [both2_get (by omega) (by omega)]
  by_cases h1 : j = a ∨ j = b
  · rw [if_pos h1]
    have hja : Cn fs gone (j : Int) (a : Int) := by
      rcases h1 with e | e
      · subst e; exact Cn.refl _
      · subst e; exact hab.symm
    rcases low_cases (L.getD a 0) (L.getD b 0) with ⟨e, hle⟩ | ⟨e, hle⟩
    · rw [e]; exact ⟨hja.trans pa.1, pa.2.1, by rcases h1 with e | e <;> subst e <;> omega⟩
    · rw [e]; exact ⟨(hja.trans hab).trans pb'.1, pb'.2.1, by rcases h1 with e | e <;> subst e <;> omega⟩
  · rw [if_neg h1]; exact hp j hj
theorem sum_step {n1 : Nat} {fs : List Q4} {gone : Nat} {L : List Int} (h : LI n1 fs gone L) {a b : Nat} (ha : a < n1) (hb : b < n1) (hab : a ≠ b) (hne : L.getD a 0 ≠ L.getD b 0) : sumZ (both2 L a b (low2 (L.getD a 0) (L.getD b 0))) < sumZ L := by
  obtain ⟨hl, hp⟩ := h
  have pa := hp a ha
  have pb' := hp b hb
  have h1 := sum_set (L := L) (a := a) (v := low2 (L.getD a 0) (L.getD b 0)) (by omega)
  have h2 := sum_set (L := L.set a (low2 (L.getD a 0) (L.getD b 0))) (a := b) (v := low2 (L.getD a 0) (L.getD b 0)) (by rw [List.length_set]; omega)
  rw [getD_set (by omega), if_neg (fun e => hab e.symm)] at h2
  have e : both2 L a b (low2 (L.getD a 0) (L.getD b 0)) = (L.set a (low2 (L.getD a 0) (L.getD b 0))).set b (low2 (L.getD a 0) (L.getD b 0)) := rfl
  rw [e]
  rcases low_cases (L.getD a 0) (L.getD b 0) with ⟨e1, hle⟩ | ⟨e1, hle⟩
  · rw [e1] at h1 h2 ⊢; omega
  · rw [e1] at h1 h2 ⊢; omega
theorem LC.step {fs : List Q4} {gone k a b : Nat} {L : List Int} (h : LC fs gone k L) (he : Ends fs k (a : Int) (b : Int)) (hk : gone.testBit k = true ∨ L.getD a 0 = L.getD b 0) : LC fs gone (k + 1) L := by
  intro i a' b' hi hg he'
  by_cases e : i = k
  · subst e
    rcases hk with hk | hk
    · rw [hg] at hk; cases hk
    · have : (a' = a ∧ b' = b) ∨ (a' = b ∧ b' = a) := by
        rcases he.2 with ⟨e1, e2⟩ | ⟨e1, e2⟩ <;> rcases he'.2 with ⟨e3, e4⟩ | ⟨e3, e4⟩ <;> omega
      rcases this with ⟨rfl, rfl⟩ | ⟨rfl, rfl⟩
      · exact hk
      · exact hk.symm
  · exact h i a' b' (by omega) hg he'
theorem LI.done {ss : List ByteArray} {fs : List Q4} (hv : netP ss fs) {gone : Nat} {L : List Int} (h : LI ss.length fs gone L) (hc : LC fs gone fs.length L) : LabP ss.length fs gone L := by
  obtain ⟨hl, hp⟩ := h
  refine ⟨hl, fun i hi => (hp i hi).1, fun i j hi hj hcn => ?_, fun i hi => ⟨(hp i hi).2.1, by have := (hp i hi).2.2; omega⟩⟩
  have hS := hcn.closed (S := fun y => ∃ y' : Nat, y = (y' : Int) ∧ L.getD y' 0 = L.getD i 0) (fun m a b hg he ⟨a', ea, hla⟩ => by
    subst ea
    obtain ⟨_, b', _, rfl, _, _, _⟩ := he.nat hv
    exact ⟨b', rfl, by rw [← hla]; exact (hc m a' b' he.1 hg he).symm⟩) ⟨i, rfl, rfl⟩
  obtain ⟨j', e, hj'⟩ := hS
  have : j' = j := by omega
  subst this
  rw [← hj']
  exact (hp j' hj).2.2
def cellZ (v : Option Value) : Nat := match v with
  | some (.int _ z) => z.toNat
  | _ => 0
def cs (g n : Nat) (W : World) : Nat := ((List.range n).map fun i => cellZ (W.cell? ⟨g, i, none⟩)).sum
theorem cs_eq {W : World} {B g N c : Nat} {L : List Int} (ho : W.ownsRow B 3 1 (.slice (some ⟨g, 0, none⟩) N c) N (L.map (Value.int .i64))) (hN : L.length = N) : cs g N W = sumZ L := by
  unfold cs sumZ
  congr 1
  refine List.ext_getElem (by simp [hN]) fun i h1 h2 => ?_
  have hi : i < N := by simpa using h1
  rw [List.getElem_map, List.getElem_range, List.getElem_map]
  have hc := ho.cellAt i (by omega)
  rw [List.getElem?_map, List.getElem?_eq_getElem (by omega)] at hc
  rw [hc]; rfl
theorem set_mapI (L : List Int) (a : Nat) (z : Int) : (L.map (Value.int .i64)).set a (.int .i64 z) = (L.set a z).map (Value.int .i64) := by rw [List.map_set]
def LabO (n1 : Nat) (fs : List Q4) (gone : Nat) (w : World) (e : Ending) (w' : World) : Prop :=
  ∃ (L : List Int) (A : Option Addr) (N c : Nat), e = .returned (.slice A N c) ∧ Hid (N = n1) ∧ Hid (LabP n1 fs gone L) ∧ w'.ownsRow w.heap.size 3 1 (.slice A N c) N (L.map (Value.int .i64)) ∧ Below w.heap.size w w'
set_option maxHeartbeats 400000 in
theorem least_ (x y : Int) (w : World) : Calls Tryd.prog 102 #[.int .i64 x, .int .i64 y] w fun e w' => e = .returned (.int .i64 (low2 x y)) ∧ w' = w := by
  by_cases h : x < y
  · rw [show low2 x y = x by unfold low2; rw [if_pos h]]
    go_enter Tryd.func102, Tryd.ntmps102
    go_wp2
    go_ret
    exact ⟨rfl, rfl⟩
  · rw [show low2 x y = y by unfold low2; rw [if_neg h]]
    go_enter Tryd.func102, Tryd.ntmps102
    go_wp2
    go_ret
    exact ⟨rfl, rfl⟩

set_option maxRecDepth 100000 in
set_option maxHeartbeats 8000000 in
theorem labels_ {g1 g2 n1 n2 c1 c2 : Nat} {ss : List ByteArray} {fs : List Q4} {w : World} (h : NetAt g1 g2 n1 n2 c1 c2 ss fs w) (hv : netP ss fs) (gone : Nat) (hgo : gone < 2 ^ 20) :
    Calls Tryd.prog 61 #[.agg #[.slice (some ⟨g1, 0, none⟩) n1 c1, .slice (some ⟨g2, 0, none⟩) n2 c2], .int .i64 (gone : Int)] w (LabO n1 fs gone w) := by
  have HNT := Lib.hid h; have HV := Lib.hid hv
  have HL1 := Lib.hid h.ln1
  have HL2 := Lib.hid h.ln2
  have hn8 : n1 ≤ 8 := by have := hv.1; have := h.ln1; omega
  have hn2 : 2 ≤ n1 := by have := hv.1; have := h.ln1; omega
  have hn14 : n2 ≤ 14 := by have := hv.2.1; have := h.ln2; omega
  have HDONE : Hid (∀ L, LI n1 fs gone L → LC fs gone n2 L → LabP n1 fs gone L) := Lib.hid (fun L h1 h2 => by
    rw [← HL1.out] at h1 ⊢
    rw [← HL2.out] at h2
    exact LI.done HV.out h1 h2)
  clear h hv
  go_enter Tryd.func61, Tryd.ntmps61
  go_wp2
  obtain ⟨W0, hW0⟩ : ∃ W0, (w.alloc (Obj.cells #[.slice (some ⟨g1, 0, none⟩) n1 c1, .slice (some ⟨g2, 0, none⟩) n2 c2] 32)).alloc (Obj.cells #[] 3) = W0 := ⟨_, rfl⟩
  have hb0 : Below w.heap.size w W0 := by rw [← hW0]; exact ((Below.refl _ _).alloc (Nat.le_refl _) _).alloc (by simp) _
  have k0 : W0.cell? ⟨w.heap.size, 0, none⟩ = some (.slice (some ⟨g1, 0, none⟩) n1 c1) := by rw [← hW0]; simp [go_sem]
  have k1 : W0.cell? ⟨w.heap.size, 1, none⟩ = some (.slice (some ⟨g2, 0, none⟩) n2 c2) := by rw [← hW0]; simp [go_sem]
  have hz0 : w.heap.size + 1 < W0.heap.size := by rw [← hW0]; simp
  have HO0 : Hid (W0.ownsRow (w.heap.size + 1) 3 1 (.slice (some ⟨w.heap.size + 1, 0, none⟩) 0 0) 0 []) := Lib.hid (by
    rw [← hW0]
    have h9 := World.ownsRow_lit (base := w.heap.size + 1) (e := 3) (size := 1) (w.alloc (Obj.cells #[.slice (some ⟨g1, 0, none⟩) n1 c1, .slice (some ⟨g2, 0, none⟩) n2 c2] 32)) #[] 0 (by simp) (by unfold maxLen; omega) rfl
    simpa using h9)
  have HB0 := Lib.hid hb0; have HK0 := Lib.hid k0; have HK1 := Lib.hid k1; have HZB := Lib.hid hz0
  rw [hW0]
  clear hW0 hb0 k0 k1 hz0
  go_loopw [5, 6] (fun v i wr => ∃ (k : Nat) (A1 : Option Addr) (N1 d1 : Nat), k ≤ n1 ∧ i = .int .i64 k ∧ v = .slice A1 N1 d1 ∧ N1 ≤ k ∧ Hid (N1 = k) ∧ Hid (wr.ownsRow (w.heap.size + 1) 3 1 (.slice A1 N1 d1) N1 ((iotaL k).map (Value.int .i64))) ∧ Below (w.heap.size + 1) W0 wr) (fun _ i _ => n1 - (intOf i).toNat)
  case atStart => exact ⟨0, _, 0, 0, Nat.zero_le _, rfl, rfl, Nat.le_refl _, Lib.hid rfl, HO0, Below.refl _ _⟩
  case round =>
    obtain ⟨k, A1, N1, d1, hk, rfl, rfl, hNk, HN1, HOW, hb⟩ := hrel
    have HBR := Lib.hid hb
    have hsz : w.heap.size + 1 ≤ wr.heap.size := by have := hb.size; have := HZB.out; omega
    have l0 := (hb.cell (p := ⟨w.heap.size, 0, none⟩) (by show w.heap.size < _; omega)).trans HK0.out
    have hg0 : w.heap.size < wr.heap.size := by omega
    clear hb
    by_cases hlt : k < n1
    case pos =>
      have HTO : Hid (iotaL (k + 1) = iotaL k ++ [(k : Int)]) := Lib.hid (sel_in rfl)
      go_wp2_with (at_builtin; refine wp_app rfl (.tmp 20) (.tmp 22) 27 3 rfl (w.heap.size + 1) Tryd.underlying27 Tryd.inf_int rfl (by decide) (by decide) _ N1 _ rfl (HOW.out.alloc _) _ _ [.int .i64 (k : Int)] rfl rfl (news1 (new_at_ _ _ _ _ rfl)) (news_int _) (by omega) (by simp; omega) ?_)
      intro A3 d3 N3 w3 hN3 hown3 hgrow3 hloc3
      have HB3 := Lib.hid ((HBR.out.alloc hsz _).grown hgrow3 (by simp; omega) (fun g hg => (HOW.out.lt g hg).1))
      have HO3 : Hid (w3.ownsRow (w.heap.size + 1) 3 1 (.slice A3 N3 d3) N3 ((iotaL (k + 1)).map (Value.int .i64))) := Lib.hid (by rw [HTO.out, List.map_append]; exact hown3)
      have HN4 : Hid (N3 = k + 1) := Lib.hid (by rw [hN3, HN1.out])
      have hN5 : N3 ≤ k + 1 := by omega
      clear hown3 hgrow3 hloc3 hN3
      go_wp2
      go_roundw
      case rel => exact ⟨k + 1, A3, N3, d3, by omega, by go_num, rfl, hN5, HN4, HO3, HB3.out⟩
      case measure => simp [intOf]; omega
    case neg =>
    have hkn : n1 = k := by omega
    have HKN : Hid (N1 = n1) := Lib.hid (by rw [HN1.out, hkn])
    rw [← hkn] at HOW
    obtain ⟨g, rfl⟩ := own_some HOW.out (by have := HKN.out; omega)
    have hNn : N1 ≤ 8 := by have := HKN.out; omega
    have hNl : n1 ≤ N1 := by have := HKN.out; omega
    clear hkn
    go_wp2
    clear l0 hg0 hNk
    obtain ⟨wa, rfl⟩ : ∃ wa, wa = wr := ⟨wr, rfl⟩
    go_loopw [7] (fun mo wr => ∃ (mb : Bool) (L : List Int), mo = .bool mb ∧ Hid (LI n1 fs gone L) ∧ Hid (mb = false → LC fs gone n2 L) ∧ Hid (wr.ownsRow (w.heap.size + 1) 3 1 (.slice (some ⟨g, 0, none⟩) N1 d1) N1 (L.map (Value.int .i64))) ∧ Below (w.heap.size + 1) W0 wr) (fun mo wr => 2 * cs g N1 wr + boolN mo)
    case atStart => exact ⟨true, iotaL n1, rfl, Lib.hid LI.start, Lib.hid (fun h => by cases h), HOW, HBR.out⟩
    case round =>
      obtain ⟨mb, L, rfl, HLI, HLC, HOL, hb⟩ := hrel
      have HBO := Lib.hid hb
      have HBOW := Lib.hid (HB0.out.trans (hb.mono (Nat.le_succ _)))
      clear hb
      cases mb
      case false =>
        have HF := Lib.hid (HDONE.out L HLI.out (HLC.out rfl))
        go_wp2
        go_ret
        exact ⟨L, _, N1, d1, rfl, HKN, HF, own_base HOL.out (Nat.le_succ _), HBOW.out⟩
      case true =>
      have HCS : Hid (cs g N1 wr = sumZ L) := Lib.hid (cs_eq HOL.out (by rw [HLI.out.1]; exact HKN.out.symm))
      go_wp2
      obtain ⟨wo, rfl⟩ : ∃ wo, wo = wr := ⟨wr, rfl⟩
      go_loopw [8, 7] (fun i mo wv => ∃ (k : Nat) (m2 : Bool) (L2 : List Int), k ≤ n2 ∧ i = .int .i64 k ∧ mo = .bool m2 ∧ Hid (LI n1 fs gone L2) ∧ Hid (m2 = false → L2 = L ∧ LC fs gone k L) ∧ Hid (m2 = true → sumZ L2 < sumZ L) ∧ Hid (wv.ownsRow (w.heap.size + 1) 3 1 (.slice (some ⟨g, 0, none⟩) N1 d1) N1 (L2.map (Value.int .i64))) ∧ Below (w.heap.size + 1) W0 wv) (fun i _ _ => n2 - (intOf i).toNat)
      case atStart => exact ⟨0, false, L, Nat.zero_le _, rfl, rfl, HLI, Lib.hid (fun _ => ⟨rfl, fun i a b hi => by omega⟩), Lib.hid (fun h => by cases h), HOL, HBO.out⟩
      case round =>
        obtain ⟨k, m2, L2, hk, rfl, rfl, HLI2, HC2, HG2, HOW2, hb⟩ := hrel
        have HBV := Lib.hid hb
        have HBVW := Lib.hid (HB0.out.trans (hb.mono (Nat.le_succ _)))
        have hsz2 : w.heap.size + 1 ≤ wr.heap.size := by have := hb.size; have := HZB.out; omega
        have l1 := (hb.cell (p := ⟨w.heap.size, 1, none⟩) (by show w.heap.size < _; omega)).trans HK1.out
        have hg0 : w.heap.size < wr.heap.size := by omega
        clear hb
        by_cases hlt2 : k < n2
        case neg =>
          have hkn : k = n2 := by omega
          have HCF : Hid (m2 = false → LC fs gone n2 L2) := Lib.hid (fun hf => by
            obtain ⟨e, hc⟩ := HC2.out hf
            rw [e, ← hkn]; exact hc)
          have HMS : Hid (2 * cs g N1 wr + boolN (.bool m2) < 2 * cs g N1 wo + 1) := Lib.hid (by
            rw [HCS.out, cs_eq HOW2.out (by rw [HLI2.out.1]; exact HKN.out.symm)]
            cases m2 with
            | true => have := HG2.out rfl; rw [boolN_t]; omega
            | false => obtain ⟨e, _⟩ := HC2.out rfl; subst e; rw [boolN_f]; omega)
          clear hkn
          go_wp2
          go_roundw
          case rel => exact ⟨m2, L2, rfl, HLI2, HCF, HOW2, HBV.out⟩
          case measure => (have h9 := HMS.out; rw [boolN_t]; exact h9)
        case pos =>
        have hks : k < fs.length := by have := HL2.out; omega
        have HEN : Hid (Ends fs k ((fibI fs (k : Int)).a) ((fibI fs (k : Int)).b)) := Lib.hid ⟨hks, .inl ⟨rfl, rfl⟩⟩
        have hr := (HNT.out.moved HBVW.out).rd2.q4c hks
        obtain ⟨q, hq⟩ : ∃ q, fs[k]'hks = q := ⟨_, rfl⟩
        have hfq : fibI fs (k : Int) = q := by rw [← hq]; exact fib_at hks
        rw [hfq] at HEN
        rw [Nat.zero_add, hq] at hr
        obtain ⟨a, b, ea, eb, hab1, hab2, hne⟩ := HEN.out.nat HV.out
        obtain ⟨qa, qb, qc, qd⟩ := q
        simp only at ea eb hr HEN
        subst ea eb
        obtain ⟨hgv, f0, f1, f2, f3⟩ := hr
        have haN : a < N1 := by have := HL1.out; omega
        have hbN : b < N1 := by have := HL1.out; omega
        have HAB : Hid (a < n1 ∧ b < n1 ∧ a ≠ b) := Lib.hid (by have := HL1.out; omega)
        have hbit := bit_of gone k (by omega)
        obtain ⟨x, hx⟩ : ∃ x, L2.getD a 0 = x := ⟨_, rfl⟩
        obtain ⟨y, hy⟩ : ∃ y, L2.getD b 0 = y := ⟨_, rfl⟩
        have hNL : N1 = L2.length := by rw [HLI2.out.1]; exact HKN.out
        have cx := own_int HOW2.out hNL haN hx
        have cy := own_int HOW2.out hNL hbN hy
        have STAY : Hid ((gone.testBit k = true ∨ x = y) → m2 = false → L2 = L ∧ LC fs gone (k + 1) L) := Lib.hid (fun hs hf => by
          obtain ⟨e1, e2⟩ := HC2.out hf
          refine ⟨e1, LC.step e2 HEN.out ?_⟩
          rw [← e1, hx, hy]; exact hs)
        have HLIS : Hid (gone.testBit k = false → LI n1 fs gone (both2 L2 a b (low2 x y))) := Lib.hid (fun hg => by rw [← hx, ← hy]; exact HLI2.out.step hg HEN.out HAB.out.1 HAB.out.2.1)
        have HSUM : Hid (x ≠ y → sumZ (both2 L2 a b (low2 x y)) < sumZ L2) := Lib.hid (fun hxy => by rw [← hx, ← hy]; exact sum_step HLI2.out HAB.out.1 HAB.out.2.1 HAB.out.2.2 (by rw [hx, hy]; exact hxy))
        have HLEN := Lib.hid hNL
        have HAN : Hid ((a : Int) < N1 ∧ (b : Int) < N1) := Lib.hid (by omega)
        clear hks hq hfq hab1 hab2 hne hx hy hNL f2 f3
        go_wp2_with fail
        go_quiet (fail)
        obtain ⟨wd, hwd⟩ : ∃ wd, wr.drewN nq = wd := ⟨_, rfl⟩
        have HBD : Hid (Below (w.heap.size + 1) W0 wd) := Lib.hid (by rw [← hwd]; exact drewN_below_ HBV.out _)
        have HOD : Hid (wd.ownsRow (w.heap.size + 1) 3 1 (.slice (some ⟨g, 0, none⟩) N1 d1) N1 (L2.map (Value.int .i64))) := Lib.hid (by rw [← hwd]; exact own_heapW rfl HOW2.out)
        have dx : wd.cell? ⟨g, a, none⟩ = some (.int .i64 x) := by rw [← hwd]; exact cx
        have dy : wd.cell? ⟨g, b, none⟩ = some (.int .i64 y) := by rw [← hwd]; exact cy
        rw [hwd]
        clear hwd cx cy f0 f1 l1 hg0 hgv
        cases hgk : gone.testBit k
        case true =>
          rw [hgk, if_pos rfl] at hbit
          have HST := Lib.hid (STAY.out (.inl hgk))
          clear hgk
          go_wp2_with fail
          go_quiet (fail)
          go_wp2
          go_roundw
          case rel => exact ⟨k + 1, m2, L2, by omega, by go_num, rfl, HLI2, HST, HG2, Lib.hid (own_heapW rfl HOD.out), drewN_below_ HBD.out _⟩
          case measure => simp [intOf]; omega
        case false =>
        rw [hgk, if_neg (by decide)] at hbit
        by_cases hxy : x = y
        case pos =>
          have HST := Lib.hid (STAY.out (.inr hxy))
          subst hxy
          clear hgk
          go_wp2_with fail
          go_quiet (fail)
          go_wp2
          go_roundw
          case rel => exact ⟨k + 1, m2, L2, by omega, by go_num, rfl, HLI2, HST, HG2, Lib.hid (own_heapW rfl HOD.out), drewN_below_ HBD.out _⟩
          case measure => simp [intOf]; omega
        case neg =>
          have p1 : (x == y) = false := by simpa using hxy
          have HL3 := Lib.hid (HLIS.out hgk)
          have HG3 : Hid (sumZ (both2 L2 a b (low2 x y)) < sumZ L) := Lib.hid (by
            have h1 := HSUM.out hxy
            cases m2 with
            | true => have := HG2.out rfl; omega
            | false => rw [(HC2.out rfl).1] at h1 ⊢; exact h1)
          have CLE : Hid (∀ W, Calls Tryd.prog 102 #[.int .i64 x, .int .i64 y] W fun e w' => e = .returned (.int .i64 (low2 x y)) ∧ w' = W) := Lib.hid (fun W => least_ x y W)
          obtain ⟨z, hz⟩ : ∃ z, low2 x y = z := ⟨_, rfl⟩
          rw [hz] at CLE HL3 HG3
          clear hgk hz
          go_wp2_with fail
          go_quiet (fail)
          obtain ⟨wf, hwf⟩ : ∃ wf, wd.drewN nq = wf := ⟨_, rfl⟩
          have HBF : Hid (Below (w.heap.size + 1) W0 wf) := Lib.hid (by rw [← hwf]; exact drewN_below_ HBD.out _)
          have HOF : Hid (wf.ownsRow (w.heap.size + 1) 3 1 (.slice (some ⟨g, 0, none⟩) N1 d1) N1 (L2.map (Value.int .i64))) := Lib.hid (by rw [← hwf]; exact own_heapW rfl HOD.out)
          have ex : wf.cell? ⟨g, a, none⟩ = some (.int .i64 x) := by rw [← hwf]; exact dx
          have ey : wf.cell? ⟨g, b, none⟩ = some (.int .i64 y) := by rw [← hwf]; exact dy
          rw [hwf]
          clear hwf dx dy
          go_wp2_with fail
          go_quiet ((go_at_call 102; with_reducible exact Calls.quiet_of_same (CLE.out _)))
          obtain ⟨wg, hwg⟩ : ∃ wg, wf.drewN nq = wg := ⟨_, rfl⟩
          have HBG : Hid (Below (w.heap.size + 1) W0 wg) := Lib.hid (by rw [← hwg]; exact drewN_below_ HBF.out _)
          have HOG : Hid (wg.ownsRow (w.heap.size + 1) 3 1 (.slice (some ⟨g, 0, none⟩) N1 d1) N1 (L2.map (Value.int .i64))) := Lib.hid (by rw [← hwg]; exact own_heapW rfl HOF.out)
          have fx : wg.cell? ⟨g, a, none⟩ = some (.int .i64 x) := by rw [← hwg]; exact ex
          have fy : wg.cell? ⟨g, b, none⟩ = some (.int .i64 y) := by rw [← hwg]; exact ey
          rw [hwg]
          clear hwg ex ey
          have zx := HOG.out.frozenAt a
          have zy := HOG.out.frozenAt b
          have hgg := HOG.out.lt g rfl
          have hnab := HAB.out.2.2
          have HOS : Hid (((wg.setCell ⟨g, a, none⟩ (.int .i64 z)).setCell ⟨g, b, none⟩ (.int .i64 z)).ownsRow (w.heap.size + 1) 3 1 (.slice (some ⟨g, 0, none⟩) N1 d1) N1 ((both2 L2 a b z).map (Value.int .i64))) := Lib.hid (by
            have h9 := ((HOG.out.stored a (.int .i64 z)).1.stored b (.int .i64 z)).1
            rw [set_mapI, set_mapI] at h9
            exact h9)
          have HBS := Lib.hid ((HBG.out.setCell (p := ⟨g, a, none⟩) hgg.1 (.int .i64 z)).setCell (p := ⟨g, b, none⟩) hgg.1 (.int .i64 z))
          clear hgg
          go_wp2
          go_roundw
          case rel => exact ⟨k + 1, true, both2 L2 a b z, by omega, by go_num, rfl, HL3, Lib.hid (fun h => by cases h), Lib.hid (fun _ => HG3.out), HOS, HBS.out⟩
          case measure => simp [intOf]; omega
end Go.Proofs.YtnbeomnlobfpfaaDoor
