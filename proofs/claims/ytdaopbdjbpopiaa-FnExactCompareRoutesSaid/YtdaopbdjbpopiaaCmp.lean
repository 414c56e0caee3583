/- Routes compared: the words that both sides share, and the contract of spec.CompareRoutes. No condition but those typed. -/
import Derived.Test.YtdaopbdjbpopiaaReg
namespace Go.Proofs.Ytdaopbdjbpopiaa
open Go.ChangeShapes Go.WideShapes Go.ChangeAt Go.RowKit

def cmpI (a b : Int) : Int := if a < b then -1 else if b < a then 1 else 0
def orI (a b : Int) : Int := if a = 0 then b else a
theorem cmp_lt {a b : Int} (h : a < b) : cmpI a b = -1 := if_pos h
theorem cmp_gt {a b : Int} (h : b < a) : cmpI a b = 1 := by unfold cmpI; rw [if_neg (by omega), if_pos h]
theorem cmp_eq (a : Int) : cmpI a a = 0 := by unfold cmpI; rw [if_neg (by omega), if_neg (by omega)]
theorem cmp_sub (a b : Int) : cmpI (a - b) 0 = cmpI a b := by
  rcases Int.lt_trichotomy a b with h | h | h
  · rw [cmp_lt h, cmp_lt (by omega)]
  · subst h; rw [cmp_eq, Int.sub_self, cmp_eq]
  · rw [cmp_gt h, cmp_gt (by omega)]
theorem cmp_ne {a b : Int} (h : a ≠ b) : cmpI a b ≠ 0 := by
  rcases Int.lt_trichotomy a b with h1 | h1 | h1
  · rw [cmp_lt h1]; decide
  · exact absurd h1 h
  · rw [cmp_gt h1]; decide
theorem or_ne {a b : Int} (h : a ≠ 0) : orI a b = a := if_neg h
theorem or_eq {b : Int} : orI 0 b = b := if_pos rfl
/-- two lists compared by the first place where they differ. -/
def lexF : List Int → List Int → Int
  | x :: xs, y :: ys => orI (cmpI x y) (lexF xs ys)
  | _, _ => 0
theorem lex_at : ∀ {xs ys : List Int} {k : Nat} {a b : Int}, (∀ j, j < k → xs.getD j 0 = ys.getD j 0) → k < xs.length → k < ys.length → xs.getD k 0 = a → ys.getD k 0 = b → a ≠ b → lexF xs ys = cmpI a b
  | x :: xs, y :: ys, 0, a, b, _, _, _, e1, e2, hne => by
    have e1' : x = a := e1
    have e2' : y = b := e2
    subst e1' e2'
    exact or_ne (cmp_ne hne)
  | x :: xs, y :: ys, k + 1, a, b, h, h1, h2, e1, e2, hne => by
    have h0 : x = y := h 0 (by omega)
    subst h0
    rw [lexF, cmp_eq, or_eq]
    exact lex_at (k := k) (fun j hj => h (j + 1) (by omega)) (by simpa using h1) (by simpa using h2) e1 e2 hne
  | [], _, _, _, _, _, h1, _, _, _, _ => absurd h1 (by simp)
  | _ :: _, [], _, _, _, _, _, h2, _, _, _ => absurd h2 (by simp)
theorem lex_all : ∀ {xs ys : List Int}, (∀ j, j < xs.length → xs.getD j 0 = ys.getD j 0) → xs.length = ys.length → lexF xs ys = 0
  | [], _, _, _ => by unfold lexF; rfl
  | x :: xs, [], _, hl => by simp at hl
  | x :: xs, y :: ys, h, hl => by
    have h0 : x = y := h 0 (by simp)
    subst h0
    rw [lexF, cmp_eq, or_eq]
    exact lex_all (fun j hj => h (j + 1) (by simp; omega)) (by simpa using hl)
noncomputable def crI (fs : List Q4) (st : Int) (xs : List Int) (st' : Int) (ys : List Int) : Int := orI (cmpI (lenX fs xs) (lenX fs ys)) (orI (cmpI (xs.length : Int) (ys.length : Int)) (orI (lexF xs ys) (cmpI st st')))
noncomputable def crB (ss : List ByteArray) (fs : List Q4) (st : Int) (xs : List Int) (st' : Int) (ys : List Int) : Bool := routeB ss fs st xs && routeB ss fs st' ys
noncomputable def crV (ss : List ByteArray) (fs : List Q4) (st : Int) (xs : List Int) (st' : Int) (ys : List Int) : Int := if crB ss fs st xs st' ys then crI fs st xs st' ys else 0
noncomputable def crR (ss : List ByteArray) (fs : List Q4) (st : Int) (xs : List Int) (st' : Int) (ys : List Int) : Value := .tuple #[.int .i64 (crV ss fs st xs st' ys), .bool (crB ss fs st xs st' ys)]
theorem cr_no {ss : List ByteArray} {fs : List Q4} {st st' : Int} {xs ys : List Int} (h : crB ss fs st xs st' ys = false) : (.tuple #[.int .i64 0, .bool false] : Value) = crR ss fs st xs st' ys := by unfold crR crV; rw [h]; rfl
theorem cr_yes {ss : List ByteArray} {fs : List Q4} {st st' : Int} {xs ys : List Int} (h : crB ss fs st xs st' ys = true) : (.tuple #[.int .i64 (crI fs st xs st' ys), .bool true] : Value) = crR ss fs st xs st' ys := by unfold crR crV; rw [h]; rfl
theorem ret_tupC {a b : Value} (h : a = b) : Ending.returned a = .returned b := by rw [h]

set_option maxHeartbeats 1000000 in
theorem sign_ (x : Int) (w : World) : Calls Try.prog 174 #[.int .i64 x] w fun e w' => e = .returned (.int .i64 (cmpI x 0)) ∧ w = w' := by
  by_cases h1 : x < 0
  · rw [cmp_lt h1]
    go_enter Try.func174, Try.ntmps174
    go_wp2
    go_ret
    exact ⟨rfl, rfl⟩
  · by_cases h2 : 0 < x
    · rw [cmp_gt h2]
      go_enter Try.func174, Try.ntmps174
      go_wp2
      go_ret
      exact ⟨rfl, rfl⟩
    · have h3 : x = 0 := by omega
      subst h3
      rw [cmp_eq]
      go_enter Try.func174, Try.ntmps174
      go_wp2
      go_ret
      exact ⟨rfl, rfl⟩

set_option maxRecDepth 100000 in
set_option maxHeartbeats 8000000 in
theorem l4Compare_ {g1 g2 n1 n2 c1 c2 : Nat} {ss : List ByteArray} {fs : List Q4} {w : World} (h : NetAt g1 g2 n1 n2 c1 c2 ss fs w) (hv : netP ss fs) (st : Int) {A : Option Addr} {n c : Nat} {xs : List Int} (hn : xs.length = n) (hr : Rd w w.heap.size A (xs.map (Value.int .i64))) (hx : n ≤ 1048576) (st2 : Int) {A2 : Option Addr} {m c3 : Nat} {ys : List Int} (hm : ys.length = m) (hr2 : Rd w w.heap.size A2 (ys.map (Value.int .i64))) (hx2 : m ≤ 1048576) (hmx : ∀ x ∈ xs, 0 ≤ x ∧ x < fs.length) (hmy : ∀ x ∈ ys, 0 ≤ x ∧ x < fs.length) (h01 : 0 ≤ st ∧ st ≤ 1000000) (h02 : 0 ≤ st2 ∧ st2 ≤ 1000000) :
    Calls Try.prog 110 #[.agg #[.slice (some ⟨g1, 0, none⟩) n1 c1, .slice (some ⟨g2, 0, none⟩) n2 c2], .agg #[.int .i64 st, .slice A n c], .agg #[.int .i64 st2, .slice A2 m c3]] w (RetP (.int .i64 (crI fs st xs st2 ys)) w) := by
  have HNT := Lib.hid h; have HN := Lib.hid hn; have HR := Lib.hid hr; have HM := Lib.hid hm; have HR2 := Lib.hid hr2
  have HL2 := Lib.hid h.ln2
  clear h hn hr hm hr2
  have HV := Lib.hid hv; have HMX := Lib.hid hmx; have HMY := Lib.hid hmy
  clear hv hmx hmy
  obtain ⟨R, hRR⟩ : ∃ R, crI fs st xs st2 ys = R := ⟨_, rfl⟩
  rw [hRR]
  have HRR := Lib.hid hRR
  clear hRR
  have hla := lenX_bd HV.out xs
  have hlb := lenX_bd HV.out ys
  rw [HN.out] at hla
  rw [HM.out] at hlb
  obtain ⟨la, hlae⟩ : ∃ l, lenX fs xs = l := ⟨_, rfl⟩
  obtain ⟨lb, hlbe⟩ : ∃ l, lenX fs ys = l := ⟨_, rfl⟩
  rw [hlae] at hla
  rw [hlbe] at hlb
  have HRE : Hid (orI (cmpI la lb) (orI (cmpI (n : Int) (m : Int)) (orI (lexF xs ys) (cmpI st st2))) = R) := Lib.hid (by rw [← HRR.out]; unfold crI; rw [hlae, hlbe, HN.out, HM.out])
  have HLA := Lib.hid hlae; have HLB := Lib.hid hlbe
  clear hlae hlbe HRR
  go_enter Try.func110, Try.ntmps110
  go_wp2
  obtain ⟨W0, hW0⟩ : ∃ W0, ((w.alloc (Obj.cells #[.slice (some ⟨g1, 0, none⟩) n1 c1, .slice (some ⟨g2, 0, none⟩) n2 c2] 32)).alloc (Obj.cells #[.int .i64 st, .slice A n c] 45)).alloc (Obj.cells #[.int .i64 st2, .slice A2 m c3] 45) = W0 := ⟨_, rfl⟩
  have hb0 : Below w.heap.size w W0 := by rw [← hW0]; exact (((Below.refl _ _).alloc (Nat.le_refl _) _).alloc (by simp) _).alloc (by simp; omega) _
  have k0 : W0.cell? ⟨w.heap.size, 0, none⟩ = some (.slice (some ⟨g1, 0, none⟩) n1 c1) := by rw [← hW0]; simp [go_sem]
  have k1 : W0.cell? ⟨w.heap.size, 1, none⟩ = some (.slice (some ⟨g2, 0, none⟩) n2 c2) := by rw [← hW0]; simp [go_sem]
  have k2 : W0.cell? ⟨w.heap.size + 1, 0, none⟩ = some (.int .i64 st) := by rw [← hW0]; simp [go_sem]
  have k3 : W0.cell? ⟨w.heap.size + 1, 1, none⟩ = some (.slice A n c) := by rw [← hW0]; simp [go_sem]
  have k4 : W0.cell? ⟨w.heap.size + 1 + 1, 0, none⟩ = some (.int .i64 st2) := by rw [← hW0]; simp [go_sem]
  have k5 : W0.cell? ⟨w.heap.size + 1 + 1, 1, none⟩ = some (.slice A2 m c3) := by rw [← hW0]; simp [go_sem]
  have hz0 : w.heap.size + 2 < W0.heap.size := by rw [← hW0]; simp
  have HB0 := Lib.hid hb0
  rw [hW0]
  clear hW0 hb0
  have HK0 := Lib.hid k0
  have HK1 := Lib.hid k1
  have HK2 := Lib.hid k2
  have HK3 := Lib.hid k3
  have HK4 := Lib.hid k4
  have HK5 := Lib.hid k5
  have HZB := Lib.hid hz0
  clear k0 k1 k2 k3 k4 k5 hz0
  obtain ⟨T, f, x0, hx0, hTT, HST⟩ := above W0
  haveI : Nonempty T := ⟨x0⟩
  have hz0 := HZB.out
  have hbx : ∀ x, Below w.heap.size w (f x) := fun x => HB0.out.trans ((hTT x).mono HB0.out.size)
  have s0 : ∀ x, (f x).cell? ⟨w.heap.size, 0, none⟩ = some (.slice (some ⟨g1, 0, none⟩) n1 c1) := fun x => ((hTT x).cell (p := ⟨w.heap.size, 0, none⟩) (by show w.heap.size < _; omega)).trans HK0.out
  have s1 : ∀ x, (f x).cell? ⟨w.heap.size, 1, none⟩ = some (.slice (some ⟨g2, 0, none⟩) n2 c2) := fun x => ((hTT x).cell (p := ⟨w.heap.size, 1, none⟩) (by show w.heap.size < _; omega)).trans HK1.out
  have s2 : ∀ x, (f x).cell? ⟨w.heap.size + 1, 0, none⟩ = some (.int .i64 st) := fun x => ((hTT x).cell (p := ⟨w.heap.size + 1, 0, none⟩) (by show w.heap.size + 1 < _; omega)).trans HK2.out
  have s3 : ∀ x, (f x).cell? ⟨w.heap.size + 1, 1, none⟩ = some (.slice A n c) := fun x => ((hTT x).cell (p := ⟨w.heap.size + 1, 1, none⟩) (by show w.heap.size + 1 < _; omega)).trans HK3.out
  have s4 : ∀ x, (f x).cell? ⟨w.heap.size + 1 + 1, 0, none⟩ = some (.int .i64 st2) := fun x => ((hTT x).cell (p := ⟨w.heap.size + 1 + 1, 0, none⟩) (by show w.heap.size + 1 + 1 < _; omega)).trans HK4.out
  have s5 : ∀ x, (f x).cell? ⟨w.heap.size + 1 + 1, 1, none⟩ = some (.slice A2 m c3) := fun x => ((hTT x).cell (p := ⟨w.heap.size + 1 + 1, 1, none⟩) (by show w.heap.size + 1 + 1 < _; omega)).trans HK5.out
  have C1 : Hid (∀ x, Calls Try.prog 173 #[.agg #[.slice (some ⟨g1, 0, none⟩) n1 c1, .slice (some ⟨g2, 0, none⟩) n2 c2], .agg #[.int .i64 st, .slice A n c]] (f x) (RetP (.int .i64 la) (f x))) := Lib.hid fun x => by rw [← HLA.out]; exact l4Length_ (c := c) (HNT.out.moved (hbx x)) HV.out st HN.out (HR.out.moved (hbx x)) hx HMX.out
  have C2 : Hid (∀ x, Calls Try.prog 173 #[.agg #[.slice (some ⟨g1, 0, none⟩) n1 c1, .slice (some ⟨g2, 0, none⟩) n2 c2], .agg #[.int .i64 st2, .slice A2 m c3]] (f x) (RetP (.int .i64 lb) (f x))) := Lib.hid fun x => by rw [← HLB.out]; exact l4Length_ (c := c3) (HNT.out.moved (hbx x)) HV.out st2 HM.out (HR2.out.moved (hbx x)) hx2 HMY.out
  have e1 : IntKind.i64.wrap (la - lb) = la - lb := IntWalk.i64_in _ (by omega)
  have HT1 : Hid (∀ x, Below W0.heap.size W0 (f x)) := Lib.hid hTT
  have HXX := Lib.hid hx0
  clear hbx hTT hx0 hz0
  refine wp_region_class f (by kernel_rfl) (by kernel_rfl) x0 HXX.out ?_
  repeat (go_big_quiet_step (first | (go_at_call 173; first | with_reducible exact Calls.inClass HST (C1.out _) | with_reducible exact Calls.inClass HST (C2.out _))))
  refine wpQuiet_nil ?_
  rintro _ ⟨x, rfl⟩
  have HB1 := Lib.hid (HB0.out.trans ((HT1.out x).mono HB0.out.size))
  have HBA := Lib.hid (HT1.out x)
  clear s0 s1 s2 s3 s4 s5 e1
  generalize f x = w1 at HB1 HBA ⊢
  have hz0 := HZB.out
  have l0 := (HBA.out.cell (p := ⟨w.heap.size, 0, none⟩) (by show w.heap.size < _; omega)).trans HK0.out
  have l1 := (HBA.out.cell (p := ⟨w.heap.size, 1, none⟩) (by show w.heap.size < _; omega)).trans HK1.out
  have l2 := (HBA.out.cell (p := ⟨w.heap.size + 1, 0, none⟩) (by show w.heap.size + 1 < _; omega)).trans HK2.out
  have l3 := (HBA.out.cell (p := ⟨w.heap.size + 1, 1, none⟩) (by show w.heap.size + 1 < _; omega)).trans HK3.out
  have l4 := (HBA.out.cell (p := ⟨w.heap.size + 1 + 1, 0, none⟩) (by show w.heap.size + 1 + 1 < _; omega)).trans HK4.out
  have l5 := (HBA.out.cell (p := ⟨w.heap.size + 1 + 1, 1, none⟩) (by show w.heap.size + 1 + 1 < _; omega)).trans HK5.out
  clear hz0
  by_cases hll : la = lb
  case neg =>
    have HE : Hid (cmpI (la - lb) 0 = R) := Lib.hid (by rw [cmp_sub, ← HRE.out, or_ne (cmp_ne hll)])
    have q1 : (la - lb == 0) = false := by simp; omega
    have q2 : (la - lb != 0) = true := by simp; omega
    have CS := Lib.hid (fun W => sign_ (la - lb) W)
    clear hll
    go_wp2_with fail
    refine (CS.out _).mono ?_
    rintro e w' ⟨rfl, rfl⟩
    go_wp2
    go_ret
    exact ⟨reti HE.out, HB1.out⟩
  case pos =>
  have HRE2 : Hid (orI (cmpI (n : Int) (m : Int)) (orI (lexF xs ys) (cmpI st st2)) = R) := Lib.hid (by rw [← HRE.out, hll, cmp_eq, or_eq])
  have q0 : la - lb = 0 := by omega
  have e2 : IntKind.i64.wrap ((n : Int) - (m : Int)) = (n : Int) - (m : Int) := IntWalk.i64_in _ (by omega)
  clear hll
  rw [q0]
  clear q0
  by_cases hnm : n = m
  case neg =>
    have HE : Hid (cmpI ((n : Int) - (m : Int)) 0 = R) := Lib.hid (by rw [cmp_sub, ← HRE2.out, or_ne (cmp_ne (by omega))])
    have q1 : ((n : Int) - (m : Int) == 0) = false := by simp; omega
    have q2 : ((n : Int) - (m : Int) != 0) = true := by simp; omega
    have CS := Lib.hid (fun W => sign_ ((n : Int) - (m : Int)) W)
    clear hnm
    go_wp2_with fail
    refine (CS.out _).mono ?_
    rintro e w' ⟨rfl, rfl⟩
    go_wp2
    go_ret
    exact ⟨reti HE.out, HB1.out⟩
  case pos =>
  subst hnm
  have HRE3 : Hid (orI (lexF xs ys) (cmpI st st2) = R) := Lib.hid (by rw [← HRE2.out, cmp_eq, or_eq])
  have HL_0 := Lib.hid l0
  have HL_1 := Lib.hid l1
  have HL_2 := Lib.hid l2
  have HL_3 := Lib.hid l3
  have HL_4 := Lib.hid l4
  have HL_5 := Lib.hid l5
  have HZ1 : Hid (w.heap.size + 2 < w1.heap.size) := Lib.hid (by have := HZB.out; have := HBA.out.size; omega)
  clear e2
  go_wp2
  clear l0 l1 l2 l3 l4 l5
  go_loopw [9] (fun i wr => ∃ k : Nat, k ≤ n ∧ i = .int .i64 k ∧ Hid (∀ j, j < k → xs.getD j 0 = ys.getD j 0) ∧ Below w1.heap.size w1 wr) (fun i _ => n - (intOf i).toNat)
  case atStart => exact ⟨0, Nat.zero_le _, rfl, Lib.hid (fun j hj => by omega), Below.refl _ _⟩
  case round =>
    obtain ⟨k, hk, rfl, HA, hb⟩ := hrel
    have HBW := Lib.hid (HB1.out.trans (hb.mono HB1.out.size))
    have hz0 := HZ1.out
    have m0 := (hb.cell (p := ⟨w.heap.size, 0, none⟩) (by show w.heap.size < _; omega)).trans HL_0.out
    have m1 := (hb.cell (p := ⟨w.heap.size, 1, none⟩) (by show w.heap.size < _; omega)).trans HL_1.out
    have m2 := (hb.cell (p := ⟨w.heap.size + 1, 0, none⟩) (by show w.heap.size + 1 < _; omega)).trans HL_2.out
    have m3 := (hb.cell (p := ⟨w.heap.size + 1, 1, none⟩) (by show w.heap.size + 1 < _; omega)).trans HL_3.out
    have m4 := (hb.cell (p := ⟨w.heap.size + 1 + 1, 0, none⟩) (by show w.heap.size + 1 + 1 < _; omega)).trans HL_4.out
    have m5 := (hb.cell (p := ⟨w.heap.size + 1 + 1, 1, none⟩) (by show w.heap.size + 1 + 1 < _; omega)).trans HL_5.out
    clear hz0
    by_cases hlt : k < n
    case neg =>
      have HE : Hid (cmpI (st - st2) 0 = R) := Lib.hid (by
        rw [cmp_sub, ← HRE3.out, lex_all (fun j hj => HA.out j (by have := HN.out; omega)) (HN.out.trans HM.out.symm), or_eq])
      have e3 : IntKind.i64.wrap (st - st2) = st - st2 := IntWalk.i64_in _ (by omega)
      have CS := Lib.hid (fun W => sign_ (st - st2) W)
      go_wp2_with fail
      refine (CS.out _).mono ?_
      rintro e w' ⟨rfl, rfl⟩
      go_wp2
      go_ret
      exact ⟨reti HE.out, HBW.out⟩
    case pos =>
    have hkx : k < xs.length := by have := HN.out; omega
    have hky : k < ys.length := by have := HM.out; omega
    obtain ⟨ad, hA, hbl, hc1⟩ := ints_at HR.out hkx
    subst hA
    obtain ⟨ad2, hA2, hbl2, hc2⟩ := ints_at HR2.out hky
    subst hA2
    rw [← HBW.out.cell (by rw [addBlock]; exact hbl)] at hc1
    rw [← HBW.out.cell (by rw [addBlock]; exact hbl2)] at hc2
    have hxm := HMX.out xs[k] (List.getElem_mem hkx)
    have hym := HMY.out ys[k] (List.getElem_mem hky)
    obtain ⟨a, ha⟩ : ∃ a, xs[k]'hkx = a := ⟨_, rfl⟩
    obtain ⟨b, hbb⟩ : ∃ b, ys[k]'hky = b := ⟨_, rfl⟩
    have HXA : Hid (xs.getD k 0 = a) := Lib.hid (by rw [List.getD_eq_getElem?_getD, List.getElem?_eq_getElem hkx, ha]; rfl)
    have HYB : Hid (ys.getD k 0 = b) := Lib.hid (by rw [List.getD_eq_getElem?_getD, List.getElem?_eq_getElem hky, hbb]; rfl)
    rw [ha] at hc1 hxm
    rw [hbb] at hc2 hym
    have hnf : fs.length ≤ 14 := HV.out.2.1
    clear ha hbb
    by_cases hab : a = b
    case pos =>
      have HA1 : Hid (∀ j, j < k + 1 → xs.getD j 0 = ys.getD j 0) := Lib.hid (fun j hj => by
        rcases Nat.lt_or_ge j k with hj' | hj'
        · exact HA.out j hj'
        · obtain rfl : j = k := by omega
          rw [HXA.out, HYB.out, hab])
      subst hab
      clear hkx hky
      go_wp2
      go_quiet (fail)
      go_wp2
      go_roundw
      case rel => exact ⟨k + 1, by omega, by go_num, HA1, drewN_below hb _⟩
      case measure => simp [intOf]; omega
    case neg =>
      have HE : Hid (cmpI (a - b) 0 = R) := Lib.hid (by
        have h9 := lex_at (k := k) (fun j hj => HA.out j hj) hkx hky HXA.out HYB.out hab
        rw [cmp_sub, ← HRE3.out, h9, or_ne (cmp_ne hab)])
      have p1 : (a == b) = false := by simpa using hab
      have p2 : (a != b) = true := by simpa using hab
      have p3 : decide (a = b) = false := decide_eq_false hab
      have e4 : IntKind.i64.wrap (a - b) = a - b := IntWalk.i64_in _ (by omega)
      have CS : Hid (∀ W, Calls Try.prog 174 #[.int .i64 (a - b)] W fun e w' => e = .returned (.int .i64 (cmpI (a - b) 0)) ∧ W = w') := Lib.hid (fun W => sign_ (a - b) W)
      clear hkx hky
      go_wp2
      go_quiet (fail)
      obtain ⟨wd, hwd⟩ : ∃ wd, wr.drewN nq = wd := ⟨_, rfl⟩
      have hcw : ∀ p, wd.cell? p = wr.cell? p := by intro p; rw [← hwd]; rfl
      have HBD : Hid (Below w.heap.size w wd) := Lib.hid (by rw [← hwd]; exact drewN_below HBW.out _)
      rw [← hcw] at m0 m1 m2 m3 m4 m5 hc1 hc2
      rw [hwd]
      clear hwd hcw
      go_wp2
      go_quiet ((go_at_call 174; exact Calls.quiet_of_same ((CS.out _).mono fun e w' h => ⟨h.1, h.2.symm⟩)))
      go_wp2
      go_ret
      exact ⟨reti HE.out, drewN_below HBD.out _⟩
end Go.Proofs.Ytdaopbdjbpopiaa
