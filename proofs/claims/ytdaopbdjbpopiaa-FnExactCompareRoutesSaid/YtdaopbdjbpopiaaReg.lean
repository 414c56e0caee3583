/- Routes: the nodes at which a signal is regenerated: contracts of RegeneratorsFor, both sides. No condition but those typed. -/
import Derived.Test.YtdaopbdjbpopiaaWk7
import Derived.Test.YtdaopbdjbpopiaaApdN
import Derived.Test.YtdaopbdjbpopiaaWk5
namespace Go.Proofs.Ytdaopbdjbpopiaa
open Go.ChangeShapes Go.WideShapes Go.ChangeAt Go.RowKit

noncomputable def lnK (fs : List Q4) (fl : List Int) (k : Nat) : Int := (fibI fs (fl.getD k 0)).c
noncomputable def rgS (fs : List Q4) (fl vs : List Int) (h : Int) : Nat → Int × List Int
  | 0 => (0, [])
  | k + 1 => if h < (rgS fs fl vs h k).1 + lnK fs fl k then (lnK fs fl k, (rgS fs fl vs h k).2 ++ [vs.getD k 0]) else ((rgS fs fl vs h k).1 + lnK fs fl k, (rgS fs fl vs h k).2)
theorem rg_over {fs : List Q4} {fl vs : List Int} {h : Int} {k : Nat} {s l v : Int} {L : List Int} (e : rgS fs fl vs h k = (s, L)) (el : lnK fs fl k = l) (ev : vs.getD k 0 = v) (ho : h < s + l) : rgS fs fl vs h (k + 1) = (l, L ++ [v]) := by
  rw [rgS, e, el, ev]; exact if_pos ho
theorem rg_fits {fs : List Q4} {fl vs : List Int} {h : Int} {k : Nat} {s l : Int} {L : List Int} (e : rgS fs fl vs h k = (s, L)) (el : lnK fs fl k = l) (ho : ¬ h < s + l) : rgS fs fl vs h (k + 1) = (s + l, L) := by
  rw [rgS, e, el]; exact if_neg ho
theorem rg_len (fs : List Q4) (fl vs : List Int) (h : Int) : ∀ k, (rgS fs fl vs h k).2.length ≤ k
  | 0 => Nat.le_refl _
  | k + 1 => by
    have := rg_len fs fl vs h k
    rw [rgS]
    split
    · rw [List.length_append]; exact Nat.succ_le_succ this
    · exact Nat.le_succ_of_le this
noncomputable def regP (ss : List ByteArray) (fs : List Q4) (st : Int) (fl : List Int) (h : Int) : Prop := routeB ss fs st fl = true ∧ (1 ≤ h ∧ h ≤ 20000) ∧ ∀ k, k < fl.length → lnK fs fl k ≤ h
noncomputable def regB (ss : List ByteArray) (fs : List Q4) (st : Int) (fl : List Int) (h : Int) : Bool := pb (regP ss fs st fl h)
noncomputable def regL (ss : List ByteArray) (fs : List Q4) (st : Int) (fl : List Int) (h : Int) : List Int := if regB ss fs st fl h then (rgS fs fl (rnodL ss fs st fl) h fl.length).2 else []
theorem reg_no {ss : List ByteArray} {fs : List Q4} {st : Int} {fl : List Int} {h : Int} (e : ¬ regP ss fs st fl h) : regL ss fs st fl h = [] ∧ regB ss fs st fl h = false := by
  have hb : regB ss fs st fl h = false := pb_false e
  exact ⟨by unfold regL; rw [hb]; rfl, hb⟩
theorem reg_yes {ss : List ByteArray} {fs : List Q4} {st : Int} {fl : List Int} {h : Int} (e : regP ss fs st fl h) : regL ss fs st fl h = (rgS fs fl (rnodL ss fs st fl) h fl.length).2 ∧ regB ss fs st fl h = true := by
  have hb : regB ss fs st fl h = true := pb_true e
  exact ⟨by unfold regL; rw [hb]; rfl, hb⟩
theorem regL_len (ss : List ByteArray) (fs : List Q4) (st : Int) (fl : List Int) (h : Int) : (regL ss fs st fl h).length ≤ fl.length := by
  unfold regL
  split
  · exact rg_len _ _ _ _ _
  · simp
/-- worlds one after the other. -/
theorem belT {a b c : World} (h : Below a.heap.size a b) (k : Below b.heap.size b c) : Below a.heap.size a c := h.trans (k.mono h.size)
theorem own_some {w : World} {B E s n c : Nat} {A : Option Addr} {xs : List Value} (h : w.ownsRow B E s (.slice A n c) n xs) (hn : 0 < n) : ∃ g, A = some ⟨g, 0, none⟩ := by
  rcases h.2 with ⟨e, e2⟩ | ⟨g, cap, cur, e, _, hh, _⟩
  · omega
  · injection e with e1
    exact ⟨g, e1⟩
theorem apart_new {w w' : World} {B E s n B' E' s' n' : Nat} {v v' : Value} {xs xs' : List Value} (h : w.ownsRow B E s v n xs) (h' : w'.ownsRow B' E' s' v' n' xs') (hB : w.heap.size ≤ B') : Apart v' v := fun g hg e => by
  have h1 := (h.lt g e).2
  have h2 := (h'.lt g hg).1
  omega
theorem apart_loc {v v' v1 : Value} {B E s n K : Nat} {xs : List Value} {w : World} (h : Apart v v') (ho : w.ownsRow B E s v n xs) (hK : w.heap.size ≤ K) (hloc : v1.ownBlock = v'.ownBlock ∨ v1.ownBlock = some K) : Apart v v1 := by
  intro g hg e
  rcases hloc with hl | hl
  · exact h g hg (by rw [← hl]; exact e)
  · have := (ho.lt g hg).2
    rw [hl] at e
    injection e with e
    omega
theorem new_at_ (W : World) (E : TypeId) (u : Value) (b : Nat) (hb : W.heap.size = b) : (W.alloc (.cells #[u] E)).cell? ⟨b, 0, none⟩ = some u := by subst hb; simp [go_sem]
/-- the cell of an int row of the call's own. -/
theorem own_int {w : World} {B E g n c k : Nat} {zs : List Int} (h : w.ownsRow B E 1 (.slice (some ⟨g, 0, none⟩) n c) n (zs.map (Value.int .i64))) (hn : n = zs.length) (hk : k < n) {v : Int} (hv : zs.getD k 0 = v) : w.cell? ⟨g, k, none⟩ = some (.int .i64 v) := by
  have h1 := h.cellAt k (by omega)
  have hk' : k < zs.length := by omega
  rw [List.getD_eq_getElem?_getD, List.getElem?_eq_getElem hk'] at hv
  simp only [Option.getD_some] at hv
  rw [List.getElem?_map, List.getElem?_eq_getElem hk', hv] at h1
  exact h1

set_option maxHeartbeats 1000000 in
theorem isReach_ (h : Int) (w : World) : Calls Try.prog 125 #[.int .i64 h] w fun e w' => e = .returned (.bool (decide (1 ≤ h ∧ h ≤ 20000))) ∧ w = w' := by
  by_cases h1 : 1 ≤ h
  · by_cases h2 : h ≤ 20000
    · rw [decide_eq_true ⟨h1, h2⟩]
      go_enter Try.func125, Try.ntmps125
      go_wp2
      go_ret
      exact ⟨rfl, rfl⟩
    · rw [decide_eq_false (fun h => h2 h.2)]
      go_enter Try.func125, Try.ntmps125
      go_wp2
      go_ret
      exact ⟨rfl, rfl⟩
  · rw [decide_eq_false (fun h => h1 h.1)]
    go_enter Try.func125, Try.ntmps125
    go_wp2
    go_ret
    exact ⟨rfl, rfl⟩
theorem ints_no {L : List Int} {b : Bool} {w w' : World} (h : L = [] ∧ b = false) (hb : Below w.heap.size w w') : IntsP L b w (.returned (.tuple #[.slice none 0 0, .bool false])) w' := by
  obtain ⟨rfl, rfl⟩ := h; exact ints_nilB false hb
theorem ints_lit {L : List Int} {b : Bool} {w w' : World} (h : L = [] ∧ b = false) (hb : Below w.heap.size w w') {g : Nat} (hg : w'.heap.size = g) : IntsP L b w (.returned (.tuple #[.slice (some ⟨g, 0, none⟩) 0 0, .bool false])) (w'.alloc (Obj.cells #[] 3)) := by
  obtain ⟨rfl, rfl⟩ := h
  subst hg
  exact ⟨_, 0, _, rfl, Lib.hid rfl, World.ownsRow_lit (base := w.heap.size) (e := 3) (size := 1) w' #[] 0 hb.size (by unfold maxLen; omega) rfl, hb.alloc hb.size _⟩

set_option maxRecDepth 100000 in
set_option maxHeartbeats 8000000 in
theorem implRG {g1 g2 n1 n2 c1 c2 : Nat} {ss : List ByteArray} {fs : List Q4} {w : World} (hnet0 : NetAt g1 g2 n1 n2 c1 c2 ss fs w) (st : Int)
    {A : Option Addr} {n c : Nat} {fl : List Int} (hn : fl.length = n) (hr : Rd w w.heap.size A (fl.map (Value.int .i64))) (hx : n ≤ 1048576) (h : Int) :
    Calls Try.prog 51 #[.agg #[.slice (some ⟨g1, 0, none⟩) n1 c1, .slice (some ⟨g2, 0, none⟩) n2 c2], .agg #[.int .i64 st, .slice A n c], .int .i64 h] w (IntsP (regL ss fs st fl h) (regB ss fs st fl h) w) := by
  have HNT := Lib.hid hnet0; have HN := Lib.hid hn; have HR := Lib.hid hr
  have HL1 := Lib.hid hnet0.ln1
  have HL2 := Lib.hid hnet0.ln2
  have hs1 := hnet0.sm1
  have hs2 := hnet0.sm2
  clear hnet0 hn hr
  obtain ⟨RL, hRL⟩ : ∃ r, regL ss fs st fl h = r := ⟨_, rfl⟩
  obtain ⟨RB, hRB⟩ : ∃ r, regB ss fs st fl h = r := ⟨_, rfl⟩
  rw [hRL, hRB]
  have HRL := Lib.hid hRL; have HRB := Lib.hid hRB
  clear hRL hRB
  have HNO : Hid (¬ regP ss fs st fl h → RL = [] ∧ RB = false) := Lib.hid (fun e => by rw [← HRL.out, ← HRB.out]; exact reg_no e)
  have HYES : Hid (regP ss fs st fl h → RL = (rgS fs fl (rnodL ss fs st fl) h fl.length).2 ∧ RB = true) := Lib.hid (fun e => by rw [← HRL.out, ← HRB.out]; exact reg_yes e)
  clear HRL HRB
  go_enter Try.func51, Try.ntmps51
  go_wp2_with fail
  obtain ⟨W0, hW0⟩ : ∃ W0, (w.alloc (Obj.cells #[.slice (some ⟨g1, 0, none⟩) n1 c1, .slice (some ⟨g2, 0, none⟩) n2 c2] 32)).alloc (Obj.cells #[.int .i64 st, .slice A n c] 45) = W0 := ⟨_, rfl⟩
  have hb0 : Below w.heap.size w W0 := by rw [← hW0]; exact ((Below.refl _ _).alloc (Nat.le_refl _) _).alloc (by simp) _
  have k0 : W0.cell? ⟨w.heap.size, 0, none⟩ = some (.slice (some ⟨g1, 0, none⟩) n1 c1) := by rw [← hW0]; simp [go_sem]
  have k1 : W0.cell? ⟨w.heap.size, 1, none⟩ = some (.slice (some ⟨g2, 0, none⟩) n2 c2) := by rw [← hW0]; simp [go_sem]
  have k2 : W0.cell? ⟨w.heap.size + 1, 0, none⟩ = some (.int .i64 st) := by rw [← hW0]; simp [go_sem]
  have k3 : W0.cell? ⟨w.heap.size + 1, 1, none⟩ = some (.slice A n c) := by rw [← hW0]; simp [go_sem]
  have hz0 : w.heap.size + 1 < W0.heap.size := by rw [← hW0]; simp
  have HB0 := Lib.hid hb0; have HK0 := Lib.hid k0; have HK1 := Lib.hid k1; have HK2 := Lib.hid k2; have HK3 := Lib.hid k3; have HZ0 := Lib.hid hz0
  rw [hW0]
  clear hW0 hb0 k0 k1 k2 k3 hz0
  have CR := Lib.hid (implRN (c := c) (HNT.out.moved HB0.out) st HN.out (HR.out.moved HB0.out) hx)
  obtain ⟨vs, hvs⟩ : ∃ v, rnodL ss fs st fl = v := ⟨_, rfl⟩
  obtain ⟨b, hb⟩ : ∃ b, routeB ss fs st fl = b := ⟨_, rfl⟩
  rw [hvs, hb] at CR
  have HVS := Lib.hid hvs; have HRT := Lib.hid hb
  clear hvs hb
  refine CR.out.mono ?_
  rintro e w1 ⟨A0, N, cc, rfl, HNN, ho, hb1⟩
  have HO := Lib.hid ho
  have HB1 := Lib.hid (HB0.out.trans (hb1.mono HB0.out.size))
  have l0 := (hb1.cell (p := ⟨w.heap.size, 0, none⟩) (by show w.heap.size < _; have := HZ0.out; omega)).trans HK0.out
  have l1 := (hb1.cell (p := ⟨w.heap.size, 1, none⟩) (by show w.heap.size < _; have := HZ0.out; omega)).trans HK1.out
  have l2 := (hb1.cell (p := ⟨w.heap.size + 1, 0, none⟩) (by show w.heap.size + 1 < _; have := HZ0.out; omega)).trans HK2.out
  have l3 := (hb1.cell (p := ⟨w.heap.size + 1, 1, none⟩) (by show w.heap.size + 1 < _; have := HZ0.out; omega)).trans HK3.out
  clear ho hb1
  cases b
  case false =>
    have HNN2 := Lib.hid (HNO.out (fun hp => by have := hp.1; rw [HRT.out] at this; cases this))
    go_wp2
    go_ret2
    exact ints_no HNN2.out HB1.out
  case true =>
  obtain ⟨hnet, us, hus⟩ := routeB_yes HRT.out
  have HNETP := Lib.hid hnet
  have HMEM := Lib.hid (routeN_mem hus)
  have HNL : Hid (N = n + 1) := Lib.hid (by rw [HNN.out, ← HVS.out, rnod_yes HRT.out hus, List.length_reverse, routeN_len hus, HN.out])
  clear hnet hus
  go_wp2_with fail
  refine (isReach_ h _).mono ?_
  rintro e w' ⟨rfl, rfl⟩
  cases hre : decide (1 ≤ h ∧ h ≤ 20000)
  case false =>
    have HNN2 := Lib.hid (HNO.out (fun hp => of_decide_eq_false hre hp.2.1))
    clear hre
    go_wp2
    go_ret2
    exact ints_no HNN2.out HB1.out
  case true =>
  have HRE : Hid (1 ≤ h ∧ h ≤ 20000) := Lib.hid (of_decide_eq_true hre)
  clear hre
  obtain ⟨gN, rfl⟩ := own_some HO.out (by have := HNL.out; omega)
  have HL1_ : Hid (w1.cell? ⟨w.heap.size, 1, none⟩ = some (.slice (some ⟨g2, 0, none⟩) n2 c2)) := Lib.hid l1
  have hzb : w.heap.size + 1 < w1.heap.size := by have := HZ0.out; have := HB1.out.size; have := HO.out.lt gN rfl; omega
  have HZB := Lib.hid hzb
  clear hzb
  go_wp2
  clear l0 l1 l2 l3
  go_loopw [10, 11, 31] (fun v s i wr => ∃ (k : Nat) (A1 : Option Addr) (m c1' : Nat) (t : Int) (L : List Int), k ≤ n ∧ i = .int .i64 k ∧ v = .slice A1 m c1' ∧ s = .int .i64 t ∧ m ≤ k ∧ 0 ≤ t ∧ t ≤ 20000 ∧ Hid (rgS fs fl vs h k = (t, L)) ∧ Hid (m = L.length) ∧ Hid (∀ j, j < k → lnK fs fl j ≤ h) ∧ Hid (wr.ownsRow w1.heap.size 3 1 (.slice A1 m c1') m (L.map (Value.int .i64))) ∧ Below w1.heap.size w1 wr) (fun _ _ i _ => n - (intOf i).toNat)
  case atStart => exact ⟨0, none, 0, 0, 0, [], Nat.zero_le _, rfl, rfl, rfl, Nat.le_refl _, by omega, by omega, Lib.hid rfl, Lib.hid rfl, Lib.hid (fun j hj => by omega), Lib.hid (World.ownsRow_nil _ _ _ _), Below.refl _ _⟩
  case round =>
    obtain ⟨k, A1, m, c1', s, L, hk, rfl, rfl, rfl, hmk, hs0, hs9, HS, HM, HA, HOW, hb⟩ := hrel
    have hsz0 := hb.size
    have l1 := (hb.cell (p := ⟨w.heap.size, 1, none⟩) (by show w.heap.size < _; have := HZB.out; omega)).trans HL1_.out
    by_cases hlt : k < n
    case neg =>
      have HYS := HYES.out ⟨HRT.out, HRE.out, fun j hj => HA.out j (by have := HN.out; omega)⟩
      have HRL : Hid (RL = L) := Lib.hid (by rw [HYS.1, HVS.out, show fl.length = k by have := HN.out; omega, HS.out])
      have HRB : Hid (RB = true) := Lib.hid HYS.2
      clear HYS
      go_wp2
      go_ret2
      rw [HRL.out, HRB.out]
      exact ⟨A1, m, c1', rfl, HM, own_base HOW.out (by have := HB1.out.size; omega), HB1.out.trans (hb.mono HB1.out.size)⟩
    case pos =>
    have hkl : k < fl.length := by have := HN.out; omega
    have HBW := Lib.hid (HB1.out.trans (hb.mono HB1.out.size))
    obtain ⟨ad, hA, hbl, hcell⟩ := ints_at HR.out hkl
    subst hA
    rw [← HBW.out.cell (by rw [addBlock]; exact hbl)] at hcell
    have hmx := HMEM.out fl[k] (List.getElem_mem hkl)
    obtain ⟨x, hxe⟩ : ∃ x, fl[k]'hkl = x := ⟨_, rfl⟩
    have hgd : fl.getD k 0 = x := by rw [List.getD_eq_getElem?_getD, List.getElem?_eq_getElem hkl, hxe]; rfl
    rw [hxe] at hcell hmx
    obtain ⟨mm, rfl⟩ : ∃ mm : Nat, x = mm := ⟨x.toNat, by omega⟩
    have hml : mm < fs.length := by omega
    have hmn : (mm : Int) < n2 := by have := HL2.out; omega
    obtain ⟨⟨qa, qb, qc, qd⟩, hq⟩ : ∃ q, fs[mm]'hml = q := ⟨_, rfl⟩
    have HQ : Hid (lnK fs fl k = qc) := Lib.hid (by
      unfold lnK fibI
      rw [hgd, List.getD_eq_getElem?_getD, show ((mm : Int)).toNat = mm by omega, List.getElem?_eq_getElem hml, hq]; rfl)
    have hc5 : 0 ≤ qc ∧ qc ≤ 5000 := by rw [← HQ.out]; exact fib_c HNETP.out _
    have hrd := (HNT.out.moved HBW.out).rd2.q4c hml
    rw [Nat.zero_add, hq] at hrd
    obtain ⟨hg2, r0, r1, r2, r3⟩ := hrd
    simp only at r0 r1 r2 r3
    obtain ⟨v, hv⟩ : ∃ v, vs.getD k 0 = v := ⟨_, rfl⟩
    have HV := Lib.hid hv
    have hcv := own_int (k := k) (ownB HO.out hb) HNN.out (by have := HNL.out; omega) hv
    have hNk : k < N := by have := HNL.out; omega
    have e1 : IntKind.i64.wrap (s + qc) = s + qc := IntWalk.i64_in _ (by omega)
    have e2 : IntKind.i64.wrap qc = qc := IntWalk.i64_in _ (by omega)
    have e3 : IntKind.i64.wrap (0 + qc) = qc := by rw [Int.zero_add]; exact e2
    clear hq hxe hmx hml r0 r1 r3 hgd hv
    by_cases hfar : h < qc
    case pos =>
      have HNN2 := Lib.hid (HNO.out (fun hp => by have := hp.2.2 k hkl; rw [HQ.out] at this; omega))
      clear hcv e1 e2 e3
      go_wp2
      go_ret2
      exact ints_no HNN2.out HBW.out
    case neg =>
    have HA1 : Hid (∀ j, j < k + 1 → lnK fs fl j ≤ h) := Lib.hid (fun j hj => by
      rcases Nat.lt_or_ge j k with hj' | hj'
      · exact HA.out j hj'
      · obtain rfl : j = k := by omega
        rw [HQ.out]; omega)
    have hle : qc ≤ h := by omega
    by_cases hov : h < s + qc
    case neg =>
      have HS1 := Lib.hid (rg_fits HS.out HQ.out hov)
      have hov2 : s + qc ≤ h := by omega
      clear hcv e2 e3
      have hh := HRE.out
      go_wp2
      go_roundw
      case rel => exact ⟨k + 1, A1, m, c1', s + qc, L, by omega, by go_num, rfl, rfl, by omega, by omega, by omega, HS1, HM, HA1, HOW, hb⟩
      case measure => simp [intOf]; omega
    case pos =>
      have HS1 := Lib.hid (rg_over HS.out HQ.out HV.out hov)
      have HLL : Hid (m + 1 = (L ++ [v]).length) := Lib.hid (by rw [List.length_append, ← HM.out]; rfl)
      have hh := HRE.out
      clear e1
      go_wp2_with (at_builtin; refine wp_app rfl (.tmp 50) (.tmp 55) 39 3 rfl w1.heap.size Try.underlying39 Try.inf_int rfl (by decide) (by decide) _ m _ rfl (HOW.out.alloc _) _ _ [.int .i64 v] rfl rfl (news1 (new_at_ _ _ _ _ rfl)) (news_int _) (by omega) (by simp; omega) ?_)
      intro A2 c2' N2 w3 hN2 hown2 hgrow2 hloc2
      subst hN2
      have hB3 : Below w1.heap.size w1 w3 := (hb.alloc hsz0 _).grown hgrow2 (by simp; omega) (fun g hg => (HOW.out.lt g hg).1)
      have HOW2 : Hid (w3.ownsRow w1.heap.size 3 1 (.slice A2 (m + 1) c2') (m + 1) ((L ++ [v]).map (Value.int .i64))) := Lib.hid (by rw [List.map_append]; exact hown2)
      clear hown2 hgrow2 hloc2
      obtain ⟨m2, hm2⟩ : ∃ m2, m + 1 = m2 := ⟨_, rfl⟩
      rw [hm2] at HOW2 HLL ⊢
      go_wp2
      go_roundw
      case rel => exact ⟨k + 1, A2, m2, c2', qc, L ++ [v], by omega, by go_num, rfl, rfl, by omega, by omega, by omega, HS1, HLL, HA1, HOW2, hB3⟩
      case measure => simp [intOf]; omega

set_option maxRecDepth 100000 in
set_option maxHeartbeats 8000000 in
theorem specRG {g1 g2 n1 n2 c1 c2 : Nat} {ss : List ByteArray} {fs : List Q4} {w : World} (hnet0 : NetAt g1 g2 n1 n2 c1 c2 ss fs w) (st : Int)
    {A : Option Addr} {n c : Nat} {fl : List Int} (hn : fl.length = n) (hr : Rd w w.heap.size A (fl.map (Value.int .i64))) (hx : n ≤ 1048576) (h : Int) :
    Calls Try.prog 50 #[.agg #[.slice (some ⟨g1, 0, none⟩) n1 c1, .slice (some ⟨g2, 0, none⟩) n2 c2], .agg #[.int .i64 st, .slice A n c], .int .i64 h] w (IntsP (regL ss fs st fl h) (regB ss fs st fl h) w) := by
  have HNT := Lib.hid hnet0; have HN := Lib.hid hn; have HR := Lib.hid hr
  have HL1 := Lib.hid hnet0.ln1
  have HL2 := Lib.hid hnet0.ln2
  have hs1 := hnet0.sm1
  have hs2 := hnet0.sm2
  clear hnet0 hn hr
  obtain ⟨RL, hRL⟩ : ∃ r, regL ss fs st fl h = r := ⟨_, rfl⟩
  obtain ⟨RB, hRB⟩ : ∃ r, regB ss fs st fl h = r := ⟨_, rfl⟩
  rw [hRL, hRB]
  have HRL := Lib.hid hRL; have HRB := Lib.hid hRB
  clear hRL hRB
  have HNO : Hid (¬ regP ss fs st fl h → RL = [] ∧ RB = false) := Lib.hid (fun e => by rw [← HRL.out, ← HRB.out]; exact reg_no e)
  have HYES : Hid (regP ss fs st fl h → RL = (rgS fs fl (rnodL ss fs st fl) h fl.length).2 ∧ RB = true) := Lib.hid (fun e => by rw [← HRL.out, ← HRB.out]; exact reg_yes e)
  clear HRL HRB
  go_enter Try.func50, Try.ntmps50
  go_wp2_with fail
  obtain ⟨W0, hW0⟩ : ∃ W0, ((w.alloc (Obj.cells #[.slice (some ⟨g1, 0, none⟩) n1 c1, .slice (some ⟨g2, 0, none⟩) n2 c2] 32)).alloc (Obj.cells #[.int .i64 st, .slice A n c] 45)).alloc (Obj.cells #[] 3) = W0 := ⟨_, rfl⟩
  have hb0 : Below w.heap.size w W0 := by rw [← hW0]; exact (((Below.refl _ _).alloc (Nat.le_refl _) _).alloc (by simp) _).alloc (by simp; omega) _
  have k0 : W0.cell? ⟨w.heap.size, 0, none⟩ = some (.slice (some ⟨g1, 0, none⟩) n1 c1) := by rw [← hW0]; simp [go_sem]
  have k1 : W0.cell? ⟨w.heap.size, 1, none⟩ = some (.slice (some ⟨g2, 0, none⟩) n2 c2) := by rw [← hW0]; simp [go_sem]
  have k2 : W0.cell? ⟨w.heap.size + 1, 0, none⟩ = some (.int .i64 st) := by rw [← hW0]; simp [go_sem]
  have k3 : W0.cell? ⟨w.heap.size + 1, 1, none⟩ = some (.slice A n c) := by rw [← hW0]; simp [go_sem]
  have hz0 : w.heap.size + 2 < W0.heap.size := by rw [← hW0]; simp
  have hown0 : W0.ownsRow (w.heap.size + 2) 3 1 (.slice (some ⟨w.heap.size + 2, 0, none⟩) 0 0) 0 [] := by
    rw [← hW0]
    have := World.ownsRow_lit (base := w.heap.size + 2) (e := 3) (size := 1) ((w.alloc (Obj.cells #[.slice (some ⟨g1, 0, none⟩) n1 c1, .slice (some ⟨g2, 0, none⟩) n2 c2] 32)).alloc (Obj.cells #[.int .i64 st, .slice A n c] 45)) #[] 0 (by simp) (by unfold maxLen; omega) rfl
    simpa using this
  have HB0 := Lib.hid hb0; have HK0 := Lib.hid k0; have HK1 := Lib.hid k1; have HK2 := Lib.hid k2; have HK3 := Lib.hid k3; have HO0 := Lib.hid hown0; have HZ0 := Lib.hid hz0
  rw [hW0]
  clear hown0 hW0 hb0 k0 k1 k2 k3 hz0
  have CG := Lib.hid (l4Good_ (c := c) (HNT.out.moved HB0.out) st HN.out (HR.out.moved HB0.out) hx)
  obtain ⟨b, hb⟩ : ∃ b, routeB ss fs st fl = b := ⟨_, rfl⟩
  rw [hb] at CG
  have HRT := Lib.hid hb
  clear hb
  refine CG.out.mono ?_
  rintro e w1 ⟨rfl, hb1⟩
  have HB1 := Lib.hid (HB0.out.trans (hb1.mono HB0.out.size))
  have HO1 := Lib.hid (ownB HO0.out hb1)
  have HBA := Lib.hid hb1
  have l0 := (hb1.cell (p := ⟨w.heap.size, 0, none⟩) (by show w.heap.size < _; have := HZ0.out; omega)).trans HK0.out
  have l1 := (hb1.cell (p := ⟨w.heap.size, 1, none⟩) (by show w.heap.size < _; have := HZ0.out; omega)).trans HK1.out
  have l2 := (hb1.cell (p := ⟨w.heap.size + 1, 0, none⟩) (by show w.heap.size + 1 < _; have := HZ0.out; omega)).trans HK2.out
  have l3 := (hb1.cell (p := ⟨w.heap.size + 1, 1, none⟩) (by show w.heap.size + 1 < _; have := HZ0.out; omega)).trans HK3.out
  clear hb1
  cases b
  case false =>
    have HNN2 := Lib.hid (HNO.out (fun hp => by have := hp.1; rw [HRT.out] at this; cases this))
    go_wp2
    go_ret2
    obtain ⟨rfl, rfl⟩ := HNN2.out
    exact ⟨_, 0, _, rfl, Lib.hid rfl, own_base HO1.out (by omega), HB1.out⟩
  case true =>
  obtain ⟨hnet, us, hus⟩ := routeB_yes HRT.out
  have HNETP := Lib.hid hnet
  have HMEM := Lib.hid (routeN_mem hus)
  obtain ⟨vs, hvs⟩ : ∃ v, rnodL ss fs st fl = v := ⟨_, rfl⟩
  have HVS := Lib.hid hvs
  have HUS : Hid (us.reverse = vs) := Lib.hid (by rw [← hvs, rnod_yes HRT.out hus])
  have HNV : Hid (vs.length = n + 1) := Lib.hid (by rw [← HUS.out, List.length_reverse, routeN_len hus, HN.out])
  rw [HL1.out] at hus
  have CN := Lib.hid (l4Nodes_ (c := c) (HNT.out.moved HB1.out) hnet st HN.out (HR.out.moved HB1.out) hx hus)
  rw [HUS.out] at CN
  clear hnet hus hvs
  have CI : Hid (∀ W, Calls Try.prog 122 #[.int .i64 h, .int .i64 1, .int .i64 20000] W fun e w' => e = .returned (.bool (decide (1 ≤ h ∧ h ≤ 20000))) ∧ W = w') := Lib.hid (fun W => by
    by_cases hh : 1 ≤ h ∧ h ≤ 20000
    · rw [decide_eq_true hh]; exact in_yesR h 1 20000 W hh.1 hh.2
    · rw [decide_eq_false hh]; exact in_noR h 1 20000 W (by omega))
  go_wp2_with fail
  refine (CI.out _).mono ?_
  rintro e w' ⟨rfl, rfl⟩
  cases hre : decide (1 ≤ h ∧ h ≤ 20000)
  case false =>
    have HNN2 := Lib.hid (HNO.out (fun hp => of_decide_eq_false hre hp.2.1))
    clear hre
    go_wp2
    go_ret2
    obtain ⟨rfl, rfl⟩ := HNN2.out
    exact ⟨_, 0, _, rfl, Lib.hid rfl, own_base HO1.out (by omega), HB1.out⟩
  case true =>
  have HRE : Hid (1 ≤ h ∧ h ≤ 20000) := Lib.hid (of_decide_eq_true hre)
  clear hre
  go_wp2_with fail
  refine CN.out.mono ?_
  rintro e w2 ⟨A0, N, cc, rfl, HNN, ho, hb2⟩
  have hsz1 := HB1.out.size
  have HB2 := Lib.hid (HB1.out.trans (hb2.mono HB1.out.size))
  have HBB := Lib.hid (HBA.out.trans (hb2.mono HBA.out.size))
  have HAP := Lib.hid (apart_new HO1.out ho (Nat.le_refl _))
  have HO2 := Lib.hid (ownB HO1.out hb2)
  have hzz : w.heap.size + 2 ≤ w1.heap.size := by have := HZ0.out; have := HBA.out.size; omega
  have HOA := Lib.hid (own_base ho hzz)
  have HNL : Hid (N = n + 1) := Lib.hid (by rw [HNN.out, HNV.out])
  obtain ⟨gN, rfl⟩ := own_some HOA.out (by have := HNL.out; omega)
  have HB2S := Lib.hid (Below.refl (w.heap.size + 2) w2)
  have HZ2 : Hid (w.heap.size + 2 ≤ w2.heap.size) := Lib.hid (by have := hb2.size; omega)
  have HK1b : Hid (w2.cell? ⟨w.heap.size, 1, none⟩ = some (.slice (some ⟨g2, 0, none⟩) n2 c2)) := Lib.hid ((hb2.cell (p := ⟨w.heap.size, 1, none⟩) (by show w.heap.size < _; omega)).trans l1)
  have HK3b : Hid (w2.cell? ⟨w.heap.size + 1, 1, none⟩ = some (.slice A n c)) := Lib.hid ((hb2.cell (p := ⟨w.heap.size + 1, 1, none⟩) (by show w.heap.size + 1 < _; omega)).trans l3)
  clear ho hb2 hzz l0 l1 l2 l3 hsz1
  go_wp2
  go_loopw [8, 10, 11] (fun v s i wr => ∃ (k : Nat) (A1 : Option Addr) (m c1' : Nat) (t : Int) (L : List Int), k ≤ n ∧ i = .int .i64 k ∧ v = .slice A1 m c1' ∧ s = .int .i64 t ∧ m ≤ k ∧ 0 ≤ t ∧ t ≤ 20000 ∧ Hid (rgS fs fl vs h k = (t, L)) ∧ Hid (m = L.length) ∧ Hid (∀ j, j < k → lnK fs fl j ≤ h) ∧ Hid (wr.ownsRow (w.heap.size + 2) 3 1 (.slice A1 m c1') m (L.map (Value.int .i64))) ∧ Hid (wr.ownsRow (w.heap.size + 2) 3 1 (.slice (some ⟨gN, 0, none⟩) N cc) N (vs.map (Value.int .i64))) ∧ Hid (Apart (.slice (some ⟨gN, 0, none⟩) N cc) (.slice A1 m c1')) ∧ Below (w.heap.size + 2) w2 wr) (fun _ _ i _ => n - (intOf i).toNat)
  case atStart => exact ⟨0, _, 0, _, 0, [], Nat.zero_le _, rfl, rfl, rfl, Nat.le_refl _, by omega, by omega, Lib.hid rfl, Lib.hid rfl, Lib.hid (fun j hj => by omega), HO2, HOA, HAP, HB2S.out⟩
  case round =>
    obtain ⟨k, A1, m, c1', s, L, hk, rfl, rfl, rfl, hmk, hs0, hs9, HS, HM, HA, HOW, HON, HAP1, hb⟩ := hrel
    have hsz0 := hb.size
    have HSZ : Hid (w.heap.size + 2 ≤ wr.heap.size) := Lib.hid (by have := HZ2.out; omega)
    have l1 := (hb.cell (p := ⟨w.heap.size, 1, none⟩) (by show w.heap.size < _; omega)).trans HK1b.out
    have l3 := (hb.cell (p := ⟨w.heap.size + 1, 1, none⟩) (by show w.heap.size + 1 < _; omega)).trans HK3b.out
    by_cases hlt : k < n
    case neg =>
      have HYS := HYES.out ⟨HRT.out, HRE.out, fun j hj => HA.out j (by have := HN.out; omega)⟩
      have HRL : Hid (RL = L) := Lib.hid (by rw [HYS.1, HVS.out, show fl.length = k by have := HN.out; omega, HS.out])
      have HRB : Hid (RB = true) := Lib.hid HYS.2
      clear HYS
      go_wp2
      go_ret2
      rw [HRL.out, HRB.out]
      exact ⟨A1, m, c1', rfl, HM, own_base HOW.out (by omega), HB2.out.trans (hb.mono (by omega))⟩
    case pos =>
    have hkl : k < fl.length := by have := HN.out; omega
    have HBW := Lib.hid (HB2.out.trans (hb.mono (by omega)))
    obtain ⟨ad, hA, hbl, hcell⟩ := ints_at HR.out hkl
    subst hA
    rw [← HBW.out.cell (by rw [addBlock]; exact hbl)] at hcell
    have hmx := HMEM.out fl[k] (List.getElem_mem hkl)
    obtain ⟨x, hxe⟩ : ∃ x, fl[k]'hkl = x := ⟨_, rfl⟩
    have hgd : fl.getD k 0 = x := by rw [List.getD_eq_getElem?_getD, List.getElem?_eq_getElem hkl, hxe]; rfl
    rw [hxe] at hcell hmx
    obtain ⟨mm, rfl⟩ : ∃ mm : Nat, x = mm := ⟨x.toNat, by omega⟩
    have hml : mm < fs.length := by omega
    have hmn : (mm : Int) < n2 := by have := HL2.out; omega
    obtain ⟨⟨qa, qb, qc, qd⟩, hq⟩ : ∃ q, fs[mm]'hml = q := ⟨_, rfl⟩
    have HQ : Hid (lnK fs fl k = qc) := Lib.hid (by
      unfold lnK fibI
      rw [hgd, List.getD_eq_getElem?_getD, show ((mm : Int)).toNat = mm by omega, List.getElem?_eq_getElem hml, hq]; rfl)
    have hc5 : 0 ≤ qc ∧ qc ≤ 5000 := by rw [← HQ.out]; exact fib_c HNETP.out _
    have hrd := (HNT.out.moved HBW.out).rd2.q4c hml
    rw [Nat.zero_add, hq] at hrd
    obtain ⟨hg2, r0, r1, r2, r3⟩ := hrd
    simp only at r0 r1 r2 r3
    obtain ⟨v, hv⟩ : ∃ v, vs.getD k 0 = v := ⟨_, rfl⟩
    have HV := Lib.hid hv
    have hcv := own_int (k := k) (HON.out) HNN.out (by have := HNL.out; omega) hv
    have hNk : k < N := by have := HNL.out; omega
    have e1 : IntKind.i64.wrap (s + qc) = s + qc := IntWalk.i64_in _ (by omega)
    have e2 : IntKind.i64.wrap qc = qc := IntWalk.i64_in _ (by omega)
    have e3 : IntKind.i64.wrap (0 + qc) = qc := by rw [Int.zero_add]; exact e2
    clear hq hxe hmx hml r0 r1 r3 hgd hv
    by_cases hfar : h < qc
    case pos =>
      have HNN2 := Lib.hid (HNO.out (fun hp => by have := hp.2.2 k hkl; rw [HQ.out] at this; omega))
      clear hcv e1 e2 e3
      go_wp2
      go_quiet (fail)
      go_wp2
      go_ret2
      exact ints_lit HNN2.out (drewN_below HBW.out _) rfl
    case neg =>
    have HA1 : Hid (∀ j, j < k + 1 → lnK fs fl j ≤ h) := Lib.hid (fun j hj => by
      rcases Nat.lt_or_ge j k with hj' | hj'
      · exact HA.out j hj'
      · obtain rfl : j = k := by omega
        rw [HQ.out]; omega)
    have hle : qc ≤ h := by omega
    by_cases hov : h < s + qc
    case neg =>
      have HS1 := Lib.hid (rg_fits HS.out HQ.out hov)
      have hov2 : s + qc ≤ h := by omega
      clear hcv e2 e3
      have hh := HRE.out
      go_wp2
      go_quiet (fail)
      go_wp2
      go_roundw
      case rel => exact ⟨k + 1, A1, m, c1', s + qc, L, by omega, by go_num, rfl, rfl, by omega, by omega, by omega, HS1, HM, HA1, Lib.hid (own_heapW rfl HOW.out), Lib.hid (own_heapW rfl HON.out), HAP1, drewN_below hb _⟩
      case measure => simp [intOf]; omega
    case pos =>
      have HS1 := Lib.hid (rg_over HS.out HQ.out HV.out hov)
      have HLL : Hid (m + 1 = (L ++ [v]).length) := Lib.hid (by rw [List.length_append, ← HM.out]; rfl)
      have hh := HRE.out
      clear e1
      go_wp2
      go_quiet (fail)
      go_wp2_with (at_builtin; refine wp_app rfl (.tmp 53) (.tmp 58) 39 3 rfl (w.heap.size + 2) Try.underlying39 Try.inf_int rfl (by decide) (by decide) _ m _ rfl ((own_heapW (w := wr) rfl HOW.out).alloc _) _ _ [.int .i64 v] rfl rfl (news1 (new_at_ _ _ _ _ rfl)) (news_int _) (by omega) (by exact Nat.le_trans HZ2.out ((drewN_below hb _).alloc HSZ.out _).size) ?_)
      intro A2 c2' N2 w3 hN2 hown2 hgrow2 hloc2
      subst hN2
      have hB3 : Below (w.heap.size + 2) w2 w3 := ((drewN_below hb _).alloc HSZ.out _).grown hgrow2 (Nat.le_trans HZ2.out ((drewN_below hb _).alloc HSZ.out _).size) (fun g hg => (HOW.out.lt g hg).1)
      have HOW2 : Hid (w3.ownsRow (w.heap.size + 2) 3 1 (.slice A2 (m + 1) c2') (m + 1) ((L ++ [v]).map (Value.int .i64))) := Lib.hid (by rw [List.map_append]; exact hown2)
      have HON2 := Lib.hid (HAP1.out.kept ((own_heapW (w := wr) (w' := wr.drewN _) rfl HON.out).alloc _) hgrow2)
      have HAP2 := Lib.hid (apart_loc HAP1.out HON.out (Nat.le_succ _) hloc2)
      clear hown2 hgrow2 hloc2
      obtain ⟨m2, hm2⟩ : ∃ m2, m + 1 = m2 := ⟨_, rfl⟩
      rw [hm2] at HOW2 HLL HAP2 ⊢
      go_wp2
      go_roundw
      case rel => exact ⟨k + 1, A2, m2, c2', qc, L ++ [v], by omega, by go_num, rfl, rfl, by omega, by omega, by omega, HS1, HLL, HA1, HOW2, HON2, HAP2, hB3⟩
      case measure => simp [intOf]; omega
end Go.Proofs.Ytdaopbdjbpopiaa
