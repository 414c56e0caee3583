/- Contracts: JustifyBuffer, both sides. No condition but those typed. -/
import Derived.Test.YtgaankdmppoghaaInts
import Derived.Test.YtgaankdmppoghaaAll
import Derived.Test.YtgaankdmppoghaaApd
import Derived.RegionTactic
import Derived.ChangeAlike
namespace Go.Proofs.Ytgaankdmppoghaa
open Go.ChangeShapes Go.WideShapes Go.ChangeAt Go.RowKit

def mvI (f low high : Int) : Int := if f < low then -1 else if high < f then 1 else 0
def jF (low high : Int) (zs : List Int) (f : Int) : Nat → Int
  | 0 => f
  | k + 1 => jF low high zs f k + zs.getD k 0 - 12 - mvI (jF low high zs f k + zs.getD k 0) low high
def jMv (low high : Int) (zs : List Int) (f : Int) (k : Nat) : Int := mvI (jF low high zs f k + zs.getD k 0) low high
def jM (low high : Int) (zs : List Int) (f : Int) (k : Nat) : List Int := (List.range k).map (jMv low high zs f)
def jG (low high : Int) (zs : List Int) (f : Int) (k : Nat) : List Int := (List.range k).map fun j => jF low high zs f (j + 1)
theorem jM_succ (low high : Int) (zs : List Int) (f : Int) (k : Nat) : jM low high zs f (k + 1) = jM low high zs f k ++ [jMv low high zs f k] := by
  unfold jM; rw [List.range_succ, List.map_append]; rfl
theorem jG_succ (low high : Int) (zs : List Int) (f : Int) (k : Nat) : jG low high zs f (k + 1) = jG low high zs f k ++ [jF low high zs f (k + 1)] := by
  unfold jG; rw [List.range_succ, List.map_append]; rfl
theorem jM_len (low high : Int) (zs : List Int) (f : Int) (k : Nat) : (jM low high zs f k).length = k := by unfold jM; simp
theorem jG_len (low high : Int) (zs : List Int) (f : Int) (k : Nat) : (jG low high zs f k).length = k := by unfold jG; simp
theorem jF_succ (low high : Int) (zs : List Int) (f : Int) (k : Nat) : jF low high zs f (k + 1) = jF low high zs f k + zs.getD k 0 - 12 - jMv low high zs f k := rfl
def stepP (low high : Int) (zs : List Int) (f size : Int) (k : Nat) : Prop := (0 ≤ zs.getD k 0 ∧ zs.getD k 0 ≤ 14) ∧ jF low high zs f k + zs.getD k 0 ≤ size ∧ 0 ≤ jF low high zs f (k + 1)
def jArg (f size low high : Int) (n : Nat) : Prop := (1 ≤ size ∧ size ≤ 100) ∧ (0 ≤ f ∧ f ≤ size) ∧ (0 ≤ low ∧ low ≤ high) ∧ high ≤ size ∧ n ≤ 40
def jP (f : Int) (zs : List Int) (size low high : Int) : Prop := jArg f size low high zs.length ∧ ∀ k, k < zs.length → stepP low high zs f size k
theorem mv_bd (f low high : Int) : -1 ≤ mvI f low high ∧ mvI f low high ≤ 1 := by unfold mvI; split <;> (try split) <;> omega
theorem jF_bd {low high : Int} {zs : List Int} {f size : Int} (h0 : 0 ≤ f) (h1 : f ≤ size) (_hs : size ≤ 100) : ∀ k, (∀ j, j < k → stepP low high zs f size j) → 0 ≤ jF low high zs f k ∧ jF low high zs f k ≤ size
  | 0, _ => ⟨h0, h1⟩
  | k + 1, h => by
    obtain ⟨h2, h3, h4⟩ := h k (by omega)
    have := mv_bd (jF low high zs f k + zs.getD k 0) low high
    refine ⟨h4, ?_⟩
    show jF low high zs f k + zs.getD k 0 - 12 - mvI (jF low high zs f k + zs.getD k 0) low high ≤ size
    omega

noncomputable def jB (f : Int) (zs : List Int) (size low high : Int) : Bool := @decide (jP f zs size low high) (Classical.propDecidable _)
theorem jB_true {f : Int} {zs : List Int} {size low high : Int} (h : jP f zs size low high) : jB f zs size low high = true := by unfold jB; exact @decide_eq_true _ (Classical.propDecidable _) h
theorem jB_false {f : Int} {zs : List Int} {size low high : Int} (h : ¬ jP f zs size low high) : jB f zs size low high = false := by unfold jB; exact @decide_eq_false _ (Classical.propDecidable _) h
noncomputable def jMo (f : Int) (zs : List Int) (size low high : Int) : List Int := if jB f zs size low high then jM low high zs f zs.length else []
noncomputable def jFi (f : Int) (zs : List Int) (size low high : Int) : List Int := if jB f zs size low high then jG low high zs f zs.length else []
theorem jLen (f : Int) (zs : List Int) (size low high : Int) : (jMo f zs size low high).length ≤ 1048576 ∧ (jFi f zs size low high).length ≤ 1048576 := by
  by_cases h : jP f zs size low high
  · unfold jMo jFi; rw [jB_true h]; simp only [if_true]; rw [jM_len, jG_len]
    have := h.1.2.2.2.2; omega
  · unfold jMo jFi; rw [jB_false h]; simp
def JAns (f : Int) (zs : List Int) (size low high : Int) (w : World) : Ending → World → Prop :=
  Ans2 3 1 ((jMo f zs size low high).map (Value.int .i64)) (jMo f zs size low high).length 3 1 ((jFi f zs size low high).map (Value.int .i64)) (jFi f zs size low high).length (fun v v' => .tuple #[v, v', .bool (jB f zs size low high)]) w
theorem jAns_no {f : Int} {zs : List Int} {size low high : Int} {w w' : World} {A A' : Option Addr} {c c' : Nat} (h : ¬ jP f zs size low high) (ho : w'.ownsRow w.heap.size 3 1 (.slice A 0 c) 0 []) (ho' : w'.ownsRow w.heap.size 3 1 (.slice A' 0 c') 0 [])
    (ha : Apart (.slice A 0 c) (.slice A' 0 c')) (hb : Below w.heap.size w w') : JAns f zs size low high w (.returned (.tuple #[.slice A 0 c, .slice A' 0 c', .bool false])) w' := by
  unfold JAns jMo jFi
  rw [jB_false h]
  exact ⟨A, c, A', c', rfl, ho, ho', fun g h1 h2 => by subst h1 h2; exact ha g rfl rfl, hb⟩
theorem jAns_nil {f : Int} {zs : List Int} {size low high : Int} {w w' : World} (h : ¬ jP f zs size low high) (hb : Below w.heap.size w w') : JAns f zs size low high w (.returned (.tuple #[.slice none 0 0, .slice none 0 0, .bool false])) w' :=
  jAns_no h (World.ownsRow_nil _ _ _ _) (World.ownsRow_nil _ _ _ _) (Apart.nil _) hb
theorem jAns_yes {f : Int} {zs : List Int} {size low high : Int} {w w' : World} {A A' : Option Addr} {n c c' : Nat} (h : jP f zs size low high) (hn : zs.length = n) (ho : w'.ownsRow w.heap.size 3 1 (.slice A n c) n ((jM low high zs f n).map (Value.int .i64))) (ho' : w'.ownsRow w.heap.size 3 1 (.slice A' n c') n ((jG low high zs f n).map (Value.int .i64)))
    (ha : Apart (.slice A n c) (.slice A' n c')) (hb : Below w.heap.size w w') : JAns f zs size low high w (.returned (.tuple #[.slice A n c, .slice A' n c', .bool true])) w' := by
  unfold JAns jMo jFi
  rw [jB_true h, hn]
  simp only [if_true]
  rw [jM_len, jG_len]
  exact ⟨A, c, A', c', rfl, ho, ho', fun g h1 h2 => by subst h1 h2; exact ha g rfl rfl, hb⟩
theorem apart_two_ (W : World) (n c n' c' : Nat) (k : Nat) (hk : k = W.heap.size + 1) : Apart (.slice (some ⟨W.heap.size, 0, none⟩) n c) (.slice (some ⟨k, 0, none⟩) n' c') := by
  intro g h1 h2
  simp only [Value.ownBlock, Option.some.injEq] at h1 h2
  omega
theorem own_nil2 (W : World) {B : Nat} (hB : B ≤ W.heap.size) (E : TypeId) (s : Nat) : (W.alloc (.cells #[] E)).ownsRow B E s (.slice (some ⟨W.heap.size, 0, none⟩) 0 0) 0 [] := by
  have := World.ownsRow_lit (base := B) (e := E) (size := s) W #[] 0 hB (by unfold maxLen; omega) (by simp)
  simpa using this
theorem mv_lo {y low high : Int} (h : y < low) : mvI y low high = -1 := by unfold mvI; rw [if_pos h]
theorem mv_hi {y low high : Int} (h0 : low ≤ y) (h : high < y) : mvI y low high = 1 := by unfold mvI; rw [if_neg (by omega), if_pos h]
theorem mv_mid {y low high : Int} (h0 : low ≤ y) (h : y ≤ high) : mvI y low high = 0 := by unfold mvI; rw [if_neg (by omega), if_neg (by omega)]
theorem j_next {low high f x z m : Int} {zs : List Int} {k : Nat} (hx : jF low high zs f k = x) (hz : zs.getD k 0 = z) (hm : mvI (x + z) low high = m) : jF low high zs f (k + 1) = x + z - 12 - m ∧ jMv low high zs f k = m := by
  refine ⟨?_, by unfold jMv; rw [hx, hz, hm]⟩
  show jF low high zs f k + zs.getD k 0 - 12 - mvI (jF low high zs f k + zs.getD k 0) low high = _
  rw [hx, hz, hm]
theorem jm_next {low high f m : Int} {zs : List Int} {k : Nat} (hm : jMv low high zs f k = m) : (jM low high zs f k).map (Value.int .i64) ++ [.int .i64 m] = (jM low high zs f (k + 1)).map (Value.int .i64) := by
  rw [jM_succ, hm, List.map_append]; rfl
theorem jg_next {low high f y : Int} {zs : List Int} {k : Nat} (hy : jF low high zs f (k + 1) = y) : (jG low high zs f k).map (Value.int .i64) ++ [.int .i64 y] = (jG low high zs f (k + 1)).map (Value.int .i64) := by
  rw [jG_succ, hy, List.map_append]; rfl
theorem getD_zs {zs : List Int} {k : Nat} (h : k < zs.length) : zs.getD k 0 = zs[k] := by
  rw [List.getD_eq_getElem?_getD, List.getElem?_eq_getElem h]; rfl

set_option maxHeartbeats 8000000 in
set_option maxRecDepth 100000 in
theorem sJus (A : Option Addr) (n c : Nat) (zs : List Int) (f size low high : Int) (w : World) (hn : zs.length = n) (hs : n ≤ 1048576) (hr : Rd w w.heap.size A (zs.map (Value.int .i64))) :
    Calls Try.prog 52 #[.int .i64 f, .slice A n c, .int .i64 size, .int .i64 low, .int .i64 high] w (JAns f zs size low high w) := by
  have HN := Lib.hid hn; have HR := Lib.hid hr
  clear hn hr
  have C1 := Lib.hid (fun W => in_ size 1 100 W)
  have C2 := Lib.hid (fun W => in_ f 0 size W)
  have C3 := Lib.hid (fun W => in_ low 0 high W)
  go_enter Try.func52, Try.ntmps52
  go_wp2_with fail
  obtain ⟨W0, hW0⟩ : ∃ W0, ((w.alloc (Obj.cells #[] 3)).alloc (Obj.cells #[] 3)) = W0 := ⟨_, rfl⟩
  have HB0 := Lib.hid (((Below.refl w.heap.size w).alloc (Nat.le_refl _) (Obj.cells #[] 3)).alloc (by simp) (Obj.cells #[] 3))
  have HO0 := Lib.hid ((own_nil2 w (Nat.le_refl _) 3 1).alloc (Obj.cells #[] 3))
  have HQ0 := Lib.hid (own_nil2 (w.alloc (Obj.cells #[] 3)) (B := w.heap.size) (by simp) 3 1)
  have HA0 := Lib.hid (apart_two_ w 0 0 0 0 (w.alloc (Obj.cells #[] 3)).heap.size (by simp))
  rw [hW0] at HB0 HO0 HQ0 ⊢
  obtain ⟨s1, hs1_⟩ : ∃ s, (w.alloc (Obj.cells #[] 3)).heap.size = s := ⟨_, rfl⟩
  have es : (w.alloc (Obj.cells #[] 3)).heap.size = w.heap.size + 1 := by simp
  have hs1e : w.heap.size + 1 = s1 := by rw [← hs1_, es]
  rw [hs1_] at HQ0 HA0
  rw [hs1e]
  have HS1 := Lib.hid hs1e
  clear hW0 hs1_ es hs1e
  by_cases g1 : 1 ≤ size ∧ size ≤ 100
  case neg =>
    have HX : Hid (¬ jP f zs size low high) := Lib.hid fun h => g1 h.1.1
    rw [inB_no (by omega)] at C1
    clear g1
    refine (C1.out _).mono ?_
    rintro e w' ⟨rfl, rfl⟩
    go_wp2
    go_ret3
    exact jAns_no HX.out HO0.out HQ0.out HA0.out HB0.out
  case pos =>
  rw [inB_mk g1.1 g1.2] at C1
  refine (C1.out _).mono ?_
  rintro e w' ⟨rfl, rfl⟩
  go_wp2_with fail
  by_cases g2 : 0 ≤ f ∧ f ≤ size
  case neg =>
    have HX : Hid (¬ jP f zs size low high) := Lib.hid fun h => g2 h.1.2.1
    rw [inB_no (by omega)] at C2
    clear g1 g2
    refine (C2.out _).mono ?_
    rintro e w' ⟨rfl, rfl⟩
    go_wp2
    go_ret3
    exact jAns_no HX.out HO0.out HQ0.out HA0.out HB0.out
  case pos =>
  rw [inB_mk g2.1 g2.2] at C2
  refine (C2.out _).mono ?_
  rintro e w' ⟨rfl, rfl⟩
  go_wp2_with fail
  by_cases g3 : 0 ≤ low ∧ low ≤ high
  case neg =>
    have HX : Hid (¬ jP f zs size low high) := Lib.hid fun h => g3 h.1.2.2.1
    rw [inB_no (by omega)] at C3
    clear g1 g2 g3
    refine (C3.out _).mono ?_
    rintro e w' ⟨rfl, rfl⟩
    go_wp2
    go_ret3
    exact jAns_no HX.out HO0.out HQ0.out HA0.out HB0.out
  case pos =>
  rw [inB_mk g3.1 g3.2] at C3
  refine (C3.out _).mono ?_
  rintro e w' ⟨rfl, rfl⟩
  by_cases g4 : high ≤ size
  case neg =>
    have HX : Hid (¬ jP f zs size low high) := Lib.hid fun h => g4 h.1.2.2.2.1
    have q : size < high := by omega
    clear g1 g2 g3 g4
    go_wp2
    go_ret3
    exact jAns_no HX.out HO0.out HQ0.out HA0.out HB0.out
  case pos =>
  have q4 : decide (size < high) = false := decide_eq_false (by omega)
  by_cases g5 : n ≤ 40
  case neg =>
    have HX : Hid (¬ jP f zs size low high) := Lib.hid fun h => g5 (by have := h.1.2.2.2.2; have := HN.out; omega)
    have q : 40 < (n : Int) := by omega
    clear g1 g2 g3 g4 g5
    go_wp2
    go_ret3
    exact jAns_no HX.out HO0.out HQ0.out HA0.out HB0.out
  case pos =>
  have HARG : Hid (jArg f size low high zs.length) := Lib.hid ⟨g1, g2, g3, g4, by have := HN.out; omega⟩
  have q5 : decide (40 < (n : Int)) = false := decide_eq_false (by omega)
  obtain ⟨a1, a2⟩ := g1
  obtain ⟨b1, b2⟩ := g2
  obtain ⟨c1, c2⟩ := g3
  clear C1 C2 C3
  go_wp2
  clear q4 q5
  go_loopw [0, 13, 14, 15] (fun x' v v' i wr => ∃ (k : Nat) (A1 : Option Addr) (d1 : Nat) (A2 : Option Addr) (d2 : Nat) (x : Int), k ≤ n ∧ i = .int .i64 k ∧ x' = .int .i64 x ∧ v = .slice A1 k d1 ∧ v' = .slice A2 k d2 ∧ 0 ≤ x ∧ x ≤ size ∧ Hid (jF low high zs f k = x) ∧ Hid (∀ j, j < k → stepP low high zs f size j) ∧ Hid (wr.ownsRow w.heap.size 3 1 (.slice A1 k d1) k ((jM low high zs f k).map (Value.int .i64))) ∧ Hid (wr.ownsRow w.heap.size 3 1 (.slice A2 k d2) k ((jG low high zs f k).map (Value.int .i64))) ∧ Hid (Apart (.slice A1 k d1) (.slice A2 k d2)) ∧ Hid (Below w.heap.size w wr)) (fun _ _ _ i _ => n - (intOf i).toNat)
  case atStart => exact ⟨0, _, _, _, _, f, Nat.zero_le _, rfl, rfl, rfl, rfl, b1, b2, Lib.hid rfl, Lib.hid (fun j hj => by omega), HO0, HQ0, HA0, HB0⟩
  case round =>
    clear HB0 HO0 HQ0 HA0
    obtain ⟨k, A1, d1, A2, d2, x, hk, rfl, rfl, rfl, rfl, x0, x1, HX, HJ, HOW, HOW', HAP, HBR⟩ := hrel
    by_cases hlt : k < n
    case neg =>
      obtain rfl : k = n := by omega
      have HQ : Hid (jP f zs size low high) := Lib.hid ⟨HARG.out, fun j hj => HJ.out j (by have := HN.out; omega)⟩
      clear hlt
      go_wp2
      go_ret3
      exact jAns_yes HQ.out HN.out HOW.out HOW'.out HAP.out HBR.out
    case pos =>
    have hks : k < zs.length := by have := HN.out; omega
    obtain ⟨ad, rfl, _, f0⟩ := (HR.out.over HBR.out).got (k := k) (by simpa using hks)
    simp only [List.getElem_map] at f0
    obtain ⟨z, hz⟩ : ∃ z, zs[k]'hks = z := ⟨_, rfl⟩
    have HZ : Hid (zs.getD k 0 = z) := Lib.hid ((getD_zs hks).trans hz)
    rw [hz] at f0
    clear hz
    have CI := Lib.hid (fun W => in_ z 0 14 W)
    by_cases hzz : 0 ≤ z ∧ z ≤ 14
    case neg =>
      have HX2 : Hid (¬ jP f zs size low high) := Lib.hid fun h => hzz (by have := (h.2 k hks).1; rw [HZ.out] at this; exact this)
      rw [inB_no (by omega)] at CI
      clear hzz
      go_wp2_with fail
      refine (CI.out _).mono ?_
      rintro e w' ⟨rfl, rfl⟩
      go_wp2
      go_ret3
      exact jAns_no HX2.out ((own_nil2 wr HBR.out.size 3 1).alloc _) (by have := own_nil2 (wr.alloc (Obj.cells #[] 3)) (B := w.heap.size) (by have := HBR.out.size; simp; omega) 3 1; simpa using this) (apart_two_ wr 0 0 0 0 _ (by simp)) ((HBR.out.alloc HBR.out.size _).alloc (by have := HBR.out.size; simp; omega) _)
    case pos =>
    rw [inB_mk hzz.1 hzz.2] at CI
    obtain ⟨z0, z1⟩ := hzz
    by_cases hsz : x + z ≤ size
    case neg =>
      have HX2 : Hid (¬ jP f zs size low high) := Lib.hid fun h => hsz (by have := (h.2 k hks).2.1; rw [HZ.out, HX.out] at this; exact this)
      have q : size < x + z := by omega
      clear hsz
      go_wp2_with fail
      refine (CI.out _).mono ?_
      rintro e w' ⟨rfl, rfl⟩
      go_wp2
      go_ret3
      exact jAns_no HX2.out ((own_nil2 wr HBR.out.size 3 1).alloc _) (by have := own_nil2 (wr.alloc (Obj.cells #[] 3)) (B := w.heap.size) (by have := HBR.out.size; simp; omega) 3 1; simpa using this) (apart_two_ wr 0 0 0 0 _ (by simp)) ((HBR.out.alloc HBR.out.size _).alloc (by have := HBR.out.size; simp; omega) _)
    case pos =>
    have q0 : decide (size < x + z) = false := decide_eq_false (by omega)
    by_cases hlo : x + z < low
    case pos =>
      have hnx := j_next HX.out HZ.out (mv_lo hlo)
      have HNX : Hid (jF low high zs f (k + 1) = (x + z - 12 + 1)) := Lib.hid (by have := hnx.1; omega); have HMV := Lib.hid hnx.2
      clear hnx
      have p1 : x + z ≤ high := by omega
      by_cases hng : 0 ≤ (x + z - 12 + 1)
      case neg =>
        have HX2 : Hid (¬ jP f zs size low high) := Lib.hid fun h => hng (by have := (h.2 k hks).2.2; rw [HNX.out] at this; exact this)
        have q : (x + z - 12 + 1) < 0 := by omega
        clear hng
        go_wp2_with fail
        refine (CI.out _).mono ?_
        rintro e w' ⟨rfl, rfl⟩
        go_wp2
        go_ret3
        exact jAns_no HX2.out ((own_nil2 wr HBR.out.size 3 1).alloc _) (by have := own_nil2 (wr.alloc (Obj.cells #[] 3)) (B := w.heap.size) (by have := HBR.out.size; simp; omega) 3 1; simpa using this) (apart_two_ wr 0 0 0 0 _ (by simp)) ((HBR.out.alloc HBR.out.size _).alloc (by have := HBR.out.size; simp; omega) _)
      case pos =>
      have q : decide ((x + z - 12 + 1) < 0) = false := decide_eq_false (by omega)
      have HJ1 : Hid (∀ j, j < k + 1 → stepP low high zs f size j) := Lib.hid fun j hj => by
        by_cases hjk : j < k
        · exact HJ.out j hjk
        · obtain rfl : j = k := by omega
          exact ⟨by rw [HZ.out]; exact ⟨z0, z1⟩, by rw [HX.out, HZ.out]; exact hsz, by rw [HNX.out]; exact hng⟩
      go_wp2_with fail
      refine (CI.out _).mono ?_
      rintro e w' ⟨rfl, rfl⟩
      go_wp2_with (at_builtin; refine wp_app rfl (.tmp 85) (.tmp 87) 35 3 rfl w.heap.size Try.underlying35 Try.inf_int rfl (by decide) (by decide) _ k _ rfl (HOW.out.alloc _) _ _ [.int .i64 (-1)] rfl rfl (news1 (by simp [go_sem])) (news_int _) (by omega) (by have := HBR.out.size; simp; omega) ?_)
      intro A4 d4 N4 W4 hN4 ho4 hg4 hl4
      subst hN4
      rw [jm_next HMV.out] at ho4
      have HO4 := Lib.hid ho4
      have HQ4 := Lib.hid (HAP.out.symm.kept (HOW'.out.alloc (Obj.cells #[.int .i64 (-1)] 3)) hg4)
      have HA4 := Lib.hid ((HAP.out.symm.loc (HOW'.out.alloc (Obj.cells #[.int .i64 (-1)] 3)) (hl4.imp id fun h => h.trans (by simp))).symm)
      have HB4 := Lib.hid ((HBR.out.alloc HBR.out.size (Obj.cells #[.int .i64 (-1)] 3)).grown hg4 (by have := HBR.out.size; simp; omega) (fun g h => ((HOW.out.alloc (Obj.cells #[.int .i64 (-1)] 3)).lt g h).1))
      clear ho4 hg4 hl4
      go_wp2_with (at_builtin; refine wp_app rfl (.tmp 89) (.tmp 91) 35 3 rfl w.heap.size Try.underlying35 Try.inf_int rfl (by decide) (by decide) _ k _ rfl (HQ4.out.alloc _) _ _ [.int .i64 (x + z - 12 + 1)] rfl rfl (news1 (by simp [go_sem])) (news_int _) (by omega) (by have := HB4.out.size; simp; omega) ?_)
      intro A6 d6 N6 W6 hN6 ho6 hg6 hl6
      subst hN6
      rw [jg_next HNX.out] at ho6
      have HQ6 := Lib.hid ho6
      have HO6 := Lib.hid (HA4.out.kept (HO4.out.alloc (Obj.cells #[.int .i64 (x + z - 12 + 1)] 3)) hg6)
      have HA6 := Lib.hid (HA4.out.loc (HO4.out.alloc (Obj.cells #[.int .i64 (x + z - 12 + 1)] 3)) (hl6.imp id fun h => h.trans (by simp)))
      have HB6 := Lib.hid ((HB4.out.alloc HB4.out.size (Obj.cells #[.int .i64 (x + z - 12 + 1)] 3)).grown hg6 (by have := HB4.out.size; simp; omega) (fun g h => ((HQ4.out.alloc (Obj.cells #[.int .i64 (x + z - 12 + 1)] 3)).lt g h).1))
      clear ho6 hg6 hl6 q q0
      go_wp2
      go_roundw
      case rel => exact ⟨k + 1, A4, d4, A6, d6, (x + z - 12 + 1), by omega, by go_num, rfl, rfl, rfl, by omega, by omega, HNX, HJ1, HO6, HQ6, HA6, HB6⟩
      case measure => simp [intOf]; omega
    case neg =>
    by_cases hhi : high < x + z
    case pos =>
      have hnx := j_next HX.out HZ.out (mv_hi (by omega) hhi)
      have HNX : Hid (jF low high zs f (k + 1) = (x + z - 12 - 1)) := Lib.hid (by have := hnx.1; omega); have HMV := Lib.hid hnx.2
      clear hnx
      have p1 : low ≤ x + z := by omega
      by_cases hng : 0 ≤ (x + z - 12 - 1)
      case neg =>
        have HX2 : Hid (¬ jP f zs size low high) := Lib.hid fun h => hng (by have := (h.2 k hks).2.2; rw [HNX.out] at this; exact this)
        have q : (x + z - 12 - 1) < 0 := by omega
        clear hng
        go_wp2_with fail
        refine (CI.out _).mono ?_
        rintro e w' ⟨rfl, rfl⟩
        go_wp2
        go_ret3
        exact jAns_no HX2.out ((own_nil2 wr HBR.out.size 3 1).alloc _) (by have := own_nil2 (wr.alloc (Obj.cells #[] 3)) (B := w.heap.size) (by have := HBR.out.size; simp; omega) 3 1; simpa using this) (apart_two_ wr 0 0 0 0 _ (by simp)) ((HBR.out.alloc HBR.out.size _).alloc (by have := HBR.out.size; simp; omega) _)
      case pos =>
      have q : decide ((x + z - 12 - 1) < 0) = false := decide_eq_false (by omega)
      have HJ1 : Hid (∀ j, j < k + 1 → stepP low high zs f size j) := Lib.hid fun j hj => by
        by_cases hjk : j < k
        · exact HJ.out j hjk
        · obtain rfl : j = k := by omega
          exact ⟨by rw [HZ.out]; exact ⟨z0, z1⟩, by rw [HX.out, HZ.out]; exact hsz, by rw [HNX.out]; exact hng⟩
      go_wp2_with fail
      refine (CI.out _).mono ?_
      rintro e w' ⟨rfl, rfl⟩
      go_wp2_with (at_builtin; refine wp_app rfl (.tmp 85) (.tmp 87) 35 3 rfl w.heap.size Try.underlying35 Try.inf_int rfl (by decide) (by decide) _ k _ rfl (HOW.out.alloc _) _ _ [.int .i64 1] rfl rfl (news1 (by simp [go_sem])) (news_int _) (by omega) (by have := HBR.out.size; simp; omega) ?_)
      intro A4 d4 N4 W4 hN4 ho4 hg4 hl4
      subst hN4
      rw [jm_next HMV.out] at ho4
      have HO4 := Lib.hid ho4
      have HQ4 := Lib.hid (HAP.out.symm.kept (HOW'.out.alloc (Obj.cells #[.int .i64 1] 3)) hg4)
      have HA4 := Lib.hid ((HAP.out.symm.loc (HOW'.out.alloc (Obj.cells #[.int .i64 1] 3)) (hl4.imp id fun h => h.trans (by simp))).symm)
      have HB4 := Lib.hid ((HBR.out.alloc HBR.out.size (Obj.cells #[.int .i64 1] 3)).grown hg4 (by have := HBR.out.size; simp; omega) (fun g h => ((HOW.out.alloc (Obj.cells #[.int .i64 1] 3)).lt g h).1))
      clear ho4 hg4 hl4
      go_wp2_with (at_builtin; refine wp_app rfl (.tmp 89) (.tmp 91) 35 3 rfl w.heap.size Try.underlying35 Try.inf_int rfl (by decide) (by decide) _ k _ rfl (HQ4.out.alloc _) _ _ [.int .i64 (x + z - 12 - 1)] rfl rfl (news1 (by simp [go_sem])) (news_int _) (by omega) (by have := HB4.out.size; simp; omega) ?_)
      intro A6 d6 N6 W6 hN6 ho6 hg6 hl6
      subst hN6
      rw [jg_next HNX.out] at ho6
      have HQ6 := Lib.hid ho6
      have HO6 := Lib.hid (HA4.out.kept (HO4.out.alloc (Obj.cells #[.int .i64 (x + z - 12 - 1)] 3)) hg6)
      have HA6 := Lib.hid (HA4.out.loc (HO4.out.alloc (Obj.cells #[.int .i64 (x + z - 12 - 1)] 3)) (hl6.imp id fun h => h.trans (by simp)))
      have HB6 := Lib.hid ((HB4.out.alloc HB4.out.size (Obj.cells #[.int .i64 (x + z - 12 - 1)] 3)).grown hg6 (by have := HB4.out.size; simp; omega) (fun g h => ((HQ4.out.alloc (Obj.cells #[.int .i64 (x + z - 12 - 1)] 3)).lt g h).1))
      clear ho6 hg6 hl6 q q0
      go_wp2
      go_roundw
      case rel => exact ⟨k + 1, A4, d4, A6, d6, (x + z - 12 - 1), by omega, by go_num, rfl, rfl, rfl, by omega, by omega, HNX, HJ1, HO6, HQ6, HA6, HB6⟩
      case measure => simp [intOf]; omega
    case neg =>
    by_cases hmid : low ≤ x + z ∧ x + z ≤ high
    case pos =>
      have hnx := j_next HX.out HZ.out (mv_mid hmid.1 hmid.2)
      have HNX : Hid (jF low high zs f (k + 1) = (x + z - 12)) := Lib.hid (by have := hnx.1; omega); have HMV := Lib.hid hnx.2
      clear hnx
      obtain ⟨p1, p2⟩ := hmid
      by_cases hng : 0 ≤ (x + z - 12)
      case neg =>
        have HX2 : Hid (¬ jP f zs size low high) := Lib.hid fun h => hng (by have := (h.2 k hks).2.2; rw [HNX.out] at this; exact this)
        have q : (x + z - 12) < 0 := by omega
        clear hng
        go_wp2_with fail
        refine (CI.out _).mono ?_
        rintro e w' ⟨rfl, rfl⟩
        go_wp2
        go_ret3
        exact jAns_no HX2.out ((own_nil2 wr HBR.out.size 3 1).alloc _) (by have := own_nil2 (wr.alloc (Obj.cells #[] 3)) (B := w.heap.size) (by have := HBR.out.size; simp; omega) 3 1; simpa using this) (apart_two_ wr 0 0 0 0 _ (by simp)) ((HBR.out.alloc HBR.out.size _).alloc (by have := HBR.out.size; simp; omega) _)
      case pos =>
      have q : decide ((x + z - 12) < 0) = false := decide_eq_false (by omega)
      have HJ1 : Hid (∀ j, j < k + 1 → stepP low high zs f size j) := Lib.hid fun j hj => by
        by_cases hjk : j < k
        · exact HJ.out j hjk
        · obtain rfl : j = k := by omega
          exact ⟨by rw [HZ.out]; exact ⟨z0, z1⟩, by rw [HX.out, HZ.out]; exact hsz, by rw [HNX.out]; exact hng⟩
      go_wp2_with fail
      refine (CI.out _).mono ?_
      rintro e w' ⟨rfl, rfl⟩
      go_wp2_with (at_builtin; refine wp_app rfl (.tmp 85) (.tmp 87) 35 3 rfl w.heap.size Try.underlying35 Try.inf_int rfl (by decide) (by decide) _ k _ rfl (HOW.out.alloc _) _ _ [.int .i64 0] rfl rfl (news1 (by simp [go_sem])) (news_int _) (by omega) (by have := HBR.out.size; simp; omega) ?_)
      intro A4 d4 N4 W4 hN4 ho4 hg4 hl4
      subst hN4
      rw [jm_next HMV.out] at ho4
      have HO4 := Lib.hid ho4
      have HQ4 := Lib.hid (HAP.out.symm.kept (HOW'.out.alloc (Obj.cells #[.int .i64 0] 3)) hg4)
      have HA4 := Lib.hid ((HAP.out.symm.loc (HOW'.out.alloc (Obj.cells #[.int .i64 0] 3)) (hl4.imp id fun h => h.trans (by simp))).symm)
      have HB4 := Lib.hid ((HBR.out.alloc HBR.out.size (Obj.cells #[.int .i64 0] 3)).grown hg4 (by have := HBR.out.size; simp; omega) (fun g h => ((HOW.out.alloc (Obj.cells #[.int .i64 0] 3)).lt g h).1))
      clear ho4 hg4 hl4
      go_wp2_with (at_builtin; refine wp_app rfl (.tmp 89) (.tmp 91) 35 3 rfl w.heap.size Try.underlying35 Try.inf_int rfl (by decide) (by decide) _ k _ rfl (HQ4.out.alloc _) _ _ [.int .i64 (x + z - 12)] rfl rfl (news1 (by simp [go_sem])) (news_int _) (by omega) (by have := HB4.out.size; simp; omega) ?_)
      intro A6 d6 N6 W6 hN6 ho6 hg6 hl6
      subst hN6
      rw [jg_next HNX.out] at ho6
      have HQ6 := Lib.hid ho6
      have HO6 := Lib.hid (HA4.out.kept (HO4.out.alloc (Obj.cells #[.int .i64 (x + z - 12)] 3)) hg6)
      have HA6 := Lib.hid (HA4.out.loc (HO4.out.alloc (Obj.cells #[.int .i64 (x + z - 12)] 3)) (hl6.imp id fun h => h.trans (by simp)))
      have HB6 := Lib.hid ((HB4.out.alloc HB4.out.size (Obj.cells #[.int .i64 (x + z - 12)] 3)).grown hg6 (by have := HB4.out.size; simp; omega) (fun g h => ((HQ4.out.alloc (Obj.cells #[.int .i64 (x + z - 12)] 3)).lt g h).1))
      clear ho6 hg6 hl6 q q0
      go_wp2
      go_roundw
      case rel => exact ⟨k + 1, A4, d4, A6, d6, (x + z - 12), by omega, by go_num, rfl, rfl, rfl, by omega, by omega, HNX, HJ1, HO6, HQ6, HA6, HB6⟩
      case measure => simp [intOf]; omega
    case neg =>
    exact absurd ⟨by omega, by omega⟩ hmid
end Go.Proofs.Ytgaankdmppoghaa
