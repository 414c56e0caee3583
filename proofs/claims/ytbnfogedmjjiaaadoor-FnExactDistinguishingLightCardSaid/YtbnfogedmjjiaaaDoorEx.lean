/- Explanations of alarms: contracts of the helpers of an outlook. No condition but those typed. -/
import Derived.Test.YtbnfogedmjjiaaaDoorSo
import Derived.Test.YtbnfogedmjjiaaaDoorBoth
namespace Go.Proofs.YtbnfogedmjjiaaaDoor
open Go.ChangeShapes Go.WideShapes Go.ChangeAt Go.RowKit Go.Maps

/-- the bits of x that y lacks. -/
def anN (x y : Nat) : Nat := x &&& (2 ^ 64 - (y + 1))
theorem an_bit {x y : Nat} (hx : x < 2 ^ 62) (hy : y < 2 ^ 62) (i : Nat) : (anN x y).testBit i = (x.testBit i && !y.testBit i) := by
  unfold anN
  have hp : (2 : Nat) ^ 62 ≤ 2 ^ 64 := Nat.pow_le_pow_right (by decide) (by decide)
  rw [Nat.testBit_and, Nat.testBit_two_pow_sub_succ (Nat.lt_of_lt_of_le hy hp)]
  by_cases hi : i < 64
  · rw [decide_eq_true hi, Bool.true_and]
  · have h1 : x.testBit i = false := Nat.testBit_lt_two_pow (Nat.lt_of_lt_of_le (Nat.lt_of_lt_of_le hx hp) (Nat.pow_le_pow_right (by decide) (by omega)))
    rw [h1]; simp
theorem an_zero {x y : Nat} (hx : x < 2 ^ 62) (hy : y < 2 ^ 62) : anN x y = 0 ↔ ∀ i, x.testBit i = true → y.testBit i = true := by
  constructor
  · intro h i hi
    have h1 := an_bit hx hy i
    rw [h, Nat.zero_testBit, hi, Bool.true_and] at h1
    cases h2 : y.testBit i with
    | true => rfl
    | false => rw [h2] at h1; cases h1
  · intro h
    refine Nat.eq_of_testBit_eq fun i => ?_
    rw [an_bit hx hy, Nat.zero_testBit]
    cases h1 : x.testBit i with
    | false => rfl
    | true => rw [h i h1]; rfl
theorem an_i64 (x y : Nat) (hx : x < 2 ^ 62) (hy : y < 2 ^ 62) : bits .andNot .i64 (x : Int) (y : Int) = ((anN x y : Nat) : Int) := by
  have hp : (2 : Nat) ^ 62 ≤ 2 ^ 64 := Nat.pow_le_pow_right (by decide) (by decide)
  have hx' : x % 2 ^ 64 = x := Nat.mod_eq_of_lt (Nat.lt_of_lt_of_le hx hp)
  have hy' : y % 2 ^ 64 = y := Nat.mod_eq_of_lt (Nat.lt_of_lt_of_le hy hp)
  have hl : anN x y < 2 ^ 62 := Nat.lt_of_le_of_lt Nat.and_le_left hx
  show IntKind.i64.wrap ((BitVec.ofInt 64 (x : Int) &&& ~~~ BitVec.ofInt 64 (y : Int)).toNat : Int) = _
  rw [BitVec.ofInt_natCast, BitVec.ofInt_natCast, BitVec.toNat_and, BitVec.toNat_not, BitVec.toNat_ofNat, BitVec.toNat_ofNat, hx', hy']
  rw [show 2 ^ 64 - 1 - y = 2 ^ 64 - (y + 1) by omega]
  show IntKind.i64.wrap ((anN x y : Nat) : Int) = _
  rw [IntKind.wrap_i64]
  have : ((anN x y : Nat) : Int) < 2 ^ 62 := by exact_mod_cast hl
  omega
/-- what the group that is named hits. -/
def hvN (ds : List LtD) (gs : List (List Int)) (x : Int) : Nat := hitN ds (gs.getD x.toNat [])
theorem hv_lt {ds : List LtD} {gs : List (List Int)} {x : Int} (hl : ds.length ≤ 12) : hvN ds gs x < 2 ^ 12 := Nat.lt_of_lt_of_le hit_lt (Nat.pow_le_pow_right (by decide) hl)
theorem ht_at {ds : List LtD} {gs : List (List Int)} {x : Int} (h0 : 0 ≤ x) (h1 : x < gs.length) : ∃ hk : x.toNat < (htL ds gs).length, (htL ds gs)[x.toNat] = (hvN ds gs x : Int) := by
  have hk : x.toNat < (htL ds gs).length := by unfold htL; rw [List.length_map]; omega
  refine ⟨hk, ?_⟩
  refine (show (htL ds gs)[x.toNat] = (hitN ds (gs[x.toNat]'(by omega)) : Int) from List.getElem_map _).trans ?_
  unfold hvN
  rw [List.getD_eq_getElem?_getD, List.getElem?_eq_getElem (by omega)]; rfl
/-- the lights that the first k groups hit. -/
def unK (ds : List LtD) (gs : List (List Int)) (ks : List Int) : Nat → Nat
  | 0 => 0
  | k + 1 => unK ds gs ks k ||| hvN ds gs (nth ks k)
theorem un_lt {ds : List LtD} {gs : List (List Int)} {ks : List Int} (hl : ds.length ≤ 12) : ∀ {k : Nat}, unK ds gs ks k < 2 ^ 12
  | 0 => by show (0 : Nat) < 2 ^ 12; decide
  | k + 1 => Nat.or_lt_two_pow (un_lt hl) (hv_lt hl)
theorem un_sub {ds : List LtD} {gs : List (List Int)} {ks : List Int} {i : Nat} : ∀ {k j : Nat}, j < k → (hvN ds gs (nth ks j)).testBit i = true → (unK ds gs ks k).testBit i = true
  | 0, _, h, _ => by omega
  | k + 1, j, h, hi => by
    unfold unK
    rw [Nat.testBit_or]
    by_cases e : j = k
    · subst e; rw [hi, Bool.or_true]
    · rw [un_sub (by omega) hi, Bool.true_or]
def exP (ds : List LtD) (gs : List (List Int)) (ks : List Int) (d : Nat) : Prop := (∀ j, j < ks.length → hvN ds gs (nth ks j) ≠ 0) ∧ unK ds gs ks ks.length = d
def susP (ds : List LtD) (gs : List (List Int)) (x : Int) (d : Nat) : Prop := hvN ds gs x ≠ 0 ∧ anN (hvN ds gs x) d = 0
theorem ex_sus {ds : List LtD} {gs : List (List Int)} {ks : List Int} {d : Nat} (hl : ds.length ≤ 12) (hd : d < 2 ^ 62) (h : exP ds gs ks d) : ∀ j, j < ks.length → susP ds gs (nth ks j) d := fun j hj =>
  ⟨h.1 j hj, (an_zero (Nat.lt_trans (hv_lt hl) (by decide)) hd).2 (fun i hi => by rw [← h.2]; exact un_sub hj hi)⟩

set_option maxRecDepth 100000 in
set_option maxHeartbeats 4000000 in
theorem hitBy_ {ds : List LtD} {gs : List (List Int)} {V : Value} {A K : Option Addr} {N c m dK : Nat} {ks : List Int} {w : World} (hl : ds.length ≤ 12) (hN : N = gs.length) (hr : Rd w w.heap.size A ((htL ds gs).map (Value.int .i64))) (hN14 : N ≤ 14)
    (hm : ks.length = m) (hr2 : Rd w w.heap.size K (ks.map (Value.int .i64))) (hs2 : m ≤ 1048576) (hks : ∀ j, j < m → 0 ≤ nth ks j ∧ nth ks j < N) :
    Calls Tryd.prog 130 #[.agg #[V, .slice A N c], .slice K m dK] w (RetP (.int .i64 (unK ds gs ks m : Nat)) w) := by
  have HR := Lib.hid hr; have HR2 := Lib.hid hr2; have HM := Lib.hid hm; have HKS := Lib.hid hks; have HN := Lib.hid hN
  have HLT : Hid (∀ k, unK ds gs ks k < 2 ^ 12) := Lib.hid (fun k => un_lt hl)
  have HVL : Hid (∀ x, hvN ds gs x < 2 ^ 12) := Lib.hid (fun x => hv_lt hl)
  clear hr hr2 hm hks hN
  go_enter Tryd.func130, Tryd.ntmps130
  go_wp2
  obtain ⟨W0, hW0⟩ : ∃ W0, (w.alloc (Obj.cells #[V, .slice A N c] 161)) = W0 := ⟨_, rfl⟩
  have hb0 : Below w.heap.size w W0 := by rw [← hW0]; exact (Below.refl _ _).alloc (Nat.le_refl _) _
  have k1 : W0.cell? ⟨w.heap.size, 1, none⟩ = some (.slice A N c) := by rw [← hW0]; simp [go_sem]
  have hz0 : w.heap.size < W0.heap.size := by rw [← hW0]; simp
  have HB0 := Lib.hid hb0
  have HR0 := Lib.hid (HR.out.moved hb0)
  have HR20 := Lib.hid (HR2.out.moved hb0)
  rw [hW0]
  clear hW0 hb0
  go_loop [5, 10] (fun v i => ∃ (k u : Nat), k ≤ m ∧ i = .int .i64 k ∧ v = .int .i64 u ∧ Hid (unK ds gs ks k = u)) (fun _ i => m - (intOf i).toNat)
  case atStart => exact ⟨0, 0, Nat.zero_le _, rfl, rfl, Lib.hid rfl⟩
  case round =>
    obtain ⟨k, u, hk, rfl, rfl, HU⟩ := hrel
    by_cases hlt : k < m
    case neg =>
      obtain rfl : k = m := by omega
      obtain rfl : unK ds gs ks k = u := HU.out
      clear hlt
      go_wp2
      go_ret
      exact ⟨rfl, HB0.out⟩
    case pos =>
    have hks : k < ks.length := by have := HM.out; omega
    obtain ⟨ad, hA, _, hc⟩ := ints_at HR20.out hks
    subst hA
    rw [nth_eq hks] at hc
    have hb := HKS.out k hlt
    obtain ⟨x, hx⟩ : ∃ x : Nat, nth ks k = (x : Int) := ⟨(nth ks k).toNat, by omega⟩
    rw [hx] at hc hb
    obtain ⟨hb0, hb1⟩ := hb
    obtain ⟨hk2, hv⟩ := ht_at (ds := ds) (gs := gs) (x := (x : Int)) (by omega) (by have := HN.out; omega)
    obtain ⟨ad2, hA2, _, hc2⟩ := ints_at HR0.out hk2
    rw [hv] at hc2
    rw [show ((x : Int)).toNat = x from Int.toNat_natCast x] at hc2
    have hu12 : u < 2 ^ 12 := by rw [← HU.out]; exact HLT.out k
    have hh12 := HVL.out (x : Int)
    have HS : Hid (unK ds gs ks (k + 1) = u ||| hvN ds gs (x : Int)) := Lib.hid (by unfold unK; rw [HU.out, hx])
    obtain ⟨h, hhe⟩ : ∃ h, hvN ds gs (x : Int) = h := ⟨_, rfl⟩
    rw [hhe] at hc2 hh12 HS
    have hor := or_i64_ u h (by omega) (by omega)
    obtain ⟨u2, hu2⟩ : ∃ y, u ||| h = y := ⟨_, rfl⟩
    rw [hu2] at hor HS
    subst hA2
    clear hks hk2 hv hhe hu2 hx
    go_wp2
    go_round
    case rel => exact ⟨k + 1, u2, by omega, by go_num, by go_num, HS⟩
    case measure => simp [intOf]; omega

end Go.Proofs.YtbnfogedmjjiaaaDoor
