/- A list with a number put in its place: contract of spec.l1Put, over a row of the call's own. No condition but those typed. -/
import Derived.Test.YtbnfogedmjjiaaaDoorGB
import Derived.Test.YtbnfogedmjjiaaaDoorFail
import Derived.Test.YtbnfogedmjjiaaaDoorOwn
import Derived.Test.YtbnfogedmjjiaaaDoorLst
import Derived.Deep.RegionLaw
import Derived.Deep.AppendLies
import Derived.Deep.CutBlock
import Derived.Deep.DeepCutAuto
namespace Go.Proofs.YtbnfogedmjjiaaaDoor
open Go.ChangeShapes Go.WideShapes Go.ChangeAt Go.RowKit

def putL : List Int → Int → List Int
  | [], x => [x]
  | h :: t, x => if h < x then h :: putL t x else if h = x then h :: t else x :: h :: t
theorem put_len : ∀ (L : List Int) (x : Int), (putL L x).length ≤ L.length + 1
  | [], _ => Nat.le_refl _
  | h :: t, x => by
    unfold putL
    have := put_len t x
    split
    · simp only [List.length_cons]; omega
    · split <;> simp only [List.length_cons] <;> omega
theorem put_at : ∀ {L : List Int} {x : Int} {k : Nat}, k ≤ L.length → (∀ j, j < k → L.getD j 0 < x) → (k < L.length → ¬ L.getD k 0 < x) → putL L x = if k < L.length ∧ L.getD k 0 = x then L else L.take k ++ ([x] ++ L.drop k)
  | [], x, k, h, _, _ => by
    obtain rfl : k = 0 := by simpa using h
    rfl
  | h :: t, x, 0, _, _, h2 => by
    have h3 : ¬ h < x := h2 (by simp)
    unfold putL
    rw [if_neg h3]
    by_cases e : h = x
    · rw [if_pos e, if_pos ⟨by simp, e⟩]
    · rw [if_neg e, if_neg (fun h9 => e h9.2)]; rfl
  | h :: t, x, k + 1, hk, h1, h2 => by
    have h3 : h < x := h1 0 (by omega)
    have ih := put_at (L := t) (x := x) (k := k) (by simpa using hk) (fun j hj => h1 (j + 1) (by omega)) (fun h9 => h2 (by simpa using h9))
    unfold putL
    rw [if_pos h3, ih]
    by_cases e : k < t.length ∧ t.getD k 0 = x
    · rw [if_pos e, if_pos ⟨by simpa using e.1, e.2⟩]
    · rw [if_neg e, if_neg (fun h9 => e ⟨by simpa using h9.1, h9.2⟩)]; rfl
theorem cx0 (g k : Nat) : (⟨g, 0, none⟩ : Addr).add k = ⟨g, k, none⟩ := by unfold Addr.add; split <;> simp_all
theorem cxk (g o k : Nat) : (⟨g, o, none⟩ : Addr).add k = ⟨g, o + k, none⟩ := by unfold Addr.add; split <;> simp_all
theorem lit_rowH {w : World} {H : Nat} (hH : w.heap.size = H) (base : Nat) (hb : base ≤ w.heap.size) : (w.alloc (Obj.cells #[] 3)).ownsRow base 3 1 (.slice (some ⟨H, 0, none⟩) 0 0) 0 [] := by
  subst hH
  have h9 := World.ownsRow_lit (base := base) (e := 3) (size := 1) w #[] 0 hb (by unfold maxLen; omega) rfl
  simpa using h9
theorem far_at {w w' : World} {row : Option Nat} (hg : w.grownBy w' row) {b : Nat} {u : Value} (hc : w.cell? ⟨b, 0, none⟩ = some u) (hlt : b < w.heap.size) (hne : some b ≠ row) : w'.cell? ⟨b, 0, none⟩ = some u := (hg.cell_far ⟨b, 0, none⟩ hlt hne).trans hc
theorem one_at {W : World} {b : Nat} {x : Int} (h : W.cell? ⟨b, 0, none⟩ = some (.int .i64 x)) : ∀ (j : Nat) (u : Value), [Value.int .i64 x][j]? = some u → W.cell? ((⟨b, 0, none⟩ : Addr).add j) = some u := by
  intro j u hu
  match j, hu with
  | 0, hu => simp at hu; subst hu; exact h
def PutP (B : Nat) (M : List Int) (w : World) (e : Ending) (w' : World) : Prop :=
  ∃ (g N c : Nat), e = .returned (.slice (some ⟨g, 0, none⟩) N c) ∧ Hid (N = M.length) ∧ w'.ownsRow B 3 1 (.slice (some ⟨g, 0, none⟩) N c) N (M.map (Value.int .i64)) ∧ Below w.heap.size w w'
theorem step_app {P : Program} {ops : Array Oper} {o : Oper} {a : Act} {w : World} {K : Act → World → Prop} {Q : Exit → Act → World → Prop} {E : Prop}
    (hg : o.guard = none) (s x : Operand) (t : TypeId) (hop : o.op = Op.call { callee := Callee.builtin Builtin.append, args := #[s, x], argTypes := #[t, t] })
    (base : Nat) (e : TypeId) (i : TypeInfo) (z : Value) (size bytes : Nat) (h1 : P.underlying t = some (.slice e)) (h2 : P.info? e = some i) (h3 : i.zero = some z) (h4 : i.size = size) (h5 : i.bytes = bytes) (h6 : z.cells.size = size) (h7 : 0 < size)
    (v : Value) (n : Nat) (xs : List Value) (hs : a.eval s = v) (hown : w.ownsRow base e size v n xs)
    (ad : Addr) (m c : Nat) (news : List Value) (hx : a.eval x = .slice (some ad) m c) (hn : news.length = m * size) (hc : ∀ j u, news[j]? = some u → w.cell? (ad.add j) = some u) (h1c : ∀ u ∈ news, u.oneCell' = true)
    (b1 : n + m ≤ maxLen) (b2 : (n + m) * bytes ≤ 140737488355328) (hbase : base ≤ w.heap.size)
    (hK : ∀ v' w', w'.ownsRow base e size v' (n + m) (xs ++ news) → w.grownBy w' v.ownBlock → K (a.put o.dst v') w') :
    if Region.wanted o (yielded ops a.tmps) = true then Oper.wp P o a w K Q else E := by
  have hw : Region.wanted o (yielded ops a.tmps) = true := by simp [Region.wanted, hg]
  rw [if_pos hw]
  obtain ⟨v', w', hrun, r1, r2, _⟩ := run_append_own (P := P) w base t o.type e i z size bytes h1 h2 h3 h4 h5 h6 h7 v n xs hown ad m c news hn hc h1c b1 b2 hbase
  unfold Oper.wp
  simp [execOp, hop, resolve, invoke, builtin, hs, hx, hrun, Result.andThen]
  exact hK v' w' r1 r2
set_option maxRecDepth 100000 in
set_option maxHeartbeats 4000000 in
theorem put_ {g N c B : Nat} {L : List Int} {w : World} (hN : L.length = N) (hs : N ≤ 2000000) (ho : w.ownsRow B 3 1 (.slice (some ⟨g, 0, none⟩) N c) N (L.map (Value.int .i64))) (hB : B ≤ w.heap.size) (x : Int) :
    Calls Tryd.prog 133 #[.slice (some ⟨g, 0, none⟩) N c, .int .i64 x] w (PutP B (putL L x) w) := by
  obtain ⟨i0, hi, hz0_, hz1_, hz2_⟩ := info_parts Tryd.inf_int
  have HI := Lib.hid hi; have HZ0 := Lib.hid hz0_; have HZ1 := Lib.hid hz1_; have HZ2 := Lib.hid hz2_
  have HNL := Lib.hid hN; have HO := Lib.hid ho; have HBB := Lib.hid hB
  have hcap : N ≤ c := by
    rcases ho.2 with ⟨h9, _⟩ | ⟨g9, cap, cur, h9, _, _, h10, _⟩
    · cases h9
    · injection h9 with _ _ h11; omega
  have hcm : c ≤ 9223372036854775807 := by
    rcases ho.2 with ⟨h9, _⟩ | ⟨g9, cap, cur, h9, _, _, _, h10, _⟩
    · cases h9
    · injection h9 with _ _ h11; unfold maxLen at h10; omega
  have HLC : Hid (∀ k, k < N → w.cell? ⟨g, k, none⟩ = some (.int .i64 (L.getD k 0))) := Lib.hid (fun k hk => by
    obtain ⟨ad, hA, _, cx⟩ := ints_at (Rd.ofOwn ho) (k := k) (by omega)
    obtain rfl : ad = ⟨g, 0, none⟩ := (Option.some.inj hA).symm
    rw [List.getD_eq_getElem?_getD, List.getElem?_eq_getElem (by omega)]
    rw [cx0 g k] at cx; exact cx)
  have hgw : g < w.heap.size := (ho.lt g rfl).2
  have HCT : Hid (∀ k, k ≤ N → ∀ U : World, Below w.heap.size w U → ∀ (j : Nat) (u : Value), ((L.take k).map (Value.int .i64))[j]? = some u → U.cell? ((⟨g, 0, none⟩ : Addr).add j) = some u) := Lib.hid (fun k hk U hU j u hu => by
    rw [cx0]
    have hj : j < ((L.take k).map (Value.int .i64)).length := (List.getElem?_eq_some_iff.1 hu).1
    rw [List.length_map, List.length_take] at hj
    rw [hU.cell (p := ⟨g, j, none⟩) hgw, HLC.out j (by omega)]
    rw [List.getElem?_map, List.getElem?_take_of_lt (by omega), List.getElem?_eq_getElem (by omega)] at hu
    rw [List.getD_eq_getElem?_getD, List.getElem?_eq_getElem (by omega)]
    exact hu)
  have HCD : Hid (∀ k, k ≤ N → ∀ U : World, Below w.heap.size w U → ∀ (j : Nat) (u : Value), ((L.drop k).map (Value.int .i64))[j]? = some u → U.cell? ((⟨g, k, none⟩ : Addr).add j) = some u) := Lib.hid (fun k hk U hU j u hu => by
    rw [cxk]
    have hj : j < ((L.drop k).map (Value.int .i64)).length := (List.getElem?_eq_some_iff.1 hu).1
    rw [List.length_map, List.length_drop] at hj
    rw [hU.cell (p := ⟨g, k + j, none⟩) hgw, HLC.out (k + j) (by omega)]
    rw [List.getElem?_map, List.getElem?_drop, List.getElem?_eq_getElem (by omega)] at hu
    rw [List.getD_eq_getElem?_getD, List.getElem?_eq_getElem (by omega)]
    exact hu)
  clear hi hz0_ hz1_ hz2_ hN ho hB
  go_enter Tryd.func133, Tryd.ntmps133
  go_wp2
  go_loop [5] (fun i => ∃ k : Nat, k ≤ N ∧ i = .int .i64 k ∧ Hid (∀ j, j < k → L.getD j 0 < x)) (fun i => N - (intOf i).toNat)
  case atStart => exact ⟨0, Nat.zero_le _, rfl, Lib.hid (fun j hj => by omega)⟩
  case round =>
    obtain ⟨k, hk, rfl, HA⟩ := hrel
    by_cases hlt : k < N
    case neg =>
      have hltI : ¬ (k : Int) < N := by omega
      have HPT : Hid (putL L x = L.take k ++ ([x] ++ L.drop k)) := Lib.hid (by rw [put_at (k := k) (by have := HNL.out; omega) HA.out (fun h => by have := HNL.out; omega), if_neg (fun h => by have := HNL.out; have := h.1; omega)])
      clear hlt
      have hkc : k ≤ c := by omega
      have hkcI : (k : Int) ≤ c := by omega
      by_cases hck : c = k
      case pos =>
        obtain rfl : N = k := by omega
        obtain rfl : N = c := by omega
        have HPT : Hid (putL L x = L.take N ++ ([x] ++ [])) := Lib.hid (by rw [HPT.out, List.drop_of_length_le (by have := HNL.out; omega)])
        clear hck hkc hkcI
        go_wp2_with fail
        go_region_law (first
          | ((refine step_app (by rfl) (.tmp 33) (.tmp 36) 29 (by rfl) w.heap.size 3 i0 (.int .i64 0) 1 8 Tryd.underlying29 HI.out HZ0.out HZ1.out HZ2.out rfl (by decide) (.slice (some ⟨w.heap.size, 0, none⟩) 0 0) (0) ([]) (by rfl) (by first | exact lit_rowH rfl _ (Nat.le_refl _) | exact (lit_rowH rfl _ (Nat.le_refl _)).alloc _) (⟨g, 0, none⟩) (N) (N) ((L.take N).map (Value.int .i64)) (by rfl) (by rw [List.length_map, List.length_take, Nat.mul_one]; have := HNL.out; omega) (HCT.out N hk _ (by repeat (first | assumption | exact Below.refl _ _ | refine Below.drew ?_ | refine Below.alloc ?_ (by first | exact Nat.le_refl _ | exact hb1.size | exact hb2.size | (simp; done) | (simp; omega) | (have := hb1.size; simp; omega)) _))) (news_ints _) (by unfold maxLen; omega) (by omega) (by first | exact Nat.le_refl _ | exact hb1.size | exact hb2.size | (simp; done) | (simp; omega) | (have := hb1.size; simp; omega) | (have := hb2.size; simp; omega)) ?_); intro v1 w1 hown1 hgrow1; have hb1 : Below w.heap.size w w1 := Below.grown (by repeat (first | assumption | exact Below.refl _ _ | refine Below.drew ?_ | refine Below.alloc ?_ (by first | exact Nat.le_refl _ | exact hb1.size | exact hb2.size | (simp; done) | (simp; omega) | (have := hb1.size; simp; omega)) _)) hgrow1 (by first | exact Nat.le_refl _ | exact hb1.size | exact hb2.size | (simp; done) | (simp; omega) | (have := hb1.size; simp; omega) | (have := hb2.size; simp; omega)) (fun g9 hg9 => by simp [Value.ownBlock] at hg9; omega))
          | ((refine step_app (by rfl) (.tmp 33) (.tmp 36) 29 (by rfl) w.heap.size 3 i0 (.int .i64 0) 1 8 Tryd.underlying29 HI.out HZ0.out HZ1.out HZ2.out rfl (by decide) (.slice (some ⟨w.heap.size + 1, 0, none⟩) 0 0) (0) ([]) (by rfl) (by exact lit_rowH (by simp) _ (by simp)) (⟨g, 0, none⟩) (N) (N) ((L.take N).map (Value.int .i64)) (by rfl) (by rw [List.length_map, List.length_take, Nat.mul_one]; have := HNL.out; omega) (HCT.out N hk _ (by repeat (first | assumption | exact Below.refl _ _ | refine Below.drew ?_ | refine Below.alloc ?_ (by first | exact Nat.le_refl _ | exact hb1.size | exact hb2.size | (simp; done) | (simp; omega) | (have := hb1.size; simp; omega)) _))) (news_ints _) (by unfold maxLen; omega) (by omega) (by first | exact Nat.le_refl _ | exact hb1.size | exact hb2.size | (simp; done) | (simp; omega) | (have := hb1.size; simp; omega) | (have := hb2.size; simp; omega)) ?_); intro v1 w1 hown1 hgrow1; have hb1 : Below w.heap.size w w1 := Below.grown (by repeat (first | assumption | exact Below.refl _ _ | refine Below.drew ?_ | refine Below.alloc ?_ (by first | exact Nat.le_refl _ | exact hb1.size | exact hb2.size | (simp; done) | (simp; omega) | (have := hb1.size; simp; omega)) _)) hgrow1 (by first | exact Nat.le_refl _ | exact hb1.size | exact hb2.size | (simp; done) | (simp; omega) | (have := hb1.size; simp; omega) | (have := hb2.size; simp; omega)) (fun g9 hg9 => by simp [Value.ownBlock] at hg9; omega))
          | ((refine step_app (by rfl) (.tmp 37) (.tmp 39) 29 (by rfl) w.heap.size 3 i0 (.int .i64 0) 1 8 Tryd.underlying29 HI.out HZ0.out HZ1.out HZ2.out rfl (by decide) (v1) (0 + N) ([] ++ (L.take N).map (Value.int .i64)) (by rfl) (hown1) (⟨w.heap.size + 1, 0, none⟩) (1) (1) ([Value.int .i64 x]) (by rfl) (rfl) (one_at (far_at hgrow1 (new_at_ _ _ _ _ (by simp)) (by first | (simp; done) | (simp; omega)) (by simp [Value.ownBlock]))) (news_int _) (by unfold maxLen; omega) (by omega) (by first | exact Nat.le_refl _ | exact hb1.size | exact hb2.size | (simp; done) | (simp; omega) | (have := hb1.size; simp; omega) | (have := hb2.size; simp; omega)) ?_); intro v2 w2 hown2 hgrow2; have hb2 : Below w.heap.size w w2 := Below.grown (by repeat (first | assumption | exact Below.refl _ _ | refine Below.drew ?_ | refine Below.alloc ?_ (by first | exact Nat.le_refl _ | exact hb1.size | exact hb2.size | (simp; done) | (simp; omega) | (have := hb1.size; simp; omega)) _)) hgrow2 (by first | exact Nat.le_refl _ | exact hb1.size | exact hb2.size | (simp; done) | (simp; omega) | (have := hb1.size; simp; omega) | (have := hb2.size; simp; omega)) (fun g9 hg9 => (hown1.lt g9 hg9).1))
          | ((refine step_app (by rfl) (.tmp 37) (.tmp 39) 29 (by rfl) w.heap.size 3 i0 (.int .i64 0) 1 8 Tryd.underlying29 HI.out HZ0.out HZ1.out HZ2.out rfl (by decide) (v1) (0 + N) ([] ++ (L.take N).map (Value.int .i64)) (by rfl) (hown1) (⟨w.heap.size, 0, none⟩) (1) (1) ([Value.int .i64 x]) (by rfl) (rfl) (one_at (far_at hgrow1 (by simp [go_sem]) (by first | (simp; done) | (simp; omega)) (by simp [Value.ownBlock]))) (news_int _) (by unfold maxLen; omega) (by omega) (by first | exact Nat.le_refl _ | exact hb1.size | exact hb2.size | (simp; done) | (simp; omega) | (have := hb1.size; simp; omega) | (have := hb2.size; simp; omega)) ?_); intro v2 w2 hown2 hgrow2; have hb2 : Below w.heap.size w w2 := Below.grown (by repeat (first | assumption | exact Below.refl _ _ | refine Below.drew ?_ | refine Below.alloc ?_ (by first | exact Nat.le_refl _ | exact hb1.size | exact hb2.size | (simp; done) | (simp; omega) | (have := hb1.size; simp; omega)) _)) hgrow2 (by first | exact Nat.le_refl _ | exact hb1.size | exact hb2.size | (simp; done) | (simp; omega) | (have := hb1.size; simp; omega) | (have := hb2.size; simp; omega)) (fun g9 hg9 => (hown1.lt g9 hg9).1))
          | ((refine step_app (by rfl) (.tmp 37) (.tmp 39) 29 (by rfl) w.heap.size 3 i0 (.int .i64 0) 1 8 Tryd.underlying29 HI.out HZ0.out HZ1.out HZ2.out rfl (by decide) (v1) (0 + N) ([] ++ (L.take N).map (Value.int .i64)) (by rfl) (hown1.alloc _) (⟨w1.heap.size, 0, none⟩) (1) (1) ([Value.int .i64 x]) (by rfl) (rfl) (one_at (new_at_ _ _ _ _ rfl)) (news_int _) (by unfold maxLen; omega) (by omega) (by first | exact Nat.le_refl _ | exact hb1.size | exact hb2.size | (simp; done) | (simp; omega) | (have := hb1.size; simp; omega) | (have := hb2.size; simp; omega)) ?_); intro v2 w2 hown2 hgrow2; have hb2 : Below w.heap.size w w2 := Below.grown (by repeat (first | assumption | exact Below.refl _ _ | refine Below.drew ?_ | refine Below.alloc ?_ (by first | exact Nat.le_refl _ | exact hb1.size | exact hb2.size | (simp; done) | (simp; omega) | (have := hb1.size; simp; omega)) _)) hgrow2 (by first | exact Nat.le_refl _ | exact hb1.size | exact hb2.size | (simp; done) | (simp; omega) | (have := hb1.size; simp; omega) | (have := hb2.size; simp; omega)) (fun g9 hg9 => (hown1.lt g9 hg9).1))
          | ((refine step_app (by rfl) (.tmp 40) (.tmp 43) 29 (by rfl) w.heap.size 3 i0 (.int .i64 0) 1 8 Tryd.underlying29 HI.out HZ0.out HZ1.out HZ2.out rfl (by decide) (v2) (0 + N + 1) (([] ++ (L.take N).map (Value.int .i64)) ++ [Value.int .i64 x]) (by rfl) (hown2) (⟨g, 0, none⟩) (0) (0) ([]) (by rfl) (rfl) (fun j u hu => by simp at hu) (fun u hu => by simp at hu) (by unfold maxLen; omega) (by omega) (by first | exact Nat.le_refl _ | exact hb1.size | exact hb2.size | (simp; done) | (simp; omega) | (have := hb1.size; simp; omega) | (have := hb2.size; simp; omega)) ?_); intro v3 w3 hown3 hgrow3; have hb3 : Below w.heap.size w w3 := Below.grown (by repeat (first | assumption | exact Below.refl _ _ | refine Below.drew ?_ | refine Below.alloc ?_ (by first | exact Nat.le_refl _ | exact hb1.size | exact hb2.size | (simp; done) | (simp; omega) | (have := hb1.size; simp; omega)) _)) hgrow3 (by first | exact Nat.le_refl _ | exact hb1.size | exact hb2.size | (simp; done) | (simp; omega) | (have := hb1.size; simp; omega) | (have := hb2.size; simp; omega)) (fun g9 hg9 => (hown2.lt g9 hg9).1); obtain ⟨A3, c3, rfl⟩ := formOf hown3; obtain ⟨g3, rfl⟩ := own_some hown3 (by omega)))
        all_goals
          go_wp2_with fail
          go_ret
          rw [HPT.out]
          refine ⟨g3, _, c3, rfl, Lib.hid ?_, own_base (by simpa using hown3) HBB.out, hb3⟩
          simp; have := HNL.out; omega
      case neg =>
        go_wp2_with fail
        go_region_law (first
          | ((refine step_app (by rfl) (.tmp 33) (.tmp 36) 29 (by rfl) w.heap.size 3 i0 (.int .i64 0) 1 8 Tryd.underlying29 HI.out HZ0.out HZ1.out HZ2.out rfl (by decide) (.slice (some ⟨w.heap.size, 0, none⟩) 0 0) (0) ([]) (by rfl) (by first | exact lit_rowH rfl _ (Nat.le_refl _) | exact (lit_rowH rfl _ (Nat.le_refl _)).alloc _) (⟨g, 0, none⟩) (k) (c) ((L.take k).map (Value.int .i64)) (by rfl) (by rw [List.length_map, List.length_take, Nat.mul_one]; have := HNL.out; omega) (HCT.out k hk _ (by repeat (first | assumption | exact Below.refl _ _ | refine Below.drew ?_ | refine Below.alloc ?_ (by first | exact Nat.le_refl _ | exact hb1.size | exact hb2.size | (simp; done) | (simp; omega) | (have := hb1.size; simp; omega)) _))) (news_ints _) (by unfold maxLen; omega) (by omega) (by first | exact Nat.le_refl _ | exact hb1.size | exact hb2.size | (simp; done) | (simp; omega) | (have := hb1.size; simp; omega) | (have := hb2.size; simp; omega)) ?_); intro v1 w1 hown1 hgrow1; have hb1 : Below w.heap.size w w1 := Below.grown (by repeat (first | assumption | exact Below.refl _ _ | refine Below.drew ?_ | refine Below.alloc ?_ (by first | exact Nat.le_refl _ | exact hb1.size | exact hb2.size | (simp; done) | (simp; omega) | (have := hb1.size; simp; omega)) _)) hgrow1 (by first | exact Nat.le_refl _ | exact hb1.size | exact hb2.size | (simp; done) | (simp; omega) | (have := hb1.size; simp; omega) | (have := hb2.size; simp; omega)) (fun g9 hg9 => by simp [Value.ownBlock] at hg9; omega))
          | ((refine step_app (by rfl) (.tmp 33) (.tmp 36) 29 (by rfl) w.heap.size 3 i0 (.int .i64 0) 1 8 Tryd.underlying29 HI.out HZ0.out HZ1.out HZ2.out rfl (by decide) (.slice (some ⟨w.heap.size + 1, 0, none⟩) 0 0) (0) ([]) (by rfl) (by exact lit_rowH (by simp) _ (by simp)) (⟨g, 0, none⟩) (k) (c) ((L.take k).map (Value.int .i64)) (by rfl) (by rw [List.length_map, List.length_take, Nat.mul_one]; have := HNL.out; omega) (HCT.out k hk _ (by repeat (first | assumption | exact Below.refl _ _ | refine Below.drew ?_ | refine Below.alloc ?_ (by first | exact Nat.le_refl _ | exact hb1.size | exact hb2.size | (simp; done) | (simp; omega) | (have := hb1.size; simp; omega)) _))) (news_ints _) (by unfold maxLen; omega) (by omega) (by first | exact Nat.le_refl _ | exact hb1.size | exact hb2.size | (simp; done) | (simp; omega) | (have := hb1.size; simp; omega) | (have := hb2.size; simp; omega)) ?_); intro v1 w1 hown1 hgrow1; have hb1 : Below w.heap.size w w1 := Below.grown (by repeat (first | assumption | exact Below.refl _ _ | refine Below.drew ?_ | refine Below.alloc ?_ (by first | exact Nat.le_refl _ | exact hb1.size | exact hb2.size | (simp; done) | (simp; omega) | (have := hb1.size; simp; omega)) _)) hgrow1 (by first | exact Nat.le_refl _ | exact hb1.size | exact hb2.size | (simp; done) | (simp; omega) | (have := hb1.size; simp; omega) | (have := hb2.size; simp; omega)) (fun g9 hg9 => by simp [Value.ownBlock] at hg9; omega))
          | ((refine step_app (by rfl) (.tmp 37) (.tmp 39) 29 (by rfl) w.heap.size 3 i0 (.int .i64 0) 1 8 Tryd.underlying29 HI.out HZ0.out HZ1.out HZ2.out rfl (by decide) (v1) (0 + k) ([] ++ (L.take k).map (Value.int .i64)) (by rfl) (hown1) (⟨w.heap.size + 1, 0, none⟩) (1) (1) ([Value.int .i64 x]) (by rfl) (rfl) (one_at (far_at hgrow1 (new_at_ _ _ _ _ (by simp)) (by first | (simp; done) | (simp; omega)) (by simp [Value.ownBlock]))) (news_int _) (by unfold maxLen; omega) (by omega) (by first | exact Nat.le_refl _ | exact hb1.size | exact hb2.size | (simp; done) | (simp; omega) | (have := hb1.size; simp; omega) | (have := hb2.size; simp; omega)) ?_); intro v2 w2 hown2 hgrow2; have hb2 : Below w.heap.size w w2 := Below.grown (by repeat (first | assumption | exact Below.refl _ _ | refine Below.drew ?_ | refine Below.alloc ?_ (by first | exact Nat.le_refl _ | exact hb1.size | exact hb2.size | (simp; done) | (simp; omega) | (have := hb1.size; simp; omega)) _)) hgrow2 (by first | exact Nat.le_refl _ | exact hb1.size | exact hb2.size | (simp; done) | (simp; omega) | (have := hb1.size; simp; omega) | (have := hb2.size; simp; omega)) (fun g9 hg9 => (hown1.lt g9 hg9).1))
          | ((refine step_app (by rfl) (.tmp 37) (.tmp 39) 29 (by rfl) w.heap.size 3 i0 (.int .i64 0) 1 8 Tryd.underlying29 HI.out HZ0.out HZ1.out HZ2.out rfl (by decide) (v1) (0 + k) ([] ++ (L.take k).map (Value.int .i64)) (by rfl) (hown1) (⟨w.heap.size, 0, none⟩) (1) (1) ([Value.int .i64 x]) (by rfl) (rfl) (one_at (far_at hgrow1 (by simp [go_sem]) (by first | (simp; done) | (simp; omega)) (by simp [Value.ownBlock]))) (news_int _) (by unfold maxLen; omega) (by omega) (by first | exact Nat.le_refl _ | exact hb1.size | exact hb2.size | (simp; done) | (simp; omega) | (have := hb1.size; simp; omega) | (have := hb2.size; simp; omega)) ?_); intro v2 w2 hown2 hgrow2; have hb2 : Below w.heap.size w w2 := Below.grown (by repeat (first | assumption | exact Below.refl _ _ | refine Below.drew ?_ | refine Below.alloc ?_ (by first | exact Nat.le_refl _ | exact hb1.size | exact hb2.size | (simp; done) | (simp; omega) | (have := hb1.size; simp; omega)) _)) hgrow2 (by first | exact Nat.le_refl _ | exact hb1.size | exact hb2.size | (simp; done) | (simp; omega) | (have := hb1.size; simp; omega) | (have := hb2.size; simp; omega)) (fun g9 hg9 => (hown1.lt g9 hg9).1))
          | ((refine step_app (by rfl) (.tmp 37) (.tmp 39) 29 (by rfl) w.heap.size 3 i0 (.int .i64 0) 1 8 Tryd.underlying29 HI.out HZ0.out HZ1.out HZ2.out rfl (by decide) (v1) (0 + k) ([] ++ (L.take k).map (Value.int .i64)) (by rfl) (hown1.alloc _) (⟨w1.heap.size, 0, none⟩) (1) (1) ([Value.int .i64 x]) (by rfl) (rfl) (one_at (new_at_ _ _ _ _ rfl)) (news_int _) (by unfold maxLen; omega) (by omega) (by first | exact Nat.le_refl _ | exact hb1.size | exact hb2.size | (simp; done) | (simp; omega) | (have := hb1.size; simp; omega) | (have := hb2.size; simp; omega)) ?_); intro v2 w2 hown2 hgrow2; have hb2 : Below w.heap.size w w2 := Below.grown (by repeat (first | assumption | exact Below.refl _ _ | refine Below.drew ?_ | refine Below.alloc ?_ (by first | exact Nat.le_refl _ | exact hb1.size | exact hb2.size | (simp; done) | (simp; omega) | (have := hb1.size; simp; omega)) _)) hgrow2 (by first | exact Nat.le_refl _ | exact hb1.size | exact hb2.size | (simp; done) | (simp; omega) | (have := hb1.size; simp; omega) | (have := hb2.size; simp; omega)) (fun g9 hg9 => (hown1.lt g9 hg9).1))
          | ((refine step_app (by rfl) (.tmp 40) (.tmp 43) 29 (by rfl) w.heap.size 3 i0 (.int .i64 0) 1 8 Tryd.underlying29 HI.out HZ0.out HZ1.out HZ2.out rfl (by decide) (v2) (0 + k + 1) (([] ++ (L.take k).map (Value.int .i64)) ++ [Value.int .i64 x]) (by rfl) (hown2) (⟨g, k, none⟩) (N - k) (c - k) ((L.drop k).map (Value.int .i64)) (by rfl) (by rw [List.length_map, List.length_drop, Nat.mul_one]; have := HNL.out; omega) (HCD.out k hk _ (by repeat (first | assumption | exact Below.refl _ _ | refine Below.drew ?_ | refine Below.alloc ?_ (by first | exact Nat.le_refl _ | exact hb1.size | exact hb2.size | (simp; done) | (simp; omega) | (have := hb1.size; simp; omega)) _))) (news_ints _) (by unfold maxLen; omega) (by omega) (by first | exact Nat.le_refl _ | exact hb1.size | exact hb2.size | (simp; done) | (simp; omega) | (have := hb1.size; simp; omega) | (have := hb2.size; simp; omega)) ?_); intro v3 w3 hown3 hgrow3; have hb3 : Below w.heap.size w w3 := Below.grown (by repeat (first | assumption | exact Below.refl _ _ | refine Below.drew ?_ | refine Below.alloc ?_ (by first | exact Nat.le_refl _ | exact hb1.size | exact hb2.size | (simp; done) | (simp; omega) | (have := hb1.size; simp; omega)) _)) hgrow3 (by first | exact Nat.le_refl _ | exact hb1.size | exact hb2.size | (simp; done) | (simp; omega) | (have := hb1.size; simp; omega) | (have := hb2.size; simp; omega)) (fun g9 hg9 => (hown2.lt g9 hg9).1); obtain ⟨A3, c3, rfl⟩ := formOf hown3; obtain ⟨g3, rfl⟩ := own_some hown3 (by omega)))
        all_goals
          go_wp2_with fail
          go_ret
          rw [HPT.out]
          refine ⟨g3, _, c3, rfl, Lib.hid ?_, own_base (by simpa using hown3) HBB.out, hb3⟩
          simp; have := HNL.out; omega
    case pos =>
    have hltI : (k : Int) < N := by omega
    have hc1 := HLC.out k hlt
    obtain ⟨z, hz⟩ : ∃ z, L.getD k 0 = z := ⟨_, rfl⟩
    rw [hz] at hc1
    by_cases hzx : z < x
    case pos =>
      have HA2 : Hid (∀ j, j < k + 1 → L.getD j 0 < x) := Lib.hid (fun j hj => by
        by_cases e : j = k
        · subst e; rw [hz]; exact hzx
        · exact HA.out j (by omega))
      clear hz
      go_wp2
      go_round
      case rel => exact ⟨k + 1, by omega, by go_num, HA2⟩
      case measure => simp [intOf]; omega
    case neg =>
    have HPK := Lib.hid (put_at (x := x) (k := k) (by have := HNL.out; omega) HA.out (fun _ => by rw [hz]; exact hzx))
    by_cases hzq : z = x
    case pos =>
      have HPT : Hid (putL L x = L) := Lib.hid (by rw [HPK.out, if_pos ⟨by have := HNL.out; omega, by rw [hz]; exact hzq⟩])
      subst hzq
      clear hz HPK
      go_wp2
      go_ret
      rw [HPT.out]
      exact ⟨g, N, c, rfl, Lib.hid HNL.out.symm, HO.out, Below.refl _ _⟩
    case neg =>
      have HPT : Hid (putL L x = L.take k ++ ([x] ++ L.drop k)) := Lib.hid (by rw [HPK.out, if_neg (fun h => hzq (by rw [← hz]; exact h.2))])
      have hzq2 : (z == x) = false := beq_eq_false_iff_ne.2 hzq
      clear hz HPK
      have hkc : k ≤ c := by omega
      have hkcI : (k : Int) ≤ c := by omega
      have hck : ¬ c = k := by omega
      go_wp2_with fail
      go_region_law (first
        | ((refine step_app (by rfl) (.tmp 33) (.tmp 36) 29 (by rfl) w.heap.size 3 i0 (.int .i64 0) 1 8 Tryd.underlying29 HI.out HZ0.out HZ1.out HZ2.out rfl (by decide) (.slice (some ⟨w.heap.size, 0, none⟩) 0 0) (0) ([]) (by rfl) (by first | exact lit_rowH rfl _ (Nat.le_refl _) | exact (lit_rowH rfl _ (Nat.le_refl _)).alloc _) (⟨g, 0, none⟩) (k) (c) ((L.take k).map (Value.int .i64)) (by rfl) (by rw [List.length_map, List.length_take, Nat.mul_one]; have := HNL.out; omega) (HCT.out k hk _ (by repeat (first | assumption | exact Below.refl _ _ | refine Below.drew ?_ | refine Below.alloc ?_ (by first | exact Nat.le_refl _ | exact hb1.size | exact hb2.size | (simp; done) | (simp; omega) | (have := hb1.size; simp; omega)) _))) (news_ints _) (by unfold maxLen; omega) (by omega) (by first | exact Nat.le_refl _ | exact hb1.size | exact hb2.size | (simp; done) | (simp; omega) | (have := hb1.size; simp; omega) | (have := hb2.size; simp; omega)) ?_); intro v1 w1 hown1 hgrow1; have hb1 : Below w.heap.size w w1 := Below.grown (by repeat (first | assumption | exact Below.refl _ _ | refine Below.drew ?_ | refine Below.alloc ?_ (by first | exact Nat.le_refl _ | exact hb1.size | exact hb2.size | (simp; done) | (simp; omega) | (have := hb1.size; simp; omega)) _)) hgrow1 (by first | exact Nat.le_refl _ | exact hb1.size | exact hb2.size | (simp; done) | (simp; omega) | (have := hb1.size; simp; omega) | (have := hb2.size; simp; omega)) (fun g9 hg9 => by simp [Value.ownBlock] at hg9; omega))
        | ((refine step_app (by rfl) (.tmp 33) (.tmp 36) 29 (by rfl) w.heap.size 3 i0 (.int .i64 0) 1 8 Tryd.underlying29 HI.out HZ0.out HZ1.out HZ2.out rfl (by decide) (.slice (some ⟨w.heap.size + 1, 0, none⟩) 0 0) (0) ([]) (by rfl) (by exact lit_rowH (by simp) _ (by simp)) (⟨g, 0, none⟩) (k) (c) ((L.take k).map (Value.int .i64)) (by rfl) (by rw [List.length_map, List.length_take, Nat.mul_one]; have := HNL.out; omega) (HCT.out k hk _ (by repeat (first | assumption | exact Below.refl _ _ | refine Below.drew ?_ | refine Below.alloc ?_ (by first | exact Nat.le_refl _ | exact hb1.size | exact hb2.size | (simp; done) | (simp; omega) | (have := hb1.size; simp; omega)) _))) (news_ints _) (by unfold maxLen; omega) (by omega) (by first | exact Nat.le_refl _ | exact hb1.size | exact hb2.size | (simp; done) | (simp; omega) | (have := hb1.size; simp; omega) | (have := hb2.size; simp; omega)) ?_); intro v1 w1 hown1 hgrow1; have hb1 : Below w.heap.size w w1 := Below.grown (by repeat (first | assumption | exact Below.refl _ _ | refine Below.drew ?_ | refine Below.alloc ?_ (by first | exact Nat.le_refl _ | exact hb1.size | exact hb2.size | (simp; done) | (simp; omega) | (have := hb1.size; simp; omega)) _)) hgrow1 (by first | exact Nat.le_refl _ | exact hb1.size | exact hb2.size | (simp; done) | (simp; omega) | (have := hb1.size; simp; omega) | (have := hb2.size; simp; omega)) (fun g9 hg9 => by simp [Value.ownBlock] at hg9; omega))
        | ((refine step_app (by rfl) (.tmp 37) (.tmp 39) 29 (by rfl) w.heap.size 3 i0 (.int .i64 0) 1 8 Tryd.underlying29 HI.out HZ0.out HZ1.out HZ2.out rfl (by decide) (v1) (0 + k) ([] ++ (L.take k).map (Value.int .i64)) (by rfl) (hown1) (⟨w.heap.size + 1, 0, none⟩) (1) (1) ([Value.int .i64 x]) (by rfl) (rfl) (one_at (far_at hgrow1 (new_at_ _ _ _ _ (by simp)) (by first | (simp; done) | (simp; omega)) (by simp [Value.ownBlock]))) (news_int _) (by unfold maxLen; omega) (by omega) (by first | exact Nat.le_refl _ | exact hb1.size | exact hb2.size | (simp; done) | (simp; omega) | (have := hb1.size; simp; omega) | (have := hb2.size; simp; omega)) ?_); intro v2 w2 hown2 hgrow2; have hb2 : Below w.heap.size w w2 := Below.grown (by repeat (first | assumption | exact Below.refl _ _ | refine Below.drew ?_ | refine Below.alloc ?_ (by first | exact Nat.le_refl _ | exact hb1.size | exact hb2.size | (simp; done) | (simp; omega) | (have := hb1.size; simp; omega)) _)) hgrow2 (by first | exact Nat.le_refl _ | exact hb1.size | exact hb2.size | (simp; done) | (simp; omega) | (have := hb1.size; simp; omega) | (have := hb2.size; simp; omega)) (fun g9 hg9 => (hown1.lt g9 hg9).1))
        | ((refine step_app (by rfl) (.tmp 37) (.tmp 39) 29 (by rfl) w.heap.size 3 i0 (.int .i64 0) 1 8 Tryd.underlying29 HI.out HZ0.out HZ1.out HZ2.out rfl (by decide) (v1) (0 + k) ([] ++ (L.take k).map (Value.int .i64)) (by rfl) (hown1) (⟨w.heap.size, 0, none⟩) (1) (1) ([Value.int .i64 x]) (by rfl) (rfl) (one_at (far_at hgrow1 (by simp [go_sem]) (by first | (simp; done) | (simp; omega)) (by simp [Value.ownBlock]))) (news_int _) (by unfold maxLen; omega) (by omega) (by first | exact Nat.le_refl _ | exact hb1.size | exact hb2.size | (simp; done) | (simp; omega) | (have := hb1.size; simp; omega) | (have := hb2.size; simp; omega)) ?_); intro v2 w2 hown2 hgrow2; have hb2 : Below w.heap.size w w2 := Below.grown (by repeat (first | assumption | exact Below.refl _ _ | refine Below.drew ?_ | refine Below.alloc ?_ (by first | exact Nat.le_refl _ | exact hb1.size | exact hb2.size | (simp; done) | (simp; omega) | (have := hb1.size; simp; omega)) _)) hgrow2 (by first | exact Nat.le_refl _ | exact hb1.size | exact hb2.size | (simp; done) | (simp; omega) | (have := hb1.size; simp; omega) | (have := hb2.size; simp; omega)) (fun g9 hg9 => (hown1.lt g9 hg9).1))
        | ((refine step_app (by rfl) (.tmp 37) (.tmp 39) 29 (by rfl) w.heap.size 3 i0 (.int .i64 0) 1 8 Tryd.underlying29 HI.out HZ0.out HZ1.out HZ2.out rfl (by decide) (v1) (0 + k) ([] ++ (L.take k).map (Value.int .i64)) (by rfl) (hown1.alloc _) (⟨w1.heap.size, 0, none⟩) (1) (1) ([Value.int .i64 x]) (by rfl) (rfl) (one_at (new_at_ _ _ _ _ rfl)) (news_int _) (by unfold maxLen; omega) (by omega) (by first | exact Nat.le_refl _ | exact hb1.size | exact hb2.size | (simp; done) | (simp; omega) | (have := hb1.size; simp; omega) | (have := hb2.size; simp; omega)) ?_); intro v2 w2 hown2 hgrow2; have hb2 : Below w.heap.size w w2 := Below.grown (by repeat (first | assumption | exact Below.refl _ _ | refine Below.drew ?_ | refine Below.alloc ?_ (by first | exact Nat.le_refl _ | exact hb1.size | exact hb2.size | (simp; done) | (simp; omega) | (have := hb1.size; simp; omega)) _)) hgrow2 (by first | exact Nat.le_refl _ | exact hb1.size | exact hb2.size | (simp; done) | (simp; omega) | (have := hb1.size; simp; omega) | (have := hb2.size; simp; omega)) (fun g9 hg9 => (hown1.lt g9 hg9).1))
        | ((refine step_app (by rfl) (.tmp 40) (.tmp 43) 29 (by rfl) w.heap.size 3 i0 (.int .i64 0) 1 8 Tryd.underlying29 HI.out HZ0.out HZ1.out HZ2.out rfl (by decide) (v2) (0 + k + 1) (([] ++ (L.take k).map (Value.int .i64)) ++ [Value.int .i64 x]) (by rfl) (hown2) (⟨g, k, none⟩) (N - k) (c - k) ((L.drop k).map (Value.int .i64)) (by rfl) (by rw [List.length_map, List.length_drop, Nat.mul_one]; have := HNL.out; omega) (HCD.out k hk _ (by repeat (first | assumption | exact Below.refl _ _ | refine Below.drew ?_ | refine Below.alloc ?_ (by first | exact Nat.le_refl _ | exact hb1.size | exact hb2.size | (simp; done) | (simp; omega) | (have := hb1.size; simp; omega)) _))) (news_ints _) (by unfold maxLen; omega) (by omega) (by first | exact Nat.le_refl _ | exact hb1.size | exact hb2.size | (simp; done) | (simp; omega) | (have := hb1.size; simp; omega) | (have := hb2.size; simp; omega)) ?_); intro v3 w3 hown3 hgrow3; have hb3 : Below w.heap.size w w3 := Below.grown (by repeat (first | assumption | exact Below.refl _ _ | refine Below.drew ?_ | refine Below.alloc ?_ (by first | exact Nat.le_refl _ | exact hb1.size | exact hb2.size | (simp; done) | (simp; omega) | (have := hb1.size; simp; omega)) _)) hgrow3 (by first | exact Nat.le_refl _ | exact hb1.size | exact hb2.size | (simp; done) | (simp; omega) | (have := hb1.size; simp; omega) | (have := hb2.size; simp; omega)) (fun g9 hg9 => (hown2.lt g9 hg9).1); obtain ⟨A3, c3, rfl⟩ := formOf hown3; obtain ⟨g3, rfl⟩ := own_some hown3 (by omega)))
      all_goals
        go_wp2_with fail
        go_ret
        rw [HPT.out]
        refine ⟨g3, _, c3, rfl, Lib.hid ?_, own_base (by simpa using hown3) HBB.out, hb3⟩
        simp; have := HNL.out; omega
end Go.Proofs.YtbnfogedmjjiaaaDoor
