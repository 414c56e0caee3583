/- First fit: contracts of spec.l18Order and spec.l18Pack. No condition but those typed. -/
import Derived.Test.YtlgkjidginibdaaFf
import Derived.Test.YtlgkjidginibdaaFail
import Derived.Test.YtlgkjidginibdaaGA
import Derived.BigQuiet
import Derived.Deep.RegionLaw
import Derived.Deep.AppendLies
import Derived.Deep.CutBlock
import Derived.Deep.DeepCutAuto
namespace Go.Proofs.Ytlgkjidginibdaa
open Go.ChangeShapes Go.WideShapes Go.ChangeAt Go.RowKit

theorem cx0 (g k : Nat) : (⟨g, 0, none⟩ : Addr).add k = ⟨g, k, none⟩ := by unfold Addr.add; split <;> simp_all
theorem cxk (g o k : Nat) : (⟨g, o, none⟩ : Addr).add k = ⟨g, o + k, none⟩ := by unfold Addr.add; split <;> simp_all
theorem lit_rowH {w : World} {H : Nat} (hH : w.heap.size = H) (base : Nat) (hb : base ≤ w.heap.size) : (w.alloc (Obj.cells #[] 3)).ownsRow base 3 1 (.slice (some ⟨H, 0, none⟩) 0 0) 0 [] := by
  subst hH
  have h9 := World.ownsRow_lit (base := base) (e := 3) (size := 1) w #[] 0 hb (by unfold maxLen; omega) rfl
  simpa using h9
theorem far_at {w w' : World} {row : Option Nat} (hg : w.grownBy w' row) {b : Nat} {u : Value} (hc : w.cell? ⟨b, 0, none⟩ = some u) (hlt : b < w.heap.size) (hne : some b ≠ row) : w'.cell? ⟨b, 0, none⟩ = some u := (hg.cell_far ⟨b, 0, none⟩ hlt hne).trans hc
theorem one_at {W : World} {b : Nat} {x : Int} (h : W.cell? ⟨b, 0, none⟩ = some (.int .i64 x)) : ∀ (j : Nat) (u : Value), [Value.int .i64 x][j]? = some u → W.cell? ((⟨b, 0, none⟩ : Addr).add j) = some u := by
  intro j u hu
  match j, hu with
  | 0, hu => simp at hu; subst hu; exact h
theorem step_app {P : Program} {ops : Array Oper} {o : Oper} {a : Act} {w : World} {K : Act → World → Prop} {Q : Exit → Act → World → Prop} {E : Prop}
    (hg : o.guard = none) (s x : Operand) (t : TypeId) (hop : o.op = Op.call { callee := Callee.builtin Builtin.append, args := #[s, x], argTypes := #[t, t] })
    (base : Nat) (e : TypeId) (i : TypeInfo) (z : Value) (size bytes : Nat) (h1 : P.underlying t = some (.slice e)) (h2 : P.info? e = some i) (h3 : i.zero = some z) (h4 : i.size = size) (h5 : i.bytes = bytes) (h6 : z.cells.size = size) (h7 : 0 < size)
    (v : Value) (n : Nat) (xs : List Value) (hs : a.eval s = v) (hown : w.ownsRow base e size v n xs)
    (ad : Addr) (m c : Nat) (news : List Value) (hx : a.eval x = .slice (some ad) m c) (hn : news.length = m * size) (hc : ∀ j u, news[j]? = some u → w.cell? (ad.add j) = some u) (h1c : ∀ u ∈ news, u.oneCell' = true)
    (b1 : n + m ≤ maxLen) (b2 : (n + m) * bytes ≤ 140737488355328) (hbase : base ≤ w.heap.size)
    (hK : ∀ v' w', w'.ownsRow base e size v' (n + m) (xs ++ news) → w.grownBy w' v.ownBlock → K (a.put o.dst v') w') :
    if Region.wanted o (yielded ops a.tmps) = true then Oper.wp P o a w K Q else E := by
  have hw : Region.wanted o (yielded ops a.tmps) = true := by simp [Region.wanted, hg]
  rw [if_pos hw]
  obtain ⟨v', w', hrun, r1, r2, _⟩ := run_append_own (P := P) w base t o.type e i z size bytes h1 h2 h3 h4 h5 h6 h7 v n xs hown ad m c news hn hc h1c b1 b2 hbase
  unfold Oper.wp
  simp [execOp, hop, resolve, invoke, builtin, hs, hx, hrun, Result.andThen]
  exact hK v' w' r1 r2
set_option maxRecDepth 100000 in
set_option maxHeartbeats 8000000 in
theorem l18Order_ {A : Option Addr} {n c0 : Nat} {wx : World} (hs : n ≤ 12) :
    Calls Try.prog 125 #[.slice A n c0, .bool false] wx fun e w' => ∃ g c, e = .returned (.slice (some ⟨g, 0, none⟩) n c) ∧ w'.ownsRow wx.heap.size 3 1 (.slice (some ⟨g, 0, none⟩) n c) n ((numL n).map (Value.int .i64)) ∧ Below wx.heap.size wx w' := by
  obtain ⟨i0, hi, hz0_, hz1_, hz2_⟩ := info_parts Try.inf_int
  have HI := Lib.hid hi; have HZ0 := Lib.hid hz0_; have HZ1 := Lib.hid hz1_; have HZ2 := Lib.hid hz2_
  clear hi hz0_ hz1_ hz2_
  go_enter Try.func125, Try.ntmps125
  go_wp2
  have HO0 : Hid ((wx.alloc (Obj.cells #[] 3)).ownsRow wx.heap.size 3 1 (.slice (some ⟨wx.heap.size, 0, none⟩) 0 0) 0 ((numL 0).map (Value.int .i64))) := Lib.hid (lit_rowH rfl _ (Nat.le_refl _))
  go_loopw [5, 6] (fun o i w => ∃ (N g c : Nat), N ≤ n ∧ o = .slice (some ⟨g, 0, none⟩) N c ∧ i = .int .i64 (N : Int) ∧ Hid (w.ownsRow wx.heap.size 3 1 (.slice (some ⟨g, 0, none⟩) N c) N ((numL N).map (Value.int .i64))) ∧ Below wx.heap.size wx w) (fun _ i _ => n - (intOf i).toNat)
  case atStart => exact ⟨0, _, 0, Nat.zero_le _, rfl, rfl, HO0, (Below.refl _ _).alloc (Nat.le_refl _) _⟩
  case round =>
    clear HO0
    obtain ⟨N, g, c, hk, rfl, rfl, HOV, hbv⟩ := hrel
    have HBV := Lib.hid hbv
    clear hbv
    by_cases hlt : N < n
    case neg =>
      obtain rfl : N = n := by omega
      go_wp2
      go_ret
      exact ⟨g, c, rfl, HOV.out, HBV.out⟩
    case pos =>
    have hltI : (N : Int) < n := by omega
    go_wp2
    go_loopw [7] (fun l wr => l = .int .i64 (N : Int) ∧ Hid (wr.ownsRow wx.heap.size 3 1 (.slice (some ⟨g, 0, none⟩) N c) N ((numL N).map (Value.int .i64))) ∧ Hid (Below wx.heap.size wx wr)) (fun _ _ => 0)
    case atStart => exact ⟨rfl, HOV, HBV⟩
    case round =>
      clear HOV HBV
      obtain ⟨rfl, HOV, HBV⟩ := hrel
      have hcap : N ≤ c := by
        rcases HOV.out.2 with ⟨h9, _⟩ | ⟨g9, cap, cur, h9, _, _, h10, _⟩
        · cases h9
        · injection h9 with _ _ h11; omega
      have hcm : c ≤ 9223372036854775807 := by
        rcases HOV.out.2 with ⟨h9, _⟩ | ⟨g9, cap, cur, h9, _, _, _, h10, _⟩
        · cases h9
        · injection h9 with _ _ h11; unfold maxLen at h10; omega
      go_wp2
      go_quiet (fail)
      obtain ⟨w, hw_⟩ : ∃ w, wr.drewN nq = w := ⟨_, rfl⟩
      have HO : Hid (w.ownsRow wx.heap.size 3 1 (.slice (some ⟨g, 0, none⟩) N c) N ((numL N).map (Value.int .i64))) := Lib.hid (by rw [← hw_]; exact ownD HOV.out _)
      have HBX : Hid (Below wx.heap.size wx w) := Lib.hid (by rw [← hw_]; exact drewN_below HBV.out _)
      rw [hw_]
      clear hw_ HOV HBV
      have HBB : Hid (wx.heap.size ≤ w.heap.size) := Lib.hid HBX.out.size
      obtain ⟨L, hL⟩ : ∃ L, numL N = L := ⟨_, rfl⟩
      have HLQ : Hid (L.map (Value.int .i64) = (numL N).map (Value.int .i64)) := Lib.hid (by rw [hL])
      have HNL : Hid (L.length = N) := Lib.hid (by rw [← hL, numL_len])
      rw [hL] at HO
      clear hL
      have HLC : Hid (∀ k, k < N → w.cell? ⟨g, k, none⟩ = some (.int .i64 (L.getD k 0))) := Lib.hid (fun k hk => by
        obtain ⟨ad, hA, _, cx⟩ := ints_at (Rd.ofOwn HO.out) (k := k) (by have := HNL.out; omega)
        obtain rfl : ad = ⟨g, 0, none⟩ := (Option.some.inj hA).symm
        rw [List.getD_eq_getElem?_getD, List.getElem?_eq_getElem (by have := HNL.out; omega)]
        rw [cx0 g k] at cx; exact cx)
      have hgw : g < w.heap.size := (HO.out.lt g rfl).2
      have HCT : Hid (∀ k, k ≤ N → ∀ U : World, Below w.heap.size w U → ∀ (j : Nat) (u : Value), ((L.take k).map (Value.int .i64))[j]? = some u → U.cell? ((⟨g, 0, none⟩ : Addr).add j) = some u) := Lib.hid (fun k hk U hU j u hu => by
        have hN := HNL.out
        rw [cx0]
        have hj : j < ((L.take k).map (Value.int .i64)).length := (List.getElem?_eq_some_iff.1 hu).1
        rw [List.length_map, List.length_take] at hj
        rw [hU.cell (p := ⟨g, j, none⟩) hgw, HLC.out j (by omega)]
        rw [List.getElem?_map, List.getElem?_take_of_lt (by omega), List.getElem?_eq_getElem (by omega)] at hu
        rw [List.getD_eq_getElem?_getD, List.getElem?_eq_getElem (by omega)]
        exact hu)
      have hkcI : (N : Int) ≤ c := by omega
      have hN12 : N ≤ 12 := by omega
      by_cases hck : c = N
      case pos =>
        subst hck
        clear hcap hkcI
        go_wp2_with fail
        go_region_law (first
          | ((refine step_app (by rfl) (.tmp 39) (.tmp 42) 26 (by rfl) w.heap.size 3 i0 (.int .i64 0) 1 8 Try.underlying26 HI.out HZ0.out HZ1.out HZ2.out rfl (by decide) (.slice (some ⟨w.heap.size, 0, none⟩) 0 0) (0) ([]) (by rfl) (by first | exact lit_rowH rfl _ (Nat.le_refl _) | exact (lit_rowH rfl _ (Nat.le_refl _)).alloc _) (⟨g, 0, none⟩) (c) (c) (((L.take c).map (Value.int .i64))) (by rfl) (by rw [List.length_map, List.length_take, Nat.mul_one]; have := HNL.out; omega) (HCT.out c (Nat.le_refl _) _ (by repeat (first | assumption | exact Below.refl _ _ | refine Below.drew ?_ | refine Below.alloc ?_ (by first | exact Nat.le_refl _ | exact hb1.size | exact hb2.size | (simp; done) | (simp; omega) | (have := hb1.size; simp; omega)) _))) (news_ints _) (by unfold maxLen; omega) (by omega) (by first | exact Nat.le_refl _ | exact hb1.size | exact hb2.size | (simp; done) | (simp; omega) | (have := hb1.size; simp; omega) | (have := hb2.size; simp; omega)) ?_); intro v1 w1 hown1 hgrow1; have hb1 : Below w.heap.size w w1 := Below.grown (by repeat (first | assumption | exact Below.refl _ _ | refine Below.drew ?_ | refine Below.alloc ?_ (by first | exact Nat.le_refl _ | exact hb1.size | exact hb2.size | (simp; done) | (simp; omega) | (have := hb1.size; simp; omega)) _)) hgrow1 (by first | exact Nat.le_refl _ | exact hb1.size | exact hb2.size | (simp; done) | (simp; omega) | (have := hb1.size; simp; omega) | (have := hb2.size; simp; omega)) (fun g9 hg9 => by simp [Value.ownBlock] at hg9; omega))
          | ((refine step_app (by rfl) (.tmp 39) (.tmp 42) 26 (by rfl) w.heap.size 3 i0 (.int .i64 0) 1 8 Try.underlying26 HI.out HZ0.out HZ1.out HZ2.out rfl (by decide) (.slice (some ⟨w.heap.size + 1, 0, none⟩) 0 0) (0) ([]) (by rfl) (by exact lit_rowH (by simp) _ (by simp)) (⟨g, 0, none⟩) (c) (c) (((L.take c).map (Value.int .i64))) (by rfl) (by rw [List.length_map, List.length_take, Nat.mul_one]; have := HNL.out; omega) (HCT.out c (Nat.le_refl _) _ (by repeat (first | assumption | exact Below.refl _ _ | refine Below.drew ?_ | refine Below.alloc ?_ (by first | exact Nat.le_refl _ | exact hb1.size | exact hb2.size | (simp; done) | (simp; omega) | (have := hb1.size; simp; omega)) _))) (news_ints _) (by unfold maxLen; omega) (by omega) (by first | exact Nat.le_refl _ | exact hb1.size | exact hb2.size | (simp; done) | (simp; omega) | (have := hb1.size; simp; omega) | (have := hb2.size; simp; omega)) ?_); intro v1 w1 hown1 hgrow1; have hb1 : Below w.heap.size w w1 := Below.grown (by repeat (first | assumption | exact Below.refl _ _ | refine Below.drew ?_ | refine Below.alloc ?_ (by first | exact Nat.le_refl _ | exact hb1.size | exact hb2.size | (simp; done) | (simp; omega) | (have := hb1.size; simp; omega)) _)) hgrow1 (by first | exact Nat.le_refl _ | exact hb1.size | exact hb2.size | (simp; done) | (simp; omega) | (have := hb1.size; simp; omega) | (have := hb2.size; simp; omega)) (fun g9 hg9 => by simp [Value.ownBlock] at hg9; omega))
          | ((refine step_app (by rfl) (.tmp 43) (.tmp 45) 26 (by rfl) w.heap.size 3 i0 (.int .i64 0) 1 8 Try.underlying26 HI.out HZ0.out HZ1.out HZ2.out rfl (by decide) (v1) (0 + c) ([] ++ ((L.take c).map (Value.int .i64))) (by rfl) (hown1) (⟨w.heap.size + 1, 0, none⟩) (1) (1) ([Value.int .i64 (c : Int)]) (by rfl) (rfl) (one_at (far_at hgrow1 (new_at_ _ _ _ _ (by simp)) (by first | (simp; done) | (simp; omega)) (by simp [Value.ownBlock]))) (news_int _) (by unfold maxLen; omega) (by omega) (by first | exact Nat.le_refl _ | exact hb1.size | exact hb2.size | (simp; done) | (simp; omega) | (have := hb1.size; simp; omega) | (have := hb2.size; simp; omega)) ?_); intro v2 w2 hown2 hgrow2; have hb2 : Below w.heap.size w w2 := Below.grown (by repeat (first | assumption | exact Below.refl _ _ | refine Below.drew ?_ | refine Below.alloc ?_ (by first | exact Nat.le_refl _ | exact hb1.size | exact hb2.size | (simp; done) | (simp; omega) | (have := hb1.size; simp; omega)) _)) hgrow2 (by first | exact Nat.le_refl _ | exact hb1.size | exact hb2.size | (simp; done) | (simp; omega) | (have := hb1.size; simp; omega) | (have := hb2.size; simp; omega)) (fun g9 hg9 => (hown1.lt g9 hg9).1))
          | ((refine step_app (by rfl) (.tmp 43) (.tmp 45) 26 (by rfl) w.heap.size 3 i0 (.int .i64 0) 1 8 Try.underlying26 HI.out HZ0.out HZ1.out HZ2.out rfl (by decide) (v1) (0 + c) ([] ++ ((L.take c).map (Value.int .i64))) (by rfl) (hown1) (⟨w.heap.size, 0, none⟩) (1) (1) ([Value.int .i64 (c : Int)]) (by rfl) (rfl) (one_at (far_at hgrow1 (by simp [go_sem]) (by first | (simp; done) | (simp; omega)) (by simp [Value.ownBlock]))) (news_int _) (by unfold maxLen; omega) (by omega) (by first | exact Nat.le_refl _ | exact hb1.size | exact hb2.size | (simp; done) | (simp; omega) | (have := hb1.size; simp; omega) | (have := hb2.size; simp; omega)) ?_); intro v2 w2 hown2 hgrow2; have hb2 : Below w.heap.size w w2 := Below.grown (by repeat (first | assumption | exact Below.refl _ _ | refine Below.drew ?_ | refine Below.alloc ?_ (by first | exact Nat.le_refl _ | exact hb1.size | exact hb2.size | (simp; done) | (simp; omega) | (have := hb1.size; simp; omega)) _)) hgrow2 (by first | exact Nat.le_refl _ | exact hb1.size | exact hb2.size | (simp; done) | (simp; omega) | (have := hb1.size; simp; omega) | (have := hb2.size; simp; omega)) (fun g9 hg9 => (hown1.lt g9 hg9).1))
          | ((refine step_app (by rfl) (.tmp 43) (.tmp 45) 26 (by rfl) w.heap.size 3 i0 (.int .i64 0) 1 8 Try.underlying26 HI.out HZ0.out HZ1.out HZ2.out rfl (by decide) (v1) (0 + c) ([] ++ ((L.take c).map (Value.int .i64))) (by rfl) (hown1.alloc _) (⟨w1.heap.size, 0, none⟩) (1) (1) ([Value.int .i64 (c : Int)]) (by rfl) (rfl) (one_at (new_at_ _ _ _ _ rfl)) (news_int _) (by unfold maxLen; omega) (by omega) (by first | exact Nat.le_refl _ | exact hb1.size | exact hb2.size | (simp; done) | (simp; omega) | (have := hb1.size; simp; omega) | (have := hb2.size; simp; omega)) ?_); intro v2 w2 hown2 hgrow2; have hb2 : Below w.heap.size w w2 := Below.grown (by repeat (first | assumption | exact Below.refl _ _ | refine Below.drew ?_ | refine Below.alloc ?_ (by first | exact Nat.le_refl _ | exact hb1.size | exact hb2.size | (simp; done) | (simp; omega) | (have := hb1.size; simp; omega)) _)) hgrow2 (by first | exact Nat.le_refl _ | exact hb1.size | exact hb2.size | (simp; done) | (simp; omega) | (have := hb1.size; simp; omega) | (have := hb2.size; simp; omega)) (fun g9 hg9 => (hown1.lt g9 hg9).1))
          | ((refine step_app (by rfl) (.tmp 46) (.tmp 49) 26 (by rfl) w.heap.size 3 i0 (.int .i64 0) 1 8 Try.underlying26 HI.out HZ0.out HZ1.out HZ2.out rfl (by decide) (v2) (0 + c + 1) (([] ++ ((L.take c).map (Value.int .i64))) ++ [Value.int .i64 (c : Int)]) (by rfl) (hown2) (⟨g, 0, none⟩) (0) (0) ([]) (by rfl) (rfl) (fun j u hu => by simp at hu) (fun u hu => by simp at hu) (by unfold maxLen; omega) (by omega) (by first | exact Nat.le_refl _ | exact hb1.size | exact hb2.size | (simp; done) | (simp; omega) | (have := hb1.size; simp; omega) | (have := hb2.size; simp; omega)) ?_); intro v3 w3 hown3 hgrow3; have hb3 : Below w.heap.size w w3 := Below.grown (by repeat (first | assumption | exact Below.refl _ _ | refine Below.drew ?_ | refine Below.alloc ?_ (by first | exact Nat.le_refl _ | exact hb1.size | exact hb2.size | (simp; done) | (simp; omega) | (have := hb1.size; simp; omega)) _)) hgrow3 (by first | exact Nat.le_refl _ | exact hb1.size | exact hb2.size | (simp; done) | (simp; omega) | (have := hb1.size; simp; omega) | (have := hb2.size; simp; omega)) (fun g9 hg9 => (hown2.lt g9 hg9).1); obtain ⟨A3, c3, rfl⟩ := formOf hown3; obtain ⟨g3, rfl⟩ := own_some hown3 (by omega))
          | ((refine step_app (by rfl) (.tmp 46) (.tmp 49) 26 (by rfl) w.heap.size 3 i0 (.int .i64 0) 1 8 Try.underlying26 HI.out HZ0.out HZ1.out HZ2.out rfl (by decide) (v2) (0 + c + 1) (([] ++ ((L.take c).map (Value.int .i64))) ++ [Value.int .i64 (c : Int)]) (by rfl) (hown2) (⟨g, c, none⟩) (0) (0) ([]) (by rfl) (rfl) (fun j u hu => by simp at hu) (fun u hu => by simp at hu) (by unfold maxLen; omega) (by omega) (by first | exact Nat.le_refl _ | exact hb1.size | exact hb2.size | (simp; done) | (simp; omega) | (have := hb1.size; simp; omega) | (have := hb2.size; simp; omega)) ?_); intro v3 w3 hown3 hgrow3; have hb3 : Below w.heap.size w w3 := Below.grown (by repeat (first | assumption | exact Below.refl _ _ | refine Below.drew ?_ | refine Below.alloc ?_ (by first | exact Nat.le_refl _ | exact hb1.size | exact hb2.size | (simp; done) | (simp; omega) | (have := hb1.size; simp; omega)) _)) hgrow3 (by first | exact Nat.le_refl _ | exact hb1.size | exact hb2.size | (simp; done) | (simp; omega) | (have := hb1.size; simp; omega) | (have := hb2.size; simp; omega)) (fun g9 hg9 => (hown2.lt g9 hg9).1); obtain ⟨A3, c3, rfl⟩ := formOf hown3; obtain ⟨g3, rfl⟩ := own_some hown3 (by omega)))
        all_goals
          have HO3 : Hid (w3.ownsRow wx.heap.size 3 1 (.slice (some ⟨g3, 0, none⟩) (c + 1) c3) (c + 1) ((numL (c + 1)).map (Value.int .i64))) := Lib.hid (by
            have h9 := own_base hown3 HBB.out
            rw [numL_snoc, List.map_append]
            rw [List.take_of_length_le (by have := HNL.out; omega), List.nil_append, List.append_nil, HLQ.out] at h9
            simpa using h9)
          have HB3 : Hid (Below wx.heap.size wx w3) := Lib.hid (HBX.out.trans (hb3.mono HBB.out))
          clear hown1 hgrow1 hown2 hgrow2 hown3 hgrow3
          go_wp2_with fail
          go_roundw
          case rel => exact ⟨c + 1, g3, c3, by omega, by first | rfl | (congr 1 <;> simp <;> omega), by go_num, HO3, HB3.out⟩
          case measure => simp [intOf]; omega
      case neg =>
        go_wp2_with fail
        go_region_law (first
          | ((refine step_app (by rfl) (.tmp 39) (.tmp 42) 26 (by rfl) w.heap.size 3 i0 (.int .i64 0) 1 8 Try.underlying26 HI.out HZ0.out HZ1.out HZ2.out rfl (by decide) (.slice (some ⟨w.heap.size, 0, none⟩) 0 0) (0) ([]) (by rfl) (by first | exact lit_rowH rfl _ (Nat.le_refl _) | exact (lit_rowH rfl _ (Nat.le_refl _)).alloc _) (⟨g, 0, none⟩) (N) (c) (((L.take N).map (Value.int .i64))) (by rfl) (by rw [List.length_map, List.length_take, Nat.mul_one]; have := HNL.out; omega) (HCT.out N (Nat.le_refl _) _ (by repeat (first | assumption | exact Below.refl _ _ | refine Below.drew ?_ | refine Below.alloc ?_ (by first | exact Nat.le_refl _ | exact hb1.size | exact hb2.size | (simp; done) | (simp; omega) | (have := hb1.size; simp; omega)) _))) (news_ints _) (by unfold maxLen; omega) (by omega) (by first | exact Nat.le_refl _ | exact hb1.size | exact hb2.size | (simp; done) | (simp; omega) | (have := hb1.size; simp; omega) | (have := hb2.size; simp; omega)) ?_); intro v1 w1 hown1 hgrow1; have hb1 : Below w.heap.size w w1 := Below.grown (by repeat (first | assumption | exact Below.refl _ _ | refine Below.drew ?_ | refine Below.alloc ?_ (by first | exact Nat.le_refl _ | exact hb1.size | exact hb2.size | (simp; done) | (simp; omega) | (have := hb1.size; simp; omega)) _)) hgrow1 (by first | exact Nat.le_refl _ | exact hb1.size | exact hb2.size | (simp; done) | (simp; omega) | (have := hb1.size; simp; omega) | (have := hb2.size; simp; omega)) (fun g9 hg9 => by simp [Value.ownBlock] at hg9; omega))
          | ((refine step_app (by rfl) (.tmp 39) (.tmp 42) 26 (by rfl) w.heap.size 3 i0 (.int .i64 0) 1 8 Try.underlying26 HI.out HZ0.out HZ1.out HZ2.out rfl (by decide) (.slice (some ⟨w.heap.size + 1, 0, none⟩) 0 0) (0) ([]) (by rfl) (by exact lit_rowH (by simp) _ (by simp)) (⟨g, 0, none⟩) (N) (c) (((L.take N).map (Value.int .i64))) (by rfl) (by rw [List.length_map, List.length_take, Nat.mul_one]; have := HNL.out; omega) (HCT.out N (Nat.le_refl _) _ (by repeat (first | assumption | exact Below.refl _ _ | refine Below.drew ?_ | refine Below.alloc ?_ (by first | exact Nat.le_refl _ | exact hb1.size | exact hb2.size | (simp; done) | (simp; omega) | (have := hb1.size; simp; omega)) _))) (news_ints _) (by unfold maxLen; omega) (by omega) (by first | exact Nat.le_refl _ | exact hb1.size | exact hb2.size | (simp; done) | (simp; omega) | (have := hb1.size; simp; omega) | (have := hb2.size; simp; omega)) ?_); intro v1 w1 hown1 hgrow1; have hb1 : Below w.heap.size w w1 := Below.grown (by repeat (first | assumption | exact Below.refl _ _ | refine Below.drew ?_ | refine Below.alloc ?_ (by first | exact Nat.le_refl _ | exact hb1.size | exact hb2.size | (simp; done) | (simp; omega) | (have := hb1.size; simp; omega)) _)) hgrow1 (by first | exact Nat.le_refl _ | exact hb1.size | exact hb2.size | (simp; done) | (simp; omega) | (have := hb1.size; simp; omega) | (have := hb2.size; simp; omega)) (fun g9 hg9 => by simp [Value.ownBlock] at hg9; omega))
          | ((refine step_app (by rfl) (.tmp 43) (.tmp 45) 26 (by rfl) w.heap.size 3 i0 (.int .i64 0) 1 8 Try.underlying26 HI.out HZ0.out HZ1.out HZ2.out rfl (by decide) (v1) (0 + N) ([] ++ ((L.take N).map (Value.int .i64))) (by rfl) (hown1) (⟨w.heap.size + 1, 0, none⟩) (1) (1) ([Value.int .i64 (N : Int)]) (by rfl) (rfl) (one_at (far_at hgrow1 (new_at_ _ _ _ _ (by simp)) (by first | (simp; done) | (simp; omega)) (by simp [Value.ownBlock]))) (news_int _) (by unfold maxLen; omega) (by omega) (by first | exact Nat.le_refl _ | exact hb1.size | exact hb2.size | (simp; done) | (simp; omega) | (have := hb1.size; simp; omega) | (have := hb2.size; simp; omega)) ?_); intro v2 w2 hown2 hgrow2; have hb2 : Below w.heap.size w w2 := Below.grown (by repeat (first | assumption | exact Below.refl _ _ | refine Below.drew ?_ | refine Below.alloc ?_ (by first | exact Nat.le_refl _ | exact hb1.size | exact hb2.size | (simp; done) | (simp; omega) | (have := hb1.size; simp; omega)) _)) hgrow2 (by first | exact Nat.le_refl _ | exact hb1.size | exact hb2.size | (simp; done) | (simp; omega) | (have := hb1.size; simp; omega) | (have := hb2.size; simp; omega)) (fun g9 hg9 => (hown1.lt g9 hg9).1))
          | ((refine step_app (by rfl) (.tmp 43) (.tmp 45) 26 (by rfl) w.heap.size 3 i0 (.int .i64 0) 1 8 Try.underlying26 HI.out HZ0.out HZ1.out HZ2.out rfl (by decide) (v1) (0 + N) ([] ++ ((L.take N).map (Value.int .i64))) (by rfl) (hown1) (⟨w.heap.size, 0, none⟩) (1) (1) ([Value.int .i64 (N : Int)]) (by rfl) (rfl) (one_at (far_at hgrow1 (by simp [go_sem]) (by first | (simp; done) | (simp; omega)) (by simp [Value.ownBlock]))) (news_int _) (by unfold maxLen; omega) (by omega) (by first | exact Nat.le_refl _ | exact hb1.size | exact hb2.size | (simp; done) | (simp; omega) | (have := hb1.size; simp; omega) | (have := hb2.size; simp; omega)) ?_); intro v2 w2 hown2 hgrow2; have hb2 : Below w.heap.size w w2 := Below.grown (by repeat (first | assumption | exact Below.refl _ _ | refine Below.drew ?_ | refine Below.alloc ?_ (by first | exact Nat.le_refl _ | exact hb1.size | exact hb2.size | (simp; done) | (simp; omega) | (have := hb1.size; simp; omega)) _)) hgrow2 (by first | exact Nat.le_refl _ | exact hb1.size | exact hb2.size | (simp; done) | (simp; omega) | (have := hb1.size; simp; omega) | (have := hb2.size; simp; omega)) (fun g9 hg9 => (hown1.lt g9 hg9).1))
          | ((refine step_app (by rfl) (.tmp 43) (.tmp 45) 26 (by rfl) w.heap.size 3 i0 (.int .i64 0) 1 8 Try.underlying26 HI.out HZ0.out HZ1.out HZ2.out rfl (by decide) (v1) (0 + N) ([] ++ ((L.take N).map (Value.int .i64))) (by rfl) (hown1.alloc _) (⟨w1.heap.size, 0, none⟩) (1) (1) ([Value.int .i64 (N : Int)]) (by rfl) (rfl) (one_at (new_at_ _ _ _ _ rfl)) (news_int _) (by unfold maxLen; omega) (by omega) (by first | exact Nat.le_refl _ | exact hb1.size | exact hb2.size | (simp; done) | (simp; omega) | (have := hb1.size; simp; omega) | (have := hb2.size; simp; omega)) ?_); intro v2 w2 hown2 hgrow2; have hb2 : Below w.heap.size w w2 := Below.grown (by repeat (first | assumption | exact Below.refl _ _ | refine Below.drew ?_ | refine Below.alloc ?_ (by first | exact Nat.le_refl _ | exact hb1.size | exact hb2.size | (simp; done) | (simp; omega) | (have := hb1.size; simp; omega)) _)) hgrow2 (by first | exact Nat.le_refl _ | exact hb1.size | exact hb2.size | (simp; done) | (simp; omega) | (have := hb1.size; simp; omega) | (have := hb2.size; simp; omega)) (fun g9 hg9 => (hown1.lt g9 hg9).1))
          | ((refine step_app (by rfl) (.tmp 46) (.tmp 49) 26 (by rfl) w.heap.size 3 i0 (.int .i64 0) 1 8 Try.underlying26 HI.out HZ0.out HZ1.out HZ2.out rfl (by decide) (v2) (0 + N + 1) (([] ++ ((L.take N).map (Value.int .i64))) ++ [Value.int .i64 (N : Int)]) (by rfl) (hown2) (⟨g, N, none⟩) (0) (c - N) ([]) (by rfl) (rfl) (fun j u hu => by simp at hu) (fun u hu => by simp at hu) (by unfold maxLen; omega) (by omega) (by first | exact Nat.le_refl _ | exact hb1.size | exact hb2.size | (simp; done) | (simp; omega) | (have := hb1.size; simp; omega) | (have := hb2.size; simp; omega)) ?_); intro v3 w3 hown3 hgrow3; have hb3 : Below w.heap.size w w3 := Below.grown (by repeat (first | assumption | exact Below.refl _ _ | refine Below.drew ?_ | refine Below.alloc ?_ (by first | exact Nat.le_refl _ | exact hb1.size | exact hb2.size | (simp; done) | (simp; omega) | (have := hb1.size; simp; omega)) _)) hgrow3 (by first | exact Nat.le_refl _ | exact hb1.size | exact hb2.size | (simp; done) | (simp; omega) | (have := hb1.size; simp; omega) | (have := hb2.size; simp; omega)) (fun g9 hg9 => (hown2.lt g9 hg9).1); obtain ⟨A3, c3, rfl⟩ := formOf hown3; obtain ⟨g3, rfl⟩ := own_some hown3 (by omega)))
        all_goals
          have HO3 : Hid (w3.ownsRow wx.heap.size 3 1 (.slice (some ⟨g3, 0, none⟩) (N + 1) c3) (N + 1) ((numL (N + 1)).map (Value.int .i64))) := Lib.hid (by
            have h9 := own_base hown3 HBB.out
            rw [numL_snoc, List.map_append]
            rw [List.take_of_length_le (by have := HNL.out; omega), List.nil_append, List.append_nil, HLQ.out] at h9
            simpa using h9)
          have HB3 : Hid (Below wx.heap.size wx w3) := Lib.hid (HBX.out.trans (hb3.mono HBB.out))
          clear hown1 hgrow1 hown2 hgrow2 hown3 hgrow3
          go_wp2_with fail
          go_roundw
          case rel => exact ⟨N + 1, g3, c3, by omega, by first | rfl | (congr 1 <;> simp <;> omega), by go_num, HO3, HB3.out⟩
          case measure => simp [intOf]; omega
end Go.Proofs.Ytlgkjidginibdaa
