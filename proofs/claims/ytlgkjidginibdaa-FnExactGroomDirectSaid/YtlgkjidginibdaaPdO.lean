/- First fit in descending order: contracts of spec.l18Order and spec.PackDescending. No condition but those typed. -/
import Derived.Test.YtlgkjidginibdaaPdS
import Derived.Test.YtlgkjidginibdaaFfO
namespace Go.Proofs.Ytlgkjidginibdaa
open Go.ChangeShapes Go.WideShapes Go.ChangeAt Go.RowKit

theorem ordD_step {L : List Int} {N j : Nat} (h : posD L (ordD L N) (L.getD N 0) N = j) : ordD L (N + 1) = (ordD L N).take j ++ (N : Int) :: (ordD L N).drop j := by
  rw [← h]; rfl
set_option maxRecDepth 100000 in
set_option maxHeartbeats 8000000 in
theorem l18OrderD_ {A : Option Addr} {n c0 : Nat} {Lr : List Int} {wx : World} (hs : n ≤ 12) (hn : Lr.length = n) (hr : Rd wx wx.heap.size A (Lr.map (Value.int .i64))) :
    Calls Try.prog 125 #[.slice A n c0, .bool true] wx fun e w' => ∃ g c, e = .returned (.slice (some ⟨g, 0, none⟩) n c) ∧ w'.ownsRow wx.heap.size 3 1 (.slice (some ⟨g, 0, none⟩) n c) n ((ordD Lr n).map (Value.int .i64)) ∧ Below wx.heap.size wx w' := by
  have HN := Lib.hid hn; have HR := Lib.hid hr
  clear hn hr
  obtain ⟨i0, hi, hz0_, hz1_, hz2_⟩ := info_parts Try.inf_int
  have HI := Lib.hid hi; have HZ0 := Lib.hid hz0_; have HZ1 := Lib.hid hz1_; have HZ2 := Lib.hid hz2_
  clear hi hz0_ hz1_ hz2_
  go_enter Try.func125, Try.ntmps125
  go_wp2
  have HO0 : Hid ((wx.alloc (Obj.cells #[] 3)).ownsRow wx.heap.size 3 1 (.slice (some ⟨wx.heap.size, 0, none⟩) 0 0) 0 ((ordD Lr 0).map (Value.int .i64))) := Lib.hid (lit_rowH rfl _ (Nat.le_refl _))
  go_loopw [5, 6] (fun o i w => ∃ (N g c : Nat), N ≤ n ∧ o = .slice (some ⟨g, 0, none⟩) N c ∧ i = .int .i64 (N : Int) ∧ Hid (w.ownsRow wx.heap.size 3 1 (.slice (some ⟨g, 0, none⟩) N c) N ((ordD Lr N).map (Value.int .i64))) ∧ Below wx.heap.size wx w) (fun _ i _ => n - (intOf i).toNat)
  case atStart => exact ⟨0, _, 0, Nat.zero_le _, rfl, rfl, HO0, (Below.refl _ _).alloc (Nat.le_refl _) _⟩
  case round =>
    clear HO0
    obtain ⟨N, g, c, hk, rfl, rfl, HOV, hbv⟩ := hrel
    have HBV := Lib.hid hbv
    clear hbv
    by_cases hlt : N < n
    case neg =>
      obtain rfl : N = n := by omega
      go_wp2
      go_ret
      exact ⟨g, c, rfl, HOV.out, HBV.out⟩
    case pos =>
    have hltI : (N : Int) < n := by omega
    obtain ⟨ad, rfl, _, _⟩ := ints_at HR.out (k := N) (by have := HN.out; omega)
    obtain ⟨L, hL⟩ : ∃ L, ordD Lr N = L := ⟨_, rfl⟩
    have HLO := Lib.hid hL
    have HNL : Hid (L.length = N) := Lib.hid (by rw [← hL, ordD_len])
    have HOK : Hid (ordP N L) := Lib.hid (by rw [← hL]; exact ordD_ok Lr N)
    rw [hL] at HOV
    clear hL
    obtain ⟨y, hy⟩ : ∃ y, Lr.getD N 0 = y := ⟨_, rfl⟩
    have HY := Lib.hid hy
    have HRC : Hid (∀ k, k < n → ∀ U, Below wx.heap.size wx U → U.cell? (ad.add k) = some (.int .i64 (Lr.getD k 0))) := Lib.hid (fun k hk U hU => by
      obtain ⟨ad', h9, _, cx⟩ := ints_at (HR.out.moved hU) (k := k) (by have := HN.out; omega)
      obtain rfl := Option.some.inj h9
      rw [List.getD_eq_getElem?_getD, List.getElem?_eq_getElem (by have := HN.out; omega)]
      exact cx)
    clear hy
    go_wp2
    go_loopw [7] (fun l wr => ∃ jj : Nat, jj ≤ N ∧ l = .int .i64 (jj : Int) ∧ Hid (∀ t, jj ≤ t → t < N → Lr.getD (ix L t) 0 < y) ∧ Hid (wr.ownsRow wx.heap.size 3 1 (.slice (some ⟨g, 0, none⟩) N c) N (L.map (Value.int .i64))) ∧ Hid (Below wx.heap.size wx wr)) (fun l _ => (intOf l).toNat)
    case atStart => exact ⟨N, Nat.le_refl _, rfl, Lib.hid (fun t h1 h2 => absurd h2 (by omega)), HOV, HBV⟩
    case round =>
      clear HOV HBV
      obtain ⟨jj, hjN, rfl, HALL, HOV, HBV⟩ := hrel
      have hcap : N ≤ c := by
        rcases HOV.out.2 with ⟨h9, _⟩ | ⟨g9, cap, cur, h9, _, _, h10, _⟩
        · cases h9
        · injection h9 with _ _ h11; omega
      have hcm : c ≤ 9223372036854775807 := by
        rcases HOV.out.2 with ⟨h9, _⟩ | ⟨g9, cap, cur, h9, _, _, _, h10, _⟩
        · cases h9
        · injection h9 with _ _ h11; unfold maxLen at h10; omega
      -- the test: a place further left, or here
      by_cases hgo : 0 < jj ∧ Lr.getD (ix L (jj - 1)) 0 < y
      case pos =>
        obtain ⟨hjp, hls⟩ := hgo
        obtain ⟨jp, rfl⟩ : ∃ jp, jj = jp + 1 := ⟨jj - 1, by omega⟩
        rw [Nat.add_sub_cancel] at hls
        obtain ⟨hio, hoj⟩ := HOK.out.at_ (k := jp) (by omega)
        have HALL2 : Hid (∀ t, jp ≤ t → t < N → Lr.getD (ix L t) 0 < y) := Lib.hid (fun t h1 h2 => by
          by_cases e : t = jp
          · rw [e]; exact hls
          · exact HALL.out t (by omega) h2)
        obtain ⟨o, ho9⟩ : ∃ o, ix L jp = o := ⟨_, rfl⟩
        rw [ho9] at hio hoj hls
        have c1 := HOV.out.cellAt jp (by omega)
        rw [List.getElem?_map, hoj] at c1
        simp only [Option.map_some] at c1
        have c2 := HRC.out o (by omega) wr HBV.out
        have c3 := HRC.out N hlt wr HBV.out
        rw [HY.out] at c3
        obtain ⟨x, hx⟩ : ∃ x, Lr.getD o 0 = x := ⟨_, rfl⟩
        rw [hx] at c2 hls
        have hgw : g < wr.heap.size := (HOV.out.lt g rfl).2
        have hoI : (o : Int) < (n : Int) := by omega
        have hjI : (jp : Int) < (N : Int) := by omega
        have hls2 : decide (x < y) = true := decide_eq_true hls
        have hwp : IntKind.i64.wrap (jp : Int) = (jp : Int) := by rw [IntKind.wrap_i64]; omega
        clear ho9 hoj hx
        go_wp2_with fail
        go_quiet (fail)
        go_wp2
        go_roundw
        case rel => exact ⟨jp, by omega, by go_num, HALL2, Lib.hid (ownD HOV.out _), Lib.hid (drewN_below HBV.out _)⟩
        case measure => simp [intOf]
      case neg =>
      have HSTP : Hid (ordD Lr (N + 1) = L.take jj ++ (N : Int) :: L.drop jj) := Lib.hid (by
        have h9 := ordD_step (L := Lr) (N := N) (j := jj) (by
          rw [HLO.out, HY.out]
          exact posD_is hjN (fun t h1 h2 => HALL.out t h1 h2) (fun h => fun h2 => hgo ⟨h, h2⟩))
        rw [HLO.out] at h9; exact h9)
      have HGO := Lib.hid hgo
      clear hgo
      by_cases hj0 : 0 < jj
      case neg =>
        have hd0 : decide ((0 : Int) < (jj : Int)) = false := decide_eq_false (by omega)
        have hd1 : decide ((jj : Int) > 0) = false := hd0
        have hd2 : decide (0 < jj) = false := decide_eq_false hj0
        go_wp2_with fail
        go_quiet (fail)
        clear hd0 hd1 hd2 hj0
        obtain ⟨w, hw_⟩ : ∃ w, wr.drewN nq = w := ⟨_, rfl⟩
        have HO : Hid (w.ownsRow wx.heap.size 3 1 (.slice (some ⟨g, 0, none⟩) N c) N (L.map (Value.int .i64))) := Lib.hid (by rw [← hw_]; exact ownD HOV.out _)
        have HBX : Hid (Below wx.heap.size wx w) := Lib.hid (by rw [← hw_]; exact drewN_below HBV.out _)
        rw [hw_]
        clear hw_ HOV HBV
        have HBB : Hid (wx.heap.size ≤ w.heap.size) := Lib.hid HBX.out.size
        have HLC : Hid (∀ k, k < N → w.cell? ⟨g, k, none⟩ = some (.int .i64 (L.getD k 0))) := Lib.hid (fun k hk => by
          obtain ⟨ad, hA, _, cx⟩ := ints_at (Rd.ofOwn HO.out) (k := k) (by have := HNL.out; omega)
          obtain rfl : ad = ⟨g, 0, none⟩ := (Option.some.inj hA).symm
          rw [List.getD_eq_getElem?_getD, List.getElem?_eq_getElem (by have := HNL.out; omega)]
          rw [cx0 g k] at cx; exact cx)
        have hgw : g < w.heap.size := (HO.out.lt g rfl).2
        have HCT : Hid (∀ k, k ≤ N → ∀ U : World, Below w.heap.size w U → ∀ (j : Nat) (u : Value), ((L.take k).map (Value.int .i64))[j]? = some u → U.cell? ((⟨g, 0, none⟩ : Addr).add j) = some u) := Lib.hid (fun k hk U hU j u hu => by
          have hN := HNL.out
          rw [cx0]
          have hj : j < ((L.take k).map (Value.int .i64)).length := (List.getElem?_eq_some_iff.1 hu).1
          rw [List.length_map, List.length_take] at hj
          rw [hU.cell (p := ⟨g, j, none⟩) hgw, HLC.out j (by omega)]
          rw [List.getElem?_map, List.getElem?_take_of_lt (by omega), List.getElem?_eq_getElem (by omega)] at hu
          rw [List.getD_eq_getElem?_getD, List.getElem?_eq_getElem (by omega)]
          exact hu)
        have HCD : Hid (∀ k, k ≤ N → ∀ U : World, Below w.heap.size w U → ∀ (j : Nat) (u : Value), ((L.drop k).map (Value.int .i64))[j]? = some u → U.cell? ((⟨g, k, none⟩ : Addr).add j) = some u) := Lib.hid (fun k hk U hU j u hu => by
          have hN := HNL.out
          rw [cxk]
          have hj : j < ((L.drop k).map (Value.int .i64)).length := (List.getElem?_eq_some_iff.1 hu).1
          rw [List.length_map, List.length_drop] at hj
          rw [hU.cell (p := ⟨g, k + j, none⟩) hgw, HLC.out (k + j) (by omega)]
          rw [List.getElem?_map, List.getElem?_drop, List.getElem?_eq_getElem (by omega)] at hu
          rw [List.getD_eq_getElem?_getD, List.getElem?_eq_getElem (by omega)]
          exact hu)
        have hkcI : (N : Int) ≤ c := by omega
        have hN12 : N ≤ 12 := by omega
        by_cases hjl : jj < N
        case pos =>
          have hck : ¬ c = jj := by omega
          have hjcI : (jj : Int) ≤ c := by omega
          have hjNI : (jj : Int) ≤ N := by omega
          go_wp2_with fail
          go_region_law (first
            | ((refine step_app (by rfl) (.tmp 39) (.tmp 42) 26 (by rfl) w.heap.size 3 i0 (.int .i64 0) 1 8 Try.underlying26 HI.out HZ0.out HZ1.out HZ2.out rfl (by decide) (.slice (some ⟨w.heap.size, 0, none⟩) 0 0) (0) ([]) (by rfl) (by first | exact lit_rowH rfl _ (Nat.le_refl _) | exact (lit_rowH rfl _ (Nat.le_refl _)).alloc _) (⟨g, 0, none⟩) (jj) (c) (((L.take jj).map (Value.int .i64))) (by rfl) (by rw [List.length_map, List.length_take, Nat.mul_one]; have := HNL.out; omega) (HCT.out jj hjN _ (by repeat (first | assumption | exact Below.refl _ _ | refine Below.drew ?_ | refine Below.alloc ?_ (by first | exact Nat.le_refl _ | exact hb1.size | exact hb2.size | (simp; done) | (simp; omega) | (have := hb1.size; simp; omega)) _))) (news_ints _) (by unfold maxLen; omega) (by omega) (by first | exact Nat.le_refl _ | exact hb1.size | exact hb2.size | (simp; done) | (simp; omega) | (have := hb1.size; simp; omega) | (have := hb2.size; simp; omega)) ?_); intro v1 w1 hown1 hgrow1; have hb1 : Below w.heap.size w w1 := Below.grown (by repeat (first | assumption | exact Below.refl _ _ | refine Below.drew ?_ | refine Below.alloc ?_ (by first | exact Nat.le_refl _ | exact hb1.size | exact hb2.size | (simp; done) | (simp; omega) | (have := hb1.size; simp; omega)) _)) hgrow1 (by first | exact Nat.le_refl _ | exact hb1.size | exact hb2.size | (simp; done) | (simp; omega) | (have := hb1.size; simp; omega) | (have := hb2.size; simp; omega)) (fun g9 hg9 => by simp [Value.ownBlock] at hg9; omega))
            | ((refine step_app (by rfl) (.tmp 39) (.tmp 42) 26 (by rfl) w.heap.size 3 i0 (.int .i64 0) 1 8 Try.underlying26 HI.out HZ0.out HZ1.out HZ2.out rfl (by decide) (.slice (some ⟨w.heap.size + 1, 0, none⟩) 0 0) (0) ([]) (by rfl) (by exact lit_rowH (by simp) _ (by simp)) (⟨g, 0, none⟩) (jj) (c) (((L.take jj).map (Value.int .i64))) (by rfl) (by rw [List.length_map, List.length_take, Nat.mul_one]; have := HNL.out; omega) (HCT.out jj hjN _ (by repeat (first | assumption | exact Below.refl _ _ | refine Below.drew ?_ | refine Below.alloc ?_ (by first | exact Nat.le_refl _ | exact hb1.size | exact hb2.size | (simp; done) | (simp; omega) | (have := hb1.size; simp; omega)) _))) (news_ints _) (by unfold maxLen; omega) (by omega) (by first | exact Nat.le_refl _ | exact hb1.size | exact hb2.size | (simp; done) | (simp; omega) | (have := hb1.size; simp; omega) | (have := hb2.size; simp; omega)) ?_); intro v1 w1 hown1 hgrow1; have hb1 : Below w.heap.size w w1 := Below.grown (by repeat (first | assumption | exact Below.refl _ _ | refine Below.drew ?_ | refine Below.alloc ?_ (by first | exact Nat.le_refl _ | exact hb1.size | exact hb2.size | (simp; done) | (simp; omega) | (have := hb1.size; simp; omega)) _)) hgrow1 (by first | exact Nat.le_refl _ | exact hb1.size | exact hb2.size | (simp; done) | (simp; omega) | (have := hb1.size; simp; omega) | (have := hb2.size; simp; omega)) (fun g9 hg9 => by simp [Value.ownBlock] at hg9; omega))
            | ((refine step_app (by rfl) (.tmp 43) (.tmp 45) 26 (by rfl) w.heap.size 3 i0 (.int .i64 0) 1 8 Try.underlying26 HI.out HZ0.out HZ1.out HZ2.out rfl (by decide) (v1) (0 + jj) ([] ++ ((L.take jj).map (Value.int .i64))) (by rfl) (hown1) (⟨w.heap.size + 1, 0, none⟩) (1) (1) ([Value.int .i64 (N : Int)]) (by rfl) (rfl) (one_at (far_at hgrow1 (new_at_ _ _ _ _ (by simp)) (by first | (simp; done) | (simp; omega)) (by simp [Value.ownBlock]))) (news_int _) (by unfold maxLen; omega) (by omega) (by first | exact Nat.le_refl _ | exact hb1.size | exact hb2.size | (simp; done) | (simp; omega) | (have := hb1.size; simp; omega) | (have := hb2.size; simp; omega)) ?_); intro v2 w2 hown2 hgrow2; have hb2 : Below w.heap.size w w2 := Below.grown (by repeat (first | assumption | exact Below.refl _ _ | refine Below.drew ?_ | refine Below.alloc ?_ (by first | exact Nat.le_refl _ | exact hb1.size | exact hb2.size | (simp; done) | (simp; omega) | (have := hb1.size; simp; omega)) _)) hgrow2 (by first | exact Nat.le_refl _ | exact hb1.size | exact hb2.size | (simp; done) | (simp; omega) | (have := hb1.size; simp; omega) | (have := hb2.size; simp; omega)) (fun g9 hg9 => (hown1.lt g9 hg9).1))
            | ((refine step_app (by rfl) (.tmp 43) (.tmp 45) 26 (by rfl) w.heap.size 3 i0 (.int .i64 0) 1 8 Try.underlying26 HI.out HZ0.out HZ1.out HZ2.out rfl (by decide) (v1) (0 + jj) ([] ++ ((L.take jj).map (Value.int .i64))) (by rfl) (hown1) (⟨w.heap.size, 0, none⟩) (1) (1) ([Value.int .i64 (N : Int)]) (by rfl) (rfl) (one_at (far_at hgrow1 (by simp [go_sem]) (by first | (simp; done) | (simp; omega)) (by simp [Value.ownBlock]))) (news_int _) (by unfold maxLen; omega) (by omega) (by first | exact Nat.le_refl _ | exact hb1.size | exact hb2.size | (simp; done) | (simp; omega) | (have := hb1.size; simp; omega) | (have := hb2.size; simp; omega)) ?_); intro v2 w2 hown2 hgrow2; have hb2 : Below w.heap.size w w2 := Below.grown (by repeat (first | assumption | exact Below.refl _ _ | refine Below.drew ?_ | refine Below.alloc ?_ (by first | exact Nat.le_refl _ | exact hb1.size | exact hb2.size | (simp; done) | (simp; omega) | (have := hb1.size; simp; omega)) _)) hgrow2 (by first | exact Nat.le_refl _ | exact hb1.size | exact hb2.size | (simp; done) | (simp; omega) | (have := hb1.size; simp; omega) | (have := hb2.size; simp; omega)) (fun g9 hg9 => (hown1.lt g9 hg9).1))
            | ((refine step_app (by rfl) (.tmp 43) (.tmp 45) 26 (by rfl) w.heap.size 3 i0 (.int .i64 0) 1 8 Try.underlying26 HI.out HZ0.out HZ1.out HZ2.out rfl (by decide) (v1) (0 + jj) ([] ++ ((L.take jj).map (Value.int .i64))) (by rfl) (hown1.alloc _) (⟨w1.heap.size, 0, none⟩) (1) (1) ([Value.int .i64 (N : Int)]) (by rfl) (rfl) (one_at (new_at_ _ _ _ _ rfl)) (news_int _) (by unfold maxLen; omega) (by omega) (by first | exact Nat.le_refl _ | exact hb1.size | exact hb2.size | (simp; done) | (simp; omega) | (have := hb1.size; simp; omega) | (have := hb2.size; simp; omega)) ?_); intro v2 w2 hown2 hgrow2; have hb2 : Below w.heap.size w w2 := Below.grown (by repeat (first | assumption | exact Below.refl _ _ | refine Below.drew ?_ | refine Below.alloc ?_ (by first | exact Nat.le_refl _ | exact hb1.size | exact hb2.size | (simp; done) | (simp; omega) | (have := hb1.size; simp; omega)) _)) hgrow2 (by first | exact Nat.le_refl _ | exact hb1.size | exact hb2.size | (simp; done) | (simp; omega) | (have := hb1.size; simp; omega) | (have := hb2.size; simp; omega)) (fun g9 hg9 => (hown1.lt g9 hg9).1))
            | ((refine step_app (by rfl) (.tmp 46) (.tmp 49) 26 (by rfl) w.heap.size 3 i0 (.int .i64 0) 1 8 Try.underlying26 HI.out HZ0.out HZ1.out HZ2.out rfl (by decide) (v2) (0 + jj + 1) (([] ++ ((L.take jj).map (Value.int .i64))) ++ [Value.int .i64 (N : Int)]) (by rfl) (hown2) (⟨g, jj, none⟩) (N - jj) (c - jj) (((L.drop jj).map (Value.int .i64))) (by rfl) (by rw [List.length_map, List.length_drop, Nat.mul_one]; have := HNL.out; omega) (HCD.out jj hjN _ (by repeat (first | assumption | exact Below.refl _ _ | refine Below.drew ?_ | refine Below.alloc ?_ (by first | exact Nat.le_refl _ | exact hb1.size | exact hb2.size | (simp; done) | (simp; omega) | (have := hb1.size; simp; omega)) _))) (news_ints _) (by unfold maxLen; omega) (by omega) (by first | exact Nat.le_refl _ | exact hb1.size | exact hb2.size | (simp; done) | (simp; omega) | (have := hb1.size; simp; omega) | (have := hb2.size; simp; omega)) ?_); intro v3 w3 hown3 hgrow3; have hb3 : Below w.heap.size w w3 := Below.grown (by repeat (first | assumption | exact Below.refl _ _ | refine Below.drew ?_ | refine Below.alloc ?_ (by first | exact Nat.le_refl _ | exact hb1.size | exact hb2.size | (simp; done) | (simp; omega) | (have := hb1.size; simp; omega)) _)) hgrow3 (by first | exact Nat.le_refl _ | exact hb1.size | exact hb2.size | (simp; done) | (simp; omega) | (have := hb1.size; simp; omega) | (have := hb2.size; simp; omega)) (fun g9 hg9 => (hown2.lt g9 hg9).1); obtain ⟨A3, c3, rfl⟩ := formOf hown3; obtain ⟨g3, rfl⟩ := own_some hown3 (by omega)))
          all_goals
            have HO3 : Hid (w3.ownsRow wx.heap.size 3 1 (.slice (some ⟨g3, 0, none⟩) (N + 1) c3) (N + 1) ((ordD Lr (N + 1)).map (Value.int .i64))) := Lib.hid (by
              have h9 := own_base hown3 HBB.out
              have e9 : 0 + jj + 1 + (N - jj) = N + 1 := by omega
              rw [HSTP.out, List.map_append, List.map_cons]
              simp only [List.nil_append, List.append_assoc, List.cons_append, e9] at h9
              exact h9)
            have HB3 : Hid (Below wx.heap.size wx w3) := Lib.hid (HBX.out.trans (hb3.mono HBB.out))
            clear hown1 hgrow1 hown2 hgrow2 hown3 hgrow3
            go_wp2_with fail
            go_roundw
            case rel => exact ⟨N + 1, g3, c3, by omega, by first | rfl | (rw [show 0 + jj + 1 + (N - jj) = N + 1 by omega]) | (congr 1; omega) | (congr 1 <;> simp <;> omega), by go_num, HO3, HB3.out⟩
            case measure => simp [intOf]; omega
        case neg =>
        have ejN : N = jj := by omega
        subst ejN
        by_cases hck : c = N
        case pos =>
          subst hck
          clear hcap hkcI
          go_wp2_with fail
          go_region_law (first
            | ((refine step_app (by rfl) (.tmp 39) (.tmp 42) 26 (by rfl) w.heap.size 3 i0 (.int .i64 0) 1 8 Try.underlying26 HI.out HZ0.out HZ1.out HZ2.out rfl (by decide) (.slice (some ⟨w.heap.size, 0, none⟩) 0 0) (0) ([]) (by rfl) (by first | exact lit_rowH rfl _ (Nat.le_refl _) | exact (lit_rowH rfl _ (Nat.le_refl _)).alloc _) (⟨g, 0, none⟩) (c) (c) (((L.take c).map (Value.int .i64))) (by rfl) (by rw [List.length_map, List.length_take, Nat.mul_one]; have := HNL.out; omega) (HCT.out c (Nat.le_refl _) _ (by repeat (first | assumption | exact Below.refl _ _ | refine Below.drew ?_ | refine Below.alloc ?_ (by first | exact Nat.le_refl _ | exact hb1.size | exact hb2.size | (simp; done) | (simp; omega) | (have := hb1.size; simp; omega)) _))) (news_ints _) (by unfold maxLen; omega) (by omega) (by first | exact Nat.le_refl _ | exact hb1.size | exact hb2.size | (simp; done) | (simp; omega) | (have := hb1.size; simp; omega) | (have := hb2.size; simp; omega)) ?_); intro v1 w1 hown1 hgrow1; have hb1 : Below w.heap.size w w1 := Below.grown (by repeat (first | assumption | exact Below.refl _ _ | refine Below.drew ?_ | refine Below.alloc ?_ (by first | exact Nat.le_refl _ | exact hb1.size | exact hb2.size | (simp; done) | (simp; omega) | (have := hb1.size; simp; omega)) _)) hgrow1 (by first | exact Nat.le_refl _ | exact hb1.size | exact hb2.size | (simp; done) | (simp; omega) | (have := hb1.size; simp; omega) | (have := hb2.size; simp; omega)) (fun g9 hg9 => by simp [Value.ownBlock] at hg9; omega))
            | ((refine step_app (by rfl) (.tmp 39) (.tmp 42) 26 (by rfl) w.heap.size 3 i0 (.int .i64 0) 1 8 Try.underlying26 HI.out HZ0.out HZ1.out HZ2.out rfl (by decide) (.slice (some ⟨w.heap.size + 1, 0, none⟩) 0 0) (0) ([]) (by rfl) (by exact lit_rowH (by simp) _ (by simp)) (⟨g, 0, none⟩) (c) (c) (((L.take c).map (Value.int .i64))) (by rfl) (by rw [List.length_map, List.length_take, Nat.mul_one]; have := HNL.out; omega) (HCT.out c (Nat.le_refl _) _ (by repeat (first | assumption | exact Below.refl _ _ | refine Below.drew ?_ | refine Below.alloc ?_ (by first | exact Nat.le_refl _ | exact hb1.size | exact hb2.size | (simp; done) | (simp; omega) | (have := hb1.size; simp; omega)) _))) (news_ints _) (by unfold maxLen; omega) (by omega) (by first | exact Nat.le_refl _ | exact hb1.size | exact hb2.size | (simp; done) | (simp; omega) | (have := hb1.size; simp; omega) | (have := hb2.size; simp; omega)) ?_); intro v1 w1 hown1 hgrow1; have hb1 : Below w.heap.size w w1 := Below.grown (by repeat (first | assumption | exact Below.refl _ _ | refine Below.drew ?_ | refine Below.alloc ?_ (by first | exact Nat.le_refl _ | exact hb1.size | exact hb2.size | (simp; done) | (simp; omega) | (have := hb1.size; simp; omega)) _)) hgrow1 (by first | exact Nat.le_refl _ | exact hb1.size | exact hb2.size | (simp; done) | (simp; omega) | (have := hb1.size; simp; omega) | (have := hb2.size; simp; omega)) (fun g9 hg9 => by simp [Value.ownBlock] at hg9; omega))
            | ((refine step_app (by rfl) (.tmp 43) (.tmp 45) 26 (by rfl) w.heap.size 3 i0 (.int .i64 0) 1 8 Try.underlying26 HI.out HZ0.out HZ1.out HZ2.out rfl (by decide) (v1) (0 + c) ([] ++ ((L.take c).map (Value.int .i64))) (by rfl) (hown1) (⟨w.heap.size + 1, 0, none⟩) (1) (1) ([Value.int .i64 (c : Int)]) (by rfl) (rfl) (one_at (far_at hgrow1 (new_at_ _ _ _ _ (by simp)) (by first | (simp; done) | (simp; omega)) (by simp [Value.ownBlock]))) (news_int _) (by unfold maxLen; omega) (by omega) (by first | exact Nat.le_refl _ | exact hb1.size | exact hb2.size | (simp; done) | (simp; omega) | (have := hb1.size; simp; omega) | (have := hb2.size; simp; omega)) ?_); intro v2 w2 hown2 hgrow2; have hb2 : Below w.heap.size w w2 := Below.grown (by repeat (first | assumption | exact Below.refl _ _ | refine Below.drew ?_ | refine Below.alloc ?_ (by first | exact Nat.le_refl _ | exact hb1.size | exact hb2.size | (simp; done) | (simp; omega) | (have := hb1.size; simp; omega)) _)) hgrow2 (by first | exact Nat.le_refl _ | exact hb1.size | exact hb2.size | (simp; done) | (simp; omega) | (have := hb1.size; simp; omega) | (have := hb2.size; simp; omega)) (fun g9 hg9 => (hown1.lt g9 hg9).1))
            | ((refine step_app (by rfl) (.tmp 43) (.tmp 45) 26 (by rfl) w.heap.size 3 i0 (.int .i64 0) 1 8 Try.underlying26 HI.out HZ0.out HZ1.out HZ2.out rfl (by decide) (v1) (0 + c) ([] ++ ((L.take c).map (Value.int .i64))) (by rfl) (hown1) (⟨w.heap.size, 0, none⟩) (1) (1) ([Value.int .i64 (c : Int)]) (by rfl) (rfl) (one_at (far_at hgrow1 (by simp [go_sem]) (by first | (simp; done) | (simp; omega)) (by simp [Value.ownBlock]))) (news_int _) (by unfold maxLen; omega) (by omega) (by first | exact Nat.le_refl _ | exact hb1.size | exact hb2.size | (simp; done) | (simp; omega) | (have := hb1.size; simp; omega) | (have := hb2.size; simp; omega)) ?_); intro v2 w2 hown2 hgrow2; have hb2 : Below w.heap.size w w2 := Below.grown (by repeat (first | assumption | exact Below.refl _ _ | refine Below.drew ?_ | refine Below.alloc ?_ (by first | exact Nat.le_refl _ | exact hb1.size | exact hb2.size | (simp; done) | (simp; omega) | (have := hb1.size; simp; omega)) _)) hgrow2 (by first | exact Nat.le_refl _ | exact hb1.size | exact hb2.size | (simp; done) | (simp; omega) | (have := hb1.size; simp; omega) | (have := hb2.size; simp; omega)) (fun g9 hg9 => (hown1.lt g9 hg9).1))
            | ((refine step_app (by rfl) (.tmp 43) (.tmp 45) 26 (by rfl) w.heap.size 3 i0 (.int .i64 0) 1 8 Try.underlying26 HI.out HZ0.out HZ1.out HZ2.out rfl (by decide) (v1) (0 + c) ([] ++ ((L.take c).map (Value.int .i64))) (by rfl) (hown1.alloc _) (⟨w1.heap.size, 0, none⟩) (1) (1) ([Value.int .i64 (c : Int)]) (by rfl) (rfl) (one_at (new_at_ _ _ _ _ rfl)) (news_int _) (by unfold maxLen; omega) (by omega) (by first | exact Nat.le_refl _ | exact hb1.size | exact hb2.size | (simp; done) | (simp; omega) | (have := hb1.size; simp; omega) | (have := hb2.size; simp; omega)) ?_); intro v2 w2 hown2 hgrow2; have hb2 : Below w.heap.size w w2 := Below.grown (by repeat (first | assumption | exact Below.refl _ _ | refine Below.drew ?_ | refine Below.alloc ?_ (by first | exact Nat.le_refl _ | exact hb1.size | exact hb2.size | (simp; done) | (simp; omega) | (have := hb1.size; simp; omega)) _)) hgrow2 (by first | exact Nat.le_refl _ | exact hb1.size | exact hb2.size | (simp; done) | (simp; omega) | (have := hb1.size; simp; omega) | (have := hb2.size; simp; omega)) (fun g9 hg9 => (hown1.lt g9 hg9).1))
            | ((refine step_app (by rfl) (.tmp 46) (.tmp 49) 26 (by rfl) w.heap.size 3 i0 (.int .i64 0) 1 8 Try.underlying26 HI.out HZ0.out HZ1.out HZ2.out rfl (by decide) (v2) (0 + c + 1) (([] ++ ((L.take c).map (Value.int .i64))) ++ [Value.int .i64 (c : Int)]) (by rfl) (hown2) (⟨g, 0, none⟩) (0) (0) ([]) (by rfl) (rfl) (fun j u hu => by simp at hu) (fun u hu => by simp at hu) (by unfold maxLen; omega) (by omega) (by first | exact Nat.le_refl _ | exact hb1.size | exact hb2.size | (simp; done) | (simp; omega) | (have := hb1.size; simp; omega) | (have := hb2.size; simp; omega)) ?_); intro v3 w3 hown3 hgrow3; have hb3 : Below w.heap.size w w3 := Below.grown (by repeat (first | assumption | exact Below.refl _ _ | refine Below.drew ?_ | refine Below.alloc ?_ (by first | exact Nat.le_refl _ | exact hb1.size | exact hb2.size | (simp; done) | (simp; omega) | (have := hb1.size; simp; omega)) _)) hgrow3 (by first | exact Nat.le_refl _ | exact hb1.size | exact hb2.size | (simp; done) | (simp; omega) | (have := hb1.size; simp; omega) | (have := hb2.size; simp; omega)) (fun g9 hg9 => (hown2.lt g9 hg9).1); obtain ⟨A3, c3, rfl⟩ := formOf hown3; obtain ⟨g3, rfl⟩ := own_some hown3 (by omega))
            | ((refine step_app (by rfl) (.tmp 46) (.tmp 49) 26 (by rfl) w.heap.size 3 i0 (.int .i64 0) 1 8 Try.underlying26 HI.out HZ0.out HZ1.out HZ2.out rfl (by decide) (v2) (0 + c + 1) (([] ++ ((L.take c).map (Value.int .i64))) ++ [Value.int .i64 (c : Int)]) (by rfl) (hown2) (⟨g, c, none⟩) (0) (0) ([]) (by rfl) (rfl) (fun j u hu => by simp at hu) (fun u hu => by simp at hu) (by unfold maxLen; omega) (by omega) (by first | exact Nat.le_refl _ | exact hb1.size | exact hb2.size | (simp; done) | (simp; omega) | (have := hb1.size; simp; omega) | (have := hb2.size; simp; omega)) ?_); intro v3 w3 hown3 hgrow3; have hb3 : Below w.heap.size w w3 := Below.grown (by repeat (first | assumption | exact Below.refl _ _ | refine Below.drew ?_ | refine Below.alloc ?_ (by first | exact Nat.le_refl _ | exact hb1.size | exact hb2.size | (simp; done) | (simp; omega) | (have := hb1.size; simp; omega)) _)) hgrow3 (by first | exact Nat.le_refl _ | exact hb1.size | exact hb2.size | (simp; done) | (simp; omega) | (have := hb1.size; simp; omega) | (have := hb2.size; simp; omega)) (fun g9 hg9 => (hown2.lt g9 hg9).1); obtain ⟨A3, c3, rfl⟩ := formOf hown3; obtain ⟨g3, rfl⟩ := own_some hown3 (by omega)))
          all_goals
            have HO3 : Hid (w3.ownsRow wx.heap.size 3 1 (.slice (some ⟨g3, 0, none⟩) (c + 1) c3) (c + 1) ((ordD Lr (c + 1)).map (Value.int .i64))) := Lib.hid (by
              have h9 := own_base hown3 HBB.out
              rw [List.take_of_length_le (by have := HNL.out; omega), List.nil_append, List.append_nil] at h9
              rw [HSTP.out, List.take_of_length_le (by have := HNL.out; omega), List.drop_of_length_le (by have := HNL.out; omega), List.map_append]
              simpa using h9)
            have HB3 : Hid (Below wx.heap.size wx w3) := Lib.hid (HBX.out.trans (hb3.mono HBB.out))
            clear hown1 hgrow1 hown2 hgrow2 hown3 hgrow3
            go_wp2_with fail
            go_roundw
            case rel => exact ⟨c + 1, g3, c3, by omega, by first | rfl | (congr 1 <;> simp <;> omega), by go_num, HO3, HB3.out⟩
            case measure => simp [intOf]; omega
        case neg =>
          go_wp2_with fail
          go_region_law (first
            | ((refine step_app (by rfl) (.tmp 39) (.tmp 42) 26 (by rfl) w.heap.size 3 i0 (.int .i64 0) 1 8 Try.underlying26 HI.out HZ0.out HZ1.out HZ2.out rfl (by decide) (.slice (some ⟨w.heap.size, 0, none⟩) 0 0) (0) ([]) (by rfl) (by first | exact lit_rowH rfl _ (Nat.le_refl _) | exact (lit_rowH rfl _ (Nat.le_refl _)).alloc _) (⟨g, 0, none⟩) (N) (c) (((L.take N).map (Value.int .i64))) (by rfl) (by rw [List.length_map, List.length_take, Nat.mul_one]; have := HNL.out; omega) (HCT.out N (Nat.le_refl _) _ (by repeat (first | assumption | exact Below.refl _ _ | refine Below.drew ?_ | refine Below.alloc ?_ (by first | exact Nat.le_refl _ | exact hb1.size | exact hb2.size | (simp; done) | (simp; omega) | (have := hb1.size; simp; omega)) _))) (news_ints _) (by unfold maxLen; omega) (by omega) (by first | exact Nat.le_refl _ | exact hb1.size | exact hb2.size | (simp; done) | (simp; omega) | (have := hb1.size; simp; omega) | (have := hb2.size; simp; omega)) ?_); intro v1 w1 hown1 hgrow1; have hb1 : Below w.heap.size w w1 := Below.grown (by repeat (first | assumption | exact Below.refl _ _ | refine Below.drew ?_ | refine Below.alloc ?_ (by first | exact Nat.le_refl _ | exact hb1.size | exact hb2.size | (simp; done) | (simp; omega) | (have := hb1.size; simp; omega)) _)) hgrow1 (by first | exact Nat.le_refl _ | exact hb1.size | exact hb2.size | (simp; done) | (simp; omega) | (have := hb1.size; simp; omega) | (have := hb2.size; simp; omega)) (fun g9 hg9 => by simp [Value.ownBlock] at hg9; omega))
            | ((refine step_app (by rfl) (.tmp 39) (.tmp 42) 26 (by rfl) w.heap.size 3 i0 (.int .i64 0) 1 8 Try.underlying26 HI.out HZ0.out HZ1.out HZ2.out rfl (by decide) (.slice (some ⟨w.heap.size + 1, 0, none⟩) 0 0) (0) ([]) (by rfl) (by exact lit_rowH (by simp) _ (by simp)) (⟨g, 0, none⟩) (N) (c) (((L.take N).map (Value.int .i64))) (by rfl) (by rw [List.length_map, List.length_take, Nat.mul_one]; have := HNL.out; omega) (HCT.out N (Nat.le_refl _) _ (by repeat (first | assumption | exact Below.refl _ _ | refine Below.drew ?_ | refine Below.alloc ?_ (by first | exact Nat.le_refl _ | exact hb1.size | exact hb2.size | (simp; done) | (simp; omega) | (have := hb1.size; simp; omega)) _))) (news_ints _) (by unfold maxLen; omega) (by omega) (by first | exact Nat.le_refl _ | exact hb1.size | exact hb2.size | (simp; done) | (simp; omega) | (have := hb1.size; simp; omega) | (have := hb2.size; simp; omega)) ?_); intro v1 w1 hown1 hgrow1; have hb1 : Below w.heap.size w w1 := Below.grown (by repeat (first | assumption | exact Below.refl _ _ | refine Below.drew ?_ | refine Below.alloc ?_ (by first | exact Nat.le_refl _ | exact hb1.size | exact hb2.size | (simp; done) | (simp; omega) | (have := hb1.size; simp; omega)) _)) hgrow1 (by first | exact Nat.le_refl _ | exact hb1.size | exact hb2.size | (simp; done) | (simp; omega) | (have := hb1.size; simp; omega) | (have := hb2.size; simp; omega)) (fun g9 hg9 => by simp [Value.ownBlock] at hg9; omega))
            | ((refine step_app (by rfl) (.tmp 43) (.tmp 45) 26 (by rfl) w.heap.size 3 i0 (.int .i64 0) 1 8 Try.underlying26 HI.out HZ0.out HZ1.out HZ2.out rfl (by decide) (v1) (0 + N) ([] ++ ((L.take N).map (Value.int .i64))) (by rfl) (hown1) (⟨w.heap.size + 1, 0, none⟩) (1) (1) ([Value.int .i64 (N : Int)]) (by rfl) (rfl) (one_at (far_at hgrow1 (new_at_ _ _ _ _ (by simp)) (by first | (simp; done) | (simp; omega)) (by simp [Value.ownBlock]))) (news_int _) (by unfold maxLen; omega) (by omega) (by first | exact Nat.le_refl _ | exact hb1.size | exact hb2.size | (simp; done) | (simp; omega) | (have := hb1.size; simp; omega) | (have := hb2.size; simp; omega)) ?_); intro v2 w2 hown2 hgrow2; have hb2 : Below w.heap.size w w2 := Below.grown (by repeat (first | assumption | exact Below.refl _ _ | refine Below.drew ?_ | refine Below.alloc ?_ (by first | exact Nat.le_refl _ | exact hb1.size | exact hb2.size | (simp; done) | (simp; omega) | (have := hb1.size; simp; omega)) _)) hgrow2 (by first | exact Nat.le_refl _ | exact hb1.size | exact hb2.size | (simp; done) | (simp; omega) | (have := hb1.size; simp; omega) | (have := hb2.size; simp; omega)) (fun g9 hg9 => (hown1.lt g9 hg9).1))
            | ((refine step_app (by rfl) (.tmp 43) (.tmp 45) 26 (by rfl) w.heap.size 3 i0 (.int .i64 0) 1 8 Try.underlying26 HI.out HZ0.out HZ1.out HZ2.out rfl (by decide) (v1) (0 + N) ([] ++ ((L.take N).map (Value.int .i64))) (by rfl) (hown1) (⟨w.heap.size, 0, none⟩) (1) (1) ([Value.int .i64 (N : Int)]) (by rfl) (rfl) (one_at (far_at hgrow1 (by simp [go_sem]) (by first | (simp; done) | (simp; omega)) (by simp [Value.ownBlock]))) (news_int _) (by unfold maxLen; omega) (by omega) (by first | exact Nat.le_refl _ | exact hb1.size | exact hb2.size | (simp; done) | (simp; omega) | (have := hb1.size; simp; omega) | (have := hb2.size; simp; omega)) ?_); intro v2 w2 hown2 hgrow2; have hb2 : Below w.heap.size w w2 := Below.grown (by repeat (first | assumption | exact Below.refl _ _ | refine Below.drew ?_ | refine Below.alloc ?_ (by first | exact Nat.le_refl _ | exact hb1.size | exact hb2.size | (simp; done) | (simp; omega) | (have := hb1.size; simp; omega)) _)) hgrow2 (by first | exact Nat.le_refl _ | exact hb1.size | exact hb2.size | (simp; done) | (simp; omega) | (have := hb1.size; simp; omega) | (have := hb2.size; simp; omega)) (fun g9 hg9 => (hown1.lt g9 hg9).1))
            | ((refine step_app (by rfl) (.tmp 43) (.tmp 45) 26 (by rfl) w.heap.size 3 i0 (.int .i64 0) 1 8 Try.underlying26 HI.out HZ0.out HZ1.out HZ2.out rfl (by decide) (v1) (0 + N) ([] ++ ((L.take N).map (Value.int .i64))) (by rfl) (hown1.alloc _) (⟨w1.heap.size, 0, none⟩) (1) (1) ([Value.int .i64 (N : Int)]) (by rfl) (rfl) (one_at (new_at_ _ _ _ _ rfl)) (news_int _) (by unfold maxLen; omega) (by omega) (by first | exact Nat.le_refl _ | exact hb1.size | exact hb2.size | (simp; done) | (simp; omega) | (have := hb1.size; simp; omega) | (have := hb2.size; simp; omega)) ?_); intro v2 w2 hown2 hgrow2; have hb2 : Below w.heap.size w w2 := Below.grown (by repeat (first | assumption | exact Below.refl _ _ | refine Below.drew ?_ | refine Below.alloc ?_ (by first | exact Nat.le_refl _ | exact hb1.size | exact hb2.size | (simp; done) | (simp; omega) | (have := hb1.size; simp; omega)) _)) hgrow2 (by first | exact Nat.le_refl _ | exact hb1.size | exact hb2.size | (simp; done) | (simp; omega) | (have := hb1.size; simp; omega) | (have := hb2.size; simp; omega)) (fun g9 hg9 => (hown1.lt g9 hg9).1))
            | ((refine step_app (by rfl) (.tmp 46) (.tmp 49) 26 (by rfl) w.heap.size 3 i0 (.int .i64 0) 1 8 Try.underlying26 HI.out HZ0.out HZ1.out HZ2.out rfl (by decide) (v2) (0 + N + 1) (([] ++ ((L.take N).map (Value.int .i64))) ++ [Value.int .i64 (N : Int)]) (by rfl) (hown2) (⟨g, N, none⟩) (0) (c - N) ([]) (by rfl) (rfl) (fun j u hu => by simp at hu) (fun u hu => by simp at hu) (by unfold maxLen; omega) (by omega) (by first | exact Nat.le_refl _ | exact hb1.size | exact hb2.size | (simp; done) | (simp; omega) | (have := hb1.size; simp; omega) | (have := hb2.size; simp; omega)) ?_); intro v3 w3 hown3 hgrow3; have hb3 : Below w.heap.size w w3 := Below.grown (by repeat (first | assumption | exact Below.refl _ _ | refine Below.drew ?_ | refine Below.alloc ?_ (by first | exact Nat.le_refl _ | exact hb1.size | exact hb2.size | (simp; done) | (simp; omega) | (have := hb1.size; simp; omega)) _)) hgrow3 (by first | exact Nat.le_refl _ | exact hb1.size | exact hb2.size | (simp; done) | (simp; omega) | (have := hb1.size; simp; omega) | (have := hb2.size; simp; omega)) (fun g9 hg9 => (hown2.lt g9 hg9).1); obtain ⟨A3, c3, rfl⟩ := formOf hown3; obtain ⟨g3, rfl⟩ := own_some hown3 (by omega)))
          all_goals
            have HO3 : Hid (w3.ownsRow wx.heap.size 3 1 (.slice (some ⟨g3, 0, none⟩) (N + 1) c3) (N + 1) ((ordD Lr (N + 1)).map (Value.int .i64))) := Lib.hid (by
              have h9 := own_base hown3 HBB.out
              rw [List.take_of_length_le (by have := HNL.out; omega), List.nil_append, List.append_nil] at h9
              rw [HSTP.out, List.take_of_length_le (by have := HNL.out; omega), List.drop_of_length_le (by have := HNL.out; omega), List.map_append]
              simpa using h9)
            have HB3 : Hid (Below wx.heap.size wx w3) := Lib.hid (HBX.out.trans (hb3.mono HBB.out))
            clear hown1 hgrow1 hown2 hgrow2 hown3 hgrow3
            go_wp2_with fail
            go_roundw
            case rel => exact ⟨N + 1, g3, c3, by omega, by first | rfl | (congr 1 <;> simp <;> omega), by go_num, HO3, HB3.out⟩
            case measure => simp [intOf]; omega
      case pos =>
        obtain ⟨jp, hjp⟩ : ∃ jp, jj = jp + 1 := ⟨jj - 1, by omega⟩
        obtain ⟨hio, hoj⟩ := HOK.out.at_ (k := jp) (by omega)
        have hls : ¬ Lr.getD (ix L jp) 0 < y := fun h => HGO.out ⟨by omega, by rw [hjp, Nat.add_sub_cancel]; exact h⟩
        obtain ⟨o, ho9⟩ : ∃ o, ix L jp = o := ⟨_, rfl⟩
        rw [ho9] at hio hoj hls
        have c1 := HOV.out.cellAt jp (by omega)
        rw [List.getElem?_map, hoj] at c1
        simp only [Option.map_some] at c1
        have c2 := HRC.out o (by omega) wr HBV.out
        have c3 := HRC.out N hlt wr HBV.out
        rw [HY.out] at c3
        obtain ⟨x, hx⟩ : ∃ x, Lr.getD o 0 = x := ⟨_, rfl⟩
        rw [hx] at c2 hls
        have hgw9 : g < wr.heap.size := (HOV.out.lt g rfl).2
        have hoI : (o : Int) < (n : Int) := by omega
        have hjI : (jp : Int) < (N : Int) := by omega
        have hls2 : decide (x < y) = false := decide_eq_false hls
        have hwp : IntKind.i64.wrap ((jj : Int) - 1) = (jp : Int) := by rw [IntKind.wrap_i64]; omega
        have hj0I : (0 : Int) < (jj : Int) := by omega
        clear ho9 hoj hx hjp
        go_wp2_with fail
        go_quiet (fail)
        clear c1 c2 c3 hls hls2 hwp hoI hjI hio hgw9 hj0I hj0
        obtain ⟨w, hw_⟩ : ∃ w, wr.drewN nq = w := ⟨_, rfl⟩
        have HO : Hid (w.ownsRow wx.heap.size 3 1 (.slice (some ⟨g, 0, none⟩) N c) N (L.map (Value.int .i64))) := Lib.hid (by rw [← hw_]; exact ownD HOV.out _)
        have HBX : Hid (Below wx.heap.size wx w) := Lib.hid (by rw [← hw_]; exact drewN_below HBV.out _)
        rw [hw_]
        clear hw_ HOV HBV
        have HBB : Hid (wx.heap.size ≤ w.heap.size) := Lib.hid HBX.out.size
        have HLC : Hid (∀ k, k < N → w.cell? ⟨g, k, none⟩ = some (.int .i64 (L.getD k 0))) := Lib.hid (fun k hk => by
          obtain ⟨ad, hA, _, cx⟩ := ints_at (Rd.ofOwn HO.out) (k := k) (by have := HNL.out; omega)
          obtain rfl : ad = ⟨g, 0, none⟩ := (Option.some.inj hA).symm
          rw [List.getD_eq_getElem?_getD, List.getElem?_eq_getElem (by have := HNL.out; omega)]
          rw [cx0 g k] at cx; exact cx)
        have hgw : g < w.heap.size := (HO.out.lt g rfl).2
        have HCT : Hid (∀ k, k ≤ N → ∀ U : World, Below w.heap.size w U → ∀ (j : Nat) (u : Value), ((L.take k).map (Value.int .i64))[j]? = some u → U.cell? ((⟨g, 0, none⟩ : Addr).add j) = some u) := Lib.hid (fun k hk U hU j u hu => by
          have hN := HNL.out
          rw [cx0]
          have hj : j < ((L.take k).map (Value.int .i64)).length := (List.getElem?_eq_some_iff.1 hu).1
          rw [List.length_map, List.length_take] at hj
          rw [hU.cell (p := ⟨g, j, none⟩) hgw, HLC.out j (by omega)]
          rw [List.getElem?_map, List.getElem?_take_of_lt (by omega), List.getElem?_eq_getElem (by omega)] at hu
          rw [List.getD_eq_getElem?_getD, List.getElem?_eq_getElem (by omega)]
          exact hu)
        have HCD : Hid (∀ k, k ≤ N → ∀ U : World, Below w.heap.size w U → ∀ (j : Nat) (u : Value), ((L.drop k).map (Value.int .i64))[j]? = some u → U.cell? ((⟨g, k, none⟩ : Addr).add j) = some u) := Lib.hid (fun k hk U hU j u hu => by
          have hN := HNL.out
          rw [cxk]
          have hj : j < ((L.drop k).map (Value.int .i64)).length := (List.getElem?_eq_some_iff.1 hu).1
          rw [List.length_map, List.length_drop] at hj
          rw [hU.cell (p := ⟨g, k + j, none⟩) hgw, HLC.out (k + j) (by omega)]
          rw [List.getElem?_map, List.getElem?_drop, List.getElem?_eq_getElem (by omega)] at hu
          rw [List.getD_eq_getElem?_getD, List.getElem?_eq_getElem (by omega)]
          exact hu)
        have hkcI : (N : Int) ≤ c := by omega
        have hN12 : N ≤ 12 := by omega
        by_cases hjl : jj < N
        case pos =>
          have hck : ¬ c = jj := by omega
          have hjcI : (jj : Int) ≤ c := by omega
          have hjNI : (jj : Int) ≤ N := by omega
          go_wp2_with fail
          go_region_law (first
            | ((refine step_app (by rfl) (.tmp 39) (.tmp 42) 26 (by rfl) w.heap.size 3 i0 (.int .i64 0) 1 8 Try.underlying26 HI.out HZ0.out HZ1.out HZ2.out rfl (by decide) (.slice (some ⟨w.heap.size, 0, none⟩) 0 0) (0) ([]) (by rfl) (by first | exact lit_rowH rfl _ (Nat.le_refl _) | exact (lit_rowH rfl _ (Nat.le_refl _)).alloc _) (⟨g, 0, none⟩) (jj) (c) (((L.take jj).map (Value.int .i64))) (by rfl) (by rw [List.length_map, List.length_take, Nat.mul_one]; have := HNL.out; omega) (HCT.out jj hjN _ (by repeat (first | assumption | exact Below.refl _ _ | refine Below.drew ?_ | refine Below.alloc ?_ (by first | exact Nat.le_refl _ | exact hb1.size | exact hb2.size | (simp; done) | (simp; omega) | (have := hb1.size; simp; omega)) _))) (news_ints _) (by unfold maxLen; omega) (by omega) (by first | exact Nat.le_refl _ | exact hb1.size | exact hb2.size | (simp; done) | (simp; omega) | (have := hb1.size; simp; omega) | (have := hb2.size; simp; omega)) ?_); intro v1 w1 hown1 hgrow1; have hb1 : Below w.heap.size w w1 := Below.grown (by repeat (first | assumption | exact Below.refl _ _ | refine Below.drew ?_ | refine Below.alloc ?_ (by first | exact Nat.le_refl _ | exact hb1.size | exact hb2.size | (simp; done) | (simp; omega) | (have := hb1.size; simp; omega)) _)) hgrow1 (by first | exact Nat.le_refl _ | exact hb1.size | exact hb2.size | (simp; done) | (simp; omega) | (have := hb1.size; simp; omega) | (have := hb2.size; simp; omega)) (fun g9 hg9 => by simp [Value.ownBlock] at hg9; omega))
            | ((refine step_app (by rfl) (.tmp 39) (.tmp 42) 26 (by rfl) w.heap.size 3 i0 (.int .i64 0) 1 8 Try.underlying26 HI.out HZ0.out HZ1.out HZ2.out rfl (by decide) (.slice (some ⟨w.heap.size + 1, 0, none⟩) 0 0) (0) ([]) (by rfl) (by exact lit_rowH (by simp) _ (by simp)) (⟨g, 0, none⟩) (jj) (c) (((L.take jj).map (Value.int .i64))) (by rfl) (by rw [List.length_map, List.length_take, Nat.mul_one]; have := HNL.out; omega) (HCT.out jj hjN _ (by repeat (first | assumption | exact Below.refl _ _ | refine Below.drew ?_ | refine Below.alloc ?_ (by first | exact Nat.le_refl _ | exact hb1.size | exact hb2.size | (simp; done) | (simp; omega) | (have := hb1.size; simp; omega)) _))) (news_ints _) (by unfold maxLen; omega) (by omega) (by first | exact Nat.le_refl _ | exact hb1.size | exact hb2.size | (simp; done) | (simp; omega) | (have := hb1.size; simp; omega) | (have := hb2.size; simp; omega)) ?_); intro v1 w1 hown1 hgrow1; have hb1 : Below w.heap.size w w1 := Below.grown (by repeat (first | assumption | exact Below.refl _ _ | refine Below.drew ?_ | refine Below.alloc ?_ (by first | exact Nat.le_refl _ | exact hb1.size | exact hb2.size | (simp; done) | (simp; omega) | (have := hb1.size; simp; omega)) _)) hgrow1 (by first | exact Nat.le_refl _ | exact hb1.size | exact hb2.size | (simp; done) | (simp; omega) | (have := hb1.size; simp; omega) | (have := hb2.size; simp; omega)) (fun g9 hg9 => by simp [Value.ownBlock] at hg9; omega))
            | ((refine step_app (by rfl) (.tmp 43) (.tmp 45) 26 (by rfl) w.heap.size 3 i0 (.int .i64 0) 1 8 Try.underlying26 HI.out HZ0.out HZ1.out HZ2.out rfl (by decide) (v1) (0 + jj) ([] ++ ((L.take jj).map (Value.int .i64))) (by rfl) (hown1) (⟨w.heap.size + 1, 0, none⟩) (1) (1) ([Value.int .i64 (N : Int)]) (by rfl) (rfl) (one_at (far_at hgrow1 (new_at_ _ _ _ _ (by simp)) (by first | (simp; done) | (simp; omega)) (by simp [Value.ownBlock]))) (news_int _) (by unfold maxLen; omega) (by omega) (by first | exact Nat.le_refl _ | exact hb1.size | exact hb2.size | (simp; done) | (simp; omega) | (have := hb1.size; simp; omega) | (have := hb2.size; simp; omega)) ?_); intro v2 w2 hown2 hgrow2; have hb2 : Below w.heap.size w w2 := Below.grown (by repeat (first | assumption | exact Below.refl _ _ | refine Below.drew ?_ | refine Below.alloc ?_ (by first | exact Nat.le_refl _ | exact hb1.size | exact hb2.size | (simp; done) | (simp; omega) | (have := hb1.size; simp; omega)) _)) hgrow2 (by first | exact Nat.le_refl _ | exact hb1.size | exact hb2.size | (simp; done) | (simp; omega) | (have := hb1.size; simp; omega) | (have := hb2.size; simp; omega)) (fun g9 hg9 => (hown1.lt g9 hg9).1))
            | ((refine step_app (by rfl) (.tmp 43) (.tmp 45) 26 (by rfl) w.heap.size 3 i0 (.int .i64 0) 1 8 Try.underlying26 HI.out HZ0.out HZ1.out HZ2.out rfl (by decide) (v1) (0 + jj) ([] ++ ((L.take jj).map (Value.int .i64))) (by rfl) (hown1) (⟨w.heap.size, 0, none⟩) (1) (1) ([Value.int .i64 (N : Int)]) (by rfl) (rfl) (one_at (far_at hgrow1 (by simp [go_sem]) (by first | (simp; done) | (simp; omega)) (by simp [Value.ownBlock]))) (news_int _) (by unfold maxLen; omega) (by omega) (by first | exact Nat.le_refl _ | exact hb1.size | exact hb2.size | (simp; done) | (simp; omega) | (have := hb1.size; simp; omega) | (have := hb2.size; simp; omega)) ?_); intro v2 w2 hown2 hgrow2; have hb2 : Below w.heap.size w w2 := Below.grown (by repeat (first | assumption | exact Below.refl _ _ | refine Below.drew ?_ | refine Below.alloc ?_ (by first | exact Nat.le_refl _ | exact hb1.size | exact hb2.size | (simp; done) | (simp; omega) | (have := hb1.size; simp; omega)) _)) hgrow2 (by first | exact Nat.le_refl _ | exact hb1.size | exact hb2.size | (simp; done) | (simp; omega) | (have := hb1.size; simp; omega) | (have := hb2.size; simp; omega)) (fun g9 hg9 => (hown1.lt g9 hg9).1))
            | ((refine step_app (by rfl) (.tmp 43) (.tmp 45) 26 (by rfl) w.heap.size 3 i0 (.int .i64 0) 1 8 Try.underlying26 HI.out HZ0.out HZ1.out HZ2.out rfl (by decide) (v1) (0 + jj) ([] ++ ((L.take jj).map (Value.int .i64))) (by rfl) (hown1.alloc _) (⟨w1.heap.size, 0, none⟩) (1) (1) ([Value.int .i64 (N : Int)]) (by rfl) (rfl) (one_at (new_at_ _ _ _ _ rfl)) (news_int _) (by unfold maxLen; omega) (by omega) (by first | exact Nat.le_refl _ | exact hb1.size | exact hb2.size | (simp; done) | (simp; omega) | (have := hb1.size; simp; omega) | (have := hb2.size; simp; omega)) ?_); intro v2 w2 hown2 hgrow2; have hb2 : Below w.heap.size w w2 := Below.grown (by repeat (first | assumption | exact Below.refl _ _ | refine Below.drew ?_ | refine Below.alloc ?_ (by first | exact Nat.le_refl _ | exact hb1.size | exact hb2.size | (simp; done) | (simp; omega) | (have := hb1.size; simp; omega)) _)) hgrow2 (by first | exact Nat.le_refl _ | exact hb1.size | exact hb2.size | (simp; done) | (simp; omega) | (have := hb1.size; simp; omega) | (have := hb2.size; simp; omega)) (fun g9 hg9 => (hown1.lt g9 hg9).1))
            | ((refine step_app (by rfl) (.tmp 46) (.tmp 49) 26 (by rfl) w.heap.size 3 i0 (.int .i64 0) 1 8 Try.underlying26 HI.out HZ0.out HZ1.out HZ2.out rfl (by decide) (v2) (0 + jj + 1) (([] ++ ((L.take jj).map (Value.int .i64))) ++ [Value.int .i64 (N : Int)]) (by rfl) (hown2) (⟨g, jj, none⟩) (N - jj) (c - jj) (((L.drop jj).map (Value.int .i64))) (by rfl) (by rw [List.length_map, List.length_drop, Nat.mul_one]; have := HNL.out; omega) (HCD.out jj hjN _ (by repeat (first | assumption | exact Below.refl _ _ | refine Below.drew ?_ | refine Below.alloc ?_ (by first | exact Nat.le_refl _ | exact hb1.size | exact hb2.size | (simp; done) | (simp; omega) | (have := hb1.size; simp; omega)) _))) (news_ints _) (by unfold maxLen; omega) (by omega) (by first | exact Nat.le_refl _ | exact hb1.size | exact hb2.size | (simp; done) | (simp; omega) | (have := hb1.size; simp; omega) | (have := hb2.size; simp; omega)) ?_); intro v3 w3 hown3 hgrow3; have hb3 : Below w.heap.size w w3 := Below.grown (by repeat (first | assumption | exact Below.refl _ _ | refine Below.drew ?_ | refine Below.alloc ?_ (by first | exact Nat.le_refl _ | exact hb1.size | exact hb2.size | (simp; done) | (simp; omega) | (have := hb1.size; simp; omega)) _)) hgrow3 (by first | exact Nat.le_refl _ | exact hb1.size | exact hb2.size | (simp; done) | (simp; omega) | (have := hb1.size; simp; omega) | (have := hb2.size; simp; omega)) (fun g9 hg9 => (hown2.lt g9 hg9).1); obtain ⟨A3, c3, rfl⟩ := formOf hown3; obtain ⟨g3, rfl⟩ := own_some hown3 (by omega)))
          all_goals
            have HO3 : Hid (w3.ownsRow wx.heap.size 3 1 (.slice (some ⟨g3, 0, none⟩) (N + 1) c3) (N + 1) ((ordD Lr (N + 1)).map (Value.int .i64))) := Lib.hid (by
              have h9 := own_base hown3 HBB.out
              have e9 : 0 + jj + 1 + (N - jj) = N + 1 := by omega
              rw [HSTP.out, List.map_append, List.map_cons]
              simp only [List.nil_append, List.append_assoc, List.cons_append, e9] at h9
              exact h9)
            have HB3 : Hid (Below wx.heap.size wx w3) := Lib.hid (HBX.out.trans (hb3.mono HBB.out))
            clear hown1 hgrow1 hown2 hgrow2 hown3 hgrow3
            go_wp2_with fail
            go_roundw
            case rel => exact ⟨N + 1, g3, c3, by omega, by first | rfl | (rw [show 0 + jj + 1 + (N - jj) = N + 1 by omega]) | (congr 1; omega) | (congr 1 <;> simp <;> omega), by go_num, HO3, HB3.out⟩
            case measure => simp [intOf]; omega
        case neg =>
        have ejN : N = jj := by omega
        subst ejN
        by_cases hck : c = N
        case pos =>
          subst hck
          clear hcap hkcI
          go_wp2_with fail
          go_region_law (first
            | ((refine step_app (by rfl) (.tmp 39) (.tmp 42) 26 (by rfl) w.heap.size 3 i0 (.int .i64 0) 1 8 Try.underlying26 HI.out HZ0.out HZ1.out HZ2.out rfl (by decide) (.slice (some ⟨w.heap.size, 0, none⟩) 0 0) (0) ([]) (by rfl) (by first | exact lit_rowH rfl _ (Nat.le_refl _) | exact (lit_rowH rfl _ (Nat.le_refl _)).alloc _) (⟨g, 0, none⟩) (c) (c) (((L.take c).map (Value.int .i64))) (by rfl) (by rw [List.length_map, List.length_take, Nat.mul_one]; have := HNL.out; omega) (HCT.out c (Nat.le_refl _) _ (by repeat (first | assumption | exact Below.refl _ _ | refine Below.drew ?_ | refine Below.alloc ?_ (by first | exact Nat.le_refl _ | exact hb1.size | exact hb2.size | (simp; done) | (simp; omega) | (have := hb1.size; simp; omega)) _))) (news_ints _) (by unfold maxLen; omega) (by omega) (by first | exact Nat.le_refl _ | exact hb1.size | exact hb2.size | (simp; done) | (simp; omega) | (have := hb1.size; simp; omega) | (have := hb2.size; simp; omega)) ?_); intro v1 w1 hown1 hgrow1; have hb1 : Below w.heap.size w w1 := Below.grown (by repeat (first | assumption | exact Below.refl _ _ | refine Below.drew ?_ | refine Below.alloc ?_ (by first | exact Nat.le_refl _ | exact hb1.size | exact hb2.size | (simp; done) | (simp; omega) | (have := hb1.size; simp; omega)) _)) hgrow1 (by first | exact Nat.le_refl _ | exact hb1.size | exact hb2.size | (simp; done) | (simp; omega) | (have := hb1.size; simp; omega) | (have := hb2.size; simp; omega)) (fun g9 hg9 => by simp [Value.ownBlock] at hg9; omega))
            | ((refine step_app (by rfl) (.tmp 39) (.tmp 42) 26 (by rfl) w.heap.size 3 i0 (.int .i64 0) 1 8 Try.underlying26 HI.out HZ0.out HZ1.out HZ2.out rfl (by decide) (.slice (some ⟨w.heap.size + 1, 0, none⟩) 0 0) (0) ([]) (by rfl) (by exact lit_rowH (by simp) _ (by simp)) (⟨g, 0, none⟩) (c) (c) (((L.take c).map (Value.int .i64))) (by rfl) (by rw [List.length_map, List.length_take, Nat.mul_one]; have := HNL.out; omega) (HCT.out c (Nat.le_refl _) _ (by repeat (first | assumption | exact Below.refl _ _ | refine Below.drew ?_ | refine Below.alloc ?_ (by first | exact Nat.le_refl _ | exact hb1.size | exact hb2.size | (simp; done) | (simp; omega) | (have := hb1.size; simp; omega)) _))) (news_ints _) (by unfold maxLen; omega) (by omega) (by first | exact Nat.le_refl _ | exact hb1.size | exact hb2.size | (simp; done) | (simp; omega) | (have := hb1.size; simp; omega) | (have := hb2.size; simp; omega)) ?_); intro v1 w1 hown1 hgrow1; have hb1 : Below w.heap.size w w1 := Below.grown (by repeat (first | assumption | exact Below.refl _ _ | refine Below.drew ?_ | refine Below.alloc ?_ (by first | exact Nat.le_refl _ | exact hb1.size | exact hb2.size | (simp; done) | (simp; omega) | (have := hb1.size; simp; omega)) _)) hgrow1 (by first | exact Nat.le_refl _ | exact hb1.size | exact hb2.size | (simp; done) | (simp; omega) | (have := hb1.size; simp; omega) | (have := hb2.size; simp; omega)) (fun g9 hg9 => by simp [Value.ownBlock] at hg9; omega))
            | ((refine step_app (by rfl) (.tmp 43) (.tmp 45) 26 (by rfl) w.heap.size 3 i0 (.int .i64 0) 1 8 Try.underlying26 HI.out HZ0.out HZ1.out HZ2.out rfl (by decide) (v1) (0 + c) ([] ++ ((L.take c).map (Value.int .i64))) (by rfl) (hown1) (⟨w.heap.size + 1, 0, none⟩) (1) (1) ([Value.int .i64 (c : Int)]) (by rfl) (rfl) (one_at (far_at hgrow1 (new_at_ _ _ _ _ (by simp)) (by first | (simp; done) | (simp; omega)) (by simp [Value.ownBlock]))) (news_int _) (by unfold maxLen; omega) (by omega) (by first | exact Nat.le_refl _ | exact hb1.size | exact hb2.size | (simp; done) | (simp; omega) | (have := hb1.size; simp; omega) | (have := hb2.size; simp; omega)) ?_); intro v2 w2 hown2 hgrow2; have hb2 : Below w.heap.size w w2 := Below.grown (by repeat (first | assumption | exact Below.refl _ _ | refine Below.drew ?_ | refine Below.alloc ?_ (by first | exact Nat.le_refl _ | exact hb1.size | exact hb2.size | (simp; done) | (simp; omega) | (have := hb1.size; simp; omega)) _)) hgrow2 (by first | exact Nat.le_refl _ | exact hb1.size | exact hb2.size | (simp; done) | (simp; omega) | (have := hb1.size; simp; omega) | (have := hb2.size; simp; omega)) (fun g9 hg9 => (hown1.lt g9 hg9).1))
            | ((refine step_app (by rfl) (.tmp 43) (.tmp 45) 26 (by rfl) w.heap.size 3 i0 (.int .i64 0) 1 8 Try.underlying26 HI.out HZ0.out HZ1.out HZ2.out rfl (by decide) (v1) (0 + c) ([] ++ ((L.take c).map (Value.int .i64))) (by rfl) (hown1) (⟨w.heap.size, 0, none⟩) (1) (1) ([Value.int .i64 (c : Int)]) (by rfl) (rfl) (one_at (far_at hgrow1 (by simp [go_sem]) (by first | (simp; done) | (simp; omega)) (by simp [Value.ownBlock]))) (news_int _) (by unfold maxLen; omega) (by omega) (by first | exact Nat.le_refl _ | exact hb1.size | exact hb2.size | (simp; done) | (simp; omega) | (have := hb1.size; simp; omega) | (have := hb2.size; simp; omega)) ?_); intro v2 w2 hown2 hgrow2; have hb2 : Below w.heap.size w w2 := Below.grown (by repeat (first | assumption | exact Below.refl _ _ | refine Below.drew ?_ | refine Below.alloc ?_ (by first | exact Nat.le_refl _ | exact hb1.size | exact hb2.size | (simp; done) | (simp; omega) | (have := hb1.size; simp; omega)) _)) hgrow2 (by first | exact Nat.le_refl _ | exact hb1.size | exact hb2.size | (simp; done) | (simp; omega) | (have := hb1.size; simp; omega) | (have := hb2.size; simp; omega)) (fun g9 hg9 => (hown1.lt g9 hg9).1))
            | ((refine step_app (by rfl) (.tmp 43) (.tmp 45) 26 (by rfl) w.heap.size 3 i0 (.int .i64 0) 1 8 Try.underlying26 HI.out HZ0.out HZ1.out HZ2.out rfl (by decide) (v1) (0 + c) ([] ++ ((L.take c).map (Value.int .i64))) (by rfl) (hown1.alloc _) (⟨w1.heap.size, 0, none⟩) (1) (1) ([Value.int .i64 (c : Int)]) (by rfl) (rfl) (one_at (new_at_ _ _ _ _ rfl)) (news_int _) (by unfold maxLen; omega) (by omega) (by first | exact Nat.le_refl _ | exact hb1.size | exact hb2.size | (simp; done) | (simp; omega) | (have := hb1.size; simp; omega) | (have := hb2.size; simp; omega)) ?_); intro v2 w2 hown2 hgrow2; have hb2 : Below w.heap.size w w2 := Below.grown (by repeat (first | assumption | exact Below.refl _ _ | refine Below.drew ?_ | refine Below.alloc ?_ (by first | exact Nat.le_refl _ | exact hb1.size | exact hb2.size | (simp; done) | (simp; omega) | (have := hb1.size; simp; omega)) _)) hgrow2 (by first | exact Nat.le_refl _ | exact hb1.size | exact hb2.size | (simp; done) | (simp; omega) | (have := hb1.size; simp; omega) | (have := hb2.size; simp; omega)) (fun g9 hg9 => (hown1.lt g9 hg9).1))
            | ((refine step_app (by rfl) (.tmp 46) (.tmp 49) 26 (by rfl) w.heap.size 3 i0 (.int .i64 0) 1 8 Try.underlying26 HI.out HZ0.out HZ1.out HZ2.out rfl (by decide) (v2) (0 + c + 1) (([] ++ ((L.take c).map (Value.int .i64))) ++ [Value.int .i64 (c : Int)]) (by rfl) (hown2) (⟨g, 0, none⟩) (0) (0) ([]) (by rfl) (rfl) (fun j u hu => by simp at hu) (fun u hu => by simp at hu) (by unfold maxLen; omega) (by omega) (by first | exact Nat.le_refl _ | exact hb1.size | exact hb2.size | (simp; done) | (simp; omega) | (have := hb1.size; simp; omega) | (have := hb2.size; simp; omega)) ?_); intro v3 w3 hown3 hgrow3; have hb3 : Below w.heap.size w w3 := Below.grown (by repeat (first | assumption | exact Below.refl _ _ | refine Below.drew ?_ | refine Below.alloc ?_ (by first | exact Nat.le_refl _ | exact hb1.size | exact hb2.size | (simp; done) | (simp; omega) | (have := hb1.size; simp; omega)) _)) hgrow3 (by first | exact Nat.le_refl _ | exact hb1.size | exact hb2.size | (simp; done) | (simp; omega) | (have := hb1.size; simp; omega) | (have := hb2.size; simp; omega)) (fun g9 hg9 => (hown2.lt g9 hg9).1); obtain ⟨A3, c3, rfl⟩ := formOf hown3; obtain ⟨g3, rfl⟩ := own_some hown3 (by omega))
            | ((refine step_app (by rfl) (.tmp 46) (.tmp 49) 26 (by rfl) w.heap.size 3 i0 (.int .i64 0) 1 8 Try.underlying26 HI.out HZ0.out HZ1.out HZ2.out rfl (by decide) (v2) (0 + c + 1) (([] ++ ((L.take c).map (Value.int .i64))) ++ [Value.int .i64 (c : Int)]) (by rfl) (hown2) (⟨g, c, none⟩) (0) (0) ([]) (by rfl) (rfl) (fun j u hu => by simp at hu) (fun u hu => by simp at hu) (by unfold maxLen; omega) (by omega) (by first | exact Nat.le_refl _ | exact hb1.size | exact hb2.size | (simp; done) | (simp; omega) | (have := hb1.size; simp; omega) | (have := hb2.size; simp; omega)) ?_); intro v3 w3 hown3 hgrow3; have hb3 : Below w.heap.size w w3 := Below.grown (by repeat (first | assumption | exact Below.refl _ _ | refine Below.drew ?_ | refine Below.alloc ?_ (by first | exact Nat.le_refl _ | exact hb1.size | exact hb2.size | (simp; done) | (simp; omega) | (have := hb1.size; simp; omega)) _)) hgrow3 (by first | exact Nat.le_refl _ | exact hb1.size | exact hb2.size | (simp; done) | (simp; omega) | (have := hb1.size; simp; omega) | (have := hb2.size; simp; omega)) (fun g9 hg9 => (hown2.lt g9 hg9).1); obtain ⟨A3, c3, rfl⟩ := formOf hown3; obtain ⟨g3, rfl⟩ := own_some hown3 (by omega)))
          all_goals
            have HO3 : Hid (w3.ownsRow wx.heap.size 3 1 (.slice (some ⟨g3, 0, none⟩) (c + 1) c3) (c + 1) ((ordD Lr (c + 1)).map (Value.int .i64))) := Lib.hid (by
              have h9 := own_base hown3 HBB.out
              rw [List.take_of_length_le (by have := HNL.out; omega), List.nil_append, List.append_nil] at h9
              rw [HSTP.out, List.take_of_length_le (by have := HNL.out; omega), List.drop_of_length_le (by have := HNL.out; omega), List.map_append]
              simpa using h9)
            have HB3 : Hid (Below wx.heap.size wx w3) := Lib.hid (HBX.out.trans (hb3.mono HBB.out))
            clear hown1 hgrow1 hown2 hgrow2 hown3 hgrow3
            go_wp2_with fail
            go_roundw
            case rel => exact ⟨c + 1, g3, c3, by omega, by first | rfl | (congr 1 <;> simp <;> omega), by go_num, HO3, HB3.out⟩
            case measure => simp [intOf]; omega
        case neg =>
          go_wp2_with fail
          go_region_law (first
            | ((refine step_app (by rfl) (.tmp 39) (.tmp 42) 26 (by rfl) w.heap.size 3 i0 (.int .i64 0) 1 8 Try.underlying26 HI.out HZ0.out HZ1.out HZ2.out rfl (by decide) (.slice (some ⟨w.heap.size, 0, none⟩) 0 0) (0) ([]) (by rfl) (by first | exact lit_rowH rfl _ (Nat.le_refl _) | exact (lit_rowH rfl _ (Nat.le_refl _)).alloc _) (⟨g, 0, none⟩) (N) (c) (((L.take N).map (Value.int .i64))) (by rfl) (by rw [List.length_map, List.length_take, Nat.mul_one]; have := HNL.out; omega) (HCT.out N (Nat.le_refl _) _ (by repeat (first | assumption | exact Below.refl _ _ | refine Below.drew ?_ | refine Below.alloc ?_ (by first | exact Nat.le_refl _ | exact hb1.size | exact hb2.size | (simp; done) | (simp; omega) | (have := hb1.size; simp; omega)) _))) (news_ints _) (by unfold maxLen; omega) (by omega) (by first | exact Nat.le_refl _ | exact hb1.size | exact hb2.size | (simp; done) | (simp; omega) | (have := hb1.size; simp; omega) | (have := hb2.size; simp; omega)) ?_); intro v1 w1 hown1 hgrow1; have hb1 : Below w.heap.size w w1 := Below.grown (by repeat (first | assumption | exact Below.refl _ _ | refine Below.drew ?_ | refine Below.alloc ?_ (by first | exact Nat.le_refl _ | exact hb1.size | exact hb2.size | (simp; done) | (simp; omega) | (have := hb1.size; simp; omega)) _)) hgrow1 (by first | exact Nat.le_refl _ | exact hb1.size | exact hb2.size | (simp; done) | (simp; omega) | (have := hb1.size; simp; omega) | (have := hb2.size; simp; omega)) (fun g9 hg9 => by simp [Value.ownBlock] at hg9; omega))
            | ((refine step_app (by rfl) (.tmp 39) (.tmp 42) 26 (by rfl) w.heap.size 3 i0 (.int .i64 0) 1 8 Try.underlying26 HI.out HZ0.out HZ1.out HZ2.out rfl (by decide) (.slice (some ⟨w.heap.size + 1, 0, none⟩) 0 0) (0) ([]) (by rfl) (by exact lit_rowH (by simp) _ (by simp)) (⟨g, 0, none⟩) (N) (c) (((L.take N).map (Value.int .i64))) (by rfl) (by rw [List.length_map, List.length_take, Nat.mul_one]; have := HNL.out; omega) (HCT.out N (Nat.le_refl _) _ (by repeat (first | assumption | exact Below.refl _ _ | refine Below.drew ?_ | refine Below.alloc ?_ (by first | exact Nat.le_refl _ | exact hb1.size | exact hb2.size | (simp; done) | (simp; omega) | (have := hb1.size; simp; omega)) _))) (news_ints _) (by unfold maxLen; omega) (by omega) (by first | exact Nat.le_refl _ | exact hb1.size | exact hb2.size | (simp; done) | (simp; omega) | (have := hb1.size; simp; omega) | (have := hb2.size; simp; omega)) ?_); intro v1 w1 hown1 hgrow1; have hb1 : Below w.heap.size w w1 := Below.grown (by repeat (first | assumption | exact Below.refl _ _ | refine Below.drew ?_ | refine Below.alloc ?_ (by first | exact Nat.le_refl _ | exact hb1.size | exact hb2.size | (simp; done) | (simp; omega) | (have := hb1.size; simp; omega)) _)) hgrow1 (by first | exact Nat.le_refl _ | exact hb1.size | exact hb2.size | (simp; done) | (simp; omega) | (have := hb1.size; simp; omega) | (have := hb2.size; simp; omega)) (fun g9 hg9 => by simp [Value.ownBlock] at hg9; omega))
            | ((refine step_app (by rfl) (.tmp 43) (.tmp 45) 26 (by rfl) w.heap.size 3 i0 (.int .i64 0) 1 8 Try.underlying26 HI.out HZ0.out HZ1.out HZ2.out rfl (by decide) (v1) (0 + N) ([] ++ ((L.take N).map (Value.int .i64))) (by rfl) (hown1) (⟨w.heap.size + 1, 0, none⟩) (1) (1) ([Value.int .i64 (N : Int)]) (by rfl) (rfl) (one_at (far_at hgrow1 (new_at_ _ _ _ _ (by simp)) (by first | (simp; done) | (simp; omega)) (by simp [Value.ownBlock]))) (news_int _) (by unfold maxLen; omega) (by omega) (by first | exact Nat.le_refl _ | exact hb1.size | exact hb2.size | (simp; done) | (simp; omega) | (have := hb1.size; simp; omega) | (have := hb2.size; simp; omega)) ?_); intro v2 w2 hown2 hgrow2; have hb2 : Below w.heap.size w w2 := Below.grown (by repeat (first | assumption | exact Below.refl _ _ | refine Below.drew ?_ | refine Below.alloc ?_ (by first | exact Nat.le_refl _ | exact hb1.size | exact hb2.size | (simp; done) | (simp; omega) | (have := hb1.size; simp; omega)) _)) hgrow2 (by first | exact Nat.le_refl _ | exact hb1.size | exact hb2.size | (simp; done) | (simp; omega) | (have := hb1.size; simp; omega) | (have := hb2.size; simp; omega)) (fun g9 hg9 => (hown1.lt g9 hg9).1))
            | ((refine step_app (by rfl) (.tmp 43) (.tmp 45) 26 (by rfl) w.heap.size 3 i0 (.int .i64 0) 1 8 Try.underlying26 HI.out HZ0.out HZ1.out HZ2.out rfl (by decide) (v1) (0 + N) ([] ++ ((L.take N).map (Value.int .i64))) (by rfl) (hown1) (⟨w.heap.size, 0, none⟩) (1) (1) ([Value.int .i64 (N : Int)]) (by rfl) (rfl) (one_at (far_at hgrow1 (by simp [go_sem]) (by first | (simp; done) | (simp; omega)) (by simp [Value.ownBlock]))) (news_int _) (by unfold maxLen; omega) (by omega) (by first | exact Nat.le_refl _ | exact hb1.size | exact hb2.size | (simp; done) | (simp; omega) | (have := hb1.size; simp; omega) | (have := hb2.size; simp; omega)) ?_); intro v2 w2 hown2 hgrow2; have hb2 : Below w.heap.size w w2 := Below.grown (by repeat (first | assumption | exact Below.refl _ _ | refine Below.drew ?_ | refine Below.alloc ?_ (by first | exact Nat.le_refl _ | exact hb1.size | exact hb2.size | (simp; done) | (simp; omega) | (have := hb1.size; simp; omega)) _)) hgrow2 (by first | exact Nat.le_refl _ | exact hb1.size | exact hb2.size | (simp; done) | (simp; omega) | (have := hb1.size; simp; omega) | (have := hb2.size; simp; omega)) (fun g9 hg9 => (hown1.lt g9 hg9).1))
            | ((refine step_app (by rfl) (.tmp 43) (.tmp 45) 26 (by rfl) w.heap.size 3 i0 (.int .i64 0) 1 8 Try.underlying26 HI.out HZ0.out HZ1.out HZ2.out rfl (by decide) (v1) (0 + N) ([] ++ ((L.take N).map (Value.int .i64))) (by rfl) (hown1.alloc _) (⟨w1.heap.size, 0, none⟩) (1) (1) ([Value.int .i64 (N : Int)]) (by rfl) (rfl) (one_at (new_at_ _ _ _ _ rfl)) (news_int _) (by unfold maxLen; omega) (by omega) (by first | exact Nat.le_refl _ | exact hb1.size | exact hb2.size | (simp; done) | (simp; omega) | (have := hb1.size; simp; omega) | (have := hb2.size; simp; omega)) ?_); intro v2 w2 hown2 hgrow2; have hb2 : Below w.heap.size w w2 := Below.grown (by repeat (first | assumption | exact Below.refl _ _ | refine Below.drew ?_ | refine Below.alloc ?_ (by first | exact Nat.le_refl _ | exact hb1.size | exact hb2.size | (simp; done) | (simp; omega) | (have := hb1.size; simp; omega)) _)) hgrow2 (by first | exact Nat.le_refl _ | exact hb1.size | exact hb2.size | (simp; done) | (simp; omega) | (have := hb1.size; simp; omega) | (have := hb2.size; simp; omega)) (fun g9 hg9 => (hown1.lt g9 hg9).1))
            | ((refine step_app (by rfl) (.tmp 46) (.tmp 49) 26 (by rfl) w.heap.size 3 i0 (.int .i64 0) 1 8 Try.underlying26 HI.out HZ0.out HZ1.out HZ2.out rfl (by decide) (v2) (0 + N + 1) (([] ++ ((L.take N).map (Value.int .i64))) ++ [Value.int .i64 (N : Int)]) (by rfl) (hown2) (⟨g, N, none⟩) (0) (c - N) ([]) (by rfl) (rfl) (fun j u hu => by simp at hu) (fun u hu => by simp at hu) (by unfold maxLen; omega) (by omega) (by first | exact Nat.le_refl _ | exact hb1.size | exact hb2.size | (simp; done) | (simp; omega) | (have := hb1.size; simp; omega) | (have := hb2.size; simp; omega)) ?_); intro v3 w3 hown3 hgrow3; have hb3 : Below w.heap.size w w3 := Below.grown (by repeat (first | assumption | exact Below.refl _ _ | refine Below.drew ?_ | refine Below.alloc ?_ (by first | exact Nat.le_refl _ | exact hb1.size | exact hb2.size | (simp; done) | (simp; omega) | (have := hb1.size; simp; omega)) _)) hgrow3 (by first | exact Nat.le_refl _ | exact hb1.size | exact hb2.size | (simp; done) | (simp; omega) | (have := hb1.size; simp; omega) | (have := hb2.size; simp; omega)) (fun g9 hg9 => (hown2.lt g9 hg9).1); obtain ⟨A3, c3, rfl⟩ := formOf hown3; obtain ⟨g3, rfl⟩ := own_some hown3 (by omega)))
          all_goals
            have HO3 : Hid (w3.ownsRow wx.heap.size 3 1 (.slice (some ⟨g3, 0, none⟩) (N + 1) c3) (N + 1) ((ordD Lr (N + 1)).map (Value.int .i64))) := Lib.hid (by
              have h9 := own_base hown3 HBB.out
              rw [List.take_of_length_le (by have := HNL.out; omega), List.nil_append, List.append_nil] at h9
              rw [HSTP.out, List.take_of_length_le (by have := HNL.out; omega), List.drop_of_length_le (by have := HNL.out; omega), List.map_append]
              simpa using h9)
            have HB3 : Hid (Below wx.heap.size wx w3) := Lib.hid (HBX.out.trans (hb3.mono HBB.out))
            clear hown1 hgrow1 hown2 hgrow2 hown3 hgrow3
            go_wp2_with fail
            go_roundw
            case rel => exact ⟨N + 1, g3, c3, by omega, by first | rfl | (congr 1 <;> simp <;> omega), by go_num, HO3, HB3.out⟩
            case measure => simp [intOf]; omega
end Go.Proofs.Ytlgkjidginibdaa
