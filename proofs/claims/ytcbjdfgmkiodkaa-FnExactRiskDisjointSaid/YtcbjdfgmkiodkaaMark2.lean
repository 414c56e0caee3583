/- Contracts of the law's helpers that mark a network and a slice of ints and ask whether ints are still marked; ints compared, nil let in. No condition but those typed. -/
import Derived.Test.YtcbjdfgmkiodkaaMark
namespace Go.Proofs.Ytcbjdfgmkiodkaa
open Go.ChangeShapes Go.WideShapes Go.ChangeAt Go.RowKit

set_option maxRecDepth 100000 in
set_option maxHeartbeats 2000000 in
theorem markFibS (g n c : Nat) (k : Int) (xs : List Value) (w : World) (ho : w.ownsRow 0 172 4 (.slice (some ⟨g, 0, none⟩) n c) n xs) (hn : n ≤ 1048576) (h0 : 1 ≤ k) (h1 : k ≤ 10000000) :
    Calls Try.prog 125 #[.slice (some ⟨g, 0, none⟩) n c, .int .i64 k] w fun e w' => e = .returned (.int .i64 (k + 4 * n)) ∧ Off (· = g) w w' := by
  have HO := Lib.hid ho; clear ho
  go_enter Try.func125, Try.ntmps125
  go_wp2
  go_loopw [1, 5] (fun q i wr => ∃ (j : Nat) (z : Int) (ys : List Value), j ≤ n ∧ i = .int .i64 j ∧ q = .int .i64 z ∧ z = k + 4 * j ∧ Off (· = g) w wr ∧ wr.ownsRow 0 172 4 (.slice (some ⟨g, 0, none⟩) n c) n ys) (fun _ i _ => n - (intOf i).toNat)
  case atStart => exact ⟨0, k, xs, Nat.zero_le _, rfl, rfl, by simp, Off.refl _ _, HO.out⟩
  case round =>
    obtain ⟨j, z, ys, hj, rfl, rfl, hz, hoff, hown⟩ := hrel
    have HF := Lib.hid hoff
    have HZ := Lib.hid hz
    have hz0 : 1 ≤ z := by omega
    have hz1 : z ≤ 20000000 := by omega
    clear hoff hz
    by_cases hlt : j < n
    · have hlen := hown.1
      have hcells : ∀ i, i < 4 → ∃ v, wr.cell? ⟨g, j * 4 + i, none⟩ = some v := by
        intro i hi
        have := hown.cellAt (j * 4 + i) (by omega)
        rw [List.getElem?_eq_getElem (by omega)] at this
        exact ⟨_, this⟩
      obtain ⟨v0, q0⟩ := hcells 0 (by omega)
      obtain ⟨v1, q1⟩ := hcells 1 (by omega)
      obtain ⟨v2, q2⟩ := hcells 2 (by omega)
      obtain ⟨v3, q3⟩ := hcells 3 (by omega)
      rw [Nat.add_zero] at q0
      have z0_ := hown.frozenAt (j * 4)
      have z1_ := hown.frozenAt (j * 4 + 1)
      have z2_ := hown.frozenAt (j * 4 + 2)
      have z3_ := hown.frozenAt (j * 4 + 3)
      have HST := Lib.hid ((((hown.stored (j * 4) (.int .i64 z)).1.stored (j * 4 + 1) (.int .i64 (z + 1))).1.stored (j * 4 + 2) (.int .i64 (z + 1 + 1))).1.stored (j * 4 + 3) (.int .i64 (z + 1 + 1 + 1))).1
      clear hown hlen hcells
      go_wp2
      go_roundw
      case rel => exact ⟨j + 1, _, _, by omega, by go_num, rfl, by have := HZ.out; omega, (((HF.out.set_ (p := ⟨g, _, none⟩) rfl _).set_ (p := ⟨g, _, none⟩) rfl _).set_ (p := ⟨g, _, none⟩) rfl _).set_ (p := ⟨g, _, none⟩) rfl _, HST.out⟩
      case measure => simp [intOf]; omega
    · have hjn : j = n := by omega
      subst hjn
      have HR : Hid (z = k + 4 * j) := HZ
      clear hlt hown
      go_wp2
      go_ret
      exact ⟨reti HR.out, HF.out⟩

def MarkP (g1 g2 : Nat) (w : World) (e : Ending) (w' : World) : Prop := ∃ v : Int, e = .returned (.int .i64 v) ∧ 0 ≤ v ∧ Off (fun b => b = g1 ∨ b = g2) w w'
set_option maxHeartbeats 1000000 in
theorem markNet (g1 g2 n1 n2 c1 c2 : Nat) (xs ys : List Value) (w : World) (ho1 : w.ownsRow 0 9 1 (.slice (some ⟨g1, 0, none⟩) n1 c1) n1 xs) (hs1 : n1 ≤ 1048576)
    (ho2 : w.ownsRow 0 172 4 (.slice (some ⟨g2, 0, none⟩) n2 c2) n2 ys) (hs2 : n2 ≤ 1048576) (hne : g1 ≠ g2) :
    Calls Try.prog 31 #[.agg #[.slice (some ⟨g1, 0, none⟩) n1 c1, .slice (some ⟨g2, 0, none⟩) n2 c2], .int .i64 1] w (MarkP g1 g2 w) := by
  have hb0 := (Below.refl w.heap.size w).alloc (Nat.le_refl _) (Obj.cells #[.slice (some ⟨g1, 0, none⟩) n1 c1, .slice (some ⟨g2, 0, none⟩) n2 c2] 32)
  have HB0 := Lib.hid hb0
  have HO1 := Lib.hid (ownB ho1 hb0); have HO2 := Lib.hid (ownB ho2 hb0)
  have hl1 := ho1.lt g1 rfl
  have hl2 := ho2.lt g2 rfl
  have HNE := Lib.hid hne
  clear hb0 ho1 ho2 hne
  go_enter Try.func31, Try.ntmps31
  go_wp2_with fail
  obtain ⟨W, hW⟩ : ∃ W, (w.alloc (Obj.cells #[.slice (some ⟨g1, 0, none⟩) n1 c1, .slice (some ⟨g2, 0, none⟩) n2 c2] 32)) = W := ⟨_, rfl⟩
  have hk1 : W.cell? ⟨w.heap.size, 1, none⟩ = some (.slice (some ⟨g2, 0, none⟩) n2 c2) := by rw [← hW]; simp [go_sem]
  have hz : w.heap.size < W.heap.size := by rw [← hW]; simp
  rw [hW] at HB0 HO1 HO2 ⊢
  clear hW
  refine (markStrS g1 n1 c1 1 _ W HO1.out hs1 (by omega) (by omega)).mono ?_
  rintro e w2 ⟨rfl, hof1, zs, hown1⟩
  have k1 := (hof1.cell (p := ⟨w.heap.size, 1, none⟩) hz (by show ¬ w.heap.size = g1; omega)).trans hk1
  have HO22 := Lib.hid (hof1.own HO2.out (fun h => HNE.out h.symm))
  have HF1 := Lib.hid hof1
  clear hof1 hown1 hk1 hz
  have e1 : (1 : Int) + (n1 : Int) ≤ 10000000 := by omega
  go_wp2_with fail
  refine (markFibS g2 n2 c2 (1 + n1) _ w2 HO22.out hs2 (by omega) (by omega)).mono ?_
  rintro e w3 ⟨rfl, hof2⟩
  have HF2 := Lib.hid hof2; clear hof2
  go_wp2
  go_ret
  exact ⟨_, rfl, by omega, ((Off.ofBelow HB0.out).trans (HF1.out.wider fun k h => .inl h)).trans (HF2.out.wider fun k h => .inr h)⟩

/-- the marks from m on. -/
def marks (m n : Nat) : List Int := (List.range n).map fun i => ((m + i : Nat) : Int)
theorem marks_get (m n i : Nat) (h : i < n) : (marks m n)[i]? = some ((m + i : Nat) : Int) := by
  unfold marks; rw [List.getElem?_map, List.getElem?_range h]; rfl
theorem marks_len (m n : Nat) : (marks m n).length = n := by unfold marks; simp

/-- an int slice of the call's own: nil, or a row. -/
def IntsOwn (B : Nat) (v : Value) (n : Nat) (zs : List Int) (w : World) : Prop := w.ownsRow B 3 1 v n (zs.map (Value.int .i64))
theorem IntsOwn.form {B n : Nat} {v : Value} {zs : List Int} {w : World} (h : IntsOwn B v n zs w) : (v = .slice none 0 0 ∧ n = 0) ∨ ∃ g c, v = .slice (some ⟨g, 0, none⟩) n c ∧ B ≤ g ∧ g < w.heap.size := by
  rcases h.2 with ⟨rfl, h0⟩ | ⟨g, cap, cur, rfl, hg, hh, _⟩
  · exact .inl ⟨rfl, h0⟩
  · exact .inr ⟨g, cap, rfl, hg, (Array.getElem?_eq_some_iff.1 hh).1⟩

set_option maxHeartbeats 1000000 in
theorem markInts (g n c : Nat) (zs : List Int) (w : World) (ho : IntsOwn 0 (.slice (some ⟨g, 0, none⟩) n c) n zs w) (hn : n ≤ 1048576) :
    Calls Try.prog 43 #[.slice (some ⟨g, 0, none⟩) n c, .int .i64 1] w fun e w' => e = .returned (.int .i64 (1 + n)) ∧ Off (· = g) w w' ∧ IntsOwn 0 (.slice (some ⟨g, 0, none⟩) n c) n (marks 1 n) w' := by
  have HO := Lib.hid ho; clear ho
  have hzl : zs.length = n := by have := HO.out.1; simpa using this
  have HZL := Lib.hid hzl; clear hzl
  go_enter Try.func43, Try.ntmps43
  go_wp2
  go_loopw [1, 5] (fun q i wr => ∃ j : Nat, j ≤ n ∧ i = .int .i64 j ∧ q = .int .i64 (1 + j) ∧ Off (· = g) w wr ∧ wr.ownsRow 0 3 1 (.slice (some ⟨g, 0, none⟩) n c) n ((marks 1 j ++ zs.drop j).map (Value.int .i64))) (fun _ i _ => n - (intOf i).toNat)
  case atStart => exact ⟨0, Nat.zero_le _, rfl, by simp, Off.refl _ _, by have h := HO.out; unfold IntsOwn at h; simpa [marks] using h⟩
  case round =>
    obtain ⟨j, hj, rfl, rfl, hoff, hown⟩ := hrel
    have HF := Lib.hid hoff; clear hoff
    by_cases hlt : j < n
    · have hjl : j < zs.length := by have := HZL.out; omega
      have hold := hown.cellAt j (by omega)
      have hml := marks_len 1 j
      rw [List.getElem?_map, List.getElem?_append_right (by omega), hml, Nat.sub_self, List.getElem?_drop, Nat.add_zero, List.getElem?_eq_getElem hjl] at hold
      have hfz := hown.frozenAt j
      have hst := (hown.stored j (.int .i64 (1 + j))).1
      have e : ((marks 1 j ++ zs.drop j).map (Value.int .i64)).set j (.int .i64 (1 + j)) = (marks 1 (j + 1) ++ zs.drop (j + 1)).map (Value.int .i64) := by
        rw [List.drop_eq_getElem_cons hjl, List.map_append, List.map_cons, List.set_append_right _ _ (by simp [hml]), List.length_map, hml, Nat.sub_self, List.set_cons_zero]
        have em : marks 1 (j + 1) = marks 1 j ++ [((1 + j : Nat) : Int)] := by unfold marks; rw [List.range_succ, List.map_append]; rfl
        rw [em]
        simp
      rw [e] at hst
      have HST := Lib.hid hst
      obtain ⟨old, ho⟩ : ∃ v, zs[j]'hjl = v := ⟨_, rfl⟩
      rw [ho] at hold
      simp only [Option.map_some] at hold
      clear hown hst e hml ho
      go_wp2
      go_roundw
      case rel => exact ⟨j + 1, by omega, by go_num, by go_num, HF.out.set_ (p := ⟨g, _, none⟩) rfl _, HST.out⟩
      case measure => simp [intOf]; omega
    · have hjn : j = n := by omega
      subst hjn
      have e : marks 1 j ++ zs.drop j = marks 1 j := by rw [List.drop_of_length_le (by have := HZL.out; omega), List.append_nil]
      rw [e] at hown
      have HW := Lib.hid hown
      clear hlt hown e
      go_wp2
      go_ret
      exact ⟨rfl, HF.out, HW.out⟩

theorem markInts_nil (w : World) :
    Calls Try.prog 43 #[.slice none 0 0, .int .i64 1] w fun e w' => e = .returned (.int .i64 1) ∧ w = w' := by
  go_enter Try.func43, Try.ntmps43
  go_wp2
  go_loop [1, 5] (fun q i => q = .int .i64 1 ∧ i = .int .i64 0) (fun _ _ => 0)
  case atStart => exact ⟨rfl, rfl⟩
  case round =>
    obtain ⟨rfl, rfl⟩ := hrel
    go_wp2
    go_ret
    exact ⟨rfl, rfl⟩

set_option maxHeartbeats 1000000 in
theorem heldInts (A : Option Addr) (n c : Nat) (w : World) (hr : Rd w w.heap.size A ((marks 1 n).map (Value.int .i64))) (hn : n ≤ 1048576) :
    Calls Try.prog 44 #[.slice A n c, .int .i64 1] w fun e w' => e = .returned (.int .i64 (1 + n)) ∧ w = w' := by
  go_enter Try.func44, Try.ntmps44
  go_wp2
  go_loop [1, 5] (fun q i => ∃ j : Nat, j ≤ n ∧ i = .int .i64 j ∧ q = .int .i64 (1 + j)) (fun _ i => n - (intOf i).toNat)
  case atStart => exact ⟨0, Nat.zero_le _, rfl, by simp⟩
  case round =>
    obtain ⟨j, hj, rfl, rfl⟩ := hrel
    by_cases hlt : j < n
    · obtain ⟨ad, rfl, _, hcell⟩ := hr j (.int .i64 (1 + j)) (by rw [List.getElem?_map, marks_get 1 n j hlt]; simp)
      go_wp2
      go_round
      case rel => exact ⟨j + 1, by omega, by go_num, by go_num⟩
      case measure => simp [intOf]; omega
    · have hjn : j = n := by omega
      subst hjn
      clear hlt
      go_wp2
      go_ret
      exact ⟨rfl, rfl⟩

set_option maxHeartbeats 1000000 in
theorem eqInts (A A' : Option Addr) (n c c' : Nat) (zs : List Int) (w : World) (hn : zs.length = n) (hr : Rd w w.heap.size A (zs.map (Value.int .i64))) (hr' : Rd w w.heap.size A' (zs.map (Value.int .i64))) (hsz : n ≤ 1048576) :
    Calls Try.prog 41 #[.slice A n c, .slice A' n c'] w fun e w' => e = .returned (.bool true) ∧ Below w.heap.size w w' := by
  have HN := Lib.hid hn; clear hn
  go_enter Try.func41, Try.ntmps41
  go_wp2
  go_loopw [5] (fun i wr => ∃ k : Nat, k ≤ n ∧ i = .int .i64 k ∧ Below w.heap.size w wr) (fun i _ => n - (intOf i).toNat)
  case atStart => exact ⟨0, Nat.zero_le _, rfl, Below.refl _ _⟩
  case round =>
    obtain ⟨k, hk, rfl, hb⟩ := hrel
    by_cases hlt : k < n
    · have hks : k < zs.length := by have := HN.out; omega
      obtain ⟨ad, rfl, _, hcell⟩ := (hr.over hb).got (k := k) (by simpa using hks)
      obtain ⟨ad', rfl, _, hcell'⟩ := (hr'.over hb).got (k := k) (by simpa using hks)
      simp only [List.getElem_map] at hcell hcell'
      obtain ⟨z, hz⟩ : ∃ z, zs[k]'hks = z := ⟨_, rfl⟩
      rw [hz] at hcell hcell'; clear hz
      go_wp2
      go_quiet (fail)
      go_wp2
      go_roundw
      case rel => exact ⟨k + 1, by omega, by go_num, drewN_below hb _⟩
      case measure => simp [intOf]; omega
    · go_wp2
      go_ret
      exact ⟨rfl, hb⟩
end Go.Proofs.Ytcbjdfgmkiodkaa
