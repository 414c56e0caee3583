/- The law's helpers over a slice of pairs of ints: compared, marked, asked for their marks, nil let in. No condition but those typed. -/
import Derived.Test.YtnbeomnlobfpfaaCp
import Derived.Test.YtnbeomnlobfpfaaGB
namespace Go.Proofs.Ytnbeomnlobfpfaa
open Go.ChangeShapes Go.WideShapes Go.ChangeAt Go.RowKit

theorem rdOwnA {w : World} {B E s n c : Nat} {A : Option Addr} {xs : List Value} (h : w.ownsRow B E s (.slice A n c) n xs) : Rd w w.heap.size A xs := by
  rcases h.2 with ⟨hv, h0⟩ | ⟨g, cap, cur, hv, _⟩
  · injection hv with hA
    subst hA
    have hl := h.1
    rw [h0, Nat.zero_mul] at hl
    intro k u hu
    rw [List.length_eq_zero_iff.1 hl] at hu
    simp at hu
  · injection hv with hA _ hC
    subst hA hC
    exact Rd.ofOwnK h
theorem q2_ints (l : List Q2) : ∃ zs : List Int, l.flatMap Q2.cells = zs.map (Value.int .i64) ∧ zs.length = 2 * l.length := by
  refine ⟨l.flatMap fun q => [q.a, q.b], ?_, ?_⟩
  · induction l with
    | nil => rfl
    | cons q r ih => rw [List.flatMap_cons, List.flatMap_cons, List.map_append, ih]; rfl
  · induction l with
    | nil => rfl
    | cons q r ih => rw [List.flatMap_cons, List.length_append, ih, List.length_cons]; simp; omega
theorem a2_snoc {zs : List Int} {m : Nat} (h : m < zs.length) : ((marks 1 m ++ zs.drop m).map (Value.int .i64)).set m (.int .i64 (1 + (m : Int))) = (marks 1 (m + 1) ++ zs.drop (m + 1)).map (Value.int .i64) := by
  have hml := marks_len 1 m
  rw [List.drop_eq_getElem_cons h, List.map_append, List.map_cons, List.set_append_right _ _ (by simp [hml]), List.length_map, hml, Nat.sub_self, List.set_cons_zero]
  have em : marks 1 (m + 1) = marks 1 m ++ [((1 + m : Nat) : Int)] := by
    unfold marks; rw [List.range_succ, List.map_append]; rfl
  rw [em]
  simp

theorem belAtA {w W w2 : World} {p : Addr} (h : Bel w W) (hb2 : Below W.heap.size W w2) (hg : p.block < w.heap.size) : w2.cell? p = W.cell? p := hb2.cell (Nat.lt_of_lt_of_le hg (Below.size (Bel.out h)))
set_option maxHeartbeats 1000000 in
theorem eqA2 (x0 x1 : Int) (w : World) :
    Calls Try.prog 91 #[.agg #[.int .i64 x0, .int .i64 x1], .agg #[.int .i64 x0, .int .i64 x1]] w fun e w' => e = .returned (.bool true) ∧ Below w.heap.size w w' := by
  go_enter Try.func91, Try.ntmps91
  go_wp2
  obtain ⟨W0, hW0⟩ : ∃ W0, (w.alloc (Obj.cells #[.int .i64 x0, .int .i64 x1] 133)).alloc (Obj.cells #[.int .i64 x0, .int .i64 x1] 133) = W0 := ⟨_, rfl⟩
  have hb0 : Below w.heap.size w W0 := by rw [← hW0]; exact ((Below.refl _ _).alloc (Nat.le_refl _) _).alloc (by simp) _
  have hc : ∀ t : Nat, t < 2 → ∃ v : Int, W0.cell? ⟨w.heap.size, t, none⟩ = some (.int .i64 v) ∧ W0.cell? ⟨w.heap.size + 1, t, none⟩ = some (.int .i64 v) := by
    intro t ht
    rw [← hW0]
    match t, ht with
    | 0, _ => exact ⟨x0, by simp [go_sem], by simp [go_sem]⟩
    | 1, _ => exact ⟨x1, by simp [go_sem], by simp [go_sem]⟩
  have hz : w.heap.size + 1 < W0.heap.size := by rw [← hW0]; simp
  have HB0 := Lib.hid hb0; have HC := Lib.hid hc; have HZ := Lib.hid hz
  rw [hW0]
  clear hW0 hb0 hc hz
  go_loopw [5] (fun i wr => ∃ k : Nat, k ≤ 2 ∧ i = .int .i64 k ∧ Below W0.heap.size W0 wr) (fun i _ => 2 - (intOf i).toNat)
  case atStart => exact ⟨0, Nat.zero_le _, rfl, Below.refl _ _⟩
  case round =>
    obtain ⟨k, hk, rfl, hb⟩ := hrel
    have HBR := Lib.hid hb
    have HBW := Lib.hid (HB0.out.trans (hb.mono HB0.out.size))
    clear hb
    by_cases hlt : k < 2
    · obtain ⟨v, h1, h2⟩ := HC.out k hlt
      have c1 := (HBR.out.cell (p := ⟨w.heap.size, k, none⟩) (by show w.heap.size < _; have := HZ.out; omega)).trans h1
      have c2 := (HBR.out.cell (p := ⟨w.heap.size + 1, k, none⟩) HZ.out).trans h2
      have hlt2 : (k : Int) < 2 := by omega
      clear h1 h2
      go_wp2_with fail
      go_quiet (fail)
      clear c1 c2
      go_wp2
      go_roundw
      case rel => exact ⟨k + 1, by omega, by go_num, drewN_below HBR.out _⟩
      case measure => simp [intOf]; omega
    · have hk2 : k = 2 := by omega
      subst hk2
      clear hlt
      go_wp2
      go_ret
      exact ⟨rfl, HBW.out⟩
theorem eqA2_nil (A A' : Option Addr) (c c' : Nat) (w : World) :
    Calls Try.prog 24 #[.slice A 0 c, .slice A' 0 c'] w fun e w' => e = .returned (.bool true) ∧ Below w.heap.size w w' := by
  go_enter Try.func24, Try.ntmps24
  go_wp2
  go_loop [5] (fun i => i = .int .i64 0) (fun _ => 0)
  case atStart => rfl
  case round =>
    obtain rfl := hrel
    go_wp2
    go_ret
    exact ⟨rfl, Below.refl _ _⟩
set_option maxHeartbeats 2000000 in
theorem eqA2s (A A' : Option Addr) (n c c' : Nat) (qs : List Q2) (w : World) (hn : qs.length = n) (hr : Rd w w.heap.size A (qs.flatMap Q2.cells)) (hr' : Rd w w.heap.size A' (qs.flatMap Q2.cells)) (hsz : n ≤ 1048576) :
    Calls Try.prog 24 #[.slice A n c, .slice A' n c'] w fun e w' => e = .returned (.bool true) ∧ Below w.heap.size w w' := by
  by_cases h0 : n = 0
  · subst h0; exact eqA2_nil A A' c c' w
  have h1 : 0 < qs.length := by omega
  obtain ⟨ad, rfl, -⟩ := hr.q2 h1
  obtain ⟨ad', rfl, -⟩ := hr'.q2 h1
  have HN := Lib.hid hn; clear hn h0 h1
  go_enter Try.func24, Try.ntmps24
  go_wp2
  go_loopw [5] (fun i wr => ∃ k : Nat, k ≤ n ∧ i = .int .i64 k ∧ Below w.heap.size w wr) (fun i _ => n - (intOf i).toNat)
  case atStart => exact ⟨0, Nat.zero_le _, rfl, Below.refl _ _⟩
  case round =>
    obtain ⟨k, hk, rfl, hb⟩ := hrel
    by_cases hlt : k < n
    · have hks : k < qs.length := by have := HN.out; omega
      obtain ⟨ad1, e1, hg, hc0, hc1⟩ := (hr.over hb).q2 hks
      obtain ⟨ad2, e2, hg', hd0, hd1⟩ := (hr'.over hb).q2 hks
      injection e1 with e1; injection e2 with e2
      subst e1 e2
      obtain ⟨⟨u0, u1⟩, hq⟩ : ∃ u, qs[k]'hks = u := ⟨_, rfl⟩
      rw [hq] at hc0 hd0 hc1 hd1
      simp only at hc0 hd0 hc1 hd1
      have hga : (ad.add (k * 2)).block < w.heap.size := by rw [addBlock]; exact hg
      have hgb : (ad'.add (k * 2)).block < w.heap.size := by rw [addBlock]; exact hg'
      clear hq
      go_wp2
      have hbd : Bel w wr.drew := Bel.of hb.drew
      go_region_held3 (fun W => W.cell? (ad.add (k * 2)) = some (.int .i64 u0) ∧ W.cell? ⟨(ad.add (k * 2)).block, (ad.add (k * 2)).off + 1, none⟩ = some (.int .i64 u1) ∧ W.cell? (ad'.add (k * 2)) = some (.int .i64 u0) ∧ W.cell? ⟨(ad'.add (k * 2)).block, (ad'.add (k * 2)).off + 1, none⟩ = some (.int .i64 u1) ∧ Bel w W)
        (first | (go_split_ands; refine ⟨?_, ?_, ?_, ?_, ?_⟩ <;> assumption) | (go_split_ands; exact ⟨(belAtA (by assumption) hb2 hga).trans (by assumption), (Bel.at_ (by assumption) hb2 hga).trans (by assumption), (belAtA (by assumption) hb2 hgb).trans (by assumption), (Bel.at_ (by assumption) hb2 hgb).trans (by assumption), Bel.step (by assumption) hb2⟩))
        (first | (go_at_call 91; refine (eqA2 _ _ _).mono ?_; rintro e w2 ⟨rfl, hb2⟩))
      all_goals
        go_wp2
        go_roundw
        case rel => (go_split_ands; exact ⟨k + 1, by omega, by go_num, Bel.out (by assumption)⟩)
        case measure => simp [intOf]; omega
    · go_wp2
      go_ret
      exact ⟨rfl, hb⟩

set_option maxHeartbeats 2000000 in
theorem markA2K (g n c : Nat) (zs : List Int) (w : World) {B : Nat} (ho : w.ownsRow B 133 2 (.slice (some ⟨g, 0, none⟩) n c) n (zs.map (Value.int .i64))) (hn : n ≤ 1048576) :
    Calls Try.prog 29 #[.slice (some ⟨g, 0, none⟩) n c, .int .i64 1] w fun e w' => e = .returned (.int .i64 (1 + 2 * (n : Int))) ∧ Off (· = g) w w' ∧ w'.ownsRow B 133 2 (.slice (some ⟨g, 0, none⟩) n c) n ((marks 1 (2 * n)).map (Value.int .i64)) := by
  have HO := Lib.hid ho; clear ho
  have HZL : Hid (zs.length = n * 2) := Lib.hid (by have := HO.out.1; simpa using this)
  go_enter Try.func29, Try.ntmps29
  go_wp2
  go_loopw [1, 5] (fun q i wr => ∃ j : Nat, j ≤ n ∧ i = .int .i64 j ∧ q = .int .i64 (1 + 2 * (j : Int)) ∧ Off (· = g) w wr ∧ wr.ownsRow B 133 2 (.slice (some ⟨g, 0, none⟩) n c) n ((marks 1 (2 * j) ++ zs.drop (2 * j)).map (Value.int .i64))) (fun _ i _ => n - (intOf i).toNat)
  case atStart => exact ⟨0, Nat.zero_le _, rfl, by simp, Off.refl _ _, by have h := HO.out; simpa [marks] using h⟩
  case round =>
    obtain ⟨j, hj, rfl, rfl, hoff, hown⟩ := hrel
    have HF := Lib.hid hoff; have HW := Lib.hid hown
    clear hoff hown
    by_cases hlt : j < n
    · go_wp2
      obtain ⟨wo, rfl⟩ : ∃ wo, wo = wr := ⟨wr, rfl⟩
      go_loopw [1, 6] (fun q i wv => ∃ (t m : Nat), t ≤ 2 ∧ m = 2 * j + t ∧ i = .int .i64 t ∧ q = .int .i64 (1 + (m : Int)) ∧ Off (· = g) w wv ∧ wv.ownsRow B 133 2 (.slice (some ⟨g, 0, none⟩) n c) n ((marks 1 m ++ zs.drop m).map (Value.int .i64))) (fun _ i _ => 2 - (intOf i).toNat)
      case atStart => exact ⟨0, 2 * j, by omega, by omega, rfl, by simp, HF.out, HW.out⟩
      case round =>
        obtain ⟨t, m, ht, hm, rfl, rfl, hoff, hown⟩ := hrel
        have HF2 := Lib.hid hoff
        clear hoff
        by_cases ht2 : t < 2
        · have hml : m < zs.length := by have := HZL.out; omega
          have hold := hown.cellAt m (by omega)
          have hmm := marks_len 1 m
          rw [List.getElem?_map, List.getElem?_append_right (by omega), hmm, Nat.sub_self, List.getElem?_drop, Nat.add_zero, List.getElem?_eq_getElem hml] at hold
          have hfz := hown.frozenAt m
          have hst := (hown.stored m (.int .i64 (1 + (m : Int)))).1
          rw [a2_snoc hml] at hst
          have HST := Lib.hid hst
          obtain ⟨old, ho⟩ : ∃ v, zs[m]'hml = v := ⟨_, rfl⟩
          rw [ho] at hold
          simp only [Option.map_some] at hold
          have hmj : m = j * 2 + t := by omega
          rw [hmj] at hold hfz
          have HM := Lib.hid hmj
          have HSE : Hid (Off (· = g) w (wr.setCell ⟨g, j * 2 + t, none⟩ (.int .i64 (1 + (m : Int))))) := Lib.hid (HF2.out.set_ (p := ⟨g, _, none⟩) rfl _)
          have HST2 : Hid ((wr.setCell ⟨g, j * 2 + t, none⟩ (.int .i64 (1 + (m : Int)))).ownsRow B 133 2 (.slice (some ⟨g, 0, none⟩) n c) n ((marks 1 (m + 1) ++ zs.drop (m + 1)).map (Value.int .i64))) := Lib.hid (by have h9 := HST.out; rw [hmj] at h9 ⊢; exact h9)
          have ht3 : (t : Int) < 2 := by omega
          have hq9 : (1 + (m : Int)) ≤ 4000000 := by omega
          clear hown hst ho hmm hml hm hmj
          go_wp2
          go_roundw
          case rel => exact ⟨t + 1, m + 1, by omega, by have := HM.out; omega, by go_num, by go_num, HSE.out, HST2.out⟩
          case measure => simp [intOf]; omega
        · have ht3 : t = 2 := by omega
          subst ht3
          have HE : Hid (m = 2 * (j + 1)) := Lib.hid (by omega)
          have HW2 := Lib.hid hown
          clear hown ht2
          obtain rfl := HE.out
          go_wp2
          go_roundw
          case rel => exact ⟨j + 1, by omega, by go_num, by congr 1, HF2.out, HW2.out⟩
          case measure => simp [intOf]; omega
    · have hjn : j = n := by omega
      subst hjn
      have e : marks 1 (2 * j) ++ zs.drop (2 * j) = marks 1 (2 * j) := by rw [List.drop_of_length_le (by have := HZL.out; omega), List.append_nil]
      rw [e] at HW
      clear hlt e
      go_wp2
      go_ret
      exact ⟨rfl, HF.out, HW.out⟩
theorem markA2_nil (w : World) :
    Calls Try.prog 29 #[.slice none 0 0, .int .i64 1] w fun e w' => e = .returned (.int .i64 1) ∧ w = w' := by
  go_enter Try.func29, Try.ntmps29
  go_wp2
  go_loop [1, 5] (fun q i => q = .int .i64 1 ∧ i = .int .i64 0) (fun _ _ => 0)
  case atStart => exact ⟨rfl, rfl⟩
  case round =>
    obtain ⟨rfl, rfl⟩ := hrel
    go_wp2
    go_ret
    exact ⟨rfl, rfl⟩
theorem markA2A (A : Option Addr) (n c : Nat) (qs : List Q2) (w : World) {B : Nat} (ho : w.ownsRow B 133 2 (.slice A n c) n (qs.flatMap Q2.cells)) (hn : n ≤ 1048576) :
    Calls Try.prog 29 #[.slice A n c, .int .i64 1] w fun e w' => e = .returned (.int .i64 (1 + 2 * (n : Int))) ∧ Off (fun b => B ≤ b) w w' ∧ w'.ownsRow B 133 2 (.slice A n c) n ((marks 1 (2 * n)).map (Value.int .i64)) := by
  obtain ⟨zs, hz, _⟩ := q2_ints qs
  rw [hz] at ho
  rcases ho.2 with ⟨hv, h0⟩ | ⟨g, cap, cur, hv, hg, _⟩
  · injection hv with hA hN hC
    subst hA h0 hC
    refine (markA2_nil w).mono ?_
    rintro e w' ⟨rfl, rfl⟩
    exact ⟨rfl, Off.refl _ _, World.ownsRow_nil _ _ _ _⟩
  · injection hv with hA _ hC
    subst hA hC
    refine (markA2K g n c zs w ho hn).mono ?_
    rintro e w' ⟨rfl, hoff, hown⟩
    exact ⟨rfl, hoff.wider (fun k h => by have h' : k = g := h; omega), hown⟩

set_option maxHeartbeats 2000000 in
theorem heldA2 (A : Option Addr) (n c : Nat) (w : World) (hr : Rd w w.heap.size A ((marks 1 (2 * n)).map (Value.int .i64))) (hn : n ≤ 1048576) :
    Calls Try.prog 30 #[.slice A n c, .int .i64 1] w fun e w' => e = .returned (.int .i64 (1 + 2 * (n : Int))) ∧ w = w' := by
  go_enter Try.func30, Try.ntmps30
  go_wp2
  go_loop [1, 5] (fun q i => ∃ j : Nat, j ≤ n ∧ i = .int .i64 j ∧ q = .int .i64 (1 + 2 * (j : Int))) (fun _ i => n - (intOf i).toNat)
  case atStart => exact ⟨0, Nat.zero_le _, rfl, by simp⟩
  case round =>
    obtain ⟨j, hj, rfl, rfl⟩ := hrel
    by_cases hlt : j < n
    · go_wp2
      go_loop [1, 6] (fun q i => ∃ (t m : Nat), t ≤ 2 ∧ m = j * 2 + t ∧ i = .int .i64 t ∧ q = .int .i64 (1 + (m : Int))) (fun _ i => 2 - (intOf i).toNat)
      case atStart => exact ⟨0, j * 2, by omega, by omega, rfl, by congr 1; omega⟩
      case round =>
        obtain ⟨t, m, ht, hm, rfl, rfl⟩ := hrel
        by_cases ht2 : t < 2
        · obtain ⟨ad, rfl, _, hcell⟩ := hr (j * 2 + t) (.int .i64 (1 + (m : Int))) (by rw [List.getElem?_map, marks_get 1 (2 * n) (j * 2 + t) (by omega), ← hm]; simp)
          rw [show j * 2 + t = j * 2 + t from rfl, ← Go.Deep.add_add] at hcell
          have ht3 : (t : Int) < 2 := by omega
          have hq9 : (1 + (m : Int)) ≤ 4000000 := by omega
          go_wp2
          go_round
          case rel => exact ⟨t + 1, m + 1, by omega, by omega, by go_num, by go_num⟩
          case measure => simp [intOf]; omega
        · have ht3 : t = 2 := by omega
          subst ht3
          have HE : Hid ((m : Int) = 2 * ((j + 1 : Nat) : Int)) := Lib.hid (by omega)
          clear ht2
          go_wp2
          go_round
          case rel => exact ⟨j + 1, by omega, by go_num, by rw [HE.out]⟩
          case measure => simp [intOf]; omega
    · have hjn : j = n := by omega
      subst hjn
      clear hlt
      go_wp2
      go_ret
      exact ⟨rfl, rfl⟩
end Go.Proofs.Ytnbeomnlobfpfaa
