/- A network read anywhere or owned by the call: compared, marked, held. No condition but those typed. -/
import Derived.Test.YtlgkjidginibdaaDoorNtA
import Derived.Test.YtlgkjidginibdaaDoorRws
namespace Go.Proofs.YtlgkjidginibdaaDoor
open Go.ChangeShapes Go.WideShapes Go.ChangeAt Go.RowKit
set_option maxRecDepth 100000 in
set_option maxHeartbeats 4000000 in
theorem eqFibR (A A' : Option Addr) (n c c' : Nat) (qs : List Q4) (w : World) (hn : qs.length = n) (hr : Rd w w.heap.size A (qs.flatMap Q4.cells)) (hr' : Rd w w.heap.size A' (qs.flatMap Q4.cells)) (hsz : n ≤ 1048576) :
    Calls Tryd.prog 37 #[.slice A n c, .slice A' n c'] w fun e w' => e = .returned (.bool true) ∧ Below w.heap.size w w' := by
  by_cases h0 : n = 0
  · subst h0; exact eqFib_nil9 A A' c c' w
  have h1 : 0 < qs.length := by omega
  obtain ⟨ad, rfl, -⟩ := hr.q4 h1
  obtain ⟨ad', rfl, -⟩ := hr'.q4 h1
  have HN := Lib.hid hn; clear hn h0 h1
  go_enter Tryd.func37, Tryd.ntmps37
  go_wp2
  go_loopw [5] (fun i wr => ∃ k : Nat, k ≤ n ∧ i = .int .i64 k ∧ Below w.heap.size w wr) (fun i _ => n - (intOf i).toNat)
  case atStart => exact ⟨0, Nat.zero_le _, rfl, Below.refl _ _⟩
  case round =>
    obtain ⟨k, hk, rfl, hb⟩ := hrel
    by_cases hlt : k < n
    · have hks : k < qs.length := by have := HN.out; omega
      obtain ⟨ad1, e1, hg, hc0, hc1, hc2, hc3⟩ := (hr.over hb).q4 hks
      obtain ⟨ad2, e2, hg', hd0, hd1, hd2, hd3⟩ := (hr'.over hb).q4 hks
      injection e1 with e1; injection e2 with e2
      subst e1 e2
      obtain ⟨⟨u0, u1, u2, u3⟩, hq⟩ : ∃ u, qs[k]'hks = u := ⟨_, rfl⟩
      rw [hq] at hc0 hd0 hc1 hd1 hc2 hd2 hc3 hd3
      simp only at hc0 hd0 hc1 hd1 hc2 hd2 hc3 hd3
      have hga : (ad.add (k * 4)).block < w.heap.size := by rw [addBlock]; exact hg
      have hgb : (ad'.add (k * 4)).block < w.heap.size := by rw [addBlock]; exact hg'
      clear hq
      go_wp2
      have hbd : Bel w wr.drew := Bel.of hb.drew
      go_region_held3 (fun W => W.cell? (ad.add (k * 4)) = some (.int .i64 u0) ∧ W.cell? ⟨(ad.add (k * 4)).block, (ad.add (k * 4)).off + 1, none⟩ = some (.int .i64 u1) ∧ W.cell? ⟨(ad.add (k * 4)).block, (ad.add (k * 4)).off + 2, none⟩ = some (.int .i64 u2) ∧ W.cell? ⟨(ad.add (k * 4)).block, (ad.add (k * 4)).off + 3, none⟩ = some (.int .i64 u3) ∧ W.cell? (ad'.add (k * 4)) = some (.int .i64 u0) ∧ W.cell? ⟨(ad'.add (k * 4)).block, (ad'.add (k * 4)).off + 1, none⟩ = some (.int .i64 u1) ∧ W.cell? ⟨(ad'.add (k * 4)).block, (ad'.add (k * 4)).off + 2, none⟩ = some (.int .i64 u2) ∧ W.cell? ⟨(ad'.add (k * 4)).block, (ad'.add (k * 4)).off + 3, none⟩ = some (.int .i64 u3) ∧ Bel w W)
        (first | (go_split_ands; refine ⟨?_, ?_, ?_, ?_, ?_, ?_, ?_, ?_, ?_⟩ <;> assumption) | (go_split_ands; exact ⟨(belAtA (by assumption) hb2 hga).trans (by assumption), (Bel.at_ (by assumption) hb2 hga).trans (by assumption), (Bel.at_ (by assumption) hb2 hga).trans (by assumption), (Bel.at_ (by assumption) hb2 hga).trans (by assumption), (belAtA (by assumption) hb2 hgb).trans (by assumption), (Bel.at_ (by assumption) hb2 hgb).trans (by assumption), (Bel.at_ (by assumption) hb2 hgb).trans (by assumption), (Bel.at_ (by assumption) hb2 hgb).trans (by assumption), Bel.step (by assumption) hb2⟩))
        (first | (go_at_call 67; refine (eqFib _ _ _ _ _).mono ?_; rintro e w2 ⟨rfl, hb2⟩))
      all_goals
        go_wp2
        go_roundw
        case rel => (go_split_ands; exact ⟨k + 1, by omega, by go_num, Bel.out (by assumption)⟩)
        case measure => simp [intOf]; omega
    · go_wp2
      go_ret
      exact ⟨rfl, hb⟩
theorem q4_ints (l : List Q4) : ∃ zs : List Int, l.flatMap Q4.cells = zs.map (Value.int .i64) ∧ zs.length = 4 * l.length :=
  ⟨l.flatMap fun q => [q.a, q.b, q.c, q.d], by rw [List.map_flatMap]; rfl, by
    induction l with
    | nil => rfl
    | cons q r ih => rw [List.flatMap_cons, List.length_append, ih, List.length_cons]; simp; omega⟩
set_option maxHeartbeats 2000000 in
theorem eqNetR (A1 A2 A1' A2' : Option Addr) (n1 n2 c1 c2 c1' c2' : Nat) (ss : List ByteArray) (fs : List Q4) (w : World) (hn1 : ss.length = n1) (hs1 : n1 ≤ 1048576) (hn2 : fs.length = n2) (hs2 : n2 ≤ 1048576)
    (hr1 : Rd w w.heap.size A1 (ss.map Value.string)) (hr1' : Rd w w.heap.size A1' (ss.map Value.string)) (hr2 : Rd w w.heap.size A2 (fs.flatMap Q4.cells)) (hr2' : Rd w w.heap.size A2' (fs.flatMap Q4.cells)) :
    Calls Tryd.prog 13 #[.agg #[.slice A1 n1 c1, .slice A2 n2 c2], .agg #[.slice A1' n1 c1', .slice A2' n2 c2']] w
      fun e w' => e = .returned (.bool true) ∧ Below w.heap.size w w' := by
  have HN1 := Lib.hid hn1; have HN2 := Lib.hid hn2; clear hn1 hn2
  obtain ⟨W0, hW0⟩ : ∃ W0, (w.alloc (Obj.cells #[.slice A1 n1 c1, .slice A2 n2 c2] 34)).alloc (Obj.cells #[.slice A1' n1 c1', .slice A2' n2 c2'] 34) = W0 := ⟨_, rfl⟩
  have hb0 : Below w.heap.size w W0 := by rw [← hW0]; exact ((Below.refl _ _).alloc (Nat.le_refl _) _).alloc (by simp) _
  have k0 : W0.cell? ⟨w.heap.size, 0, none⟩ = some (.slice A1 n1 c1) := by rw [← hW0]; simp [go_sem]
  have k1 : W0.cell? ⟨w.heap.size, 1, none⟩ = some (.slice A2 n2 c2) := by rw [← hW0]; simp [go_sem]
  have k2 : W0.cell? ⟨w.heap.size + 1, 0, none⟩ = some (.slice A1' n1 c1') := by rw [← hW0]; simp [go_sem]
  have k3 : W0.cell? ⟨w.heap.size + 1, 1, none⟩ = some (.slice A2' n2 c2') := by rw [← hW0]; simp [go_sem]
  have hz0 : w.heap.size + 1 < W0.heap.size := by rw [← hW0]; simp
  have CS := Lib.hid (eqStrS A1 A1' n1 c1 c1' ss W0 HN1.out (hr1.moved hb0) (hr1'.moved hb0) (by omega))
  have HB0 := Lib.hid hb0
  have HR2 := Lib.hid hr2; have HR2' := Lib.hid hr2'
  clear hb0 hr1 hr1' hr2 hr2'
  go_enter Tryd.func13, Tryd.ntmps13
  go_wp2_with fail
  clear hW0
  refine CS.out.mono ?_
  rintro e w1 ⟨rfl, hb1⟩
  have l1 := (hb1.cell (p := ⟨w.heap.size, 1, none⟩) (by show w.heap.size < _; omega)).trans k1
  have l3 := (hb1.cell (p := ⟨w.heap.size + 1, 1, none⟩) hz0).trans k3
  have HB1 := Lib.hid (HB0.out.trans (hb1.mono HB0.out.size))
  have CF := Lib.hid (eqFibR A2 A2' n2 c2 c2' fs w1 HN2.out (HR2.out.moved HB1.out) (HR2'.out.moved HB1.out) hs2)
  clear hb1 k0 k1 k2 k3 hz0
  go_wp2_with fail
  refine CF.out.mono ?_
  rintro e w2 ⟨rfl, hb2⟩
  have HB2 := Lib.hid (HB1.out.trans (hb2.mono HB1.out.size))
  clear hb2
  go_wp2
  go_ret
  exact ⟨rfl, HB2.out⟩
set_option maxHeartbeats 2000000 in
theorem markNetV (A1 A2 : Option Addr) (n1 n2 c1 c2 : Nat) (ss : List ByteArray) (fs : List Q4) (w : World) {B : Nat} (ho1 : w.ownsRow B 9 1 (.slice A1 n1 c1) n1 (ss.map Value.string)) (hs1 : n1 ≤ 1048576) (ho2 : w.ownsRow B 97 4 (.slice A2 n2 c2) n2 (fs.flatMap Q4.cells)) (hs2 : n2 ≤ 1048576) :
    Calls Tryd.prog 15 #[.agg #[.slice A1 n1 c1, .slice A2 n2 c2], .int .i64 1] w fun e w' => e = .returned (.int .i64 ((1 + n1 + 4 * n2 : Nat) : Int)) ∧ Off (fun b => (Value.slice A1 n1 c1).ownBlock = some b ∨ (Value.slice A2 n2 c2).ownBlock = some b) w w' ∧
      w'.ownsRow B 9 1 (.slice A1 n1 c1) n1 ((mtxs 1 n1).map Value.string) ∧ w'.ownsRow B 97 4 (.slice A2 n2 c2) n2 ((marks (1 + n1) (4 * n2)).map (Value.int .i64)) := by
  obtain ⟨W0, hW0⟩ : ∃ W0, w.alloc (Obj.cells #[.slice A1 n1 c1, .slice A2 n2 c2] 34) = W0 := ⟨_, rfl⟩
  have hb0 : Below w.heap.size w W0 := by rw [← hW0]; exact (Below.refl _ _).alloc (Nat.le_refl _) _
  have k0 : W0.cell? ⟨w.heap.size, 0, none⟩ = some (.slice A1 n1 c1) := by rw [← hW0]; simp [go_sem]
  have k1 : W0.cell? ⟨w.heap.size, 1, none⟩ = some (.slice A2 n2 c2) := by rw [← hW0]; simp [go_sem]
  have hz0 : w.heap.size < W0.heap.size := by rw [← hW0]; simp
  have HAP := Lib.hid (own_type_apart ho1 ho2 (by decide))
  have HL1 : Hid (∀ b, (Value.slice A1 n1 c1).ownBlock = some b → b < w.heap.size) := Lib.hid fun b hb => (ho1.lt b hb).2
  have CS : Hid (Calls Tryd.prog 39 #[.slice A1 n1 c1, .int .i64 1] W0 _) := Lib.hid (markStrA A1 n1 c1 1 ss W0 (ownB ho1 hb0) hs1 (by omega) (by omega))
  have HO2 := Lib.hid (ownB ho2 hb0)
  have HB0 := Lib.hid hb0
  clear hb0 ho1 ho2
  obtain ⟨p, hp⟩ : ∃ p, 1 + n1 = p := ⟨_, rfl⟩
  rw [hp] at CS ⊢
  have hp1 : 1 ≤ p := by omega
  have hp2 : p ≤ 10000000 := by omega
  obtain ⟨q, hq⟩ : ∃ q, p + 4 * n2 = q := ⟨_, rfl⟩
  rw [hq]
  have HQ := Lib.hid hq
  clear hp hq
  go_enter Tryd.func15, Tryd.ntmps15
  go_wp2_with fail
  clear hW0
  refine CS.out.mono ?_
  rintro e w1 ⟨rfl, hoff, hown⟩
  have l1 := (hoff.cell (p := ⟨w.heap.size, 1, none⟩) hz0 (fun h => by have h9 : w.heap.size < w.heap.size := HL1.out _ h; omega)).trans k1
  have HO1 := Lib.hid hown
  obtain ⟨zs, hzs, _⟩ := q4_ints fs
  have ho2 := own_offV HO2.out hoff (fun g h1 h2 => HAP.out g h2 h1)
  rw [hzs] at ho2
  have CF := Lib.hid (markFibA9 A2 n2 c2 p zs w1 ho2 hs2 hp1 (by omega))
  rw [HQ.out] at CF
  have HF1 := Lib.hid ((Off.ofBelow HB0.out (S := fun b => (Value.slice A1 n1 c1).ownBlock = some b ∨ (Value.slice A2 n2 c2).ownBlock = some b)).trans (hoff.wider fun b h => .inl h))
  clear hoff hown k0 k1 ho2 hzs hz0
  go_wp2_with fail
  refine CF.out.mono ?_
  rintro e w2 ⟨rfl, hoff2, hown2⟩
  have HF2 := Lib.hid (HF1.out.trans (hoff2.wider fun b h => .inr h))
  have HO12 := Lib.hid (own_offV HO1.out hoff2 (fun g h1 h2 => HAP.out g h1 h2))
  have HO22 := Lib.hid hown2
  clear hoff2 hown2 l1
  go_wp2
  go_ret
  exact ⟨rfl, HF2.out, HO12.out, HO22.out⟩
end Go.Proofs.YtlgkjidginibdaaDoor
