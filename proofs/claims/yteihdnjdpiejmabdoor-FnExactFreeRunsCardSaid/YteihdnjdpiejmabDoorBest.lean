/- Contracts: spec.l8Best, spec.BestFit and impl.BestFit: the shortest free run with room. Condition: the table of math/bits holds what Go's text lays. -/
import Derived.Test.YteihdnjdpiejmabDoorBestP
namespace Go.Proofs.YteihdnjdpiejmabDoor
open Go.ChangeShapes Go.WideShapes Go.ChangeAt Go.RowKit

theorem one_row (w : World) (a b : Value) {base : Nat} (hb : base ≤ w.heap.size) : (w.alloc (.cells #[a, b] 29)).ownsRow base 29 2 (.slice (some ⟨w.heap.size, 0, none⟩) 1 1) 1 [a, b] := by
  have := World.ownsRow_lit (base := base) (e := 29) (size := 2) w #[a, b] 1 hb (by unfold maxLen; omega) rfl
  simpa using this
theorem blk_at {w : World} {B N cc k : Nat} {A : Option Addr} {l : List (Nat × Nat)} (h : w.ownsRow B 29 2 (.slice A N cc) N (bcells l)) (hk : k < l.length) :
    ∃ g, A = some ⟨g, 0, none⟩ ∧ B ≤ g ∧ g < w.heap.size ∧ w.cell? ⟨g, k * 2, none⟩ = some (.int .i64 (l[k].1 : Int)) ∧ w.cell? ⟨g, k * 2 + 1, none⟩ = some (.int .i64 (l[k].2 : Int)) := by
  have e : bcells l = (l.map fun q => (⟨(q.1 : Int), (q.2 : Int)⟩ : Q2)).flatMap Q2.cells := by unfold bcells; rw [List.flatMap_map]; rfl
  have hr := Rd.ofOwnK h
  rw [e] at hr
  rcases h.2 with ⟨_, h0⟩ | ⟨g, cap, cur, hv, hg, hh, _⟩
  · subst h0
    have h1 := h.1
    rw [e, flat_len Q2.cells 2 _ (fun _ _ => rfl)] at h1
    simp at h1
    omega
  · injection hv with hA
    subst hA
    obtain ⟨h1, h2, h3⟩ := hr.q2c (k := k) (by simpa using hk)
    simp only [Nat.zero_add, List.getElem_map] at h2 h3
    exact ⟨g, rfl, hg, h1, h2, h3⟩
theorem own_heap {w w' : World} {B E s n : Nat} {v : Value} {xs : List Value} (e : w'.heap = w.heap) (h : w.ownsRow B E s v n xs) : w'.ownsRow B E s v n xs := by
  refine ⟨h.1, ?_⟩
  rw [e]
  exact h.2
theorem own_drewN {w : World} {B E s n : Nat} {v : Value} {xs : List Value} (h : w.ownsRow B E s v n xs) (k : Nat) : (w.drewN k).ownsRow B E s v n xs := h
def bestN (m c : Nat) : Nat × Nat := foS c (sp (fr m) 25).1 (sp (fr m) 25).1.length
def bestL (m c : Nat) : Value := .agg #[.int .i64 ((bestN m c).1 : Int), .int .i64 (if 0 < (bestN m c).2 then (c : Int) else 0)]
theorem bestL_of {m c : Nat} {y1 y2 : Int} (h1 : y1 = ((bestN m c).1 : Int)) (h2 : y2 = ((bestN m c).2 : Int)) (h : 0 < y2) : (.agg #[.int .i64 y1, .int .i64 (c : Int)] : Value) = bestL m c := by
  unfold bestL; rw [if_pos (by omega), h1]
theorem bestL_no {m c : Nat} {y1 y2 : Int} (h1 : y1 = ((bestN m c).1 : Int)) (h2 : y2 = ((bestN m c).2 : Int)) (h : ¬ 0 < y2) : (.agg #[.int .i64 y1, .int .i64 y2] : Value) = bestL m c := by
  have h3 : y2 = 0 := by omega
  unfold bestL; rw [if_neg (by omega), h1, h3]

set_option maxRecDepth 100000 in
set_option maxHeartbeats 4000000 in
theorem specBest (m c : Nat) (w : World) (hm : m ≤ 16777215) (h1 : 1 ≤ c) (h2 : c ≤ 24) : Calls Tryd.prog 29 #[.int .i64 (m : Int), .int .i64 (c : Int)] w (RetP (bestL m c) w) := by
  have HL : Hid (bestN m c = foS c (sp (fr m) 25).1 (sp (fr m) 25).1.length) := Lib.hid rfl
  obtain ⟨l, hl⟩ : ∃ l, (sp (fr m) 25).1 = l := ⟨_, rfl⟩
  have HRU := Lib.hid (fun W => specRuns m W hm)
  rw [hl] at HL HRU
  clear hl
  obtain ⟨ci, hci⟩ : ∃ ci : Int, (c : Int) = ci := ⟨_, rfl⟩
  rw [hci]
  have HCI := Lib.hid hci
  clear hci
  go_enter Tryd.func29, Tryd.ntmps29
  go_wp2_with fail
  generalize hW : World.alloc (World.alloc w _) _ = W0
  have ho4 : W0.ownsRow w.heap.size 29 2 (.slice (some ⟨w.heap.size, 0, none⟩) 1 1) 1 [z0, z0] := by
    rw [← hW]; exact (one_row w z0 z0 (Nat.le_refl _)).alloc _
  have ho5 : W0.ownsRow w.heap.size 29 2 (.slice (some ⟨w.heap.size + 1, 0, none⟩) 1 1) 1 [z0, z0] := by
    rw [← hW]
    have := one_row (w.alloc (.cells #[z0, z0] 29)) z0 z0 (base := w.heap.size) (by simp)
    simpa using this
  have hB0 : Below w.heap.size w W0 := by rw [← hW]; exact ((Below.refl _ w).alloc (Nat.le_refl _) _).alloc (by simp) _
  have hz0_ : W0.heap.size = w.heap.size + 2 := by rw [← hW]; simp
  have HO4 := Lib.hid ho4; have HO5 := Lib.hid ho5; have HB0 := Lib.hid hB0; have HZ0 := Lib.hid hz0_
  clear hW ho4 ho5 hB0 hz0_
  refine (HRU.out _).mono ?_
  rintro e w1 ⟨A, N, cc, rfl, HN, hown, hb1⟩
  have HO := Lib.hid hown
  have HP4 := Lib.hid (ownB HO4.out hb1); have HP5 := Lib.hid (ownB HO5.out hb1)
  have HB1 := Lib.hid (HB0.out.trans (hb1.mono HB0.out.size))
  clear hown hb1
  go_wp2
  go_loopw [7] (fun i wr => ∃ (k : Nat) (y1 y2 : Int), k ≤ N ∧ i = .int .i64 k ∧ Hid (y1 = ((foS c l k).1 : Int) ∧ y2 = ((foS c l k).2 : Int)) ∧ Hid (wr.ownsRow w.heap.size 29 2 (.slice (some ⟨w.heap.size + 1, 0, none⟩) 1 1) 1 [.int .i64 y1, .int .i64 y2])
    ∧ Hid (wr.ownsRow w.heap.size 29 2 (.slice (some ⟨w.heap.size, 0, none⟩) 1 1) 1 [z0, z0]) ∧ Hid (wr.ownsRow W0.heap.size 29 2 (.slice A N cc) N (bcells l)) ∧ Below w.heap.size w wr) (fun i _ => N - (intOf i).toNat)
  case atStart => exact ⟨0, 0, 0, Nat.zero_le _, rfl, Lib.hid ⟨rfl, rfl⟩, HP5, HP4, HO, HB1.out⟩
  case round =>
    obtain ⟨k, y1, y2, hk, rfl, HY, HQ5, HQ4, HQ, hb⟩ := hrel
    have hzw := hb.size
    have hN24 : N ≤ 9223372036854775807 := by
      have h1 := HQ.out
      rcases h1.2 with ⟨hv, h0⟩ | ⟨g, cap, cur, hv, hg, hh, hle, hm, _⟩
      · omega
      · unfold maxLen at hm; omega
    by_cases hlt : k < N
    case pos =>
      have hkl : k < l.length := by have := HN.out; omega
      obtain ⟨g, hA, hg0, hg1, f0, f1⟩ := blk_at HQ.out hkl
      subst hA
      obtain ⟨x1, hx1⟩ : ∃ x1 : Int, ((l[k]'hkl).1 : Int) = x1 := ⟨_, rfl⟩
      obtain ⟨x2, hx2⟩ : ∃ x2 : Int, ((l[k]'hkl).2 : Int) = x2 := ⟨_, rfl⟩
      rw [hx1] at f0; rw [hx2] at f1
      have HST := Lib.hid (foS_step c l k hkl)
      have c0 := HQ5.out.cellAt 0 (by omega)
      have c1 := HQ5.out.cellAt 1 (by omega)
      simp only [List.getElem?_cons_zero, List.getElem?_cons_succ] at c0 c1
      have z0_ := HQ5.out.frozenAt 0
      have z1_ := HQ5.out.frozenAt 1
      have HX : Hid ((ci ≤ x2 ∧ (y2 = 0 ∨ x2 < y2)) → x1 = ((foS c l (k + 1)).1 : Int) ∧ x2 = ((foS c l (k + 1)).2 : Int)) := Lib.hid fun h => by
        rw [HST.out]; unfold stS
        have h1 := HY.out.2; have h2 := HCI.out
        rw [if_pos ⟨by omega, by omega⟩]
        exact ⟨hx1.symm, hx2.symm⟩
      have HNX : Hid (¬ (ci ≤ x2 ∧ (y2 = 0 ∨ x2 < y2)) → y1 = ((foS c l (k + 1)).1 : Int) ∧ y2 = ((foS c l (k + 1)).2 : Int)) := Lib.hid fun h => by
        rw [HST.out]; unfold stS
        have h1 := HY.out.2; have h2 := HCI.out
        rw [if_neg (fun hh => h (by omega))]
        exact HY.out
      clear hx1 hx2
      by_cases t1 : ci ≤ x2
      case neg =>
        have HE := Lib.hid (HNX.out (fun h => t1 h.1))
        have t1' : decide (ci ≤ x2) = false := decide_eq_false t1
        clear t1 HX HNX
        go_wp2
        go_quiet (fail)
        go_wp2
        go_roundw
        case rel => exact ⟨k + 1, y1, y2, by omega, by go_num, HE, Lib.hid (own_drewN HQ5.out _), Lib.hid (own_drewN HQ4.out _), Lib.hid (own_drewN HQ.out _), drewN_below hb _⟩
        case measure => simp [intOf]; omega
      case pos =>
      by_cases t2 : y2 = 0
      case pos =>
        have HE := Lib.hid (HX.out ⟨t1, .inl t2⟩)
        have t2' : (y2 == 0) = true := by simpa using t2
        have HT := Lib.hid t2
        clear t2 HX HNX
        have HS5 := Lib.hid ((HQ5.out.stored 0 (.int .i64 x1)).1.stored 1 (.int .i64 x2)).1
        have HS4 := Lib.hid (ownsRow_setCell_other (ownsRow_setCell_other HQ4.out (a := ⟨w.heap.size + 1, 0, none⟩) (by simp [Value.ownBlock]) (.int .i64 x1)) (a := ⟨w.heap.size + 1, 1, none⟩) (by simp [Value.ownBlock]) (.int .i64 x2))
        have HS := Lib.hid (ownsRow_setCell_below (ownsRow_setCell_below HQ.out (a := ⟨w.heap.size + 1, 0, none⟩) (by show w.heap.size + 1 < _; have := HZ0.out; omega) (.int .i64 x1)) (a := ⟨w.heap.size + 1, 1, none⟩) (by show w.heap.size + 1 < _; have := HZ0.out; omega) (.int .i64 x2))
        have HSB := Lib.hid ((hb.setCell (p := ⟨w.heap.size + 1, 0, none⟩) (Nat.le_succ _) (.int .i64 x1)).setCell (p := ⟨w.heap.size + 1, 1, none⟩) (Nat.le_succ _) (.int .i64 x2))
        go_wp2
        go_quiet (fail)
        go_wp2
        go_roundw
        case rel => exact ⟨k + 1, x1, x2, by omega, by go_num, HE, Lib.hid (own_heap rfl HS5.out), Lib.hid (own_heap rfl HS4.out), Lib.hid (own_heap rfl HS.out), drewN_below HSB.out _⟩
        case measure => simp [intOf]; omega
      case neg =>
      have t2' : (y2 == 0) = false := by simpa using t2
      by_cases t3 : x2 < y2
      case pos =>
        have HE := Lib.hid (HX.out ⟨t1, .inr t3⟩)
        clear t2 HX HNX
        have HS5 := Lib.hid ((HQ5.out.stored 0 (.int .i64 x1)).1.stored 1 (.int .i64 x2)).1
        have HS4 := Lib.hid (ownsRow_setCell_other (ownsRow_setCell_other HQ4.out (a := ⟨w.heap.size + 1, 0, none⟩) (by simp [Value.ownBlock]) (.int .i64 x1)) (a := ⟨w.heap.size + 1, 1, none⟩) (by simp [Value.ownBlock]) (.int .i64 x2))
        have HS := Lib.hid (ownsRow_setCell_below (ownsRow_setCell_below HQ.out (a := ⟨w.heap.size + 1, 0, none⟩) (by show w.heap.size + 1 < _; have := HZ0.out; omega) (.int .i64 x1)) (a := ⟨w.heap.size + 1, 1, none⟩) (by show w.heap.size + 1 < _; have := HZ0.out; omega) (.int .i64 x2))
        have HSB := Lib.hid ((hb.setCell (p := ⟨w.heap.size + 1, 0, none⟩) (Nat.le_succ _) (.int .i64 x1)).setCell (p := ⟨w.heap.size + 1, 1, none⟩) (Nat.le_succ _) (.int .i64 x2))
        go_wp2
        go_quiet (fail)
        go_wp2
        go_roundw
        case rel => exact ⟨k + 1, x1, x2, by omega, by go_num, HE, Lib.hid (own_heap rfl HS5.out), Lib.hid (own_heap rfl HS4.out), Lib.hid (own_heap rfl HS.out), drewN_below HSB.out _⟩
        case measure => simp [intOf]; omega
      case neg =>
        have HE := Lib.hid (HNX.out (fun h => h.2.elim t2 t3))
        have t3' : decide (x2 < y2) = false := decide_eq_false t3
        clear t2 t3 HX HNX
        go_wp2
        go_quiet (fail)
        go_wp2
        go_roundw
        case rel => exact ⟨k + 1, y1, y2, by omega, by go_num, HE, Lib.hid (own_drewN HQ5.out _), Lib.hid (own_drewN HQ4.out _), Lib.hid (own_drewN HQ.out _), drewN_below hb _⟩
        case measure => simp [intOf]; omega
    case neg =>
      have hkn : k = l.length := by have := HN.out; omega
      have HE1 : Hid (y1 = ((bestN m c).1 : Int) ∧ y2 = ((bestN m c).2 : Int)) := Lib.hid (by rw [HL.out, ← hkn]; exact HY.out)
      clear hkn
      have c0 := HQ5.out.cellAt 0 (by omega)
      have c1 := HQ5.out.cellAt 1 (by omega)
      simp only [List.getElem?_cons_zero, List.getElem?_cons_succ] at c0 c1
      have z0_ := HQ5.out.frozenAt 0
      have z1_ := HQ5.out.frozenAt 1
      have d0 := HQ4.out.cellAt 0 (by omega)
      have d1 := HQ4.out.cellAt 1 (by omega)
      simp only [List.getElem?_cons_zero, List.getElem?_cons_succ] at d0 d1
      have e0_ := HQ4.out.frozenAt 0
      have e1_ := HQ4.out.frozenAt 1
      by_cases t : 0 < y2
      · have HR : Hid ((.agg #[.int .i64 y1, .int .i64 ci] : Value) = bestL m c) := Lib.hid (by rw [← HCI.out]; exact bestL_of HE1.out.1 HE1.out.2 t)
        have hsz : w.heap.size < wr.heap.size := by have := HQ4.out.lt w.heap.size rfl; omega
        go_wp2
        exact bodyPost_ret (v := .agg #[.int .i64 y1, .int .i64 ci]) (by simp [results, Tryd.results29, go_sem, c0, c1, d0, d1]) rfl (retP HR.out (((hb.setCell (p := ⟨w.heap.size + 1, 1, none⟩) (Nat.le_succ _) _).setCell (p := ⟨w.heap.size, 0, none⟩) (Nat.le_refl _) _).setCell (p := ⟨w.heap.size, 1, none⟩) (Nat.le_refl _) _))
      · have HR := Lib.hid (bestL_no (m := m) (c := c) HE1.out.1 HE1.out.2 t)
        have t' : decide (0 < y2) = false := decide_eq_false t
        clear t
        have hsz : w.heap.size < wr.heap.size := by have := HQ4.out.lt w.heap.size rfl; omega
        go_wp2
        exact bodyPost_ret (v := .agg #[.int .i64 y1, .int .i64 y2]) (by simp [results, Tryd.results29, go_sem, c0, c1, d0, d1]) rfl (retP HR.out ((hb.setCell (p := ⟨w.heap.size, 0, none⟩) (Nat.le_refl _) _).setCell (p := ⟨w.heap.size, 1, none⟩) (Nat.le_refl _) _))
end Go.Proofs.YteihdnjdpiejmabDoor
