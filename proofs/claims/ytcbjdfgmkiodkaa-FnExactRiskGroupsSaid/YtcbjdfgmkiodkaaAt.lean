/- Contracts: impl.FibersAt and spec.FibersAt answer the same list and the same word, in memory of the call's own. No condition but those typed. -/
import Derived.Test.YtcbjdfgmkiodkaaOther
import Derived.Test.YtcbjdfgmkiodkaaDem
import Derived.Test.YtcbjdfgmkiodkaaMark2
import Derived.Laws.OwnMore
namespace Go.Proofs.Ytcbjdfgmkiodkaa
open Go.ChangeShapes Go.WideShapes Go.ChangeAt Go.RowKit

theorem Try.inf_int : (Try.prog.info? 3).map (fun i => (i.zero, i.size, i.bytes)) = some (some (.int .i64 0), 1, 8) := by kernel_rfl
def meets (q : Q4) (x : Int) : Bool := decide (q.a = x ∨ q.b = x)
def atK (fs : List Q4) (x : Int) (k : Nat) : List Int := ((List.range k).filter fun i => meets (fs.getD i ⟨0, 0, 0, 0⟩) x).map fun i : Nat => ((i : Nat) : Int)
theorem atK_step (fs : List Q4) (x : Int) (k : Nat) (q : Q4) (hk : k < fs.length) (hq : fs[k] = q) : atK fs x (k + 1) = atK fs x k ++ (if meets q x then [(k : Int)] else []) := by
  unfold atK
  rw [List.range_succ, List.filter_append, List.map_append]
  congr 1
  have e : fs.getD k ⟨0, 0, 0, 0⟩ = q := by rw [List.getD_eq_getElem?_getD, List.getElem?_eq_getElem hk, hq]; rfl
  simp only [List.filter_cons, List.filter_nil, e]
  by_cases h : meets q x <;> simp [h]
theorem atK_len (fs : List Q4) (x : Int) (k : Nat) : (atK fs x k).length ≤ k := by
  unfold atK; rw [List.length_map]; exact Nat.le_trans (List.length_filter_le _ _) (by simp)
def atP (ss : List ByteArray) (fs : List Q4) (x : Int) : Prop := netP ss fs ∧ 0 ≤ x ∧ x ≤ (ss.length : Int) - 1
noncomputable def atB (ss : List ByteArray) (fs : List Q4) (x : Int) : Bool := pb (atP ss fs x)
noncomputable def atL (ss : List ByteArray) (fs : List Q4) (x : Int) : List Int := if atB ss fs x then atK fs x fs.length else []
theorem at_no {ss : List ByteArray} {fs : List Q4} {x : Int} (h : ¬ atP ss fs x) : atB ss fs x = false ∧ atL ss fs x = [] := by
  unfold atL atB; rw [pb_false h]; exact ⟨rfl, rfl⟩
theorem at_yes {ss : List ByteArray} {fs : List Q4} {x : Int} (h : atP ss fs x) : atB ss fs x = true ∧ atL ss fs x = atK fs x fs.length := by
  unfold atL atB; rw [pb_true h]; exact ⟨rfl, rfl⟩
/-- a list of ints in memory of the call's own, and a word. -/
def IntsP (zs : List Int) (b : Bool) (w : World) (e : Ending) (w' : World) : Prop :=
  ∃ (A : Option Addr) (N c : Nat), e = .returned (.tuple #[.slice A N c, .bool b]) ∧ Hid (N = zs.length) ∧ w'.ownsRow w.heap.size 3 1 (.slice A N c) N (zs.map (Value.int .i64)) ∧ Below w.heap.size w w'
theorem formOf {w : World} {base : Nat} {e : TypeId} {size : Nat} {v : Value} {n : Nat} {xs : List Value} (h : w.ownsRow base e size v n xs) : ∃ A c, v = .slice A n c := by
  rcases h.2 with ⟨rfl, rfl⟩ | ⟨g, cap, cur, rfl, _⟩
  · exact ⟨none, 0, rfl⟩
  · exact ⟨_, _, rfl⟩
theorem new_one (w : World) (E : TypeId) (u0 : Value) : ∀ (j : Nat) (u : Value), [u0][j]? = some u → (w.alloc (.cells #[u0] E)).cell? ((⟨w.heap.size, 0, none⟩ : Addr).add j) = some u := by
  intro j u hu
  match j, hu with
  | 0, hu => simp at hu; subst hu; exact cell_of_row _ w.heap.size 0 #[u0] E (0, 0) (heap_alloc_new w _)
theorem new_int (z : Int) : ∀ u ∈ [Value.int .i64 z], u.oneCell' = true := by
  intro u hu; simp at hu; subst hu; rfl
theorem other_meets {q : Q4} {n : Nat} {x : Int} (h : fibP q n) : meets q x = decide (0 ≤ otherV q x) := by
  obtain ⟨h1, h2, h3, _⟩ := h
  unfold meets otherV
  by_cases e1 : x = q.a
  · rw [if_pos e1, decide_eq_true (.inl e1.symm), decide_eq_true (by omega)]
  · rw [if_neg e1]
    by_cases e2 : x = q.b
    · rw [if_pos e2, decide_eq_true (.inr e2.symm), decide_eq_true (by omega)]
    · rw [if_neg e2, decide_eq_false (fun h => h.elim (fun h => e1 h.symm) (fun h => e2 h.symm)), decide_eq_false (by omega)]

set_option maxRecDepth 100000 in
set_option maxHeartbeats 4000000 in
theorem specAt {g1 g2 n1 n2 c1 c2 : Nat} {ss : List ByteArray} {fs : List Q4} {w : World} (h : NetAt g1 g2 n1 n2 c1 c2 ss fs w) (x : Int) :
    Calls Try.prog 147 #[.agg #[.slice (some ⟨g1, 0, none⟩) n1 c1, .slice (some ⟨g2, 0, none⟩) n2 c2], .int .i64 x] w (IntsP (atL ss fs x) (atB ss fs x) w) := by
  have hl1 := h.ln1
  have hl2 := h.ln2
  have hsm1 := h.sm1
  have HN := Lib.hid h; clear h
  by_cases hp : netP ss fs
  case neg =>
    have HB : Hid (pb (netP ss fs) = false) := Lib.hid (pb_false hp)
    obtain ⟨e1, e2⟩ := at_no (x := x) fun h => hp h.1
    rw [e1, e2]
    clear e1 e2 hp hl1 hl2
    go_enter Try.func147, Try.ntmps147
    go_wp2_with fail
    obtain ⟨W0, hW0⟩ : ∃ W0, ((w.alloc (Obj.cells #[.slice (some ⟨g1, 0, none⟩) n1 c1, .slice (some ⟨g2, 0, none⟩) n2 c2] 32)).alloc (Obj.cells #[] 3)) = W0 := ⟨_, rfl⟩
    have hk0 : W0.cell? ⟨w.heap.size, 0, none⟩ = some (.slice (some ⟨g1, 0, none⟩) n1 c1) := by rw [← hW0]; simp [go_sem]
    have hk1 : W0.cell? ⟨w.heap.size, 1, none⟩ = some (.slice (some ⟨g2, 0, none⟩) n2 c2) := by rw [← hW0]; simp [go_sem]
    have hz0 : w.heap.size < W0.heap.size := by rw [← hW0]; simp; omega
    have hown0 : W0.ownsRow (w.heap.size + 1) 3 1 (.slice (some ⟨w.heap.size + 1, 0, none⟩) 0 0) 0 [] := by
      rw [← hW0]
      have := World.ownsRow_lit (base := w.heap.size + 1) (e := 3) (size := 1) (w.alloc (Obj.cells #[.slice (some ⟨g1, 0, none⟩) n1 c1, .slice (some ⟨g2, 0, none⟩) n2 c2] 32)) #[] 0 (by simp) (by unfold maxLen; omega) rfl
      simpa using this
    have HB0 := Lib.hid (((Below.refl w.heap.size w).alloc (Nat.le_refl _) (Obj.cells #[.slice (some ⟨g1, 0, none⟩) n1 c1, .slice (some ⟨g2, 0, none⟩) n2 c2] 32)).alloc (by simp) (Obj.cells #[] 3))
    rw [hW0] at HB0 ⊢
    clear hW0
    have HN0 := Lib.hid (HN.out.moved HB0.out)
    refine (specNet_ HN0.out).mono ?_
    rintro e w1 ⟨rfl, hb1⟩
    rw [HB.out]
    have k0 := (hb1.cell (p := ⟨w.heap.size, 0, none⟩) hz0).trans hk0
    have k1 := (hb1.cell (p := ⟨w.heap.size, 1, none⟩) hz0).trans hk1
    have hbx : w.heap.size < w1.heap.size := Nat.lt_of_lt_of_le hz0 hb1.size
    have HN1 := Lib.hid (HN0.out.moved hb1)
    have hB1 := Lib.hid (HB0.out.trans (hb1.mono HB0.out.size))
    have HO1 := Lib.hid (ownB hown0 hb1)
    clear hk0 hk1 hz0 hb1 HN0 HB0 hown0
    go_wp2
    go_ret2
    exact ⟨_, 0, _, rfl, Lib.hid rfl, own_base HO1.out (by omega), hB1.out⟩
  case pos =>
  have HB : Hid (pb (netP ss fs) = true) := Lib.hid (pb_true hp)
  have HP := Lib.hid hp
  have hn14 : n2 ≤ 14 := by have := hp.2.1; omega
  have hn2 : 2 ≤ n1 := by have := hp.1; omega
  by_cases hx : 0 ≤ x ∧ x ≤ (n1 : Int) - 1
  case neg =>
    obtain ⟨e1, e2⟩ := at_no (ss := ss) (fs := fs) (x := x) fun h => hx (by have := h.2; rw [hl1] at this; exact this)
    rw [e1, e2]
    have CI := Lib.hid (fun W => in_no x 0 ((n1 : Int) - 1) W (by omega))
    clear e1 e2 hp hl1 hl2 hx
    go_enter Try.func147, Try.ntmps147
    go_wp2_with fail
    obtain ⟨W0, hW0⟩ : ∃ W0, ((w.alloc (Obj.cells #[.slice (some ⟨g1, 0, none⟩) n1 c1, .slice (some ⟨g2, 0, none⟩) n2 c2] 32)).alloc (Obj.cells #[] 3)) = W0 := ⟨_, rfl⟩
    have hk0 : W0.cell? ⟨w.heap.size, 0, none⟩ = some (.slice (some ⟨g1, 0, none⟩) n1 c1) := by rw [← hW0]; simp [go_sem]
    have hk1 : W0.cell? ⟨w.heap.size, 1, none⟩ = some (.slice (some ⟨g2, 0, none⟩) n2 c2) := by rw [← hW0]; simp [go_sem]
    have hz0 : w.heap.size < W0.heap.size := by rw [← hW0]; simp; omega
    have hown0 : W0.ownsRow (w.heap.size + 1) 3 1 (.slice (some ⟨w.heap.size + 1, 0, none⟩) 0 0) 0 [] := by
      rw [← hW0]
      have := World.ownsRow_lit (base := w.heap.size + 1) (e := 3) (size := 1) (w.alloc (Obj.cells #[.slice (some ⟨g1, 0, none⟩) n1 c1, .slice (some ⟨g2, 0, none⟩) n2 c2] 32)) #[] 0 (by simp) (by unfold maxLen; omega) rfl
      simpa using this
    have HB0 := Lib.hid (((Below.refl w.heap.size w).alloc (Nat.le_refl _) (Obj.cells #[.slice (some ⟨g1, 0, none⟩) n1 c1, .slice (some ⟨g2, 0, none⟩) n2 c2] 32)).alloc (by simp) (Obj.cells #[] 3))
    rw [hW0] at HB0 ⊢
    clear hW0
    have HN0 := Lib.hid (HN.out.moved HB0.out)
    refine (specNet_ HN0.out).mono ?_
    rintro e w1 ⟨rfl, hb1⟩
    rw [HB.out]
    have k0 := (hb1.cell (p := ⟨w.heap.size, 0, none⟩) hz0).trans hk0
    have k1 := (hb1.cell (p := ⟨w.heap.size, 1, none⟩) hz0).trans hk1
    have hbx : w.heap.size < w1.heap.size := Nat.lt_of_lt_of_le hz0 hb1.size
    have HN1 := Lib.hid (HN0.out.moved hb1)
    have hB1 := Lib.hid (HB0.out.trans (hb1.mono HB0.out.size))
    have HO1 := Lib.hid (ownB hown0 hb1)
    clear hk0 hk1 hz0 hb1 HN0 HB0 hown0
    go_wp2_with fail
    refine (CI.out _).mono ?_
    rintro e w' ⟨rfl, rfl⟩
    go_wp2
    go_ret2
    exact ⟨_, 0, _, rfl, Lib.hid rfl, own_base HO1.out (by omega), hB1.out⟩
  case pos =>
  obtain ⟨e1, e2⟩ := at_yes (ss := ss) (fs := fs) (x := x) ⟨hp, by rw [hl1]; exact hx⟩
  rw [e1, e2]
  have CI := Lib.hid (fun W => (in_yes x 0 ((n1 : Int) - 1) W hx.1 hx.2).mono (fun e w' (h : e = _ ∧ w' = W) => (⟨h.1, h.2.symm⟩ : e = _ ∧ W = w')))
  have HL2 := Lib.hid hl2
  obtain ⟨i0, hi, hz0_, hz1_, hz2_⟩ := info_parts Try.inf_int
  have HI := Lib.hid hi; have HZ0 := Lib.hid hz0_; have HZ1 := Lib.hid hz1_; have HZ2 := Lib.hid hz2_
  clear e1 e2 hp hl1 hl2 hx hi hz0_ hz1_ hz2_
  go_enter Try.func147, Try.ntmps147
  go_wp2_with fail
  obtain ⟨W0, hW0⟩ : ∃ W0, ((w.alloc (Obj.cells #[.slice (some ⟨g1, 0, none⟩) n1 c1, .slice (some ⟨g2, 0, none⟩) n2 c2] 32)).alloc (Obj.cells #[] 3)) = W0 := ⟨_, rfl⟩
  have hk0 : W0.cell? ⟨w.heap.size, 0, none⟩ = some (.slice (some ⟨g1, 0, none⟩) n1 c1) := by rw [← hW0]; simp [go_sem]
  have hk1 : W0.cell? ⟨w.heap.size, 1, none⟩ = some (.slice (some ⟨g2, 0, none⟩) n2 c2) := by rw [← hW0]; simp [go_sem]
  have hz0 : w.heap.size < W0.heap.size := by rw [← hW0]; simp; omega
  have hown0 : W0.ownsRow (w.heap.size + 1) 3 1 (.slice (some ⟨w.heap.size + 1, 0, none⟩) 0 0) 0 [] := by
    rw [← hW0]
    have := World.ownsRow_lit (base := w.heap.size + 1) (e := 3) (size := 1) (w.alloc (Obj.cells #[.slice (some ⟨g1, 0, none⟩) n1 c1, .slice (some ⟨g2, 0, none⟩) n2 c2] 32)) #[] 0 (by simp) (by unfold maxLen; omega) rfl
    simpa using this
  have HB0 := Lib.hid (((Below.refl w.heap.size w).alloc (Nat.le_refl _) (Obj.cells #[.slice (some ⟨g1, 0, none⟩) n1 c1, .slice (some ⟨g2, 0, none⟩) n2 c2] 32)).alloc (by simp) (Obj.cells #[] 3))
  rw [hW0] at HB0 ⊢
  clear hW0
  have HN0 := Lib.hid (HN.out.moved HB0.out)
  refine (specNet_ HN0.out).mono ?_
  rintro e w1 ⟨rfl, hb1⟩
  rw [HB.out]
  have k0 := (hb1.cell (p := ⟨w.heap.size, 0, none⟩) hz0).trans hk0
  have k1 := (hb1.cell (p := ⟨w.heap.size, 1, none⟩) hz0).trans hk1
  have hbx : w.heap.size < w1.heap.size := Nat.lt_of_lt_of_le hz0 hb1.size
  have HN1 := Lib.hid (HN0.out.moved hb1)
  have hB1 := Lib.hid (HB0.out.trans (hb1.mono HB0.out.size))
  have HO1 := Lib.hid (ownB hown0 hb1)
  clear hk0 hk1 hz0 hb1 HN0 HB0 hown0
  go_wp2_with fail
  refine (CI.out _).mono ?_
  rintro e w' ⟨rfl, rfl⟩
  have HK0 := Lib.hid k0; have HK1 := Lib.hid k1
  go_wp2
  clear k0 k1
  go_loopw [6, 7] (fun v i wr => ∃ (k : Nat) (A : Option Addr) (N c : Nat), k ≤ n2 ∧ i = .int .i64 k ∧ v = .slice A N c ∧ Hid (N = (atK fs x k).length) ∧ Hid (wr.ownsRow (w.heap.size + 1) 3 1 (.slice A N c) N ((atK fs x k).map (Value.int .i64))) ∧ Below (w.heap.size + 1) w1 wr) (fun _ i _ => n2 - (intOf i).toNat)
  case atStart => exact ⟨0, _, 0, _, Nat.zero_le _, rfl, rfl, Lib.hid rfl, HO1, Below.refl _ _⟩
  case round =>
    obtain ⟨k, A, N, c, hk, rfl, rfl, HNN, HOW, hb⟩ := hrel
    have hc0 := (hb.cell (p := ⟨w.heap.size, 0, none⟩) (Nat.lt_succ_self _)).trans HK0.out
    have hc1 := (hb.cell (p := ⟨w.heap.size, 1, none⟩) (Nat.lt_succ_self _)).trans HK1.out
    have hN : N ≤ 14 := by have := HNN.out; have := atK_len fs x k; omega
    by_cases hlt : k < n2
    · have hks : k < fs.length := by have := HL2.out; omega
      obtain ⟨q, hq⟩ : ∃ q, fs[k]'hks = q := ⟨_, rfl⟩
      have hstep := atK_step fs x k q hks hq
      have hfp := (HP.out.2.2.2 k hks hks).1
      rw [hq] at hfp
      have hme := other_meets (x := x) hfp
      have HOT := Lib.hid (l2Other_ (HN.out.moved (hB1.out.trans (hb.mono (Nat.le_succ _)))) k hlt q (fun _ => hq) x)
      obtain ⟨z, hz⟩ : ∃ z, otherV q x = z := ⟨_, rfl⟩
      rw [hz] at HOT hme
      clear hz hfp hq
      go_wp2_with fail
      refine HOT.out.mono ?_
      rintro e w2 ⟨rfl, hb2⟩
      have hsz0 := hb.size
      have hB2 : Below (w.heap.size + 1) w1 w2 := hb.trans (hb2.mono (by omega))
      have hown := ownB HOW.out hb2
      have hsz := hB2.size
      clear hc0 hc1
      by_cases hzz : 0 ≤ z
      · rw [hme, decide_eq_true hzz, if_pos rfl] at hstep
        have HST := Lib.hid hstep
        have hBs : w.heap.size + 1 ≤ w2.heap.size := by omega
        clear hstep hme hb2
        go_wp2_with (at_builtin; refine wpList_append_own _ rfl _ _ 39 rfl (w.heap.size + 1) 3 i0 (.int .i64 0) 1 8 Try.underlying39 HI.out HZ0.out HZ1.out HZ2.out rfl (by decide) _ N _ rfl (hown.alloc _) ⟨w2.heap.size, 0, none⟩ 1 1 [.int .i64 (k : Int)] rfl rfl (new_one _ _ _) (new_int _) (by unfold maxLen; omega) (by omega) (by simp; omega) ?_)
        intro v1 w3 hown1 hgrow1 _
        have hB3 : Below (w.heap.size + 1) w1 w3 := (hB2.alloc hBs _).grown hgrow1 (by simp; omega) (fun g hg => (hown.lt g hg).1)
        obtain ⟨N1, hN1⟩ : ∃ N1, N + 1 = N1 := ⟨_, rfl⟩
        rw [hN1] at hown1
        obtain ⟨A1, c1', rfl⟩ := formOf hown1
        have hxs : (atK fs x k).map (Value.int .i64) ++ [.int .i64 (k : Int)] = (atK fs x (k + 1)).map (Value.int .i64) := by rw [HST.out, List.map_append]; rfl
        rw [hxs] at hown1
        have HOW1 := Lib.hid hown1
        have HN1' : Hid (N1 = (atK fs x (k + 1)).length) := Lib.hid (by rw [HST.out, List.length_append, ← HNN.out, ← hN1]; rfl)
        clear hxs hown1 hN1 hgrow1 hown hB2
        go_wp2
        go_roundw
        case rel => exact ⟨k + 1, A1, N1, c1', by omega, by go_num, rfl, HN1', HOW1, hB3⟩
        case measure => simp [intOf]; omega
      · rw [hme, decide_eq_false hzz, if_neg Bool.false_ne_true, List.append_nil] at hstep
        have HN1' : Hid (N = (atK fs x (k + 1)).length) := Lib.hid (by rw [hstep]; exact HNN.out)
        rw [← hstep] at hown
        have HOW1 := Lib.hid hown
        have hzz' : z < 0 := by omega
        clear hstep hme hzz hown hb2
        go_wp2
        go_roundw
        case rel => exact ⟨k + 1, A, N, c, by omega, by go_num, rfl, HN1', HOW1, hB2⟩
        case measure => simp [intOf]; omega
    · have hkn : k = n2 := by omega
      have hkl : k = fs.length := by have := HL2.out; omega
      have HNF : Hid (N = (atK fs x fs.length).length) := Lib.hid (by rw [← hkl]; exact HNN.out)
      have HOF : Hid (wr.ownsRow (w.heap.size + 1) 3 1 (.slice A N c) N ((atK fs x fs.length).map (Value.int .i64))) := Lib.hid (by rw [← hkl]; exact HOW.out)
      subst hkn
      clear hlt hkl
      go_wp2
      go_ret2
      exact ⟨A, N, c, rfl, HNF, own_base HOF.out (Nat.le_succ _), hB1.out.trans (hb.mono (Nat.le_succ _))⟩
end Go.Proofs.Ytcbjdfgmkiodkaa
