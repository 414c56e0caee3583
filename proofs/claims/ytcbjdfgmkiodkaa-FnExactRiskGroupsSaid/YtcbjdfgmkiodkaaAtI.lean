/- Contract: impl.FibersAt answers the plain list and word, in memory of the call's own. No condition but those typed. -/
import Derived.Test.YtcbjdfgmkiodkaaAt
namespace Go.Proofs.Ytcbjdfgmkiodkaa
open Go.ChangeShapes Go.WideShapes Go.ChangeAt Go.RowKit

theorem new_one1 (w : World) (E : TypeId) (u0 : Value) (n : Nat) (hn : w.heap.size = n) : ∀ (j : Nat) (u : Value), [u0][j]? = some u → (w.alloc (.cells #[u0] E)).cell? ((⟨n, 0, none⟩ : Addr).add j) = some u := by
  subst hn; exact new_one w E u0

set_option maxRecDepth 100000 in
set_option maxHeartbeats 4000000 in
theorem implAt {g1 g2 n1 n2 c1 c2 : Nat} {ss : List ByteArray} {fs : List Q4} {w : World} (h : NetAt g1 g2 n1 n2 c1 c2 ss fs w) (x : Int) :
    Calls Try.prog 148 #[.agg #[.slice (some ⟨g1, 0, none⟩) n1 c1, .slice (some ⟨g2, 0, none⟩) n2 c2], .int .i64 x] w (IntsP (atL ss fs x) (atB ss fs x) w) := by
  have hl1 := h.ln1
  have hl2 := h.ln2
  have hsm1 := h.sm1
  have HN := Lib.hid h; clear h
  by_cases hp : netP ss fs
  case neg =>
    have HB : Hid (pb (netP ss fs) = false) := Lib.hid (pb_false hp)
    obtain ⟨e1, e2⟩ := at_no (x := x) fun h => hp h.1
    rw [e1, e2]
    clear e1 e2 hp hl1 hl2
    go_enter Try.func148, Try.ntmps148
    go_wp2_with fail
    obtain ⟨W0, hW0⟩ : ∃ W0, (w.alloc (Obj.cells #[.slice (some ⟨g1, 0, none⟩) n1 c1, .slice (some ⟨g2, 0, none⟩) n2 c2] 32)) = W0 := ⟨_, rfl⟩
    have hk0 : W0.cell? ⟨w.heap.size, 0, none⟩ = some (.slice (some ⟨g1, 0, none⟩) n1 c1) := by rw [← hW0]; simp [go_sem]
    have hk1 : W0.cell? ⟨w.heap.size, 1, none⟩ = some (.slice (some ⟨g2, 0, none⟩) n2 c2) := by rw [← hW0]; simp [go_sem]
    have hz0 : w.heap.size < W0.heap.size := by rw [← hW0]; simp
    have HB0 := Lib.hid ((Below.refl w.heap.size w).alloc (Nat.le_refl _) (Obj.cells #[.slice (some ⟨g1, 0, none⟩) n1 c1, .slice (some ⟨g2, 0, none⟩) n2 c2] 32))
    rw [hW0] at HB0 ⊢
    clear hW0
    have HN0 := Lib.hid (HN.out.moved HB0.out)
    refine (implNet_ HN0.out).mono ?_
    rintro e w1 ⟨rfl, hb1⟩
    rw [HB.out]
    have k0 := (hb1.cell (p := ⟨w.heap.size, 0, none⟩) hz0).trans hk0
    have k1 := (hb1.cell (p := ⟨w.heap.size, 1, none⟩) hz0).trans hk1
    have hbx : w.heap.size < w1.heap.size := Nat.lt_of_lt_of_le hz0 hb1.size
    have HN1 := Lib.hid (HN0.out.moved hb1)
    have hB1 := Lib.hid (HB0.out.trans (hb1.mono HB0.out.size))
    clear hk0 hk1 hz0 hb1 HN0 HB0
    go_wp2
    go_ret2
    exact ⟨none, 0, 0, rfl, Lib.hid rfl, World.ownsRow_nil _ _ _ _, hB1.out⟩
  case pos =>
  have HB : Hid (pb (netP ss fs) = true) := Lib.hid (pb_true hp)
  have HP := Lib.hid hp
  have hn14 : n2 ≤ 14 := by have := hp.2.1; omega
  by_cases hx : 0 ≤ x ∧ x ≤ (n1 : Int) - 1
  case neg =>
    obtain ⟨e1, e2⟩ := at_no (ss := ss) (fs := fs) (x := x) fun h => hx (by have := h.2; rw [hl1] at this; exact this)
    rw [e1, e2]
    have CI := Lib.hid (fun W => isNode_no (g1 := g1) (g2 := g2) (n1 := n1) (n2 := n2) (c1 := c1) (c2 := c2) x W (by omega))
    clear e1 e2 hp hl1 hl2 hx
    go_enter Try.func148, Try.ntmps148
    go_wp2_with fail
    obtain ⟨W0, hW0⟩ : ∃ W0, (w.alloc (Obj.cells #[.slice (some ⟨g1, 0, none⟩) n1 c1, .slice (some ⟨g2, 0, none⟩) n2 c2] 32)) = W0 := ⟨_, rfl⟩
    have hk0 : W0.cell? ⟨w.heap.size, 0, none⟩ = some (.slice (some ⟨g1, 0, none⟩) n1 c1) := by rw [← hW0]; simp [go_sem]
    have hk1 : W0.cell? ⟨w.heap.size, 1, none⟩ = some (.slice (some ⟨g2, 0, none⟩) n2 c2) := by rw [← hW0]; simp [go_sem]
    have hz0 : w.heap.size < W0.heap.size := by rw [← hW0]; simp
    have HB0 := Lib.hid ((Below.refl w.heap.size w).alloc (Nat.le_refl _) (Obj.cells #[.slice (some ⟨g1, 0, none⟩) n1 c1, .slice (some ⟨g2, 0, none⟩) n2 c2] 32))
    rw [hW0] at HB0 ⊢
    clear hW0
    have HN0 := Lib.hid (HN.out.moved HB0.out)
    refine (implNet_ HN0.out).mono ?_
    rintro e w1 ⟨rfl, hb1⟩
    rw [HB.out]
    have k0 := (hb1.cell (p := ⟨w.heap.size, 0, none⟩) hz0).trans hk0
    have k1 := (hb1.cell (p := ⟨w.heap.size, 1, none⟩) hz0).trans hk1
    have hbx : w.heap.size < w1.heap.size := Nat.lt_of_lt_of_le hz0 hb1.size
    have HN1 := Lib.hid (HN0.out.moved hb1)
    have hB1 := Lib.hid (HB0.out.trans (hb1.mono HB0.out.size))
    clear hk0 hk1 hz0 hb1 HN0 HB0
    go_wp2_with fail
    refine (CI.out _).mono ?_
    rintro e w2 ⟨rfl, hb2⟩
    have HB2 := Lib.hid (hB1.out.trans (hb2.mono hB1.out.size)); clear hb2
    go_wp2
    go_ret2
    exact ⟨none, 0, 0, rfl, Lib.hid rfl, World.ownsRow_nil _ _ _ _, HB2.out⟩
  case pos =>
  obtain ⟨e1, e2⟩ := at_yes (ss := ss) (fs := fs) (x := x) ⟨hp, by rw [hl1]; exact hx⟩
  rw [e1, e2]
  have CI := Lib.hid (fun W => isNode_yes (g1 := g1) (g2 := g2) (n1 := n1) (n2 := n2) (c1 := c1) (c2 := c2) x W hx.1 (by omega))
  have HL2 := Lib.hid hl2
  obtain ⟨i0, hi, hz0_, hz1_, hz2_⟩ := info_parts Try.inf_int
  have HI := Lib.hid hi; have HZ0 := Lib.hid hz0_; have HZ1 := Lib.hid hz1_; have HZ2 := Lib.hid hz2_
  clear e1 e2 hp hl1 hl2 hx hi hz0_ hz1_ hz2_
  go_enter Try.func148, Try.ntmps148
  go_wp2_with fail
  obtain ⟨W0, hW0⟩ : ∃ W0, (w.alloc (Obj.cells #[.slice (some ⟨g1, 0, none⟩) n1 c1, .slice (some ⟨g2, 0, none⟩) n2 c2] 32)) = W0 := ⟨_, rfl⟩
  have hk0 : W0.cell? ⟨w.heap.size, 0, none⟩ = some (.slice (some ⟨g1, 0, none⟩) n1 c1) := by rw [← hW0]; simp [go_sem]
  have hk1 : W0.cell? ⟨w.heap.size, 1, none⟩ = some (.slice (some ⟨g2, 0, none⟩) n2 c2) := by rw [← hW0]; simp [go_sem]
  have hz0 : w.heap.size < W0.heap.size := by rw [← hW0]; simp
  have HB0 := Lib.hid ((Below.refl w.heap.size w).alloc (Nat.le_refl _) (Obj.cells #[.slice (some ⟨g1, 0, none⟩) n1 c1, .slice (some ⟨g2, 0, none⟩) n2 c2] 32))
  rw [hW0] at HB0 ⊢
  clear hW0
  have HN0 := Lib.hid (HN.out.moved HB0.out)
  refine (implNet_ HN0.out).mono ?_
  rintro e w1 ⟨rfl, hb1⟩
  rw [HB.out]
  have k0 := (hb1.cell (p := ⟨w.heap.size, 0, none⟩) hz0).trans hk0
  have k1 := (hb1.cell (p := ⟨w.heap.size, 1, none⟩) hz0).trans hk1
  have hbx : w.heap.size < w1.heap.size := Nat.lt_of_lt_of_le hz0 hb1.size
  have HN1 := Lib.hid (HN0.out.moved hb1)
  have hB1 := Lib.hid (HB0.out.trans (hb1.mono HB0.out.size))
  clear hk0 hk1 hz0 hb1 HN0 HB0
  go_wp2_with fail
  refine (CI.out _).mono ?_
  rintro e w2 ⟨rfl, hb2⟩
  have k0' := (hb2.cell (p := ⟨w.heap.size, 0, none⟩) hbx).trans k0
  have k1' := (hb2.cell (p := ⟨w.heap.size, 1, none⟩) hbx).trans k1
  have hbx2 : w.heap.size < w2.heap.size := Nat.lt_of_lt_of_le hbx hb2.size
  have hB2 := Lib.hid (hB1.out.trans (hb2.mono hB1.out.size))
  clear k0 k1 hb2 hbx HN1 hB1
  go_wp2
  clear k0' k1'
  go_loopw [6, 21] (fun v i wr => ∃ (k : Nat) (A : Option Addr) (N c : Nat), k ≤ n2 ∧ i = .int .i64 k ∧ v = .slice A N c ∧ Hid (N = (atK fs x k).length) ∧ Hid (wr.ownsRow (w.heap.size + 1) 3 1 (.slice A N c) N ((atK fs x k).map (Value.int .i64))) ∧ Below (w.heap.size + 1) w2 wr) (fun _ i _ => n2 - (intOf i).toNat)
  case atStart => exact ⟨0, none, 0, 0, Nat.zero_le _, rfl, rfl, Lib.hid rfl, Lib.hid (World.ownsRow_nil _ _ _ _), Below.refl _ _⟩
  case round =>
    obtain ⟨k, A, N, c, hk, rfl, rfl, HNN, HOW, hb⟩ := hrel
    have hN : N ≤ 14 := by have := HNN.out; have := atK_len fs x k; omega
    have hsz0 := hb.size
    have hBs : w.heap.size + 1 ≤ wr.heap.size := by omega
    by_cases hlt : k < n2
    · have hks : k < fs.length := by have := HL2.out; omega
      obtain ⟨⟨a, b, c', d⟩, hq⟩ : ∃ q, fs[k]'hks = q := ⟨_, rfl⟩
      have hstep := atK_step fs x k _ hks hq
      have hr := (HN.out.rd2.over (hB2.out.trans (hb.mono (Nat.le_succ _)))).q4c hks
      rw [Nat.zero_add, hq] at hr
      obtain ⟨hg, f0, f1, f2, f3⟩ := hr
      simp only at f0 f1 f2 f3
      unfold meets at hstep
      simp only at hstep
      clear hq
      by_cases ha : a = x
      · rw [decide_eq_true (.inl ha), if_pos rfl] at hstep
        have q1 : (a == x) = true := by simpa using ha
        clear ha
        have HST := Lib.hid hstep
        clear hstep
        go_wp2_with (at_builtin; refine wpList_append_own _ rfl _ _ 39 rfl (w.heap.size + 1) 3 i0 (.int .i64 0) 1 8 Try.underlying39 HI.out HZ0.out HZ1.out HZ2.out rfl (by decide) _ N _ rfl ((HOW.out.alloc _).alloc _) ⟨wr.heap.size + 1, 0, none⟩ 1 1 [.int .i64 (k : Int)] rfl rfl (new_one1 _ _ _ _ (by simp)) (new_int _) (by unfold maxLen; omega) (by omega) (by simp; omega) ?_)
        intro v1 w3 hown1 hgrow1 _
        have hB3 : Below (w.heap.size + 1) w2 w3 := ((hb.alloc hBs _).alloc (by simp; omega) _).grown hgrow1 (by simp; omega) (fun g hg => (HOW.out.lt g hg).1)
        obtain ⟨N1, hN1⟩ : ∃ N1, N + 1 = N1 := ⟨_, rfl⟩
        rw [hN1] at hown1
        obtain ⟨A1, c1', rfl⟩ := formOf hown1
        have hxs : (atK fs x k).map (Value.int .i64) ++ [.int .i64 (k : Int)] = (atK fs x (k + 1)).map (Value.int .i64) := by rw [HST.out, List.map_append]; rfl
        rw [hxs] at hown1
        have HOW1 := Lib.hid hown1
        have HN1' : Hid (N1 = (atK fs x (k + 1)).length) := Lib.hid (by rw [HST.out, List.length_append, ← HNN.out, ← hN1]; rfl)
        clear hxs hown1 hN1 hgrow1
        go_wp2
        go_roundw
        case rel => exact ⟨k + 1, A1, N1, c1', by omega, by go_num, rfl, HN1', HOW1, hB3⟩
        case measure => simp [intOf]; omega
      · have q1 : (a == x) = false := by simpa using ha
        by_cases hbb : b = x
        case pos =>
          rw [decide_eq_true (.inr hbb), if_pos rfl] at hstep
          have q2 : (b == x) = true := by simpa using hbb
          clear ha hbb
          have HST := Lib.hid hstep
          clear hstep
          go_wp2_with (at_builtin; refine wpList_append_own _ rfl _ _ 39 rfl (w.heap.size + 1) 3 i0 (.int .i64 0) 1 8 Try.underlying39 HI.out HZ0.out HZ1.out HZ2.out rfl (by decide) _ N _ rfl ((HOW.out.alloc _).alloc _) ⟨wr.heap.size + 1, 0, none⟩ 1 1 [.int .i64 (k : Int)] rfl rfl (new_one1 _ _ _ _ (by simp)) (new_int _) (by unfold maxLen; omega) (by omega) (by simp; omega) ?_)
          intro v1 w3 hown1 hgrow1 _
          have hB3 : Below (w.heap.size + 1) w2 w3 := ((hb.alloc hBs _).alloc (by simp; omega) _).grown hgrow1 (by simp; omega) (fun g hg => (HOW.out.lt g hg).1)
          obtain ⟨N1, hN1⟩ : ∃ N1, N + 1 = N1 := ⟨_, rfl⟩
          rw [hN1] at hown1
          obtain ⟨A1, c1', rfl⟩ := formOf hown1
          have hxs : (atK fs x k).map (Value.int .i64) ++ [.int .i64 (k : Int)] = (atK fs x (k + 1)).map (Value.int .i64) := by rw [HST.out, List.map_append]; rfl
          rw [hxs] at hown1
          have HOW1 := Lib.hid hown1
          have HN1' : Hid (N1 = (atK fs x (k + 1)).length) := Lib.hid (by rw [HST.out, List.length_append, ← HNN.out, ← hN1]; rfl)
          clear hxs hown1 hN1 hgrow1
          go_wp2
          go_roundw
          case rel => exact ⟨k + 1, A1, N1, c1', by omega, by go_num, rfl, HN1', HOW1, hB3⟩
          case measure => simp [intOf]; omega
        case neg =>
          have q2 : (b == x) = false := by simpa using hbb
          rw [decide_eq_false (fun h => h.elim ha hbb), if_neg Bool.false_ne_true, List.append_nil] at hstep
          have HN1' : Hid (N = (atK fs x (k + 1)).length) := Lib.hid (by rw [hstep]; exact HNN.out)
          have HOW1 : Hid ((wr.alloc (Obj.cells #[.int .i64 a, .int .i64 b, .int .i64 c', .int .i64 d] 172)).ownsRow (w.heap.size + 1) 3 1 (.slice A N c) N ((atK fs x (k + 1)).map (Value.int .i64))) := Lib.hid (by rw [hstep]; exact HOW.out.alloc _)
          clear hstep ha hbb
          go_wp2
          go_roundw
          case rel => exact ⟨k + 1, A, N, c, by omega, by go_num, rfl, HN1', HOW1, hb.alloc hBs _⟩
          case measure => simp [intOf]; omega
    · have hkn : k = n2 := by omega
      have hkl : k = fs.length := by have := HL2.out; omega
      have HNF : Hid (N = (atK fs x fs.length).length) := Lib.hid (by rw [← hkl]; exact HNN.out)
      have HOF : Hid (wr.ownsRow (w.heap.size + 1) 3 1 (.slice A N c) N ((atK fs x fs.length).map (Value.int .i64))) := Lib.hid (by rw [← hkl]; exact HOW.out)
      subst hkn
      clear hlt hkl
      go_wp2
      go_ret2
      exact ⟨A, N, c, rfl, HNF, own_base HOF.out (Nat.le_succ _), hB2.out.trans (hb.mono (Nat.le_succ _))⟩
end Go.Proofs.Ytcbjdfgmkiodkaa
