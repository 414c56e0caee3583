/- Contracts: impl.FailingWith and spec.FailingWith answer the same list and the same word, in memory of the call's own. No condition but those typed. -/
import Derived.Test.YtlgkjidginibdaaGB
namespace Go.Proofs.Ytlgkjidginibdaa
open Go.ChangeShapes Go.WideShapes Go.ChangeAt Go.RowKit

def rkK (fs : List Q4) (r : Int) (k : Nat) : List Int := ((List.range k).filter fun i => decide ((fs.getD i ⟨0, 0, 0, 0⟩).d = r)).map fun i : Nat => ((i : Nat) : Int)
theorem rkK_step (fs : List Q4) (r : Int) (k : Nat) (q : Q4) (hk : k < fs.length) (hq : fs[k] = q) : rkK fs r (k + 1) = rkK fs r k ++ (if q.d = r then [(k : Int)] else []) := by
  unfold rkK
  rw [List.range_succ, List.filter_append, List.map_append]
  congr 1
  have e : fs.getD k ⟨0, 0, 0, 0⟩ = q := by rw [List.getD_eq_getElem?_getD, List.getElem?_eq_getElem hk, hq]; rfl
  simp only [List.filter_cons, List.filter_nil, e]
  by_cases h : q.d = r <;> simp [h]
theorem rkK_len (fs : List Q4) (r : Int) (k : Nat) : (rkK fs r k).length ≤ k := by
  unfold rkK; rw [List.length_map]; exact Nat.le_trans (List.length_filter_le _ _) (by simp)
def grpL (fs : List Q4) (k : Nat) (q : Q4) : List Int := if q.d = 0 then [(k : Int)] else rkK fs q.d fs.length
/-- a list of ints in memory of the call's own. -/
def IntP (zs : List Int) (w : World) (e : Ending) (w' : World) : Prop :=
  ∃ (A : Option Addr) (N c : Nat), e = .returned (.slice A N c) ∧ Hid (N = zs.length) ∧ w'.ownsRow w.heap.size 3 1 (.slice A N c) N (zs.map (Value.int .i64)) ∧ Below w.heap.size w w'

theorem ownD {w : World} {B E s n : Nat} {v : Value} {xs : List Value} (h : w.ownsRow B E s v n xs) (m : Nat) : (w.drewN m).ownsRow B E s v n xs := h
theorem ownA {w : World} {B E s n : Nat} {v : Value} {xs : List Value} {o : Obj} (h : w.ownsRow B E s v n xs) : (w.alloc o).ownsRow B E s v n xs := h.alloc o

set_option maxRecDepth 100000 in
set_option maxHeartbeats 4000000 in
theorem withRisk_ {g1 g2 n1 n2 c1 c2 : Nat} {ss : List ByteArray} {fs : List Q4} {w : World} (h : NetAt g1 g2 n1 n2 c1 c2 ss fs w) (r : Int) :
    Calls Try.prog 244 #[.agg #[.slice (some ⟨g1, 0, none⟩) n1 c1, .slice (some ⟨g2, 0, none⟩) n2 c2], .int .i64 r] w (IntP (rkK fs r fs.length) w) := by
  have hl2 := h.ln2
  have hsm2 := h.sm2
  have HN := Lib.hid h; clear h
  have HL2 := Lib.hid hl2; clear hl2
  obtain ⟨i0, hi, hz0_, hz1_, hz2_⟩ := info_parts Try.inf_int
  have HI := Lib.hid hi; have HZ0 := Lib.hid hz0_; have HZ1 := Lib.hid hz1_; have HZ2 := Lib.hid hz2_
  clear hi hz0_ hz1_ hz2_
  go_enter Try.func244, Try.ntmps244
  go_wp2
  obtain ⟨w2, hW0⟩ : ∃ W0, (w.alloc (Obj.cells #[.slice (some ⟨g1, 0, none⟩) n1 c1, .slice (some ⟨g2, 0, none⟩) n2 c2] 39)) = W0 := ⟨_, rfl⟩
  have hbx2 : w.heap.size < w2.heap.size := by rw [← hW0]; simp
  have hB2 := Lib.hid ((Below.refl w.heap.size w).alloc (Nat.le_refl _) (Obj.cells #[.slice (some ⟨g1, 0, none⟩) n1 c1, .slice (some ⟨g2, 0, none⟩) n2 c2] 39))
  rw [hW0] at hB2 ⊢
  clear hW0
  go_loopw [5, 11] (fun v i wr => ∃ (k : Nat) (A : Option Addr) (N c : Nat), k ≤ n2 ∧ i = .int .i64 k ∧ v = .slice A N c ∧ Hid (N = (rkK fs r k).length) ∧ Hid (wr.ownsRow (w.heap.size + 1) 3 1 (.slice A N c) N ((rkK fs r k).map (Value.int .i64))) ∧ Below (w.heap.size + 1) w2 wr) (fun _ i _ => n2 - (intOf i).toNat)
  case atStart => exact ⟨0, none, 0, 0, Nat.zero_le _, rfl, rfl, Lib.hid rfl, Lib.hid (World.ownsRow_nil _ _ _ _), Below.refl _ _⟩
  case round =>
    obtain ⟨k, A, N, c, hk, rfl, rfl, HNN, HOW, hb⟩ := hrel
    have hN : N ≤ k := by have := HNN.out; have := rkK_len fs r k; omega
    have hsz0 := hb.size
    have hBs : w.heap.size + 1 ≤ wr.heap.size := by omega
    by_cases hlt : k < n2
    · have hks : k < fs.length := by have := HL2.out; omega
      obtain ⟨⟨a, b, c', d⟩, hq⟩ : ∃ q, fs[k]'hks = q := ⟨_, rfl⟩
      have hstep := rkK_step fs r k _ hks hq
      have hr := (HN.out.rd2.over (hB2.out.trans (hb.mono (Nat.le_succ _)))).q4c hks
      rw [Nat.zero_add, hq] at hr
      obtain ⟨hg, f0, f1, f2, f3⟩ := hr
      simp only at f0 f1 f2 f3 hstep
      clear hq
      by_cases ha : d = r
      · rw [if_pos ha] at hstep
        have q1 : (d == r) = true := by simpa using ha
        clear ha
        have HST := Lib.hid hstep
        clear hstep
        go_wp2_with (at_builtin; refine wpList_append_own _ rfl _ _ 26 rfl (w.heap.size + 1) 3 i0 (.int .i64 0) 1 8 Try.underlying26 HI.out HZ0.out HZ1.out HZ2.out rfl (by decide) _ N _ rfl ((HOW.out.alloc _).alloc _) ⟨wr.heap.size + 1, 0, none⟩ 1 1 [.int .i64 (k : Int)] rfl rfl (new_one1 _ _ _ _ (by simp)) (new_int _) (by unfold maxLen; omega) (by omega) (by simp; omega) ?_)
        intro v1 w3 hown1 hgrow1 _
        have hB3 : Below (w.heap.size + 1) w2 w3 := ((hb.alloc hBs _).alloc (by simp; omega) _).grown hgrow1 (by simp; omega) (fun g hg => (HOW.out.lt g hg).1)
        obtain ⟨N1, hN1⟩ : ∃ N1, N + 1 = N1 := ⟨_, rfl⟩
        rw [hN1] at hown1
        obtain ⟨A1, c1', rfl⟩ := formOf hown1
        have hxs : (rkK fs r k).map (Value.int .i64) ++ [.int .i64 (k : Int)] = (rkK fs r (k + 1)).map (Value.int .i64) := by rw [HST.out, List.map_append]; rfl
        rw [hxs] at hown1
        have HOW1 := Lib.hid hown1
        have HN1' : Hid (N1 = (rkK fs r (k + 1)).length) := Lib.hid (by rw [HST.out, List.length_append, ← HNN.out, ← hN1]; rfl)
        clear hxs hown1 hN1 hgrow1
        go_wp2
        go_roundw
        case rel => exact ⟨k + 1, A1, N1, c1', by omega, by go_num, rfl, HN1', HOW1, hB3⟩
        case measure => simp [intOf]; omega
      · have q1 : (d == r) = false := by simpa using ha
        rw [if_neg ha, List.append_nil] at hstep
        have HN1' : Hid (N = (rkK fs r (k + 1)).length) := Lib.hid (by rw [hstep]; exact HNN.out)
        have HOW1 : Hid ((wr.alloc (Obj.cells #[.int .i64 a, .int .i64 b, .int .i64 c', .int .i64 d] 201)).ownsRow (w.heap.size + 1) 3 1 (.slice A N c) N ((rkK fs r (k + 1)).map (Value.int .i64))) := Lib.hid (by rw [hstep]; exact HOW.out.alloc _)
        clear hstep ha
        go_wp2
        go_roundw
        case rel => exact ⟨k + 1, A, N, c, by omega, by go_num, rfl, HN1', HOW1, hb.alloc hBs _⟩
        case measure => simp [intOf]; omega
    · have hkn : k = n2 := by omega
      have hkl : k = fs.length := by have := HL2.out; omega
      have HNF : Hid (N = (rkK fs r fs.length).length) := Lib.hid (by rw [← hkl]; exact HNN.out)
      have HOF : Hid (wr.ownsRow (w.heap.size + 1) 3 1 (.slice A N c) N ((rkK fs r fs.length).map (Value.int .i64))) := Lib.hid (by rw [← hkl]; exact HOW.out)
      subst hkn
      clear hlt hkl
      go_wp2
      go_ret
      exact ⟨A, N, c, rfl, HNF, own_base HOF.out (Nat.le_succ _), hB2.out.trans (hb.mono (Nat.le_succ _))⟩

set_option maxRecDepth 100000 in
set_option maxHeartbeats 4000000 in
theorem group_ {g1 g2 n1 n2 c1 c2 : Nat} {ss : List ByteArray} {fs : List Q4} {w : World} (h : NetAt g1 g2 n1 n2 c1 c2 ss fs w) (i : Nat) (hin : i < n2) (q : Q4) (hq : ∀ h : i < fs.length, fs[i] = q) :
    Calls Try.prog 205 #[.agg #[.slice (some ⟨g1, 0, none⟩) n1 c1, .slice (some ⟨g2, 0, none⟩) n2 c2], .int .i64 i] w (IntP (grpL fs i q) w) := by
  have hl2 := h.ln2
  have hsm2 := h.sm2
  have HN := Lib.hid h; clear h
  have his : i < fs.length := by omega
  have hqi := hq his
  have HL2 := Lib.hid hl2; clear hl2 hq
  obtain ⟨ia, ib, ic, r⟩ := q
  obtain ⟨i0, hi, hz0_, hz1_, hz2_⟩ := info_parts Try.inf_int
  have HI := Lib.hid hi; have HZ0 := Lib.hid hz0_; have HZ1 := Lib.hid hz1_; have HZ2 := Lib.hid hz2_
  clear hi hz0_ hz1_ hz2_
  have hri := HN.out.rd2.q4c his
  rw [Nat.zero_add, hqi] at hri
  obtain ⟨hgi, _, _, _, e3⟩ := hri
  simp only at e3
  clear hqi
  have hb0 := (Below.refl w.heap.size w).alloc (Nat.le_refl _) (Obj.cells #[.slice (some ⟨g1, 0, none⟩) n1 c1, .slice (some ⟨g2, 0, none⟩) n2 c2] 39)
  have HB0 := Lib.hid hb0
  clear hb0
  by_cases hr0 : r = 0
  case pos =>
    subst hr0
    have HE : Hid (grpL fs i ⟨ia, ib, ic, 0⟩ = [(i : Int)]) := Lib.hid (by unfold grpL; simp)
    go_enter Try.func205, Try.ntmps205
    go_wp2
    go_ret
    rw [HE.out]
    refine ⟨_, 1, _, rfl, Lib.hid rfl, ?_, HB0.out.alloc (by simp) _⟩
    have := World.ownsRow_lit (base := w.heap.size) (e := 3) (size := 1) (w.alloc (Obj.cells #[.slice (some ⟨g1, 0, none⟩) n1 c1, .slice (some ⟨g2, 0, none⟩) n2 c2] 39)) #[.int .i64 (i : Int)] 1 (by simp) (by unfold maxLen; omega) rfl
    simpa using this
  case neg =>
  have q0 : (r == 0) = false := by simpa using hr0
  have HE : Hid (grpL fs i ⟨ia, ib, ic, r⟩ = rkK fs r fs.length) := Lib.hid (by unfold grpL; simp only; rw [if_neg hr0])
  rw [HE.out]
  have hin' : (i : Int) < n2 := by omega
  clear hr0 HE
  go_enter Try.func205, Try.ntmps205
  go_wp2
  obtain ⟨w2, hW0⟩ : ∃ W0, ((w.alloc (Obj.cells #[.slice (some ⟨g1, 0, none⟩) n1 c1, .slice (some ⟨g2, 0, none⟩) n2 c2] 39)).alloc (Obj.cells #[] 3)) = W0 := ⟨_, rfl⟩
  have hk1 : w2.cell? ⟨w.heap.size, 1, none⟩ = some (.slice (some ⟨g2, 0, none⟩) n2 c2) := by rw [← hW0]; simp [go_sem]
  have hbx2 : w.heap.size + 1 < w2.heap.size := by rw [← hW0]; simp
  have hown0 : w2.ownsRow (w.heap.size + 1) 3 1 (.slice (some ⟨w.heap.size + 1, 0, none⟩) 0 0) 0 [] := by
    rw [← hW0]
    have := World.ownsRow_lit (base := w.heap.size + 1) (e := 3) (size := 1) (w.alloc (Obj.cells #[.slice (some ⟨g1, 0, none⟩) n1 c1, .slice (some ⟨g2, 0, none⟩) n2 c2] 39)) #[] 0 (by simp) (by unfold maxLen; omega) rfl
    simpa using this
  have hB2 := Lib.hid (HB0.out.alloc (by simp) (Obj.cells #[] 3))
  rw [hW0] at hB2 ⊢
  clear hW0
  have HK1 := Lib.hid hk1; have HO0 := Lib.hid hown0; have HE3 := Lib.hid e3
  clear hk1 hown0 e3
  go_loopw [5, 6] (fun v j wr => ∃ (k : Nat) (A : Option Addr) (N c : Nat), k ≤ n2 ∧ j = .int .i64 k ∧ v = .slice A N c ∧ Hid (N = (rkK fs r k).length) ∧ Hid (wr.ownsRow (w.heap.size + 1) 3 1 (.slice A N c) N ((rkK fs r k).map (Value.int .i64))) ∧ Below (w.heap.size + 1) w2 wr) (fun _ j _ => n2 - (intOf j).toNat)
  case atStart => exact ⟨0, _, 0, _, Nat.zero_le _, rfl, rfl, Lib.hid rfl, HO0, Below.refl _ _⟩
  case round =>
    obtain ⟨k, A, N, c, hk, rfl, rfl, HNN, HOW, hb⟩ := hrel
    have hN : N ≤ k := by have := HNN.out; have := rkK_len fs r k; omega
    have hsz0 := hb.size
    have hBs : w.heap.size + 1 ≤ wr.heap.size := by omega
    have hc1 := (hb.cell (p := ⟨w.heap.size, 1, none⟩) (Nat.lt_succ_self _)).trans HK1.out
    have e3 := ((hB2.out.trans (hb.mono (Nat.le_succ _))).cell (p := ⟨g2, i * 4 + 3, none⟩) hgi).trans HE3.out
    by_cases hlt : k < n2
    · have hks : k < fs.length := by have := HL2.out; omega
      obtain ⟨⟨a, b, c', d⟩, hq⟩ : ∃ q, fs[k]'hks = q := ⟨_, rfl⟩
      have hstep := rkK_step fs r k _ hks hq
      have hr := (HN.out.rd2.over (hB2.out.trans (hb.mono (Nat.le_succ _)))).q4c hks
      rw [Nat.zero_add, hq] at hr
      obtain ⟨hg, f0, f1, f2, f3⟩ := hr
      simp only at f0 f1 f2 f3 hstep
      clear hq
      by_cases ha : d = r
      · rw [if_pos ha] at hstep
        have q1 : (d == r) = true := by simpa using ha
        clear ha
        have HST := Lib.hid hstep
        clear hstep f0 f1 f2
        go_wp2
        go_quiet (fail)
        go_wp2_with (at_builtin; refine wpList_append_own _ rfl _ _ 26 rfl (w.heap.size + 1) 3 i0 (.int .i64 0) 1 8 Try.underlying26 HI.out HZ0.out HZ1.out HZ2.out rfl (by decide) _ N _ rfl (ownA ((ownD HOW.out _))) ⟨wr.heap.size, 0, none⟩ 1 1 [.int .i64 (k : Int)] rfl rfl (new_one1 _ _ _ _ (by simp)) (new_int _) (by unfold maxLen; omega) (by omega) (by simp; omega) ?_)
        intro v1 w3 hown1 hgrow1 _
        have hB3 : Below (w.heap.size + 1) w2 w3 := ((drewN_below hb _).alloc (by simpa using hBs) _).grown hgrow1 (by simp; omega) (fun g hg => (HOW.out.lt g hg).1)
        obtain ⟨N1, hN1⟩ : ∃ N1, N + 1 = N1 := ⟨_, rfl⟩
        rw [hN1] at hown1
        obtain ⟨A1, c1', rfl⟩ := formOf hown1
        have hxs : (rkK fs r k).map (Value.int .i64) ++ [.int .i64 (k : Int)] = (rkK fs r (k + 1)).map (Value.int .i64) := by rw [HST.out, List.map_append]; rfl
        rw [hxs] at hown1
        have HOW1 := Lib.hid hown1
        have HN1' : Hid (N1 = (rkK fs r (k + 1)).length) := Lib.hid (by rw [HST.out, List.length_append, ← HNN.out, ← hN1]; rfl)
        clear hxs hown1 hN1 hgrow1
        go_wp2
        go_roundw
        case rel => exact ⟨k + 1, A1, N1, c1', by omega, by go_num, rfl, HN1', HOW1, hB3⟩
        case measure => simp [intOf]; omega
      · have q1 : (d == r) = false := by simpa using ha
        rw [if_neg ha, List.append_nil] at hstep
        have HN1' : Hid (N = (rkK fs r (k + 1)).length) := Lib.hid (by rw [hstep]; exact HNN.out)
        have HOW1 : Hid (∀ m, (wr.drewN m).ownsRow (w.heap.size + 1) 3 1 (.slice A N c) N ((rkK fs r (k + 1)).map (Value.int .i64))) := Lib.hid (fun m => by rw [hstep]; exact ownD HOW.out m)
        clear hstep ha f0 f1 f2
        go_wp2
        go_quiet (fail)
        go_wp2
        go_roundw
        case rel => exact ⟨k + 1, A, N, c, by omega, by go_num, rfl, HN1', Lib.hid (HOW1.out _), drewN_below hb _⟩
        case measure => simp [intOf]; omega
    · have hkn : k = n2 := by omega
      have hkl : k = fs.length := by have := HL2.out; omega
      have HNF : Hid (N = (rkK fs r fs.length).length) := Lib.hid (by rw [← hkl]; exact HNN.out)
      have HOF : Hid (wr.ownsRow (w.heap.size + 1) 3 1 (.slice A N c) N ((rkK fs r fs.length).map (Value.int .i64))) := Lib.hid (by rw [← hkl]; exact HOW.out)
      subst hkn
      clear hlt hkl
      go_wp2
      go_ret
      exact ⟨A, N, c, rfl, HNF, own_base HOF.out (Nat.le_succ _), hB2.out.trans (hb.mono (Nat.le_succ _))⟩

def failP (ss : List ByteArray) (fs : List Q4) (i : Int) : Prop := netP ss fs ∧ 0 ≤ i ∧ i < fs.length
noncomputable def failB (ss : List ByteArray) (fs : List Q4) (i : Int) : Bool := pb (failP ss fs i)
noncomputable def failL (ss : List ByteArray) (fs : List Q4) (i : Int) : List Int := if failB ss fs i then grpL fs i.toNat (fibI fs i) else []
theorem fail_no {ss : List ByteArray} {fs : List Q4} {i : Int} (h : ¬ failP ss fs i) : failB ss fs i = false ∧ failL ss fs i = [] := by
  unfold failL failB; rw [pb_false h]; exact ⟨rfl, rfl⟩
theorem fail_yes {ss : List ByteArray} {fs : List Q4} {i : Int} (h : failP ss fs i) : failB ss fs i = true ∧ failL ss fs i = grpL fs i.toNat (fibI fs i) := by
  unfold failL failB; rw [pb_true h]; exact ⟨rfl, rfl⟩
theorem failL_len (ss : List ByteArray) (fs : List Q4) (i : Int) : (failL ss fs i).length ≤ fs.length := by
  by_cases h : failP ss fs i
  · rw [(fail_yes h).2]
    have h2 := h.2
    unfold grpL
    split
    · simp; omega
    · exact rkK_len _ _ _
  · rw [(fail_no h).2]; simp
theorem fibI_at {fs : List Q4} {k : Nat} {q : Q4} (hk : k < fs.length) (hq : fs[k] = q) : fibI fs (k : Int) = q := by
  unfold fibI
  rw [List.getD_eq_getElem?_getD, show ((k : Int)).toNat = k from by omega, List.getElem?_eq_getElem hk, hq]; rfl

end Go.Proofs.Ytlgkjidginibdaa
