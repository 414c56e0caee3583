/- Routes compared: contracts of the implementation. No condition but those typed. -/
import Derived.Test.YtdaopbdjbpopiaaCmp2
import Derived.Test.YtdaopbdjbpopiaaWk5
import Derived.Deep.RegionHeld3
import Derived.LaidEqlPtr
namespace Go.Proofs.Ytdaopbdjbpopiaa
open Go.ChangeShapes Go.WideShapes Go.ChangeAt Go.RowKit

/-- two lists compared from their ends. -/
def cmpR : List Int → List Int → Int
  | x :: xs, y :: ys => orI (cmpR xs ys) (cmpI x y)
  | _, _ => 0
theorem or_assoc (a b c : Int) : orI (orI a b) c = orI a (orI b c) := by
  by_cases h : a = 0
  · subst h; rw [or_eq, or_eq]
  · rw [or_ne h, or_ne h, or_ne h]
theorem cmpR_same : ∀ xs : List Int, cmpR xs xs = 0
  | [] => by unfold cmpR; rfl
  | x :: xs => by rw [cmpR, cmpR_same xs, or_eq, cmp_eq]
theorem lex_snoc : ∀ {xs ys : List Int}, xs.length = ys.length → ∀ a b : Int, lexF (xs ++ [a]) (ys ++ [b]) = orI (lexF xs ys) (cmpI a b)
  | [], [], _, a, b => by
    show orI (cmpI a b) (lexF [] []) = orI (lexF [] []) (cmpI a b)
    have e : lexF [] [] = 0 := by unfold lexF; rfl
    rw [e, or_eq]
    by_cases h : cmpI a b = 0
    · rw [h]; rfl
    · exact or_ne h
  | x :: xs, y :: ys, hl, a, b => by
    show orI (cmpI x y) (lexF (xs ++ [a]) (ys ++ [b])) = orI (lexF (x :: xs) (y :: ys)) (cmpI a b)
    rw [lex_snoc (by simpa using hl) a b, lexF, or_assoc]
  | [], _ :: _, hl, _, _ => by simp at hl
  | _ :: _, [], hl, _, _ => by simp at hl
theorem cmpR_rev : ∀ {xs ys : List Int}, xs.length = ys.length → cmpR xs ys = lexF xs.reverse ys.reverse
  | [], [], _ => by unfold cmpR lexF; rfl
  | x :: xs, y :: ys, hl => by
    have hl' : xs.length = ys.length := by simpa using hl
    rw [cmpR, cmpR_rev hl', List.reverse_cons, List.reverse_cons, lex_snoc (by simpa using hl')]
  | [], _ :: _, hl => by simp at hl
  | _ :: _, [], hl => by simp at hl
theorem Lk.same {fs : List Q4} {w : World} : ∀ {xs ys : List Int} {g : Nat} {ns ns' : List Int}, Lk fs w g xs ns → Lk fs w g ys ns' → xs.length = ys.length → xs = ys
  | [], [], _, _, _, _, _, _ => rfl
  | x :: xs, y :: ys, g, _, _, ⟨_, _, g1, _, h, r⟩, ⟨_, _, g2, _, h', r'⟩, hl => by
    rw [h] at h'
    injection h' with h'
    injection h' with h'
    have e3 := congrArg (fun (a : Array Value) => a[3]?) h'
    have e4 := congrArg (fun (a : Array Value) => a[4]?) h'
    simp at e3 e4
    subst e3 e4
    rw [Lk.same r r' (by simpa using hl)]
  | [], _ :: _, _, _, _, _, _, hl => by simp at hl
  | _ :: _, [], _, _, _, _, _, hl => by simp at hl
theorem keepAlloc {w : World} {p : Addr} {v : Value} (o : Obj) (h : w.cell? p = some v) : (w.alloc o).cell? p = some v := by
  rw [World.cell?_alloc_some w p o (by rw [h]; rfl)]; exact h
theorem belA {w u : World} (h : Bel w u) (o : Obj) : Bel w (u.alloc o) := Bel.of ((Bel.out h).alloc (Bel.out h).size o)
theorem two0 (W : World) (a b : Value) (T : TypeId) (k : Nat) (hk : W.heap.size = k) : (W.alloc (.cells #[a, b] T)).cell? ⟨k, 0, none⟩ = some a := by subst hk; simp [go_sem]
theorem two1 (W : World) (a b : Value) (T : TypeId) (k : Nat) (hk : W.heap.size = k) : (W.alloc (.cells #[a, b] T)).cell? ⟨k, 1, none⟩ = some b := by subst hk; simp [go_sem]

theorem inf_wk : ∃ j, Try.prog.info? 148 = some j ∧ j.size ≠ 0 := by
  have h : (Try.prog.info? 148).map (fun i => i.size) = some 5 := by kernel_rfl
  cases hj : Try.prog.info? 148 with
  | none => rw [hj] at h; cases h
  | some j =>
    rw [hj] at h
    injection h with h
    have h5 : j.size = 5 := h
    exact ⟨j, rfl, by rw [h5]; decide⟩
theorem ptr_same (w : World) (g : Nat) : (binOp .eql 140 (.pointer (some ⟨g, 0, none⟩)) (.pointer (some ⟨g, 0, none⟩))).run Try.prog w = .ok (.bool true) w := by
  obtain ⟨j, hj, _⟩ := inf_wk
  exact run_eql_ptr_same w _ Try.underlying140 hj
theorem ptr_other (w : World) {g g' : Nat} {ca cb : Array Value} {ta tb : TypeId} (hne : ¬ g = g') (ha : w.heap[g]? = some (.cells ca ta (0, 0))) (hb : w.heap[g']? = some (.cells cb tb (0, 0))) :
    (binOp .eql 140 (.pointer (some ⟨g, 0, none⟩)) (.pointer (some ⟨g', 0, none⟩))).run Try.prog w = .ok (.bool false) w := by
  obtain ⟨j, hj, hs⟩ := inf_wk
  exact run_eql_ptr_other w Try.underlying140 hj hs (fun e => hne (by injection e)) ha hb

set_option maxRecDepth 100000 in
set_option maxHeartbeats 8000000 in
theorem cf_step {w : World} {g g' h1 h2 : Nat} {x y r1 : Int} {v0 v1 v2 u0 u1 u2 : Value} (hne : ¬ g = g') (hh : w.heap[g]? = some (.cells #[v0, v1, v2, .int .i64 x, .pointer (some ⟨h1, 0, none⟩)] 148 (0, 0))) (hh' : w.heap[g']? = some (.cells #[u0, u1, u2, .int .i64 y, .pointer (some ⟨h2, 0, none⟩)] 148 (0, 0)))
    (CI : Hid (∀ W, Bel w W → Calls Try.prog 175 #[.pointer (some ⟨h1, 0, none⟩), .pointer (some ⟨h2, 0, none⟩)] W (RetP (.int .i64 r1) W))) :
    Calls Try.prog 175 #[.pointer (some ⟨g, 0, none⟩), .pointer (some ⟨g', 0, none⟩)] w (RetP (.int .i64 (orI r1 (cmpI x y))) w) := by
  have CP : Hid (∀ W, Calls Try.prog 113 #[.int .i64 x, .int .i64 y] W fun e w' => e = .returned (.int .i64 (cmpI x y)) ∧ W = w') := Lib.hid (fun W => compare_ x y W)
  obtain ⟨r2, hr2⟩ : ∃ r, cmpI x y = r := ⟨_, rfl⟩
  rw [hr2] at CP ⊢
  clear hr2
  have CO : Hid (∀ (gg c : Nat) (W : World), W.cell? ⟨gg, 0, none⟩ = some (.int .i64 r1) → W.cell? ⟨gg, 1, none⟩ = some (.int .i64 r2) → Calls Try.prog 111 #[.slice (some ⟨gg, 0, none⟩) 2 c] W fun e w' => e = .returned (.int .i64 (orI r1 r2)) ∧ W = w') := Lib.hid (fun gg c W a b => or2_ gg c r1 r2 W a b)
  obtain ⟨r, hr⟩ : ∃ r, orI r1 r2 = r := ⟨_, rfl⟩
  rw [hr] at CO ⊢
  clear hr
  have hg : g < w.heap.size := (Array.getElem?_eq_some_iff.1 hh).1
  have hg' : g' < w.heap.size := (Array.getElem?_eq_some_iff.1 hh').1
  obtain ⟨_, _, _, c3, c4⟩ := five_cells hh
  obtain ⟨_, _, _, d3, d4⟩ := five_cells hh'
  have hpe := ptr_other w hne hh hh'
  clear hh hh'
  go_enter Try.func175, Try.ntmps175
  go_wp2
  have hbd : Bel w w.drew := Bel.of (Below.refl _ _).drew
  go_region_held3 (fun U => U.cell? ⟨g, 3, none⟩ = some (.int .i64 x) ∧ U.cell? ⟨g, 4, none⟩ = some (.pointer (some ⟨h1, 0, none⟩)) ∧ U.cell? ⟨g', 3, none⟩ = some (.int .i64 y) ∧ U.cell? ⟨g', 4, none⟩ = some (.pointer (some ⟨h2, 0, none⟩)) ∧ Bel w U)
    (first | (go_keep; done) | (go_split_ands; (refine ⟨?_, ?_, ?_, ?_, ?_⟩ <;> first | assumption | exact Bel.step (by assumption) hb2 | exact (Bel.at_ (by assumption) hb2 (by assumption)).trans (by assumption) | exact keepAlloc _ (by assumption) | exact belA (by assumption) _)))
    (first
      | (go_at_call 175; go_split_ands; refine (CI.out _ (by assumption)).mono ?_; rintro e u1 ⟨rfl, hb2⟩)
      | (go_at_call 113; go_split_ands; refine (CP.out _).mono ?_; rintro e u2 ⟨rfl, rfl⟩)
      | (go_at_call 111; go_split_ands; refine (CO.out _ _ _ ?_ ?_).mono ?_; exact two0 _ _ _ _ _ rfl; exact two1 _ _ _ _ _ rfl; rintro e u3 ⟨rfl, rfl⟩))
  all_goals
    go_split_ands
    go_wp2
    go_ret
    exact ⟨rfl, Bel.out (by assumption)⟩
set_option maxHeartbeats 1000000 in
theorem cf_same (w : World) (g : Nat) : Calls Try.prog 175 #[.pointer (some ⟨g, 0, none⟩), .pointer (some ⟨g, 0, none⟩)] w (RetP (.int .i64 0) w) := by
  have hpe := ptr_same w g
  go_enter Try.func175, Try.ntmps175
  go_wp2
  go_ret
  exact ⟨rfl, Below.refl _ _⟩
set_option maxHeartbeats 1000000 in
theorem cf_nil {w : World} {g g' : Nat} {v0 v1 v2 v3 : Value} {ca : Array Value} (hne : ¬ g = g') (hh : w.heap[g]? = some (.cells #[v0, v1, v2, v3, .pointer none] 148 (0, 0))) (hh' : w.heap[g']? = some (.cells ca 148 (0, 0))) :
    Calls Try.prog 175 #[.pointer (some ⟨g, 0, none⟩), .pointer (some ⟨g', 0, none⟩)] w (RetP (.int .i64 0) w) := by
  have hg : g < w.heap.size := (Array.getElem?_eq_some_iff.1 hh).1
  obtain ⟨_, _, _, _, c4⟩ := five_cells hh
  have hpe := ptr_other w hne hh hh'
  clear hh hh'
  go_enter Try.func175, Try.ntmps175
  go_wp2
  go_ret
  exact ⟨rfl, Below.refl _ _⟩
theorem compareFibers_ {fs : List Q4} : ∀ (xs ys : List Int) (g g' : Nat) (ns ns' : List Int) (w : World), Lk fs w g xs ns → Lk fs w g' ys ns' → xs.length = ys.length →
    Calls Try.prog 175 #[.pointer (some ⟨g, 0, none⟩), .pointer (some ⟨g', 0, none⟩)] w (RetP (.int .i64 (cmpR xs ys)) w) := by
  intro xs
  induction xs with
  | nil =>
    intro ys g g' ns ns' w hl hl' hlen
    have hy : ys = [] := List.eq_nil_of_length_eq_zero hlen.symm
    subst hy
    have e : cmpR [] [] = 0 := by unfold cmpR; rfl
    rw [e]
    by_cases hgg : g = g'
    · subst hgg; exact cf_same w g
    · obtain ⟨_, _, hh⟩ := hl
      obtain ⟨_, _, hh'⟩ := hl'
      exact cf_nil hgg hh hh'
  | cons x xs ih =>
    intro ys g g' ns ns' w hl hl' hlen
    by_cases hgg : g = g'
    · subst hgg
      rw [← Lk.same hl hl' hlen, cmpR_same]
      exact cf_same w g
    · cases ys with
      | nil => simp at hlen
      | cons y ys =>
        obtain ⟨_, _, h1, _, hh, r1⟩ := hl
        obtain ⟨_, _, h2, _, hh', r2⟩ := hl'
        rw [cmpR]
        exact cf_step hgg hh hh' (Lib.hid fun W hb => ih ys h1 h2 _ _ W (r1.over (Bel.out hb)) (r2.over (Bel.out hb)) (by simpa using hlen))

set_option maxRecDepth 100000 in
set_option maxHeartbeats 8000000 in
theorem compareWalks_ {fs : List Q4} {xs ys ns ns' : List Int} {g g' : Nat} {w : World} (hl : Lk fs w g xs ns) (hl' : Lk fs w g' ys ns') :
    Calls Try.prog 112 #[.pointer (some ⟨g, 0, none⟩), .pointer (some ⟨g', 0, none⟩)] w (RetP (.int .i64 (orI (orI (cmpI (lenX fs xs) (lenX fs ys)) (cmpI (xs.length : Int) (ys.length : Int))) (cmpR xs ys))) w) := by
  obtain ⟨_, _, _, _, _, hh, _⟩ := hl.see
  obtain ⟨_, _, _, _, _, hh', _⟩ := hl'.see
  obtain ⟨_, c1, c2, _, _⟩ := five_cells hh
  obtain ⟨_, d1, d2, _, _⟩ := five_cells hh'
  have hg := hl.lt
  have hg' := hl'.lt
  have CF : Hid (xs.length = ys.length → ∀ W, Bel w W → Calls Try.prog 175 #[.pointer (some ⟨g, 0, none⟩), .pointer (some ⟨g', 0, none⟩)] W (RetP (.int .i64 (cmpR xs ys)) W)) := Lib.hid (fun hlen W hb => compareFibers_ xs ys g g' _ _ W (hl.over (Bel.out hb)) (hl'.over (Bel.out hb)) hlen)
  obtain ⟨la, hla⟩ : ∃ l, lenX fs xs = l := ⟨_, rfl⟩
  obtain ⟨lb, hlb⟩ : ∃ l, lenX fs ys = l := ⟨_, rfl⟩
  obtain ⟨n, hn⟩ : ∃ l, (xs.length : Int) = l := ⟨_, rfl⟩
  obtain ⟨m, hm⟩ : ∃ l, (ys.length : Int) = l := ⟨_, rfl⟩
  have HNM : Hid (n = m → xs.length = ys.length) := Lib.hid (fun e => by omega)
  rw [hla, hn] at hh
  rw [hla] at c1 ⊢
  rw [hn] at c2 ⊢
  rw [hlb] at d1 ⊢
  rw [hm] at d2 ⊢
  have CP1 : Hid (∀ W, Calls Try.prog 113 #[.int .i64 la, .int .i64 lb] W fun e w' => e = .returned (.int .i64 (cmpI la lb)) ∧ W = w') := Lib.hid (fun W => compare_ la lb W)
  have CP2 : Hid (∀ W, Calls Try.prog 113 #[.int .i64 n, .int .i64 m] W fun e w' => e = .returned (.int .i64 (cmpI n m)) ∧ W = w') := Lib.hid (fun W => compare_ n m W)
  have HC0 : Hid (orI (cmpI la lb) (cmpI n m) = 0 → n = m) := Lib.hid (fun e => by
    by_cases h1 : cmpI la lb = 0
    · rw [h1, or_eq] at e
      by_cases h2 : n = m
      · exact h2
      · exact absurd e (cmp_ne h2)
    · rw [or_ne h1] at e
      exact absurd e h1)
  obtain ⟨r1, hr1⟩ : ∃ r, cmpI la lb = r := ⟨_, rfl⟩
  obtain ⟨r2, hr2⟩ : ∃ r, cmpI n m = r := ⟨_, rfl⟩
  rw [hr1] at CP1 HC0 ⊢
  rw [hr2] at CP2 HC0 ⊢
  have CO : Hid (∀ (gg c : Nat) (W : World), W.cell? ⟨gg, 0, none⟩ = some (.int .i64 r1) → W.cell? ⟨gg, 1, none⟩ = some (.int .i64 r2) → Calls Try.prog 111 #[.slice (some ⟨gg, 0, none⟩) 2 c] W fun e w' => e = .returned (.int .i64 (orI r1 r2)) ∧ W = w') := Lib.hid (fun gg c W a b => or2_ gg c r1 r2 W a b)
  obtain ⟨c, hc⟩ : ∃ r, orI r1 r2 = r := ⟨_, rfl⟩
  rw [hc] at CO HC0 ⊢
  obtain ⟨r3, hr3⟩ : ∃ r, cmpR xs ys = r := ⟨_, rfl⟩
  rw [hr3] at CF ⊢
  clear hla hlb hn hm hr1 hr2 hc hr3 hh hh' hl hl'
  by_cases hc0 : c = 0
  case neg =>
    rw [or_ne hc0]
    have q : (c != 0) = true := by simpa using hc0
    clear hc0
    go_enter Try.func112, Try.ntmps112
    go_wp2
    have hbd : Bel w w.drew := Bel.of (Below.refl _ _).drew
    go_region_held3 (fun U => U.cell? ⟨g, 1, none⟩ = some (.int .i64 la) ∧ U.cell? ⟨g, 2, none⟩ = some (.int .i64 n) ∧ U.cell? ⟨g', 1, none⟩ = some (.int .i64 lb) ∧ U.cell? ⟨g', 2, none⟩ = some (.int .i64 m) ∧ Bel w U)
      (first | (go_keep; done) | (go_split_ands; (refine ⟨?_, ?_, ?_, ?_, ?_⟩ <;> first | assumption | exact keepAlloc _ (by assumption) | exact belA (by assumption) _)))
      (first
        | (go_at_call 113; go_split_ands; (first | with_reducible refine (CP1.out _).mono ?_ | with_reducible refine (CP2.out _).mono ?_); rintro e u2 ⟨rfl, rfl⟩)
        | (go_at_call 111; go_split_ands; refine (CO.out _ _ _ ?_ ?_).mono ?_; exact two0 _ _ _ _ _ rfl; exact two1 _ _ _ _ _ rfl; rintro e u3 ⟨rfl, rfl⟩))
    all_goals
      go_split_ands
      go_wp2
      go_ret
      exact ⟨rfl, Bel.out (by assumption)⟩
  case pos =>
    subst hc0
    rw [or_eq]
    have CF2 := Lib.hid (CF.out (HNM.out (HC0.out rfl)))
    go_enter Try.func112, Try.ntmps112
    go_wp2
    have hbd : Bel w w.drew := Bel.of (Below.refl _ _).drew
    go_region_held3 (fun U => U.cell? ⟨g, 1, none⟩ = some (.int .i64 la) ∧ U.cell? ⟨g, 2, none⟩ = some (.int .i64 n) ∧ U.cell? ⟨g', 1, none⟩ = some (.int .i64 lb) ∧ U.cell? ⟨g', 2, none⟩ = some (.int .i64 m) ∧ Bel w U)
      (first | (go_keep; done) | (go_split_ands; (refine ⟨?_, ?_, ?_, ?_, ?_⟩ <;> first | assumption | exact keepAlloc _ (by assumption) | exact belA (by assumption) _)))
      (first
        | (go_at_call 113; go_split_ands; (first | with_reducible refine (CP1.out _).mono ?_ | with_reducible refine (CP2.out _).mono ?_); rintro e u2 ⟨rfl, rfl⟩)
        | (go_at_call 111; go_split_ands; refine (CO.out _ _ _ ?_ ?_).mono ?_; exact two0 _ _ _ _ _ rfl; exact two1 _ _ _ _ _ rfl; rintro e u3 ⟨rfl, rfl⟩))
    all_goals
      go_split_ands
      go_wp2_with fail
      refine (CF2.out _ (by assumption)).mono ?_
      rintro e u9 ⟨rfl, hb9⟩
      have hbz := Bel.step (by assumption) hb9
      clear hb9
      go_wp2
      go_ret
      exact ⟨rfl, Bel.out hbz⟩
end Go.Proofs.Ytdaopbdjbpopiaa
