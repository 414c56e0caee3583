/- Contracts: spec.l18Good, spec.IsValidTributaries and impl.IsValidTributaries answer the same plain word. No condition but those typed. -/
import Derived.Test.YtlgkjidginibdaaGA
import Derived.Test.YtlgkjidginibdaaQ3
namespace Go.Proofs.Ytlgkjidginibdaa
open Go.ChangeShapes Go.WideShapes Go.ChangeAt Go.RowKit

def pairB (a b n : Int) : Bool := inB a 0 (n - 1) && inB b 0 (n - 1) && (a != b)
def pairW (a b m : Int) : Bool := inB a 0 m && inB b 0 m && (a != b)
def triAt (n : Int) (q : Q3) : Bool := pairB q.a q.b n && inB q.c 1 1000
def triB (qs : List Q3) (n : Int) : Bool := inB n 2 8 && decide (qs.length ≤ 12) && qs.all (triAt n)
theorem triB_len {qs : List Q3} {n : Int} (h : 12 < qs.length) : triB qs n = false := by unfold triB; rw [decide_eq_false (by omega : ¬ qs.length ≤ 12)]; simp
theorem triB_n {qs : List Q3} {n : Int} (h : inB n 2 8 = false) : triB qs n = false := by unfold triB; rw [h]; rfl
theorem triB_no {qs : List Q3} {n : Int} (h : qs.all (triAt n) = false) : triB qs n = false := by unfold triB; rw [h]; simp
theorem triB_yes {qs : List Q3} {n : Int} (h0 : inB n 2 8 = true) (h1 : qs.length ≤ 12) (h : qs.all (triAt n) = true) : triB qs n = true := by unfold triB; rw [h, h0, decide_eq_true h1]; rfl

set_option maxHeartbeats 1000000 in
theorem pair_any (a b n : Int) (w : World) : Calls Try.prog 187 #[.int .i64 a, .int .i64 b, .int .i64 n] w fun e w' => e = .returned (.bool (pairW a b (IntKind.i64.wrap (n - 1)))) ∧ w' = w := by
  obtain ⟨m, hm⟩ : ∃ m, IntKind.i64.wrap (n - 1) = m := ⟨_, rfl⟩
  rw [hm]
  have C0 := Lib.hid (fun W => in_ a 0 m W)
  have C1 := Lib.hid (fun W => in_ b 0 m W)
  cases h0 : inB a 0 m
  case false =>
    rw [h0] at C0
    have H0 := Lib.hid h0; clear h0
    go_enter Try.func187, Try.ntmps187
    go_wp2_with fail
    refine (C0.out _).mono ?_
    rintro e w' ⟨rfl, rfl⟩
    go_wp2
    go_ret
    exact ⟨by unfold pairW; rw [H0.out]; rfl, rfl⟩
  case true =>
    rw [h0] at C0
    have H0 := Lib.hid h0; clear h0
    cases h1 : inB b 0 m
    case false =>
      rw [h1] at C1
      have H1 := Lib.hid h1; clear h1
      go_enter Try.func187, Try.ntmps187
      go_wp2_with fail
      refine (C0.out _).mono ?_
      rintro e w' ⟨rfl, rfl⟩
      go_wp2_with fail
      refine (C1.out _).mono ?_
      rintro e w' ⟨rfl, rfl⟩
      go_wp2
      go_ret
      exact ⟨by unfold pairW; rw [H0.out, H1.out]; rfl, rfl⟩
    case true =>
      rw [h1] at C1
      have H1 := Lib.hid h1; clear h1
      by_cases h2 : a = b
      · have HR : Hid (pairW a b m = false) := Lib.hid (by unfold pairW; rw [H0.out, H1.out, h2]; simp)
        subst h2
        go_enter Try.func187, Try.ntmps187
        go_wp2_with fail
        refine (C0.out _).mono ?_
        rintro e w' ⟨rfl, rfl⟩
        go_wp2_with fail
        refine (C1.out _).mono ?_
        rintro e w' ⟨rfl, rfl⟩
        go_wp2
        go_ret
        exact ⟨by rw [HR.out]; rfl, rfl⟩
      · have HR : Hid (pairW a b m = true) := Lib.hid (by unfold pairW; rw [H0.out, H1.out]; simpa using h2)
        have q1 : (a != b) = true := by simpa using h2
        have q2 : (a == b) = false := by simpa using h2
        clear h2
        go_enter Try.func187, Try.ntmps187
        go_wp2_with fail
        refine (C0.out _).mono ?_
        rintro e w' ⟨rfl, rfl⟩
        go_wp2_with fail
        refine (C1.out _).mono ?_
        rintro e w' ⟨rfl, rfl⟩
        go_wp2
        go_ret
        exact ⟨by rw [HR.out]; rfl, rfl⟩
theorem pair_in (a b n : Int) (w : World) (h1 : -9223372036854775808 < n) (h2 : n ≤ 9223372036854775807) : Calls Try.prog 187 #[.int .i64 a, .int .i64 b, .int .i64 n] w fun e w' => e = .returned (.bool (pairB a b n)) ∧ w' = w := by
  have := pair_any a b n w
  rw [IntWalk.i64_in _ (by omega)] at this
  exact this
theorem in_q (x a b : Int) (w : World) : Calls Try.prog 121 #[.int .i64 x, .int .i64 a, .int .i64 b] w fun e w' => e = .returned (.bool (inB x a b)) ∧ w' = w :=
  (in_ x a b w).mono fun _ _ ⟨h1, h2⟩ => ⟨h1, h2.symm⟩

set_option maxHeartbeats 4000000 in
theorem specTri (g n c : Nat) (qs : List Q3) (d : Int) (w : World) (hd0 : -9223372036854775808 ≤ d) (hd1 : d ≤ 9223372036854775807) (hn : qs.length = n) (hs : n ≤ 1048576) (hr : Rd w w.heap.size (some ⟨g, 0, none⟩) (qs.flatMap Q3.cells)) :
    Calls Try.prog 120 #[.slice (some ⟨g, 0, none⟩) n c, .int .i64 d] w (RetV (.bool (triB qs d)) w) := by
  have HN := Lib.hid hn; clear hn
  have CI := Lib.hid (fun W => in_ d 2 8 W)
  have HD : Hid (inB d 2 8 = true → -9223372036854775808 < d ∧ d ≤ 9223372036854775807) := Lib.hid fun h => by have := inB_true h; omega
  clear hd0 hd1
  go_enter Try.func120, Try.ntmps120
  go_wp2
  go_loopw [5] (fun i wr => ∃ k : Nat, k ≤ n ∧ k ≤ 13 ∧ i = .int .i64 k ∧ Hid (inB d 2 8 = true → (qs.take k).all (triAt d) = true) ∧ Below w.heap.size w wr) (fun i _ => n - (intOf i).toNat)
  case atStart => exact ⟨0, Nat.zero_le _, by omega, rfl, Lib.hid (fun _ => all_zero), Below.refl _ _⟩
  case round =>
    obtain ⟨k, hk, hk13, rfl, HA, hb⟩ := hrel
    by_cases hlt : k < n ∧ k ≤ 12
    case neg =>
      obtain ⟨r, hrr⟩ : ∃ r, inB d 2 8 = r := ⟨_, rfl⟩
      rw [hrr] at CI HA
      have HQ : Hid (triB qs d = (r && decide ((n : Int) ≤ 12))) := Lib.hid (by
        cases r with
        | false => exact triB_n hrr
        | true =>
          by_cases h12 : n ≤ 12
          · rw [decide_eq_true (by omega)]
            exact triB_yes hrr (by have := HN.out; omega) (all_end (n := k) (by have := HN.out; omega) (HA.out rfl))
          · rw [decide_eq_false (by omega)]
            exact triB_len (by have := HN.out; omega))
      clear hrr
      by_cases hkn : k < n
      · have h12 : 12 < (k : Int) := by omega
        clear hlt
        cases r
        all_goals
          go_wp2_with (go_at_call 121; refine (CI.out _).mono ?_; rintro e w' ⟨rfl, rfl⟩)
          go_ret
          exact retB HQ.out hb
      · clear hlt
        cases r
        all_goals
          go_wp2_with (go_at_call 121; refine (CI.out _).mono ?_; rintro e w' ⟨rfl, rfl⟩)
          go_ret
          exact retB HQ.out hb
    case pos =>
    obtain ⟨hlt, h12⟩ := hlt
    have q12 : (k : Int) ≤ 12 := by omega
    have hks : k < qs.length := by have := HN.out; omega
    have hrc := (hr.over hb).q3c hks
    rw [Nat.zero_add] at hrc
    obtain ⟨⟨a, b, c3⟩, hq⟩ : ∃ q, qs[k]'hks = q := ⟨_, rfl⟩
    rw [hq] at hrc
    obtain ⟨hg, f0, f1, f2⟩ := hrc
    simp only at f0 f1 f2
    have HS : Hid (triAt d ⟨a, b, c3⟩ = true → (inB d 2 8 = true → (qs.take (k + 1)).all (triAt d) = true)) := Lib.hid fun h hi => all_snoc hks (HA.out hi) (by rw [hq]; exact h)
    have HF : Hid (triAt d ⟨a, b, c3⟩ = false → triB qs d = false) := Lib.hid fun h => triB_no (all_no hks (by rw [hq]; exact h))
    clear hq h12
    have C2 := Lib.hid (fun W => in_q c3 1 1000 W)
    have CP : ∃ r, Hid (inB d 2 8 = true → r = pairB a b d) ∧ Hid (∀ W, Calls Try.prog 187 #[.int .i64 a, .int .i64 b, .int .i64 d] W fun e w' => e = .returned (.bool r) ∧ w' = W) := by
      cases h : inB d 2 8 with
      | true => exact ⟨_, Lib.hid fun _ => rfl, Lib.hid fun W => pair_in a b d W (HD.out h).1 (HD.out h).2⟩
      | false =>
        exact ⟨_, Lib.hid fun h => absurd h (by decide), Lib.hid (pair_any a b d)⟩
    obtain ⟨r, HP, HC⟩ := CP
    have HT : Hid (r = true → inB c3 1 1000 = true → (inB d 2 8 = true → (qs.take (k + 1)).all (triAt d) = true)) := Lib.hid fun h1 h2 hi => HS.out (by unfold triAt; rw [← HP.out hi, h1, h2]; rfl) hi
    have HG : Hid (r = false ∨ inB c3 1 1000 = false → triB qs d = false) := Lib.hid fun h1 => by
      cases hi : inB d 2 8 with
      | false => exact triB_n hi
      | true =>
        refine HF.out ?_
        unfold triAt
        rw [← HP.out hi]
        rcases h1 with h | h <;> rw [h]
        · rfl
        · exact Bool.and_false _
    clear HS HF HP HD CI
    cases r
    case false =>
      have HQ := Lib.hid (HG.out (.inl rfl))
      go_wp2
      go_quiet (first | (go_at_call 187; exact Calls.quiet_of_same (HC.out _)) | (go_at_call 121; exact Calls.quiet_of_same (C2.out _)))
      go_wp2
      go_ret
      exact retB HQ.out (drewN_below hb _)
    case true =>
    cases hc : inB c3 1 1000
    case false =>
      have HQ := Lib.hid (HG.out (.inr hc))
      rw [hc] at C2
      clear hc
      go_wp2
      go_quiet (first | (go_at_call 187; exact Calls.quiet_of_same (HC.out _)) | (go_at_call 121; exact Calls.quiet_of_same (C2.out _)))
      go_wp2
      go_ret
      exact retB HQ.out (drewN_below hb _)
    case true =>
      have HQ := Lib.hid (HT.out rfl hc)
      rw [hc] at C2
      clear hc
      go_wp2
      go_quiet (first | (go_at_call 187; exact Calls.quiet_of_same (HC.out _)) | (go_at_call 121; exact Calls.quiet_of_same (C2.out _)))
      go_wp2
      go_roundw
      case rel => exact ⟨k + 1, by omega, by omega, by go_num, HQ, drewN_below hb _⟩
      case measure => simp [intOf]; omega

theorem nodeC (d : Int) (w : World) : Calls Try.prog 188 #[.int .i64 d] w fun e w' => e = .returned (.bool (inB d 2 8)) ∧ w = w' := by
  by_cases h0 : 2 ≤ d
  · by_cases h1 : d ≤ 8
    · have HR : Hid (inB d 2 8 = true) := Lib.hid (inB_mk h0 h1)
      go_enter Try.func188, Try.ntmps188
      go_wp2
      go_ret
      exact ⟨by rw [HR.out]; rfl, rfl⟩
    · have HR : Hid (inB d 2 8 = false) := Lib.hid (inB_no (by omega))
      have q : decide (d ≤ 8) = false := decide_eq_false h1
      clear h1
      go_enter Try.func188, Try.ntmps188
      go_wp2
      go_ret
      exact ⟨by rw [HR.out]; rfl, rfl⟩
  · have HR : Hid (inB d 2 8 = false) := Lib.hid (inB_no (by omega))
    have q : decide (2 ≤ d) = false := decide_eq_false h0
    clear h0
    go_enter Try.func188, Try.ntmps188
    go_wp2
    go_ret
    exact ⟨by rw [HR.out]; rfl, rfl⟩
theorem rate_ (d : Int) (w : World) : Calls Try.prog 190 #[.int .i64 d] w fun e w' => e = .returned (.bool (inB d 1 1000)) ∧ w = w' := by
  by_cases h0 : 1 ≤ d
  · by_cases h1 : d ≤ 1000
    · have HR : Hid (inB d 1 1000 = true) := Lib.hid (inB_mk h0 h1)
      go_enter Try.func190, Try.ntmps190
      go_wp2
      go_ret
      exact ⟨by rw [HR.out]; rfl, rfl⟩
    · have HR : Hid (inB d 1 1000 = false) := Lib.hid (inB_no (by omega))
      have q : decide (d ≤ 1000) = false := decide_eq_false h1
      clear h1
      go_enter Try.func190, Try.ntmps190
      go_wp2
      go_ret
      exact ⟨by rw [HR.out]; rfl, rfl⟩
  · have HR : Hid (inB d 1 1000 = false) := Lib.hid (inB_no (by omega))
    have q : decide (1 ≤ d) = false := decide_eq_false h0
    clear h0
    go_enter Try.func190, Try.ntmps190
    go_wp2
    go_ret
    exact ⟨by rw [HR.out]; rfl, rfl⟩
theorem ends_ (a b n : Int) (w : World) (h1 : 2 ≤ n) (h2 : n ≤ 8) : Calls Try.prog 189 #[.int .i64 a, .int .i64 b, .int .i64 n] w fun e w' => e = .returned (.bool (pairB a b n)) ∧ w = w' := by
  have HF : Hid (¬ (0 ≤ a ∧ a < n ∧ 0 ≤ b ∧ b < n ∧ a ≠ b) → false = pairB a b n) := Lib.hid fun h => by
    cases hp : pairB a b n with
    | false => rfl
    | true =>
      unfold pairB at hp
      simp only [Bool.and_eq_true, bne_iff_ne, ne_eq] at hp
      have h3 := inB_true hp.1.1; have h4 := inB_true hp.1.2; have h5 := hp.2
      omega
  by_cases a0 : 0 ≤ a
  case neg =>
    have q : decide (0 ≤ a) = false := decide_eq_false a0
    have HR := Lib.hid (HF.out (by omega)); clear a0 HF
    go_enter Try.func189, Try.ntmps189
    go_wp2
    go_ret
    exact ⟨by rw [← HR.out]; rfl, rfl⟩
  case pos =>
  by_cases a1 : a < n
  case neg =>
    have q : decide (a < n) = false := decide_eq_false a1
    have HR := Lib.hid (HF.out (by omega)); clear a1 HF
    go_enter Try.func189, Try.ntmps189
    go_wp2
    go_ret
    exact ⟨by rw [← HR.out]; rfl, rfl⟩
  case pos =>
  by_cases b0 : 0 ≤ b
  case neg =>
    have q : decide (0 ≤ b) = false := decide_eq_false b0
    have HR := Lib.hid (HF.out (by omega)); clear b0 HF
    go_enter Try.func189, Try.ntmps189
    go_wp2
    go_ret
    exact ⟨by rw [← HR.out]; rfl, rfl⟩
  case pos =>
  by_cases b1 : b < n
  case neg =>
    have q : decide (b < n) = false := decide_eq_false b1
    have HR := Lib.hid (HF.out (by omega)); clear b1 HF
    go_enter Try.func189, Try.ntmps189
    go_wp2
    go_ret
    exact ⟨by rw [← HR.out]; rfl, rfl⟩
  case pos =>
  by_cases c0 : a = b
  case pos =>
    have HR := Lib.hid (HF.out (by omega)); clear HF
    subst c0
    go_enter Try.func189, Try.ntmps189
    go_wp2
    go_ret
    exact ⟨by rw [← HR.out]; rfl, rfl⟩
  case neg =>
    have HR : Hid (pairB a b n = true) := Lib.hid (by unfold pairB; rw [inB_mk a0 (by omega), inB_mk b0 (by omega)]; simpa using c0)
    have q1 : (a != b) = true := by simpa using c0
    have q2 : (a == b) = false := by simpa using c0
    clear c0 HF
    go_enter Try.func189, Try.ntmps189
    go_wp2
    go_ret
    exact ⟨by rw [HR.out]; rfl, rfl⟩

set_option maxHeartbeats 4000000 in
theorem implTri (g n c : Nat) (qs : List Q3) (d : Int) (w : World) (hn : qs.length = n) (hs : n ≤ 1048576) (hr : Rd w w.heap.size (some ⟨g, 0, none⟩) (qs.flatMap Q3.cells)) :
    Calls Try.prog 127 #[.slice (some ⟨g, 0, none⟩) n c, .int .i64 d] w (RetV (.bool (triB qs d)) w) := by
  have HN := Lib.hid hn; clear hn
  have CI := Lib.hid (fun W => nodeC d W)
  cases hd : inB d 2 8
  case false =>
    have HQ := Lib.hid (triB_n (qs := qs) hd)
    rw [hd] at CI
    clear hd
    go_enter Try.func127, Try.ntmps127
    go_wp2_with fail
    refine (CI.out _).mono ?_
    rintro e w' ⟨rfl, rfl⟩
    go_wp2
    go_ret
    exact retB HQ.out (Below.refl _ _)
  case true =>
  have HD := Lib.hid hd
  obtain ⟨hd1, hd2⟩ := inB_true hd
  rw [hd] at CI
  clear hd
  by_cases h12 : n ≤ 12
  case neg =>
    have HQ := Lib.hid (triB_len (qs := qs) (n := d) (by have := HN.out; omega))
    have q : 12 < (n : Int) := by omega
    clear h12
    go_enter Try.func127, Try.ntmps127
    go_wp2_with fail
    refine (CI.out _).mono ?_
    rintro e w' ⟨rfl, rfl⟩
    go_wp2
    go_ret
    exact retB HQ.out (Below.refl _ _)
  case pos =>
  have q12 : (n : Int) ≤ 12 := by omega
  go_enter Try.func127, Try.ntmps127
  go_wp2_with fail
  refine (CI.out _).mono ?_
  rintro e w' ⟨rfl, rfl⟩
  go_wp2
  go_loopw [17] (fun i wr => ∃ k : Nat, k ≤ n ∧ i = .int .i64 k ∧ Hid ((qs.take k).all (triAt d) = true) ∧ Below w.heap.size w wr) (fun i _ => n - (intOf i).toNat)
  case atStart => exact ⟨0, Nat.zero_le _, rfl, Lib.hid all_zero, Below.refl _ _⟩
  case round =>
    obtain ⟨k, hk, rfl, HA, hb⟩ := hrel
    by_cases hlt : k < n
    case neg =>
      obtain rfl : k = n := by omega
      have HQ := Lib.hid (triB_yes (qs := qs) (n := d) HD.out (by have := HN.out; omega) (all_end HN.out HA.out))
      go_wp2
      go_ret
      exact retB HQ.out hb
    case pos =>
    have hks : k < qs.length := by have := HN.out; omega
    have hrc := (hr.over hb).q3c hks
    rw [Nat.zero_add] at hrc
    obtain ⟨⟨a, b, c3⟩, hq⟩ : ∃ q, qs[k]'hks = q := ⟨_, rfl⟩
    rw [hq] at hrc
    obtain ⟨hg, f0, f1, f2⟩ := hrc
    simp only at f0 f1 f2
    have HS : Hid (triAt d ⟨a, b, c3⟩ = true → (qs.take (k + 1)).all (triAt d) = true) := Lib.hid fun h => all_snoc hks HA.out (by rw [hq]; exact h)
    have HF : Hid (triAt d ⟨a, b, c3⟩ = false → triB qs d = false) := Lib.hid fun h => triB_no (all_no hks (by rw [hq]; exact h))
    clear hq
    have hbw := hb.size
    have C1 := Lib.hid (fun W => ends_ a b d W hd1 hd2)
    have C2 := Lib.hid (fun W => rate_ c3 W)
    cases hp : pairB a b d
    case false =>
      have HQ := Lib.hid (HF.out (by unfold triAt; rw [hp]; rfl))
      rw [hp] at C1
      clear hp
      go_wp2_with fail
      refine (C1.out _).mono ?_
      rintro e w' ⟨rfl, rfl⟩
      go_wp2
      go_ret
      exact retB HQ.out (hb.alloc hbw _)
    case true =>
    cases hc : inB c3 1 1000
    case false =>
      have HQ := Lib.hid (HF.out (by unfold triAt; rw [hc]; exact Bool.and_false _))
      rw [hp] at C1; rw [hc] at C2
      clear hp hc
      go_wp2_with fail
      refine (C1.out _).mono ?_
      rintro e w' ⟨rfl, rfl⟩
      go_wp2_with fail
      refine (C2.out _).mono ?_
      rintro e w' ⟨rfl, rfl⟩
      go_wp2
      go_ret
      exact retB HQ.out (hb.alloc hbw _)
    case true =>
      have HQ := Lib.hid (HS.out (by unfold triAt; rw [hp, hc]; rfl))
      rw [hp] at C1; rw [hc] at C2
      clear hp hc
      go_wp2_with fail
      refine (C1.out _).mono ?_
      rintro e w' ⟨rfl, rfl⟩
      go_wp2_with fail
      refine (C2.out _).mono ?_
      rintro e w' ⟨rfl, rfl⟩
      go_wp2
      go_roundw
      case rel => exact ⟨k + 1, by omega, by go_num, HQ, hb.alloc hbw _⟩
      case measure => simp [intOf]; omega
end Go.Proofs.Ytlgkjidginibdaa
