/- Direct grooming: contract of impl.ratesBetween. No condition but those typed. -/
import Derived.Test.YtlgkjidginibdaaGdP
import Derived.Test.YtlgkjidginibdaaTri
import Derived.Deep.DeepCutAuto
namespace Go.Proofs.Ytlgkjidginibdaa
open Go.ChangeShapes Go.WideShapes Go.ChangeAt Go.RowKit

theorem gdK_snoc {qs : List Q3} {a b : Int} {t : Nat} (h : gdB (q3n qs t) a b = true) : gdK qs a b (t + 1) = gdK qs a b t ++ [(q3n qs t).c] := by show (if gdB (q3n qs t) a b then _ else _) = _; rw [if_pos h]
theorem gdK_stay {qs : List Q3} {a b : Int} {t : Nat} (h : gdB (q3n qs t) a b = false) : gdK qs a b (t + 1) = gdK qs a b t := by show (if gdB (q3n qs t) a b then _ else _) = _; rw [if_neg (by rw [h]; decide)]
set_option maxRecDepth 100000 in
set_option maxHeartbeats 4000000 in
theorem ratesB_ {g3 n c : Nat} {qs : List Q3} {w : World} (hn : qs.length = n) (hr : Rd w w.heap.size (some ⟨g3, 0, none⟩) (qs.flatMap Q3.cells)) (hs : n ≤ 1048576) (a b : Int) (hab : a ≠ b) :
    Calls Try.prog 129 #[.slice (some ⟨g3, 0, none⟩) n c, .int .i64 a, .int .i64 b] w (IntP (gdK qs a b n) w) := by
  have HN := Lib.hid hn; have HRL := Lib.hid hr
  clear hn hr
  go_enter Try.func129, Try.ntmps129
  go_wp2
  go_loopw [7, 12] (fun v i wr => ∃ (k : Nat) (A : Option Addr) (N d : Nat), k ≤ n ∧ i = .int .i64 k ∧ v = .slice A N d ∧ Hid (N = (gdK qs a b k).length) ∧ Hid (wr.ownsRow w.heap.size 3 1 (.slice A N d) N ((gdK qs a b k).map (Value.int .i64))) ∧ Hid (Below w.heap.size w wr)) (fun _ i _ => n - (intOf i).toNat)
  case atStart => exact ⟨0, none, 0, 0, Nat.zero_le _, rfl, rfl, Lib.hid rfl, Lib.hid (World.ownsRow_nil _ _ _ _), Lib.hid (Below.refl _ _)⟩
  case round =>
    obtain ⟨k, A, N, d, hk, rfl, rfl, HE, HO, HB⟩ := hrel
    by_cases hlt : k < n
    case neg =>
      obtain rfl : k = n := by omega
      clear hlt
      go_wp2
      go_ret
      exact ⟨A, N, d, rfl, HE.out, HO.out, HB.out⟩
    case pos =>
    have hkq : k < qs.length := by have := HN.out; omega
    have hN : N ≤ 1048576 := by have := HE.out; have := gdK_len qs a b k; omega
    obtain ⟨q, hq⟩ : ∃ q, qs[k]'hkq = q := ⟨_, rfl⟩
    have HQ := Lib.hid (q3n_at hkq hq)
    have hrc := (HRL.out.moved HB.out).q3c hkq
    rw [Nat.zero_add, hq] at hrc
    obtain ⟨hg, f0, f1, f2⟩ := hrc
    obtain ⟨X, hX⟩ : ∃ X, wr.alloc (Obj.cells #[.int .i64 q.a, .int .i64 q.b, .int .i64 q.c] 166) = X := ⟨_, rfl⟩
    have x0 : X.cell? ⟨wr.heap.size, 0, none⟩ = some (.int .i64 q.a) := by rw [← hX]; simp [go_sem]
    have x1 : X.cell? ⟨wr.heap.size, 1, none⟩ = some (.int .i64 q.b) := by rw [← hX]; simp [go_sem]
    have x2 : X.cell? ⟨wr.heap.size, 2, none⟩ = some (.int .i64 q.c) := by rw [← hX]; simp [go_sem]
    have hxs : wr.heap.size < X.heap.size := by rw [← hX]; simp
    have HBX : Hid (Below wr.heap.size wr X) := Lib.hid (by rw [← hX]; exact (Below.refl _ _).alloc (Nat.le_refl _) _)
    have HOX := Lib.hid (ownB HO.out HBX.out)
    have HBW := Lib.hid (HB.out.trans (HBX.out.mono HB.out.size))
    go_upto_region 5 with fail
    try rw [hX]
    clear hX f0 f1 f2 hg hq hkq
    go_cut [37] (fun s37 wx => s37 = .bool (gdB q a b) ∧ wx = X)
    case first =>
      have HG : Hid (gdB q a b = ((q.a == a && q.b == b) || (q.a == b && q.b == a))) := Lib.hid rfl
      by_cases h1 : q.a = a
      case pos =>
        have e1 : (q.a == a) = true := by simpa using h1
        by_cases h2 : q.b = b
        case pos =>
          have e2 : (q.b == b) = true := by simpa using h2
          go_wp2_with fail
          go_meet
          exact ⟨by rw [HG.out, e1, e2]; rfl, rfl⟩
        case neg =>
          have e2 : (q.b == b) = false := beq_eq_false_iff_ne.2 h2
          have h3 : ¬ q.a = b := fun e => hab (h1.symm.trans e)
          have e3 : (q.a == b) = false := beq_eq_false_iff_ne.2 h3
          go_wp2_with fail
          go_meet
          exact ⟨by rw [HG.out, e1, e2, e3]; rfl, rfl⟩
      case neg =>
        have e1 : (q.a == a) = false := beq_eq_false_iff_ne.2 h1
        by_cases h3 : q.a = b
        case pos =>
          have e3 : (q.a == b) = true := by simpa using h3
          go_wp2_with fail
          go_meet
          exact ⟨by rw [HG.out, e1, e3]; rfl, rfl⟩
        case neg =>
          have e3 : (q.a == b) = false := beq_eq_false_iff_ne.2 h3
          go_wp2_with fail
          go_meet
          exact ⟨by rw [HG.out, e1, e3]; rfl, rfl⟩
    case rest =>
    obtain ⟨rfl, rfl⟩ := hcut
    cases hb : gdB q a b
    case false =>
      have HS := Lib.hid (gdK_stay (qs := qs) (a := a) (b := b) (t := k) (by rw [HQ.out]; exact hb))
      clear x0 x1 x2 hb
      go_wp2
      go_roundw
      case rel => exact ⟨k + 1, A, N, d, by omega, by go_num, rfl, Lib.hid (by rw [HS.out]; exact HE.out), Lib.hid (by rw [HS.out]; exact HOX.out), HBW⟩
      case measure => simp [intOf]; omega
    case true =>
      have HS := Lib.hid (gdK_snoc (qs := qs) (a := a) (b := b) (t := k) (by rw [HQ.out]; exact hb))
      rw [HQ.out] at HS
      clear hb
      go_wp2_with (at_builtin; refine wp_app rfl (.tmp 38) (.tmp 41) 26 3 rfl w.heap.size Try.underlying26 Try.inf_int rfl (by decide) (by decide) _ N _ rfl (HOX.out.alloc _) _ _ [.int .i64 q.c] rfl rfl (news1 (new_at_ _ _ _ _ rfl)) (news_int _) (by omega) (by have := HBW.out.size; simp; omega) ?_)
      intro A3 d3 N3 w3 hN3 hown3 hgrow3 hloc3
      have HB3 : Hid (Below w.heap.size w w3) := Lib.hid ((HBW.out.alloc HBW.out.size _).grown hgrow3 (by have := HBW.out.size; simp; omega) (fun g hg => (HOX.out.lt g hg).1))
      have HO3 : Hid (w3.ownsRow w.heap.size 3 1 (.slice A3 N3 d3) N3 ((gdK qs a b (k + 1)).map (Value.int .i64))) := Lib.hid (by rw [HS.out, List.map_append]; exact hown3)
      have HE3 : Hid (N3 = (gdK qs a b (k + 1)).length) := Lib.hid (by rw [HS.out, List.length_append, ← HE.out]; exact hN3)
      clear hown3 hgrow3 hloc3 hN3
      go_wp2
      go_roundw
      case rel => exact ⟨k + 1, A3, N3, d3, by omega, by go_num, rfl, HE3, HO3, HB3⟩
      case measure => simp [intOf]; omega
end Go.Proofs.Ytlgkjidginibdaa
