/- Contract: impl.JoinStrings over a slice of strings answers the plain function 'jres'. No condition but those typed (the sizes that every reading pays). -/
import Derived.Test.YtbfbkedndnekpaaDoorJoin
import Derived.Test.YtbfbkedndnekpaaDoorByt
namespace Go.Proofs.YtbfbkedndnekpaaDoor
open Go.ChangeShapes Go.WideShapes Go.ChangeAt Go.RowKit
open Go.Lib (strCells strCells_length)

theorem Tryd.inf_u8 : (Tryd.prog.info? 5).map (fun i => (i.zero, i.size, i.bytes)) = some (some (.int .u8 0), 1, 1) := by kernel_rfl

theorem stands_index (s : ByteArray) (b : UInt8) : decide (0 ≤ Lib.indexByte s.data.toList b) = standsB s b := by
  rw [Bool.eq_iff_iff, decide_eq_true_iff]
  unfold standsB
  rw [List.contains_iff_mem, List.mem_iff_getElem?]
  constructor
  · intro h
    obtain ⟨o, ho⟩ := Int.eq_ofNat_of_zero_le h
    exact ⟨o, (Lib.indexByte_some ho).1⟩
  · rintro ⟨k, hk⟩
    have hge := Lib.indexByte_ge s.data.toList b
    by_cases h : 0 ≤ Lib.indexByte s.data.toList b
    · exact h
    · exact absurd hk (Lib.indexByte_none (by omega) k)

theorem containsOne (s : ByteArray) (b : UInt8) (v : Bool) (h : standsB s b = v) (w : World) :
    Calls Tryd.prog 52 #[.string s, .string ⟨#[b]⟩] w fun e w' => e = .returned (.bool v) ∧ w = w' :=
  (Tryd.strings_Contains_one s b w).mono fun e w' ⟨he, hw⟩ => ⟨by rw [he, stands_index, h], hw.symm⟩

/-- the joined bytes in hand: N of them, in a row of the call's own. -/
def JR (B : Nat) (w wr : World) (v : Value) (acc : ByteArray) : Prop :=
  ∃ A N c, v = .slice A N c ∧ Hid (N = acc.size) ∧ N ≤ 4000 ∧ wr.ownsRow B 5 1 (.slice A N c) N (strCells acc) ∧ Below B w wr
theorem below_own {B : Nat} {w wr w1 : World} {base : Nat} {e : TypeId} {v : Value} {n : Nat} {xs : List Value} (hb : Below B w wr) (hB : B ≤ w.heap.size) (h : wr.ownsRow B e base v n xs) (hg : wr.grownBy w1 v.ownBlock) : Below B w w1 :=
  hb.grown hg (Nat.le_trans hB hb.size) (fun k hk => (h.lt k hk).1)
theorem jn_bad {sep : ByteArray} {b : UInt8} {f : Bool} {acc s : ByteArray} {r : List ByteArray} (h : standsB s b = true ∨ 4000 < ((if f then acc else acc ++ sep) ++ s).size) : jn sep b f acc (s :: r) = none := by
  rw [jn_cons]
  by_cases h1 : standsB s b = true
  · rw [if_pos h1]
  · rw [if_neg h1, if_pos (h.resolve_left h1)]
theorem jn_good {sep : ByteArray} {b : UInt8} {f : Bool} {acc s : ByteArray} {r : List ByteArray} (h : standsB s b = false) (h2 : ((if f then acc else acc ++ sep) ++ s).size ≤ 4000) : jn sep b f acc (s :: r) = jn sep b false ((if f then acc else acc ++ sep) ++ s) r := by
  rw [jn_cons, if_neg (by rw [h]; decide), if_neg (by omega)]

set_option maxHeartbeats 1000000 in
theorem implJoin (A : Option Addr) (n c : Nat) (sep : ByteArray) (ss : List ByteArray) (w : World) (hn : ss.length = n) (hr : Rd w w.heap.size A (ss.map Value.string))
    (hsz : n * 16 ≤ 140737488355328) (hw1 : sep.size ≤ maxLen) (hbig : ∀ s ∈ ss, s.size ≤ 140737488355328) :
    Calls Tryd.prog 25 #[.slice A n c, .string sep] w (JP sep ss w) := by
  have hm : n ≤ 9223372036854775807 := by omega
  unfold maxLen at hw1
  by_cases h1 : sep.size = 1
  · by_cases h2 : 0 < n
    · have HN := Lib.hid hn; clear hn
      obtain ⟨i0, hi, hz0, hz1, hz2⟩ := info_parts Tryd.inf_u8
      have hp : ∀ o, jn sep (sep.data.toList.getD 0 0) true ByteArray.empty ss = o → jres sep ss = jout o := fun o h => jres_of h1 (by have := HN.out; omega) h
      obtain ⟨b, rfl⟩ : ∃ b : UInt8, sep = ⟨#[b]⟩ := by
        obtain ⟨⟨l⟩⟩ := sep
        match l, h1 with
        | [b], _ => exact ⟨b, rfl⟩
      have hb1 : (ByteArray.mk #[b]).size = 1 := h1
      simp only [List.getD_cons_zero] at hp
      have t2 : ((n : Int) == 0) = false := by rw [beq_eq_false_iff_ne]; omega
      have HP := Lib.hid hp; clear hp h1 hw1 hb1
      go_enter Tryd.func25, Tryd.ntmps25
      go_wp2
      go_loopw [6, 19] (fun v i wr => ∃ (k : Nat) (acc : ByteArray), k ≤ n ∧ i = .int .i64 k ∧ Hid (jn ⟨#[b]⟩ b true ByteArray.empty ss = jn ⟨#[b]⟩ b (k == 0) acc (ss.drop k)) ∧ JR w.heap.size w wr v acc) (fun _ i _ => n - (intOf i).toNat)
      case atStart => exact ⟨0, ByteArray.empty, Nat.zero_le _, rfl, Lib.hid rfl, none, 0, 0, rfl, Lib.hid rfl, by omega, World.ownsRow_nil _ _ _ _, Below.refl _ _⟩
      case round =>
        obtain ⟨k, acc, hk, rfl, HJ, A0, N, c0, rfl, HNN, hN4, hown, hb⟩ := hrel
        have hBs : w.heap.size ≤ wr.heap.size := hb.size
        by_cases hlt : k < n
        · have hks : k < ss.length := by have := HN.out; omega
          obtain ⟨ad, rfl, hadb, hcell⟩ := (hr.over hb).got (k := k) (by simpa using hks)
          rw [strGet ss k hks] at hcell
          have hj := HJ.out
          rw [drop_at ss k hks] at hj
          have hw2 := hbig _ (List.getElem_mem hks)
          obtain ⟨s, hs⟩ : ∃ s, ss[k] = s := ⟨_, rfl⟩
          rw [hs] at hcell hw2 hj; clear hs HJ
          have HO := Lib.hid hj; clear hj
          obtain ⟨st, hst⟩ : ∃ st, standsB s b = st := ⟨_, rfl⟩
          have HST := Lib.hid hst; clear hst
          by_cases hk0 : k = 0
          · have hb0 : Hid ((k == 0) = true) := Lib.hid (by simpa using hk0)
            have hk1 : (k : Int) < 1 := by omega
            clear hk0
            by_cases hbg : 4000 < (N : Int) + s.size
            · have HF := Lib.hid (HP.out none (HO.out.trans (jn_bad (.inr (by rw [hb0.out, if_pos rfl, ByteArray.size_append, ← HNN.out]; omega)))))
              go_wp2_with fail
              go_ret2
              exact jp_none HF.out hb
            · have hsm : (N : Int) + s.size ≤ 4000 := by omega
              clear hbg
              cases st
              · go_wp2_with (first | (go_at_call 52; refine (containsOne s b _ HST.out _).mono ?_; rintro e w' ⟨rfl, rfl⟩) | (at_builtin; refine Lib.wpList_append_own_string _ rfl _ _ 22 9 rfl w.heap.size 5 i0 Tryd.underlying22 Tryd.underlying9 hi hz0 hz1 hz2 _ N (strCells acc) rfl hown s rfl (by unfold maxLen; omega) (by omega) hBs ?_))
                intro v1 w1 hown1 hgrow1 _
                obtain ⟨N1, hN1⟩ : ∃ N1, N + s.size = N1 := ⟨_, rfl⟩
                rw [hN1, strCells_app] at hown1
                obtain ⟨A1, c1, rfl⟩ := ownForm hown1
                have hb1 := below_own hb (Nat.le_refl _) hown hgrow1
                have hN1' : N1 ≤ 4000 := by omega
                have HN1 := Lib.hid hN1; clear hN1 hgrow1 hown
                go_wp2
                go_roundw
                case rel => exact ⟨k + 1, acc ++ s, by omega, by go_num, Lib.hid ((HO.out.trans (jn_good HST.out (by rw [hb0.out, if_pos rfl, ByteArray.size_append, ← HNN.out]; omega))).trans (by rw [hb0.out, if_pos rfl, succ_ne])), A1, N1, c1, rfl, Lib.hid (by rw [ByteArray.size_append, ← HNN.out, HN1.out]), hN1', hown1, hb1⟩
                case measure => simp [intOf]; omega
              · have HF := Lib.hid (HP.out none (HO.out.trans (jn_bad (.inl HST.out))))
                go_wp2_with (go_at_call 52; refine (containsOne s b _ HST.out _).mono ?_; rintro e w' ⟨rfl, rfl⟩)
                go_ret2
                exact jp_none HF.out hb
          · have hb0 : Hid ((k == 0) = false) := Lib.hid (by simpa using hk0)
            have hk1 : (0 : Int) < k := by omega
            clear hk0
            have hx1 : (ByteArray.mk #[b]).size = 1 := rfl
            have HX := Lib.hid hx1; clear hx1
            go_wp2_with (at_builtin; refine Lib.wpList_append_own_string _ rfl _ _ 22 9 rfl w.heap.size 5 i0 Tryd.underlying22 Tryd.underlying9 hi hz0 hz1 hz2 _ N (strCells acc) rfl hown ⟨#[b]⟩ rfl (by rw [HX.out]; unfold maxLen; omega) (by rw [HX.out]; omega) hBs ?_)
            intro v1 w1 hown1 hgrow1 _
            obtain ⟨N1, hN1⟩ : ∃ N1, N + 1 = N1 := ⟨_, rfl⟩
            rw [hN1, strCells_app] at hown1
            obtain ⟨A1, c1, rfl⟩ := ownForm hown1
            have hb1 := below_own hb (Nat.le_refl _) hown hgrow1
            have hN1l : N1 ≤ N + 1 := by omega
            have hN1g : N + 1 ≤ N1 := by omega
            have hBs1 : w.heap.size ≤ w1.heap.size := hb1.size
            have HN1 := Lib.hid hN1
            have hcell1 : w1.cell? (ad.add k) = some (.string s) := by
              rw [hb1.cell (by rw [addBlock]; exact hadb), ← hb.cell (by rw [addBlock]; exact hadb)]; exact hcell
            clear hN1 hgrow1 hown hcell
            by_cases hbg : 4000 < (N1 : Int) + s.size
            · have HF := Lib.hid (HP.out none (HO.out.trans (jn_bad (.inr (by rw [hb0.out, if_neg (by decide), ByteArray.size_append, ByteArray.size_append, ← HNN.out, HX.out, HN1.out]; omega)))))
              go_wp2_with fail
              go_ret2
              exact jp_none HF.out hb1
            · have hsm : (N1 : Int) + s.size ≤ 4000 := by omega
              clear hbg
              cases st
              · go_wp2_with (first | (go_at_call 52; refine (containsOne s b _ HST.out _).mono ?_; rintro e w' ⟨rfl, rfl⟩) | (at_builtin; refine Lib.wpList_append_own_string _ rfl _ _ 22 9 rfl w.heap.size 5 i0 Tryd.underlying22 Tryd.underlying9 hi hz0 hz1 hz2 _ N1 _ rfl hown1 s rfl (by unfold maxLen; omega) (by omega) hBs1 ?_))
                intro v2 w2 hown2 hgrow2 _
                obtain ⟨N2, hN2⟩ : ∃ N2, N1 + s.size = N2 := ⟨_, rfl⟩
                rw [hN2, strCells_app] at hown2
                obtain ⟨A2, c2, rfl⟩ := ownForm hown2
                have hb2 := below_own hb1 (Nat.le_refl _) hown1 hgrow2
                have hN2' : N2 ≤ 4000 := by omega
                have HN2 := Lib.hid hN2; clear hN2 hgrow2 hown1
                go_wp2
                go_roundw
                case rel => exact ⟨k + 1, (acc ++ ⟨#[b]⟩) ++ s, by omega, by go_num, Lib.hid ((HO.out.trans (jn_good HST.out (by rw [hb0.out, if_neg (by decide), ByteArray.size_append, ByteArray.size_append, ← HNN.out, HX.out, HN1.out]; omega))).trans (by rw [hb0.out, if_neg (by decide), succ_ne])), A2, N2, c2, rfl, Lib.hid (by rw [ByteArray.size_append, ByteArray.size_append, ← HNN.out, HX.out, HN1.out, HN2.out]), hN2', hown2, hb2⟩
                case measure => simp [intOf]; omega
              · have HF := Lib.hid (HP.out none (HO.out.trans (jn_bad (.inl HST.out))))
                go_wp2_with (go_at_call 52; refine (containsOne s b _ HST.out _).mono ?_; rintro e w' ⟨rfl, rfl⟩)
                go_ret2
                exact jp_none HF.out hb1
        · have hkn : k = n := by omega
          have HJ2 : Hid (jres ⟨#[b]⟩ ss = jout (some acc)) := Lib.hid (HP.out _ (HJ.out.trans (by rw [List.drop_eq_nil_of_le (by have := HN.out; omega)]; rfl)))
          clear HJ
          have hcv := run_str_own (P := Tryd.prog) wr 22 9 5 Tryd.underlying22 Tryd.underlying5 Tryd.underlying9 (A := A0) (c := c0) (acc := acc) (by rw [← HNN.out]; exact hown)
          rw [← HNN.out] at hcv
          go_wp2
          go_ret2
          exact jp_some HJ2.out hb
    · have t2 : ((n : Int) == 0) = true := by rw [beq_iff_eq]; omega
      have HE : Hid (jres sep ss = (ByteArray.empty, false)) := Lib.hid (by unfold jres; rw [if_neg (by omega)])
      have H1 := Lib.hid h1; clear h1
      have HN := Lib.hid hn; clear hn
      go_enter Tryd.func25, Tryd.ntmps25
      go_wp2
      go_ret2
      exact jp_none HE.out (Below.refl _ _)
  · have t1 : ((sep.size : Int) != 1) = true := by rw [bne_iff_ne]; omega
    have HE : Hid (jres sep ss = (ByteArray.empty, false)) := Lib.hid (by unfold jres; rw [if_neg (by omega)])
    have HN := Lib.hid hn; clear hn
    by_cases h2 : n = 0
    all_goals
      first | (have t2 : ((n : Int) == 0) = true := by rw [beq_iff_eq]; omega) | (have t2 : ((n : Int) == 0) = false := by rw [beq_eq_false_iff_ne]; omega)
      have H2 := Lib.hid h2; clear h2
      go_enter Tryd.func25, Tryd.ntmps25
      go_wp2
      go_ret2
      exact jp_none HE.out (Below.refl _ _)
end Go.Proofs.YtbfbkedndnekpaaDoor
