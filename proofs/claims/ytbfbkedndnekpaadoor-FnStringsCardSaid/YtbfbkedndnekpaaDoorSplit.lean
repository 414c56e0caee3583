/- Contract: spec.l1Split cuts a text at a byte into 'splitB'. Condition: the text has at most 1000000 bytes. -/
import Derived.Test.YtbfbkedndnekpaaDoorRd
import Derived.Lib.IndexBytes
namespace Go.Proofs.YtbfbkedndnekpaaDoor
open Go.ChangeShapes Go.WideShapes Go.ChangeAt Go.RowKit

theorem Tryd.inf_str : (Tryd.prog.info? 9).map (fun i => (i.zero, i.size, i.bytes)) = some (some (.string ByteArray.empty), 1, 16) := by kernel_rfl

/-- the parts of a text between bytes b; cur: what has come of the part in hand. -/
def spl (b : UInt8) : List UInt8 → List UInt8 → List (List UInt8)
  | cur, [] => [cur]
  | cur, c :: r => if c = b then cur :: spl b [] r else spl b (cur ++ [c]) r
def mkS (l : List UInt8) : ByteArray := ⟨l.toArray⟩
def splitB (b : UInt8) (s : ByteArray) : List ByteArray := (spl b [] s.data.toList).map mkS
theorem spl_len (b : UInt8) : ∀ (l cur : List UInt8), (spl b cur l).length ≤ l.length + 1
  | [], cur => by simp [spl]
  | c :: r, cur => by
    unfold spl
    split
    · have := spl_len b r []; simp only [List.length_cons]; omega
    · have := spl_len b r (cur ++ [c]); simp only [List.length_cons]; omega
theorem cutList (s : ByteArray) (f k : Nat) : s.extract f k = mkS ((s.data.toList.drop f).take (k - f)) := by
  apply WideShapes.bytes_inj
  rw [Lib.extract_data]; simp [mkS]
theorem bytesFrom (s : ByteArray) (k : Nat) (h : k < s.size) : s.data.toList.drop k = s[k] :: s.data.toList.drop (k + 1) :=
  List.drop_eq_getElem_cons (by simpa using h)
theorem cur_snoc (s : ByteArray) (f k : Nat) (hf : f ≤ k) (hk : k < s.size) : (s.data.toList.drop f).take (k + 1 - f) = (s.data.toList.drop f).take (k - f) ++ [s[k]] := by
  have e : k + 1 - f = (k - f) + 1 := by omega
  have hl : k - f < (s.data.toList.drop f).length := by simp; omega
  rw [e, List.take_succ_eq_append_getElem hl, List.getElem_drop]
  congr 2
  have : f + (k - f) = k := by omega
  simp only [this]; rfl

def strVals (l : List (List UInt8)) : List Value := (l.map mkS).map Value.string
theorem strVals_snoc (l : List (List UInt8)) (c : List UInt8) : strVals l ++ [Value.string (mkS c)] = strVals (l ++ [c]) := by
  simp only [strVals, List.map_append, List.map_cons, List.map_nil]
/-- the parts so far lie in a row of the call's own. -/
def SR (B : Nat) (w wr : World) (v : Value) (done : List (List UInt8)) : Prop :=
  ∃ A N c, v = .slice A N c ∧ Hid (N = done.length) ∧ wr.ownsRow B 9 1 (.slice A N c) N (strVals done) ∧ Below B w wr

theorem formOf {w : World} {base : Nat} {e : TypeId} {size : Nat} {v : Value} {n : Nat} {xs : List Value} (h : w.ownsRow base e size v n xs) : ∃ A c, v = .slice A n c := by
  rcases h.2 with ⟨rfl, rfl⟩ | ⟨g, cap, cur, rfl, _⟩
  · exact ⟨none, 0, rfl⟩
  · exact ⟨_, _, rfl⟩

theorem new_one (w : World) (E : TypeId) (u0 : Value) : ∀ (j : Nat) (u : Value), [u0][j]? = some u → (w.alloc (.cells #[u0] E)).cell? ((⟨w.heap.size, 0, none⟩ : Addr).add j) = some u := by
  intro j u hu
  match j, hu with
  | 0, hu => simp at hu; subst hu; exact cell_of_row _ w.heap.size 0 #[u0] E (0, 0) (heap_alloc_new w _)
theorem new_str (P : ByteArray) : ∀ u ∈ [Value.string P], u.oneCell' = true := by
  intro u hu; simp at hu; subst hu; rfl

set_option maxHeartbeats 1000000 in
theorem split_any (s : ByteArray) (b : UInt8) (w : World) (hs : s.size ≤ 1000000) :
    Calls Tryd.prog 53 #[.string s, .int .u8 (b.toNat : Int)] w fun e w' => ∃ v, e = .returned v ∧ SR w.heap.size w w' v (spl b [] s.data.toList) := by
  obtain ⟨i0, hi, hz0, hz1, hz2⟩ := info_parts Tryd.inf_str
  go_enter Tryd.func53, Tryd.ntmps53
  go_wp2
  go_loopw [5, 6, 7] (fun v f i wr => ∃ (k f' : Nat) (done : List (List UInt8)), k ≤ s.size ∧ f' ≤ k ∧ done.length ≤ k ∧ i = .int .i64 k ∧ f = .int .i64 f' ∧
      Hid (spl b [] s.data.toList = done ++ spl b ((s.data.toList.drop f').take (k - f')) (s.data.toList.drop k)) ∧ SR w.heap.size w wr v done) (fun _ _ i _ => s.size - (intOf i).toNat)
  case atStart => exact ⟨0, 0, [], by omega, by omega, by simp, rfl, rfl, Lib.hid rfl, _, 0, _, rfl, Lib.hid rfl, World.ownsRow_made w #[] 0 (Nat.le_refl _) (by unfold maxLen; omega) rfl, (Below.refl _ _).alloc (Nat.le_refl _) _⟩
  case round =>
    obtain ⟨k, f, done, hk, hfk, hdk, rfl, rfl, HJ, A, N, c, rfl, HN, hown, hb⟩ := hrel
    have hBs : w.heap.size ≤ wr.heap.size := hb.size
    have hN : N ≤ 1000000 := by have := HN.out; omega
    by_cases hlt : k < s.size
    · have hj := HJ.out
      rw [bytesFrom s k hlt] at hj
      have hcs := cur_snoc s f k hfk hlt
      have hcl := cutList s f k
      obtain ⟨cur, hcur⟩ : ∃ cur, (s.data.toList.drop f).take (k - f) = cur := ⟨_, rfl⟩
      rw [hcur] at hj hcs hcl
      simp only [spl] at hj
      clear HJ hcur
      by_cases he : s[k] = b
      · have hq : ((s[k].toNat : Int) == (b.toNat : Int)) = true := by rw [he]; simp
        rw [if_pos he] at hj
        have HJ := Lib.hid hj
        clear hj he hcs
        obtain ⟨P, hP⟩ : ∃ P, mkS cur = P := ⟨_, rfl⟩
        have hcl' : s.extract f k = P := hcl.trans hP
        have HP := Lib.hid hP; clear hP hcl
        go_wp2_with (at_builtin; refine wpList_append_own _ rfl _ _ 34 rfl w.heap.size 9 i0 (.string ByteArray.empty) 1 16 Tryd.underlying34 hi hz0 hz1 hz2 rfl (by decide) _ N _ rfl (hown.alloc _) ⟨wr.heap.size, 0, none⟩ 1 1 [.string P] rfl rfl (new_one _ _ _) (new_str _) (by unfold maxLen; omega) (by omega) (by simp; omega) ?_)
        intro v1 w1 hown1 hgrow1 _
        have hb1 : Below w.heap.size w w1 := (hb.alloc hBs _).grown hgrow1 (by simp; omega) (fun g hg => (hown.lt g hg).1)
        obtain ⟨N1, hN1⟩ : ∃ N1, N + 1 = N1 := ⟨_, rfl⟩
        rw [hN1] at hown1
        obtain ⟨A1, c1, rfl⟩ := formOf hown1
        have hxs : strVals done ++ [Value.string P] = strVals (done ++ [cur]) := by rw [← HP.out, strVals_snoc]
        rw [hxs] at hown1; clear hxs
        have HN1 : Hid (N1 = (done ++ [cur]).length) := Lib.hid (by rw [List.length_append, ← HN.out, ← hN1]; rfl)
        clear hN1 hgrow1 hown hcl'
        go_wp2
        go_roundw
        case rel => exact ⟨k + 1, k + 1, done ++ [cur], by omega, by omega, by simp; omega, by go_num, by go_num, Lib.hid (by rw [HJ.out]; simp), A1, N1, c1, rfl, HN1, hown1, hb1⟩
        case measure => simp [intOf]; omega
      · have hq : ((s[k].toNat : Int) == (b.toNat : Int)) = false := by
          rw [beq_eq_false_iff_ne]; intro h; exact he (UInt8.toNat_inj.1 (by omega))
        rw [if_neg he, ← hcs] at hj
        have HJ := Lib.hid hj
        clear hj he hcs hcl
        go_wp2
        go_roundw
        case rel => exact ⟨k + 1, f, done, by omega, by omega, by omega, by go_num, rfl, HJ, A, N, c, rfl, HN, hown, hb⟩
        case measure => simp [intOf]; omega
    · have hkn : k = s.size := by omega
      have hj := HJ.out
      rw [List.drop_eq_nil_of_le (i := k) (by simp; omega)] at hj
      have hcl := cutList s f s.size
      obtain ⟨cur, hcur⟩ : ∃ cur, (s.data.toList.drop f).take (k - f) = cur := ⟨_, rfl⟩
      rw [← hkn, hcur] at hcl
      rw [hcur] at hj
      simp only [spl] at hj
      obtain ⟨P, hP⟩ : ∃ P, mkS cur = P := ⟨_, rfl⟩
      have hcl' : s.extract f s.size = P := by rw [← hkn]; exact hcl.trans hP
      have HP := Lib.hid hP
      have HJ2 := Lib.hid hj
      have hfs : f ≤ s.size := by omega
      clear hP hcl hj hcur HJ hkn
      go_wp2_with (at_builtin; refine wpList_append_own _ rfl _ _ 34 rfl w.heap.size 9 i0 (.string ByteArray.empty) 1 16 Tryd.underlying34 hi hz0 hz1 hz2 rfl (by decide) _ N _ rfl (hown.alloc _) ⟨wr.heap.size, 0, none⟩ 1 1 [.string P] rfl rfl (new_one _ _ _) (new_str _) (by unfold maxLen; omega) (by omega) (by simp; omega) ?_)
      intro v1 w1 hown1 hgrow1 _
      have hb1 : Below w.heap.size w w1 := (hb.alloc hBs _).grown hgrow1 (by simp; omega) (fun g hg => (hown.lt g hg).1)
      obtain ⟨N1, hN1⟩ : ∃ N1, N + 1 = N1 := ⟨_, rfl⟩
      rw [hN1] at hown1
      obtain ⟨A1, c1, rfl⟩ := formOf hown1
      have hxs : strVals done ++ [Value.string P] = strVals (done ++ [cur]) := by rw [← HP.out, strVals_snoc]
      rw [hxs, ← HJ2.out] at hown1; clear hxs
      have HN1 : Hid (N1 = (spl b [] s.data.toList).length) := Lib.hid (by rw [HJ2.out, List.length_append, ← HN.out, ← hN1]; rfl)
      clear hN1 hgrow1 hown hcl'
      go_wp2
      go_ret
      exact ⟨_, rfl, A1, N1, c1, rfl, HN1, hown1, hb1⟩
end Go.Proofs.YtbfbkedndnekpaaDoor
