/- First fit in an order of the rates: the sort of their numbers: contracts. No condition but those typed. -/
import Derived.Test.YtlgkjidginibdaaPdP
import Derived.Test.YtlgkjidginibdaaShelf
import Derived.Test.YtlgkjidginibdaaGA
import Derived.BigQuiet
import Derived.BigRegion
import Derived.WalkMore
namespace Go.Proofs.Ytlgkjidginibdaa
open Go.ChangeShapes Go.WideShapes Go.ChangeAt Go.RowKit

theorem rd_up {w : World} {B B' : Nat} {A : Option Addr} {xs : List Value} (h : Rd w B A xs) (hb : B ≤ B') : Rd w B' A xs := fun j v hv => by
  obtain ⟨ad, e, h1, h2⟩ := h j v hv
  exact ⟨ad, e, Nat.lt_of_lt_of_le h1 hb, h2⟩
def inn (O : List Int) (k : Nat) (rest : List Int) (j : Nat) : List Int := O.take j ++ (k : Int) :: (O.drop j ++ rest)
theorem inn_swap {O : List Int} {k j : Nat} {rest : List Int} (hj : j + 1 ≤ O.length) {o : Int} (ho : O[j]? = some o) : ((inn O k rest (j + 1)).set (j + 1) o).set j (k : Int) = inn O k rest j := by
  have hjo : O[j]'(by omega) = o := by rw [List.getElem?_eq_getElem (by omega)] at ho; exact Option.some.inj ho
  have h1 : O.take (j + 1) = O.take j ++ [o] := by rw [List.take_succ_eq_append_getElem (by omega), hjo]
  have h2 : O.drop j = o :: O.drop (j + 1) := by rw [List.drop_eq_getElem_cons (by omega), hjo]
  have hl : (O.take j).length = j := by rw [List.length_take]; omega
  unfold inn
  rw [h1, h2, List.append_assoc, List.set_append_right _ _ (by omega), hl, show j + 1 - j = 1 by omega]
  show ((O.take j ++ o :: o :: (O.drop (j + 1) ++ rest)).set j (k : Int)) = _
  rw [List.set_append_right _ _ (by omega), hl, Nat.sub_self]
  rfl
theorem inn_set {O : List Int} {k j : Nat} {rest : List Int} (hj : j + 1 ≤ O.length) {o : Int} (ho : O[j]? = some o) : ((inn O k rest (j + 1)).set j (k : Int)).set (j + 1) o = inn O k rest j := by
  rw [List.set_comm _ _ (by omega), inn_swap hj ho]
theorem inn_at {O : List Int} {k j : Nat} {rest : List Int} (hj : j ≤ O.length) : (inn O k rest j)[j]? = some (k : Int) := by
  unfold inn
  rw [List.getElem?_append_right (by rw [List.length_take]; omega), List.length_take, show j - min j O.length = 0 by omega]
  rfl
theorem inn_before {O : List Int} {k j : Nat} {rest : List Int} (hj : j + 1 ≤ O.length) : (inn O k rest (j + 1))[j]? = O[j]? := by
  unfold inn
  rw [List.getElem?_append_left (by rw [List.length_take]; omega), List.getElem?_take_of_lt (by omega)]
theorem inn_len {O : List Int} {k j : Nat} {rest : List Int} (hj : j ≤ O.length) : (inn O k rest j).length = O.length + 1 + rest.length := by
  unfold inn; simp; omega
def stD (L : List Int) (n k : Nat) : List Int := ordD L (min k n) ++ (numL n).drop k
theorem stD_end {L : List Int} {n k : Nat} (h : n ≤ k) : stD L n k = ordD L n := by
  unfold stD
  rw [show min k n = n by omega, List.drop_of_length_le (by rw [numL_len]; exact h), List.append_nil]
theorem stD_one (L : List Int) (n : Nat) : stD L n 1 = numL n := by
  by_cases h : n = 0
  · subst h; rfl
  · unfold stD
    rw [show min 1 n = 1 by omega]
    have h0 : ordD L 1 = [0] := by
      unfold ordD
      simp [ordD]
    have h2 : (numL n) = (numL n)[0]'(by rw [numL_len]; omega) :: (numL n).drop 1 := by
      have h9 := List.drop_eq_getElem_cons (l := numL n) (i := 0) (by rw [numL_len]; omega)
      simpa using h9
    rw [h0]
    rw [numL_at n 0 (by omega)] at h2
    rw [h2]; rfl
theorem stD_inn {L : List Int} {n k : Nat} (h : k < n) : stD L n k = inn (ordD L k) k ((numL n).drop (k + 1)) k := by
  unfold stD inn
  rw [show min k n = k by omega, List.take_of_length_le (l := ordD L k) (by rw [ordD_len]; exact Nat.le_refl _), List.drop_eq_getElem_cons (l := numL n) (i := k) (by rw [numL_len]; exact h), numL_at n k h, List.drop_of_length_le (l := ordD L k) (by rw [ordD_len]; exact Nat.le_refl _)]; rfl
theorem inn_stD {L : List Int} {n k j : Nat} (h : k < n) (hp : posD L (ordD L k) (L.getD k 0) k = j) : inn (ordD L k) k ((numL n).drop (k + 1)) j = stD L n (k + 1) := by
  unfold stD inn
  rw [show min (k + 1) n = k + 1 by omega]
  show _ = ((ordD L k).take (posD L (ordD L k) (L.getD k 0) k) ++ (k : Int) :: (ordD L k).drop (posD L (ordD L k) (L.getD k 0) k)) ++ _
  rw [hp, List.append_assoc]; rfl

set_option maxRecDepth 100000 in
set_option maxHeartbeats 4000000 in
theorem cmpD_ {n c : Nat} {A : Option Addr} {L : List Int} (Bp i k : Nat) (w : World) (hn : L.length = n) (hr : Rd w w.heap.size A (L.map (Value.int .i64))) (hB : w.cell? ⟨Bp, 0, none⟩ = some (.slice A n c)) (hBs : Bp < w.heap.size) (hi : i < n) (hk : k < n) :
    Calls Try.prog 194 #[.int .i64 (i : Int), .int .i64 (k : Int), .pointer (some ⟨Bp, 0, none⟩)] w (RetP (.int .i64 (Lib.compareInt (L.getD k 0) (L.getD i 0))) w) := by
  obtain ⟨ad, rfl, _, c1⟩ := ints_at hr (k := i) (by omega)
  obtain ⟨ad', h9, _, c2⟩ := ints_at hr (k := k) (by omega)
  obtain rfl := Option.some.inj h9
  have e1 : L[i]'(by omega) = L.getD i 0 := by rw [List.getD_eq_getElem?_getD, List.getElem?_eq_getElem (by omega)]; rfl
  have e2 : L[k]'(by omega) = L.getD k 0 := by rw [List.getD_eq_getElem?_getD, List.getElem?_eq_getElem (by omega)]; rfl
  rw [e1] at c1; rw [e2] at c2
  obtain ⟨x, hx⟩ : ∃ x, L.getD i 0 = x := ⟨_, rfl⟩
  obtain ⟨y, hy⟩ : ∃ x, L.getD k 0 = x := ⟨_, rfl⟩
  rw [hx] at c1 ⊢; rw [hy] at c2 ⊢
  clear e1 e2 hx hy h9 hr hn
  have hiI : (i : Int) < (n : Int) := by omega
  have hkI : (k : Int) < (n : Int) := by omega
  go_enter Try.func194, Try.ntmps194
  go_wp2_with fail
  go_quiet ((go_at_call 195; exact Calls.quiet_of_same (Try.cmp_Compare_int _ _ _)))
  go_wp2
  go_ret
  exact ⟨rfl, by first | exact Below.refl _ _ | exact drewN_below (Below.refl _ _) _⟩

set_option maxRecDepth 100000 in
set_option maxHeartbeats 4000000 in
theorem insD_ {gO n c Bp : Nat} {A : Option Addr} {L : List Int} {w00 w : World} (hn : L.length = n) (hn12 : n ≤ 12) (h0 : Below w00.heap.size w00 w) (hr : Rd w00 w00.heap.size A (L.map (Value.int .i64))) (hB : w00.cell? ⟨Bp, 0, none⟩ = some (.slice A n c)) (hBs : Bp < w00.heap.size)
    (ho : w.ownsRow w00.heap.size 3 1 (.slice (some ⟨gO, 0, none⟩) n n) n ((numL n).map (Value.int .i64))) :
    Calls Try.prog 234 #[.slice (some ⟨gO, 0, none⟩) n n, .int .i64 0, .int .i64 (n : Int), .func (.func 194) #[] #[.pointer (some ⟨Bp, 0, none⟩)]] w
      fun e w' => e = .returned (.tuple #[]) ∧ w'.ownsRow w00.heap.size 3 1 (.slice (some ⟨gO, 0, none⟩) n n) n ((ordD L n).map (Value.int .i64)) ∧ Below w00.heap.size w00 w' := by
  have HN := Lib.hid hn; have HR := Lib.hid hr; have HCB := Lib.hid hB; have HBS := Lib.hid hBs; have H0 := Lib.hid h0
  have HO : Hid (w.ownsRow w00.heap.size 3 1 (.slice (some ⟨gO, 0, none⟩) n n) n ((stD L n 1).map (Value.int .i64))) := Lib.hid (by rw [stD_one]; exact ho)
  have HG : Hid (w00.heap.size ≤ gO) := Lib.hid (ho.lt gO rfl).1
  clear hn hr hB hBs h0 ho
  go_enter Try.func234, Try.ntmps234
  go_wp2
  go_loopw [8] (fun i wr => ∃ k : Nat, 1 ≤ k ∧ k ≤ 13 ∧ i = .int .i64 (k : Int) ∧ Hid (wr.ownsRow w00.heap.size 3 1 (.slice (some ⟨gO, 0, none⟩) n n) n ((stD L n k).map (Value.int .i64))) ∧ Below w00.heap.size w00 wr) (fun i _ => n - (intOf i).toNat)
  case atStart => exact ⟨1, by omega, by omega, by first | rfl | go_num, HO, H0.out⟩
  case round =>
    obtain ⟨k, hk1, hk13, rfl, HW, hb⟩ := hrel
    have HBR := Lib.hid hb
    clear hb
    by_cases hlt : k < n
    case neg =>
      have hw := HW.out
      rw [stD_end (by omega)] at hw
      have HW9 := Lib.hid hw
      have hge : ¬ ((k : Int) < (n : Int)) := by omega
      clear hw
      go_wp2
      go_end0
      exact ⟨rfl, HW9.out, HBR.out⟩
    case pos =>
    have hltI : (k : Int) < (n : Int) := by omega
    obtain ⟨O, hO⟩ : ∃ O, ordD L k = O := ⟨_, rfl⟩
    obtain ⟨rest, hrest⟩ : ∃ r, (numL n).drop (k + 1) = r := ⟨_, rfl⟩
    have HOL : Hid (O.length = k) := Lib.hid (by rw [← hO]; exact ordD_len L k)
    have HOK : Hid (ordP k O) := Lib.hid (by rw [← hO]; exact ordD_ok L k)
    have HFIN : Hid (∀ j, posD L O (L.getD k 0) k = j → inn O k rest j = stD L n (k + 1)) := Lib.hid (fun j hj => by rw [← hO] at hj ⊢; rw [← hrest]; exact inn_stD hlt hj)
    have HIN : Hid (wr.ownsRow w00.heap.size 3 1 (.slice (some ⟨gO, 0, none⟩) n n) n ((inn O k rest k).map (Value.int .i64))) := Lib.hid (by rw [← hO, ← hrest, ← stD_inn hlt]; exact HW.out)
    clear hO hrest HW
    go_wp2_with fail
    go_loopw [9] (fun j wr => ∃ jj : Nat, jj ≤ k ∧ j = .int .i64 (jj : Int) ∧ Hid (∀ t, jj ≤ t → t < k → L.getD (ix O t) 0 < L.getD k 0) ∧ Hid (wr.ownsRow w00.heap.size 3 1 (.slice (some ⟨gO, 0, none⟩) n n) n ((inn O k rest jj).map (Value.int .i64))) ∧ Below w00.heap.size w00 wr) (fun j _ => (intOf j).toNat)
    case atStart => exact ⟨k, Nat.le_refl _, rfl, Lib.hid (fun t h1 h2 => absurd h2 (by omega)), HIN, HBR.out⟩
    case round =>
      clear HIN HBR
      obtain ⟨jj, hjk, rfl, HALL, HW, hb⟩ := hrel
      have HBR := Lib.hid hb
      clear hb
      rcases Nat.eq_zero_or_pos jj with hj0 | hjp
      · subst hj0
        have HE := Lib.hid (HFIN.out 0 (posD_is (Nat.zero_le _) (fun t h1 h2 => HALL.out t h1 h2) (fun h => absurd h (by omega))))
        go_wp2_with fail
        go_quiet (fail)
        go_wp2
        go_roundw
        case rel => exact ⟨k + 1, by omega, by omega, by go_num, Lib.hid (by rw [← HE.out]; exact ownD HW.out _), drewN_below HBR.out _⟩
        case measure => simp [intOf]; omega
      · obtain ⟨jp, rfl⟩ : ∃ jp, jj = jp + 1 := ⟨jj - 1, by omega⟩
        obtain ⟨hio, hoj⟩ := HOK.out.at_ (k := jp) (by omega)
        obtain ⟨o, ho9⟩ : ∃ o, ix O jp = o := ⟨_, rfl⟩
        rw [ho9] at hio hoj
        have HOJ := Lib.hid hoj
        have hon : o < n := by omega
        have HCA : Hid (∀ u, Below wr.heap.size wr u → u.cell? ⟨gO, jp + 1, none⟩ = some (.int .i64 (k : Int)) ∧ u.cell? ⟨gO, jp, none⟩ = some (.int .i64 (o : Int)) ∧ u.frozen? ⟨gO, jp + 1, none⟩ = false ∧ u.frozen? ⟨gO, jp, none⟩ = false ∧ gO < u.heap.size) := Lib.hid fun u hu => by
          have hw := ownB HW.out hu
          have a1 := hw.cellAt (jp + 1) (by omega)
          have a2 := hw.cellAt jp (by omega)
          rw [List.getElem?_map, inn_at (by have := HOL.out; omega)] at a1
          rw [List.getElem?_map, inn_before (by have := HOL.out; omega), HOJ.out] at a2
          exact ⟨a1, a2, hw.frozenAt (jp + 1), hw.frozenAt jp, (hw.lt gO rfl).2⟩
        obtain ⟨z, hz⟩ : ∃ z, Lib.compareInt (L.getD o 0) (L.getD k 0) = z := ⟨_, rfl⟩
        obtain ⟨T, f, x0, hx0, hTT, HST⟩ := above wr
        haveI : Nonempty T := ⟨x0⟩
        have HXX := Lib.hid hx0
        have HTX : Hid (∀ x, Below wr.heap.size wr (f x)) := Lib.hid hTT
        clear hTT hx0
        have r1 : ∀ x, (f x).cell? ⟨gO, jp + 1, none⟩ = some (.int .i64 (k : Int)) := fun x => (HCA.out _ (HTX.out x)).1
        have r2 : ∀ x, (f x).cell? ⟨gO, jp, none⟩ = some (.int .i64 (o : Int)) := fun x => (HCA.out _ (HTX.out x)).2.1
        have CC : Hid (∀ x, Calls Try.prog 194 #[.int .i64 (k : Int), .int .i64 (o : Int), .pointer (some ⟨Bp, 0, none⟩)] (f x) (RetP (.int .i64 z) (f x))) := Lib.hid fun x => by
          have hbx := HBR.out.trans ((HTX.out x).mono HBR.out.size)
          rw [← hz]
          exact cmpD_ Bp k o (f x) HN.out (rd_up (HR.out.over hbx) hbx.size) ((hbx.cell (p := ⟨Bp, 0, none⟩) HBS.out).trans HCB.out) (Nat.lt_of_lt_of_le HBS.out hbx.size) hlt hon
        have hjI : (jp : Int) + 1 < (n : Int) := by omega
        have hjI2 : (jp : Int) < (n : Int) := by omega
        have hwp : IntKind.i64.wrap (jp : Int) = (jp : Int) := by rw [IntKind.wrap_i64]; omega
        by_cases hzl : z < 0
        case neg =>
          have HNL : Hid (¬ L.getD o 0 < L.getD k 0) := Lib.hid (fun h => hzl (by rw [← hz]; unfold Lib.compareInt; rw [if_pos h]; decide))
          have HE := Lib.hid (HFIN.out (jp + 1) (posD_is hjk (fun t h1 h2 => HALL.out t h1 h2) (fun _ => by rw [Nat.add_sub_cancel, ho9]; exact HNL.out)))
          have hz2 : decide (z < 0) = false := decide_eq_false hzl
          clear hz ho9
          go_wp2_with fail
          refine wp_region_class f (by kernel_rfl) (by kernel_rfl) x0 HXX.out ?_
          repeat (go_big_quiet_step (first | (go_at_call 194; exact Calls.inClass HST (CC.out _))))
          refine wpQuiet_nil ?_
          rintro _ ⟨t, rfl⟩
          have HW2 := Lib.hid (ownB HW.out (HTX.out t)); have HB2 := Lib.hid (HBR.out.trans ((HTX.out t).mono HBR.out.size))
          clear r1 r2
          generalize f t = w2 at HW2 HB2 ⊢
          go_wp2
          go_roundw
          case rel => exact ⟨k + 1, by omega, by omega, by go_num, Lib.hid (by rw [← HE.out]; exact HW2.out), HB2.out⟩
          case measure => simp [intOf]; omega
        case pos =>
          have HLT : Hid (L.getD o 0 < L.getD k 0) := Lib.hid (by
            by_cases h : L.getD o 0 < L.getD k 0
            · exact h
            · exfalso
              rw [← hz] at hzl
              unfold Lib.compareInt at hzl
              rw [if_neg h] at hzl
              split at hzl <;> omega)
          have HALL2 : Hid (∀ t, jp ≤ t → t < k → L.getD (ix O t) 0 < L.getD k 0) := Lib.hid (fun t h1 h2 => by
            by_cases e : t = jp
            · rw [e, ho9]; exact HLT.out
            · exact HALL.out t (by omega) h2)
          have hz2 : decide (z < 0) = true := decide_eq_true hzl
          clear hz ho9
          go_wp2_with fail
          refine wp_region_class f (by kernel_rfl) (by kernel_rfl) x0 HXX.out ?_
          repeat (go_big_quiet_step (first | (go_at_call 194; exact Calls.inClass HST (CC.out _))))
          refine wpQuiet_nil ?_
          rintro _ ⟨t, rfl⟩
          have HW2 := Lib.hid (ownB HW.out (HTX.out t)); have HB2 := Lib.hid (HBR.out.trans ((HTX.out t).mono HBR.out.size))
          obtain ⟨a1, a2, a3, a4, a5⟩ := HCA.out _ (HTX.out t)
          clear r1 r2
          generalize f t = w2 at HW2 HB2 a1 a2 a3 a4 a5 ⊢
          obtain ⟨j1, hj1⟩ : ∃ j1, j1 = jp + 1 := ⟨_, rfl⟩
          have J1 := Lib.hid hj1
          have HSW : Hid (((w2.setCell ⟨gO, jp + 1, none⟩ (.int .i64 (o : Int))).setCell ⟨gO, jp, none⟩ (.int .i64 (k : Int))).ownsRow w00.heap.size 3 1 (.slice (some ⟨gO, 0, none⟩) n n) n ((inn O k rest jp).map (Value.int .i64))) := Lib.hid (by
            have h9 := ((HW2.out.stored (jp + 1) (.int .i64 (o : Int))).1.stored jp (.int .i64 (k : Int))).1
            rw [← List.map_set, ← List.map_set, inn_swap (by have := HOL.out; omega) HOJ.out] at h9
            exact h9)
          have HBS2 : Hid (Below w00.heap.size w00 ((w2.setCell ⟨gO, jp + 1, none⟩ (.int .i64 (o : Int))).setCell ⟨gO, jp, none⟩ (.int .i64 (k : Int)))) := Lib.hid ((HB2.out.setCell (p := ⟨gO, jp + 1, none⟩) HG.out _).setCell (p := ⟨gO, jp, none⟩) HG.out _)
          go_wp2_with fail
          go_region
          all_goals
            go_wp2_with fail
            go_roundw
            case rel => exact ⟨jp, by omega, by go_num, HALL2, Lib.hid (by first | exact HSW.out | exact own_heapW rfl HSW.out), by first | exact HBS2.out | exact HBS2.out.drew⟩
            case measure => simp [intOf]
end Go.Proofs.Ytlgkjidginibdaa
