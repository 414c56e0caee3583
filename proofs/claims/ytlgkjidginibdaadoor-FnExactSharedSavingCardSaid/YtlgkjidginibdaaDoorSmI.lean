/- The masks of services: contracts of the implementation. Condition: the table of math/bits holds what Go's text lays. -/
import Derived.Test.YtlgkjidginibdaaDoorSmS
import Derived.Test.YtlgkjidginibdaaDoorScN
import Derived.Test.YtlgkjidginibdaaDoorScI
import Derived.Test.YtlgkjidginibdaaDoorLst
import Derived.BigRegion
namespace Go.Proofs.YtlgkjidginibdaaDoor
open Go.ChangeShapes Go.WideShapes Go.ChangeAt Go.RowKit

theorem bl_nodup (M : Nat) : (bl M).Nodup := by
  unfold bl
  refine List.Pairwise.map _ ?_ (List.nodup_range.filter _)
  intro a b h e
  exact h (by omega)
/-- masks with the first fibers of a claim taken. -/
def ocK (g : Int → Nat) (L : List Int) (m : Nat) (t : Nat) (f : Int) : Nat := if f ∈ L.take t then g f ||| m else g f
theorem ocK_zero (g : Int → Nat) (L : List Int) (m : Nat) : ocK g L m 0 = g := by funext f; unfold ocK; simp
theorem ocK_all {g : Int → Nat} {L : List Int} {m t : Nat} (h : L.length ≤ t) (f : Int) : ocK g L m t f = if f ∈ L then g f ||| m else g f := by unfold ocK; rw [List.take_of_length_le h]
theorem ocK_at {g : Int → Nat} {L : List Int} {m t : Nat} (hd : L.Nodup) (ht : t < L.length) : ocK g L m t L[t] = g L[t] := by
  unfold ocK
  rw [if_neg]
  intro h
  obtain ⟨i, hi, e⟩ := List.mem_iff_getElem.1 h
  rw [List.length_take] at hi
  rw [List.getElem_take] at e
  have := (List.getElem_inj hd).1 e
  omega
theorem smL_get (g : Int → Nat) (n i : Nat) (h : i < (smL g n).length) : (smL g n)[i]'h = (g (i : Int) : Int) := by
  have hi : i < n := by rwa [smL_len] at h
  have h9 := List.getElem?_eq_getElem h
  have h8 : (smL g n)[i]? = some (g (i : Int) : Int) := by unfold smL; simp [hi]
  rw [h8] at h9
  exact (Option.some.inj h9).symm
theorem ocK_step {g : Int → Nat} {L : List Int} {m t n f : Nat} (hd : L.Nodup) (ht : t < L.length) (hf : L[t] = (f : Int)) (hn : f < n) : (smL (ocK g L m t) n).set f (((g (f : Int) ||| m : Nat) : Nat) : Int) = smL (ocK g L m (t + 1)) n := by
  have htk : L.take (t + 1) = L.take t ++ [L[t]] := List.take_succ_eq_append_getElem ht
  apply List.ext_getElem
  · rw [List.length_set, smL_len, smL_len]
  · intro i h1 h2
    rw [List.getElem_set, smL_get, smL_get]
    have e1 : ocK g L m (t + 1) (i : Int) = if (i : Int) ∈ L.take t ++ [(f : Int)] then g (i : Int) ||| m else g (i : Int) := by unfold ocK; rw [htk, hf]
    rw [e1]
    split
    · rename_i e; subst e
      rw [if_pos (by simp)]
    · rename_i e
      have h9 : (((i : Nat) : Int) ∈ L.take t ++ [((f : Nat) : Int)]) ↔ ((i : Nat) : Int) ∈ L.take t := by
        rw [List.mem_append, List.mem_singleton]
        constructor
        · rintro (h | h)
          · exact h
          · exact absurd h (by omega)
        · exact .inl
      unfold ocK
      simp only [h9]
theorem smL_at (g : Int → Nat) {n f : Nat} (h : f < n) : (smL g n)[f]? = some (g (f : Int) : Int) := by unfold smL; simp [h]
theorem smL_congr {g h : Int → Nat} (n : Nat) (e : ∀ f : Nat, f < n → g (f : Int) = h (f : Int)) : smL g n = smL h n := by
  unfold smL
  apply List.map_congr_left
  intro f hf
  rw [e f (by simpa using hf)]
theorem mask_bl {zs : List Int} {n : Nat} (hn : zs.length = n) (h : ∀ k, k < n → 0 ≤ nth zs k ∧ nth zs k < 20) {x : Int} : x ∈ bl (maskN zs n) ↔ x ∈ zs := by
  have hlt : maskN zs n < 2 ^ 24 := Nat.lt_trans (maskT_lt h) (by decide)
  rw [bl_mem hlt]
  constructor
  · rintro ⟨i, rfl, hi⟩
    rw [mask_test (fun j hj => (h j hj).1)] at hi
    obtain ⟨j, hj, e⟩ := of_decide_eq_true hi
    exact mem_nth.2 ⟨j, by omega, e⟩
  · intro hx
    obtain ⟨j, hj, e⟩ := mem_nth.1 hx
    have h0 := h j (by omega)
    rw [e] at h0
    refine ⟨x.toNat, by omega, ?_⟩
    rw [mask_test (fun j hj => (h j hj).1)]
    exact decide_eq_true ⟨j, by omega, by omega⟩
theorem own_setB {w : World} {B E s n c : Nat} {A : Option Addr} {xs : List Value} (h : w.ownsRow B E s (.slice A n c) n xs) {gm : Nat} (hp : (Value.slice A n c).ownBlock ≠ some gm) (f : Nat) (u : Value) : (w.setCell ⟨gm, f, none⟩ u).ownsRow B E s (.slice A n c) n xs := ownsRow_setCell_other h hp u
set_option maxRecDepth 100000 in
set_option maxHeartbeats 4000000 in
theorem occupy_ {gm n B M : Nat} {g : Int → Nat} {x y : Int} {w : World} (hM : M < 16777216) (hMn : ∀ v ∈ bl M, 0 ≤ v ∧ v < (n : Int)) (hb : M ≠ 0 → blkP x y) (hn : n ≤ 1048576) (hg : ∀ f : Nat, f < n → g (f : Int) < 16777216) (ho : w.ownsRow B 3 1 (.slice (some ⟨gm, 0, none⟩) n n) n ((smL g n).map (Value.int .i64))) (hTab : Tab w) :
    Calls Tryd.prog 34 #[.agg #[.int .i64 x, .int .i64 y, .int .i64 (M : Int)], .slice (some ⟨gm, 0, none⟩) n n] w fun e w' => e = .returned (.tuple #[]) ∧ Off (· = gm) w w' ∧ w'.ownsRow B 3 1 (.slice (some ⟨gm, 0, none⟩) n n) n ((smL (fun f => if f ∈ bl M then g f ||| bN ⟨x, y⟩ else g f) n).map (Value.int .i64)) := by
  have HGM := Lib.hid (ho.lt gm rfl)
  obtain ⟨W0, hW0⟩ : ∃ W0, w.alloc (Obj.cells #[.int .i64 x, .int .i64 y, .int .i64 (M : Int)] 70) = W0 := ⟨_, rfl⟩
  have hb0 : Below w.heap.size w W0 := by rw [← hW0]; exact (Below.refl _ _).alloc (Nat.le_refl _) _
  have k0 : W0.cell? ⟨w.heap.size, 0, none⟩ = some (.int .i64 x) := by rw [← hW0]; simp [go_sem]
  have k1 : W0.cell? ⟨w.heap.size, 1, none⟩ = some (.int .i64 y) := by rw [← hW0]; simp [go_sem]
  have k2 : W0.cell? ⟨w.heap.size, 2, none⟩ = some (.int .i64 (M : Int)) := by rw [← hW0]; simp [go_sem]
  have hz : W0.heap.size = w.heap.size + 1 := by rw [← hW0]; simp
  have HB0 := Lib.hid hb0; have HZ := Lib.hid hz; have HK0 := Lib.hid k0; have HK1 := Lib.hid k1
  have HO0 := Lib.hid (ownB ho hb0)
  have CL := Lib.hid (listOf_ M W0 hM (hTab.over hb0))
  have HL24 := Lib.hid (bl_len M); have HND := Lib.hid (bl_nodup M)
  have HNZ : Hid (bl M ≠ [] → M ≠ 0) := Lib.hid (fun e e2 => e (by rw [e2]; exact bl_zero))
  obtain ⟨L, hL⟩ : ∃ L, bl M = L := ⟨_, rfl⟩
  rw [hL] at CL HL24 HND HNZ hMn ⊢
  have HMN := Lib.hid hMn; have HG := Lib.hid hg; have HBL : Hid (L ≠ [] → blkP x y) := Lib.hid (fun e => hb (HNZ.out e))
  clear hb0 hL hMn hg hb ho hTab hM hz k0 k1 HNZ
  go_enter Tryd.func34, Tryd.ntmps34
  go_wp2_with fail
  try rw [hW0]
  clear hW0 k2
  refine CL.out.mono ?_
  rintro e w1 ⟨A, N, c, rfl, HN, ho1, hb1⟩
  have HB1 := Lib.hid hb1
  have HO1 := Lib.hid (ownB HO0.out hb1)
  have HRL := Lib.hid ho1
  have hN24 : N ≤ 24 := by have := HN.out; have := HL24.out; omega
  clear hb1 ho1 HO0
  go_wp2
  go_loopw [10] (fun q wr => ∃ t : Nat, t ≤ N ∧ q = .int .i64 t ∧ Hid (Off (· = gm) W0 wr) ∧ Hid (wr.ownsRow W0.heap.size 3 1 (.slice A N c) N (L.map (Value.int .i64))) ∧ Hid (wr.ownsRow B 3 1 (.slice (some ⟨gm, 0, none⟩) n n) n ((smL (ocK g L (bN ⟨x, y⟩) t) n).map (Value.int .i64)))) (fun q _ => N - (intOf q).toNat)
  case atStart => exact ⟨0, Nat.zero_le _, rfl, Lib.hid (Off.ofBelow HB1.out), HRL, by rw [ocK_zero]; exact HO1⟩
  case round =>
    clear HO1 HRL
    obtain ⟨t, ht, rfl, HF, HRL, HOW⟩ := hrel
    by_cases hlt : t < N
    case neg =>
      obtain rfl : N = t := by omega
      have HE : Hid (wr.ownsRow B 3 1 (.slice (some ⟨gm, 0, none⟩) n n) n ((smL (fun f => if f ∈ L then g f ||| bN ⟨x, y⟩ else g f) n).map (Value.int .i64))) := Lib.hid (by
        rw [show (fun f => if f ∈ L then g f ||| bN ⟨x, y⟩ else g f) = ocK g L (bN ⟨x, y⟩) N from funext fun f => (ocK_all (by have := HN.out; omega) f).symm]; exact HOW.out)
      go_wp2
      go_end0
      exact ⟨rfl, (Off.ofBelow HB0.out).trans HF.out, HE.out⟩
    case pos =>
    have htl : t < L.length := by have := HN.out; omega
    obtain ⟨ad, rfl, had, hcx⟩ := ints_at (Rd.ofOwn HRL.out) htl
    have hin := HMN.out L[t] (List.getElem_mem htl)
    obtain ⟨f, hf⟩ : ∃ f : Nat, L[t]'htl = (f : Int) := ⟨(L[t]'htl).toNat, by omega⟩
    rw [hf] at hcx hin
    have hfn : f < n := by omega
    have hfi : (f : Int) < (n : Int) := by omega
    have hbk := HBL.out (fun e => by rw [e] at htl; simp at htl)
    have HAT : Hid (ocK g L (bN ⟨x, y⟩) t (f : Int) = g (f : Int)) := Lib.hid (by rw [← hf]; exact ocK_at HND.out htl)
    have HST := Lib.hid (ocK_step (g := g) (m := bN ⟨x, y⟩) HND.out htl hf hfn)
    have hcm := (HOW.out.cellAt f (by omega))
    rw [List.getElem?_map, smL_at _ hfn, HAT.out] at hcm
    have hcm2 : wr.cell? ⟨gm, f, none⟩ = some (.int .i64 (g (f : Int) : Int)) := by rw [hcm]; rfl
    have hfz := HOW.out.frozenAt f
    have hgl := HG.out f hfn
    have hml := bN_lt (p := ⟨x, y⟩) hbk
    have hgs : gm < wr.heap.size := (HOW.out.lt gm rfl).2
    have hWs : W0.heap.size ≤ wr.heap.size := HF.out.size
    have kx := (HF.out.cell (p := ⟨w.heap.size, 0, none⟩) (by have := HZ.out; show w.heap.size < _; omega) (fun e => by have h9 := HGM.out.2; have e2 : w.heap.size = gm := e; omega)).trans HK0.out
    have ky := (HF.out.cell (p := ⟨w.heap.size, 1, none⟩) (by have := HZ.out; show w.heap.size < _; omega) (fun e => by have h9 := HGM.out.2; have e2 : w.heap.size = gm := e; omega)).trans HK1.out
    have hws : w.heap.size < wr.heap.size := by have := HZ.out; omega
    have CB : Hid (∀ U, Calls Tryd.prog 66 #[.agg #[.int .i64 x, .int .i64 y]] U (RetP (.int .i64 (bN ⟨x, y⟩ : Int)) U)) := Lib.hid (fun U => by rw [← show bitsV x y = ((bN ⟨x, y⟩ : Nat) : Int) from bits_eq hbk]; exact implBits x y U hbk)
    obtain ⟨m, hm⟩ : ∃ m, bN ⟨x, y⟩ = m := ⟨_, rfl⟩
    obtain ⟨u, hu⟩ : ∃ u, g (f : Int) = u := ⟨_, rfl⟩
    rw [hm] at CB HST hml HOW HAT ⊢
    rw [hu] at hcm2 hgl HST HAT
    have hor := or_i64_ u m (by omega) (by omega)
    obtain ⟨o, ho9⟩ : ∃ o, u ||| m = o := ⟨_, rfl⟩
    rw [ho9] at hor HST
    have HKU : Hid (∀ U, Below wr.heap.size wr U → U.cell? ⟨gm, f, none⟩ = some (.int .i64 (u : Int)) ∧ U.frozen? ⟨gm, f, none⟩ = false) := Lib.hid fun U hU => ⟨(hU.cell (p := ⟨gm, f, none⟩) hgs).trans hcm2, (hU.frozen (p := ⟨gm, f, none⟩) hgs).trans hfz⟩
    have HAPN : Hid (Value.ownBlock (.slice (some ad) N c) ≠ some gm) := Lib.hid (fun e => by have h9 := (HRL.out.lt gm e).1; have := HGM.out.2; have := HZ.out; omega)
    clear hcm hf hin hbk hm hu ho9 hml hgl htl
    go_wp2_with fail
    clear hcx had
    go_region_with ((go_at_call 66; refine (CB.out _).mono ?_; rintro e u1 ⟨rfl, hb8⟩; have hbu : Below wr.heap.size wr u1 := Below.trans (by first | exact Below.refl _ _ | exact (Below.refl _ _).drew | exact drewN_below (Below.refl _ _) _) hb8; obtain ⟨q0, q1⟩ := HKU.out u1 hbu))
    all_goals
      have HBU := Lib.hid hbu
      have HO5 := Lib.hid ((ownB HOW.out HBU.out).stored f (.int .i64 (o : Int))).1
      have HR5 := Lib.hid (own_setB (ownB HRL.out HBU.out) HAPN.out f (.int .i64 (o : Int)))
      have HF5 : Hid (Off (· = gm) W0 (u1.setCell ⟨gm, f, none⟩ (.int .i64 (o : Int)))) := Lib.hid ((HF.out.trans (Off.ofBelow HBU.out)).set_ (p := ⟨gm, f, none⟩) rfl _)
      rw [← List.map_set, HST.out] at HO5
      clear hb8 hbu
      go_wp2
      go_roundw
      case rel => exact ⟨t + 1, by omega, by go_num, HF5, HR5, HO5⟩
      case measure => simp [intOf]; omega
end Go.Proofs.YtlgkjidginibdaaDoor
