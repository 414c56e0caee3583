/- Walks along fibers and routes: contracts of the implementation's along and walkAlong. No condition but those typed. -/
import Derived.Test.YtcbjdfgmkiodkaaWk
namespace Go.Proofs.Ytcbjdfgmkiodkaa
open Go.ChangeShapes Go.WideShapes Go.ChangeAt Go.RowKit

theorem drop_at {α : Type} (l : List α) (k : Nat) (h : k < l.length) : l.drop k = l[k] :: l.drop (k + 1) := List.drop_eq_getElem_cons h
theorem take_rev {α : Type} (l xs : List α) (k : Nat) (h : k < l.length) : (l.take (k + 1)).reverse ++ xs = l[k] :: ((l.take k).reverse ++ xs) := by
  rw [List.take_succ_eq_append_getElem h, List.reverse_append]; rfl
theorem ints_at {w : World} {B : Nat} {A : Option Addr} {zs : List Int} (h : Rd w B A (zs.map (Value.int .i64))) {k : Nat} (hk : k < zs.length) : ∃ ad, A = some ad ∧ ad.block < B ∧ w.cell? (ad.add k) = some (.int .i64 zs[k]) := by
  obtain ⟨ad, e, hb, hc⟩ := h.got (k := k) (by simpa using hk)
  exact ⟨ad, e, hb, by simpa using hc⟩
def AlongP (fs : List Q4) (fl xs ns : List Int) (w : World) (e : Ending) (w' : World) : Prop :=
  Below w.heap.size w w' ∧ ((walkR fs fl ns = none ∧ e = .returned (.tuple #[.pointer none, .bool false])) ∨
    ∃ vs g', walkR fs fl ns = some vs ∧ e = .returned (.tuple #[.pointer (some ⟨g', 0, none⟩), .bool true]) ∧ Lk fs w' g' (fl.reverse ++ xs) vs)

set_option maxRecDepth 100000 in
set_option maxHeartbeats 4000000 in
theorem along_ {g1 g2 n1 n2 c1 c2 : Nat} {ss : List ByteArray} {fs : List Q4} {w : World} (h : NetAt g1 g2 n1 n2 c1 c2 ss fs w) (hv : netP ss fs) {xs ns : List Int} {g : Nat} (hl : Lk fs w g xs ns)
    {A : Option Addr} {n c : Nat} {fl : List Int} (hn : fl.length = n) (hr : Rd w w.heap.size A (fl.map (Value.int .i64))) (hx : xs.length + n ≤ 1000000000000) :
    Calls Try.prog 187 #[.pointer (some ⟨g, 0, none⟩), .agg #[.slice (some ⟨g1, 0, none⟩) n1 c1, .slice (some ⟨g2, 0, none⟩) n2 c2], .slice A n c] w (AlongP fs fl xs ns w) := by
  have HV := Lib.hid hv; have HX := Lib.hid hx; have HN := Lib.hid hn
  have HNT := Lib.hid h; have HL := Lib.hid hl; have HR := Lib.hid hr
  have hn0 : n ≤ 1000000000000 := by omega
  clear hv hx hn h hl hr
  go_enter Try.func187, Try.ntmps187
  go_wp2
  obtain ⟨W0, hW0⟩ : ∃ W0, w.alloc (Obj.cells #[.slice (some ⟨g1, 0, none⟩) n1 c1, .slice (some ⟨g2, 0, none⟩) n2 c2] 32) = W0 := ⟨_, rfl⟩
  have hb0 : Below w.heap.size w W0 := by rw [← hW0]; exact (Below.refl _ _).alloc (Nat.le_refl _) _
  have hk1 : W0.cell? ⟨w.heap.size, 1, none⟩ = some (.slice (some ⟨g2, 0, none⟩) n2 c2) := by rw [← hW0]; simp [go_sem]
  have hk0 : W0.cell? ⟨w.heap.size, 0, none⟩ = some (.slice (some ⟨g1, 0, none⟩) n1 c1) := by rw [← hW0]; simp [go_sem]
  have hz0 : w.heap.size < W0.heap.size := by rw [← hW0]; simp
  have HB0 := Lib.hid hb0; have HK1 := Lib.hid hk1; have HK0 := Lib.hid hk0; have HZ0 := Lib.hid hz0
  have HL0 := Lib.hid (HL.out.over hb0)
  rw [hW0]
  clear hW0 hb0 hk1 hk0 hz0
  go_loopw [0, 14] (fun p i wr => ∃ (k g' : Nat) (xs' ns' : List Int), k ≤ n ∧ i = .int .i64 k ∧ p = .pointer (some ⟨g', 0, none⟩) ∧ Hid (walkR fs fl ns = walkR fs (fl.drop k) ns' ∧ xs' = (fl.take k).reverse ++ xs ∧ Lk fs wr g' xs' ns') ∧ Below W0.heap.size W0 wr) (fun _ i _ => n - (intOf i).toNat)
  case atStart => exact ⟨0, g, xs, ns, Nat.zero_le _, rfl, rfl, Lib.hid ⟨by rw [List.drop_zero], by simp, HL0.out⟩, Below.refl _ _⟩
  case round =>
    obtain ⟨k, g', xs', ns', hk, rfl, rfl, HI, hb⟩ := hrel
    have HBW := Lib.hid (HB0.out.trans (hb.mono HB0.out.size))
    by_cases hlt : k < n
    case neg =>
      have hkn : k = n := by omega
      have HE : Hid (walkR fs fl ns = some ns' ∧ Lk fs wr g' (fl.reverse ++ xs) ns') := Lib.hid (by
        obtain ⟨e1, e2, e3⟩ := HI.out
        refine ⟨?_, ?_⟩
        · rw [e1, List.drop_of_length_le (by have := HN.out; omega)]; rfl
        · rw [e2, List.take_of_length_le (by have := HN.out; omega)] at e3; exact e3)
      clear hkn
      go_wp2
      go_ret2
      exact ⟨HBW.out, .inr ⟨ns', g', HE.out.1, rfl, HE.out.2⟩⟩
    case pos =>
    have hkl : k < fl.length := by have := HN.out; omega
    obtain ⟨ad, hA, hbl, hcell⟩ := ints_at HR.out hkl
    subst hA
    rw [← HBW.out.cell (by rw [addBlock]; exact hbl)] at hcell
    obtain ⟨x, hx⟩ : ∃ x, fl[k]'hkl = x := ⟨_, rfl⟩
    rw [hx] at hcell
    have hk1 := (hb.cell (p := ⟨w.heap.size, 1, none⟩) HZ0.out).trans HK1.out
    have hk0 := (hb.cell (p := ⟨w.heap.size, 0, none⟩) HZ0.out).trans HK0.out
    have HD : Hid (walkR fs fl ns = walkR fs (x :: fl.drop (k + 1)) ns' ∧ x :: xs' = (fl.take (k + 1)).reverse ++ xs) := Lib.hid ⟨by rw [HI.out.1, drop_at fl k hkl, hx], by rw [take_rev fl xs k hkl, hx, HI.out.2.1]⟩
    have CO := Lib.hid (over_ (HNT.out.moved HBW.out) HV.out HI.out.2.2 (by rw [HI.out.2.1, List.length_append, List.length_reverse, List.length_take]; have := HX.out; omega) x)
    have hint : x = x := rfl
    clear hx hint
    go_wp2_with fail
    refine CO.out.mono ?_
    rintro e w1 ⟨hb1, h1⟩
    have HB1 := Lib.hid (hb.trans (hb1.mono hb.size))
    have HBW1 := Lib.hid (HBW.out.trans (hb1.mono HBW.out.size))
    rcases h1 with ⟨hs, rfl⟩ | ⟨nx, g3, hs, rfl, hl3⟩
    · have HE : Hid (walkR fs fl ns = none) := Lib.hid (by rw [HD.out.1]; exact walkR_none hs)
      clear hs hb1 hk1 hk0
      go_wp2
      go_ret2
      exact ⟨HBW1.out, .inl ⟨HE.out, rfl⟩⟩
    · have HE : Hid (walkR fs fl ns = walkR fs (fl.drop (k + 1)) (nx :: ns') ∧ x :: xs' = (fl.take (k + 1)).reverse ++ xs ∧ Lk fs w1 g3 (x :: xs') (nx :: ns')) := Lib.hid ⟨by rw [HD.out.1]; exact walkR_some hs, HD.out.2, hl3⟩
      clear hs hb1 hl3 hk1 hk0
      go_wp2
      go_roundw
      case rel => exact ⟨k + 1, g3, x :: xs', nx :: ns', by omega, by go_num, rfl, HE, HB1.out⟩
      case measure => simp [intOf]; omega

/-- the nodes of a route, the latest first; none where it is not valid. -/
def routeN (n1 : Nat) (fs : List Q4) (st : Int) (fl : List Int) : Option (List Int) := if (0 ≤ st ∧ st < n1) ∧ ¬ fl = [] then walkR fs fl [st] else none
def WalkP (n1 : Nat) (fs : List Q4) (st : Int) (fl : List Int) (w : World) (e : Ending) (w' : World) : Prop :=
  Below w.heap.size w w' ∧ ((routeN n1 fs st fl = none ∧ e = .returned (.tuple #[.pointer none, .bool false])) ∨
    ∃ vs g', routeN n1 fs st fl = some vs ∧ e = .returned (.tuple #[.pointer (some ⟨g', 0, none⟩), .bool true]) ∧ Lk fs w' g' fl.reverse vs)
theorem isNd_yes {g1 g2 n1 n2 c1 c2 : Nat} (i : Int) (w : World) (h0 : 0 ≤ i) (h1 : i < n1) :
    Calls Try.prog 223 #[.agg #[.slice (some ⟨g1, 0, none⟩) n1 c1, .slice (some ⟨g2, 0, none⟩) n2 c2], .int .i64 i] w fun e w' => e = .returned (.bool true) ∧ Below w.heap.size w w' := by
  have HB := Lib.hid ((Below.refl w.heap.size w).alloc (Nat.le_refl _) (Obj.cells #[.slice (some ⟨g1, 0, none⟩) n1 c1, .slice (some ⟨g2, 0, none⟩) n2 c2] 32))
  go_enter Try.func223, Try.ntmps223
  go_wp2
  go_ret
  exact ⟨rfl, HB.out⟩
theorem isNd_no {g1 g2 n1 n2 c1 c2 : Nat} (i : Int) (w : World) (h : i < 0 ∨ n1 ≤ i) :
    Calls Try.prog 223 #[.agg #[.slice (some ⟨g1, 0, none⟩) n1 c1, .slice (some ⟨g2, 0, none⟩) n2 c2], .int .i64 i] w fun e w' => e = .returned (.bool false) ∧ Below w.heap.size w w' := by
  have HB := Lib.hid ((Below.refl w.heap.size w).alloc (Nat.le_refl _) (Obj.cells #[.slice (some ⟨g1, 0, none⟩) n1 c1, .slice (some ⟨g2, 0, none⟩) n2 c2] 32))
  by_cases h0 : i < 0
  · clear h
    go_enter Try.func223, Try.ntmps223
    go_wp2
    go_ret
    exact ⟨rfl, HB.out⟩
  · have h1 : decide (i < (n1 : Int)) = false := decide_eq_false (by omega)
    have h2 : 0 ≤ i := by omega
    clear h h0
    go_enter Try.func223, Try.ntmps223
    go_wp2
    go_ret
    exact ⟨rfl, HB.out⟩

set_option maxRecDepth 100000 in
set_option maxHeartbeats 4000000 in
theorem walkAlong_ {g1 g2 n1 n2 c1 c2 : Nat} {ss : List ByteArray} {fs : List Q4} {w : World} (h : NetAt g1 g2 n1 n2 c1 c2 ss fs w) (hv : netP ss fs) (st : Int)
    {A : Option Addr} {n c : Nat} {fl : List Int} (hn : fl.length = n) (hr : Rd w w.heap.size A (fl.map (Value.int .i64))) (hx : n ≤ 1048576) :
    Calls Try.prog 220 #[.agg #[.slice (some ⟨g1, 0, none⟩) n1 c1, .slice (some ⟨g2, 0, none⟩) n2 c2], .agg #[.int .i64 st, .slice A n c]] w (WalkP n1 fs st fl w) := by
  have HV := Lib.hid hv; have HN := Lib.hid hn
  have HNT := Lib.hid h; have HR := Lib.hid hr
  clear hv hn h hr
  by_cases hst : 0 ≤ st ∧ st < n1
  case neg =>
    have HE : Hid (routeN n1 fs st fl = none) := Lib.hid (by unfold routeN; rw [if_neg (fun h => hst h.1)])
    have CN := Lib.hid (fun W => isNd_no (g1 := g1) (g2 := g2) (n1 := n1) (n2 := n2) (c1 := c1) (c2 := c2) st W (by omega))
    have HB := Lib.hid (((Below.refl w.heap.size w).alloc (Nat.le_refl _) (Obj.cells #[.slice (some ⟨g1, 0, none⟩) n1 c1, .slice (some ⟨g2, 0, none⟩) n2 c2] 32)).alloc (by simp) (Obj.cells #[.int .i64 st, .slice A n c] 45))
    clear hst
    go_enter Try.func220, Try.ntmps220
    go_wp2_with fail
    refine (CN.out _).mono ?_
    rintro e w1 ⟨rfl, hb1⟩
    have HB1 := Lib.hid (HB.out.trans (hb1.mono (by simp; omega)))
    clear hb1
    go_wp2
    go_ret2
    exact ⟨HB1.out, .inl ⟨HE.out, rfl⟩⟩
  case pos =>
  have CN := Lib.hid (fun W => isNd_yes (g1 := g1) (g2 := g2) (n1 := n1) (n2 := n2) (c1 := c1) (c2 := c2) st W hst.1 hst.2)
  have HST := Lib.hid hst
  clear hst
  go_enter Try.func220, Try.ntmps220
  go_wp2_with fail
  obtain ⟨W0, hW0⟩ : ∃ W0, (w.alloc (Obj.cells #[.slice (some ⟨g1, 0, none⟩) n1 c1, .slice (some ⟨g2, 0, none⟩) n2 c2] 32)).alloc (Obj.cells #[.int .i64 st, .slice A n c] 45) = W0 := ⟨_, rfl⟩
  have hb0 : Below w.heap.size w W0 := by rw [← hW0]; exact ((Below.refl _ _).alloc (Nat.le_refl _) _).alloc (by simp) _
  have hk0 : W0.cell? ⟨w.heap.size, 0, none⟩ = some (.slice (some ⟨g1, 0, none⟩) n1 c1) := by rw [← hW0]; simp [go_sem]
  have hk1 : W0.cell? ⟨w.heap.size, 1, none⟩ = some (.slice (some ⟨g2, 0, none⟩) n2 c2) := by rw [← hW0]; simp [go_sem]
  have hk2 : W0.cell? ⟨w.heap.size + 1, 0, none⟩ = some (.int .i64 st) := by rw [← hW0]; simp [go_sem]
  have hk3 : W0.cell? ⟨w.heap.size + 1, 1, none⟩ = some (.slice A n c) := by rw [← hW0]; simp [go_sem]
  have hz0 : w.heap.size + 1 < W0.heap.size := by rw [← hW0]; simp
  rw [hW0]
  clear hW0
  refine (CN.out _).mono ?_
  rintro e w1 ⟨rfl, hb1⟩
  have HB1 := Lib.hid (hb0.trans (hb1.mono hb0.size))
  have l0 := (hb1.cell (p := ⟨w.heap.size, 0, none⟩) (by show w.heap.size < _; omega)).trans hk0
  have l1 := (hb1.cell (p := ⟨w.heap.size, 1, none⟩) (by show w.heap.size < _; omega)).trans hk1
  have l2 := (hb1.cell (p := ⟨w.heap.size + 1, 0, none⟩) hz0).trans hk2
  have l3 := (hb1.cell (p := ⟨w.heap.size + 1, 1, none⟩) hz0).trans hk3
  have hz1 : w.heap.size + 1 < w1.heap.size := Nat.lt_of_lt_of_le hz0 hb1.size
  have hz2 : w.heap.size < w1.heap.size := by omega
  clear hb1 hk0 hk1 hk2 hk3 hb0
  by_cases hne : n = 0
  · have HE : Hid (routeN n1 fs st fl = none) := Lib.hid (by
      unfold routeN; rw [if_neg (fun h => h.2 (List.eq_nil_of_length_eq_zero (by have := HN.out; omega)))])
    subst hne
    go_wp2
    go_ret2
    exact ⟨HB1.out, .inl ⟨HE.out, rfl⟩⟩
  · have HE : Hid (routeN n1 fs st fl = walkR fs fl [st]) := Lib.hid (by
      unfold routeN; rw [if_pos ⟨HST.out, fun h => hne (by have := HN.out; rw [h] at this; exact this.symm)⟩])
    have q1 : ((n : Int) == 0) = false := by simpa using hne
    have q2 : decide ((n : Int) = 0) = false := decide_eq_false (by omega)
    have q3 : ¬ (n : Int) = 0 := by omega
    have hlk : Lk fs (w1.alloc (Obj.cells #[.int .i64 st, .int .i64 0, .int .i64 0, .int .i64 0, .pointer none] 213)) w1.heap.size [] [st] := ⟨st, rfl, heap_alloc_new w1 _⟩
    have HBX := Lib.hid (HB1.out.alloc HB1.out.size (Obj.cells #[.int .i64 st, .int .i64 0, .int .i64 0, .int .i64 0, .pointer none] 213))
    have CA := Lib.hid (along_ (c := c) (HNT.out.moved HBX.out) HV.out hlk HN.out (HR.out.moved HBX.out) (by simp; omega))
    clear hlk hne
    go_wp2_with fail
    refine CA.out.mono ?_
    rintro e w2 ⟨hb2, h2⟩
    have HB2 := Lib.hid (HBX.out.trans (hb2.mono HBX.out.size))
    clear hb2
    rcases h2 with ⟨hs, rfl⟩ | ⟨vs, g3, hs, rfl, hl3⟩
    · have HS : Hid (routeN n1 fs st fl = none) := Lib.hid (HE.out.trans hs)
      clear hs
      go_wp2
      go_ret2
      exact ⟨HB2.out, .inl ⟨HS.out, rfl⟩⟩
    · have HS : Hid (routeN n1 fs st fl = some vs) := Lib.hid (HE.out.trans hs)
      rw [List.append_nil] at hl3
      have HL3 := Lib.hid hl3
      clear hs hl3
      go_wp2
      go_ret2
      exact ⟨HB2.out, .inr ⟨vs, g3, HS.out, rfl, HL3.out⟩⟩
end Go.Proofs.Ytcbjdfgmkiodkaa
