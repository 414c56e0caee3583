/- Contracts of the law's helpers over a network (copy, compare, size). No condition but those typed. -/
import Derived.Test.YtcbjdfgmkiodkaaFibS
import Derived.Test.YtcbjdfgmkiodkaaStrS
import Derived.Test.YtcbjdfgmkiodkaaNetM
namespace Go.Proofs.Ytcbjdfgmkiodkaa
open Go.ChangeShapes Go.WideShapes Go.ChangeAt Go.RowKit

/-- a network of the call's own. -/
def NetOut (ss : List ByteArray) (fs : List Q4) (n1 n2 : Nat) (w : World) (e : Ending) (w' : World) : Prop :=
  ∃ g1 g2 : Nat, e = .returned (.agg #[.slice (some ⟨g1, 0, none⟩) n1 n1, .slice (some ⟨g2, 0, none⟩) n2 n2]) ∧
    w'.ownsRow w.heap.size 9 1 (.slice (some ⟨g1, 0, none⟩) n1 n1) n1 (ss.map Value.string) ∧
    w'.ownsRow w.heap.size 172 4 (.slice (some ⟨g2, 0, none⟩) n2 n2) n2 (fs.flatMap Q4.cells) ∧ Below w.heap.size w w'

theorem toStrG (A : Option Addr) (n c : Nat) (ss : List ByteArray) (w : World) (hn : ss.length = n) (hr : Rd w w.heap.size A (ss.map Value.string)) (hsz : n ≤ 1048576) :
    Calls Try.prog 118 #[.slice A n c] w fun e w' => ∃ g, w.heap.size ≤ g ∧ e = .returned (.slice (some ⟨g, 0, none⟩) n n) ∧
      w'.ownsRow w.heap.size 9 1 (.slice (some ⟨g, 0, none⟩) n n) n (ss.map Value.string) ∧ Below w.heap.size w w' :=
  (toStrS A n c ss w hn hr (by omega)).mono fun _ _ h => ⟨_, Nat.le_refl _, h⟩
theorem toFibG (A : Option Addr) (n c : Nat) (qs : List Q4) (w : World) (hn : qs.length = n) (hr : Rd w w.heap.size A (qs.flatMap Q4.cells)) (hsz : n ≤ 1048576) :
    Calls Try.prog 119 #[.slice A n c] w fun e w' => ∃ g, w.heap.size ≤ g ∧ e = .returned (.slice (some ⟨g, 0, none⟩) n n) ∧
      w'.ownsRow w.heap.size 172 4 (.slice (some ⟨g, 0, none⟩) n n) n (qs.flatMap Q4.cells) ∧ Below w.heap.size w w' :=
  (toFibS A n c qs w hn hr hsz).mono fun _ _ h => ⟨_, Nat.le_refl _, h⟩
theorem own_base {w : World} {B B' E s n : Nat} {v : Value} {xs : List Value} (h : w.ownsRow B E s v n xs) (hB : B' ≤ B) : w.ownsRow B' E s v n xs := by
  refine ⟨h.1, ?_⟩
  rcases h.2 with hn | ⟨g, cap, cur, rfl, hg, rest⟩
  · exact .inl hn
  · exact .inr ⟨g, cap, cur, rfl, by omega, rest⟩
/-- a store in another block leaves the row. -/
theorem own_set {w : World} {B E s n g cap : Nat} {xs : List Value} (h : w.ownsRow B E s (.slice (some ⟨g, 0, none⟩) n cap) n xs) {p : Addr} (hp : p.block ≠ g) (u : Value) : (w.setCell p u).ownsRow B E s (.slice (some ⟨g, 0, none⟩) n cap) n xs := by
  refine ⟨h.1, ?_⟩
  rcases h.2 with hn | ⟨g', cap', cur, e, hg, hh, rest⟩
  · exact .inl hn
  · injection e with e1 e2 e3
    injection e1 with e1; injection e1 with e1
    subst e1
    exact .inr ⟨g, cap', cur, by rw [e3], hg, (Below.heap_setCell w p u g (fun h => hp h.symm)).trans hh, rest⟩

set_option maxHeartbeats 1000000 in
theorem toNet (A1 A2 : Option Addr) (n1 c1 n2 c2 : Nat) (ss : List ByteArray) (fs : List Q4) (w : World) (hn1 : ss.length = n1) (hr1 : Rd w w.heap.size A1 (ss.map Value.string)) (hs1 : n1 ≤ 1048576)
    (hn2 : fs.length = n2) (hr2 : Rd w w.heap.size A2 (fs.flatMap Q4.cells)) (hs2 : n2 ≤ 1048576) :
    Calls Try.prog 27 #[.agg #[.slice A1 n1 c1, .slice A2 n2 c2]] w (NetOut ss fs n1 n2 w) := by
  have HN1 := Lib.hid hn1; have HN2 := Lib.hid hn2; clear hn1 hn2
  go_enter Try.func27, Try.ntmps27
  go_wp2_with fail
  have hb0 := (((Below.refl w.heap.size w).alloc (Nat.le_refl _) (Obj.cells #[.slice A1 n1 c1, .slice A2 n2 c2] 25)).alloc (by simp) (Obj.cells #[.slice none 0 0, .slice none 0 0] 32)).alloc (by simp; omega) (Obj.cells #[.slice none 0 0, .slice none 0 0] 32)
  have HB0 := Lib.hid hb0
  refine (toStrG A1 n1 c1 ss _ HN1.out (hr1.moved hb0) hs1).mono ?_
  clear hb0
  rintro e w2 ⟨g1, hg1, rfl, hown1, hb2⟩
  obtain ⟨hc, hf⟩ := bcell hb2
  have hz := hb2.size
  have hb02 : Below w.heap.size w w2 := HB0.out.trans (hb2.mono HB0.out.size)
  simp at hg1 hz
  have HO := Lib.hid (own_base hown1 (B' := w.heap.size) (by simp; omega)); clear hown1
  go_wp2_with fail
  have hb3 := hb02.setCell (p := ⟨w.heap.size + 1 + 1, 0, none⟩) (by simp; omega) (.slice (some ⟨g1, 0, none⟩) n1 n1)
  refine (toFibG A2 n2 c2 fs _ HN2.out (hr2.moved hb3) hs2).mono ?_
  rintro e w4 ⟨g2, hg2, rfl, hown2, hb4⟩
  obtain ⟨hc4, hf4⟩ := bcell hb4
  have hz4 := hb4.size
  have hb04 : Below w.heap.size w w4 := hb3.trans (hb4.mono hb3.size)
  have HB4 := Lib.hid hb04
  have HO2 := Lib.hid (own_base hown2 (B' := w.heap.size) hb3.size)
  have HO1 := Lib.hid (ownB (own_set HO.out (p := ⟨w.heap.size + 1 + 1, 0, none⟩) (by simp; omega) (.slice (some ⟨g1, 0, none⟩) n1 n1)) hb4)
  clear hown2 hb3 hb04 HO hb02
  simp at hg2 hz4
  have hza : w.heap.size + 1 + 1 < w2.heap.size := by omega
  have hzb : w.heap.size + 1 < w2.heap.size := by omega
  have hzc : w.heap.size < w2.heap.size := by omega
  go_wp2
  refine bodyPost_ret (v := .agg #[.slice (some ⟨g1, 0, none⟩) n1 n1, .slice (some ⟨g2, 0, none⟩) n2 n2]) (by simp [results, Try.results27, go_sem, hc4, hc, hz4, hz, hza, hzb, hzc]) rfl ⟨g1, g2, rfl, ?_, ?_, ?_⟩
  · exact own_set (own_set (own_set HO1.out (p := ⟨_, _, none⟩) (by simp; omega) _) (p := ⟨_, _, none⟩) (by simp; omega) _) (p := ⟨_, _, none⟩) (by simp; omega) _
  · exact own_set (own_set (own_set HO2.out (p := ⟨_, _, none⟩) (by simp; omega) _) (p := ⟨_, _, none⟩) (by simp; omega) _) (p := ⟨_, _, none⟩) (by simp; omega) _
  · exact ((HB4.out.setCell (p := ⟨_, _, none⟩) (by simp; omega) _).setCell (p := ⟨_, _, none⟩) (by simp) _).setCell (p := ⟨_, _, none⟩) (by simp) _

def NetSz (left : Int) (n1 n2 tot : Nat) (w : World) (e : Ending) (w' : World) : Prop :=
  ∃ v : Int, e = .returned (.int .i64 v) ∧ Below w.heap.size w w' ∧ -1 ≤ v ∧ v ≤ left ∧ (0 ≤ v → v + n1 + n2 + tot ≤ left)
set_option maxHeartbeats 1000000 in
theorem szNet (A1 A2 : Option Addr) (n1 c1 n2 c2 : Nat) (left : Int) (ss : List ByteArray) (fs : List Q4) (w : World) (hn1 : ss.length = n1) (hm1 : n1 ≤ maxLen) (hr1 : Rd w w.heap.size A1 (ss.map Value.string)) (hws : ∀ s ∈ ss, s.size ≤ maxLen)
    (hm2 : n2 ≤ maxLen) (hl0 : 0 ≤ left) (hl1 : left ≤ 1048576) :
    Calls Try.prog 25 #[.agg #[.slice A1 n1 c1, .slice A2 n2 c2], .int .i64 left] w (NetSz left n1 n2 (totS ss) w) := by
  have HN1 := Lib.hid hn1; clear hn1
  go_enter Try.func25, Try.ntmps25
  go_wp2_with fail
  have hb0 := (Below.refl w.heap.size w).alloc (Nat.le_refl _) (Obj.cells #[.slice A1 n1 c1, .slice A2 n2 c2] 25)
  have HB0 := Lib.hid hb0
  refine (szStrS A1 n1 c1 left ss _ HN1.out (hr1.moved hb0) hws hm1 hl0 hl1).mono ?_
  clear hb0
  rintro e w2 ⟨v, rfl, rfl, hv0, hv1, hv2⟩
  by_cases hneg : v < 0
  · go_wp2
    go_ret
    exact ⟨-1, rfl, HB0.out, by omega, by omega, by omega⟩
  · have hneg' : 0 ≤ v := by omega
    have hv3 := hv2 hneg'
    clear hneg hv2
    go_wp2_with fail
    refine (szFibS A2 n2 c2 v _ hm2 hneg' (by omega)).mono ?_
    rintro e w4 ⟨u, rfl, rfl, hu0, hu1, hu2⟩
    by_cases hng : u < 0
    · go_wp2
      go_ret
      exact ⟨-1, rfl, HB0.out, by omega, by omega, by omega⟩
    · have hng' : 0 ≤ u := by omega
      have hu3 := hu2 hng'
      clear hng hu2
      go_wp2
      go_ret
      exact ⟨u, rfl, HB0.out, by omega, by omega, fun _ => by omega⟩

set_option maxHeartbeats 1000000 in
theorem eqNet (g1 g2 g1' g2' : Nat) (n1 n2 c1 c2 c1' c2' : Nat) (ss : List ByteArray) (fs : List Q4) (w : World) (hn1 : ss.length = n1) (hs1 : n1 ≤ 1048576) (hn2 : fs.length = n2) (hs2 : n2 ≤ 1048576)
    (hr1 : Rd w w.heap.size (some ⟨g1, 0, none⟩) (ss.map Value.string)) (hr1' : Rd w w.heap.size (some ⟨g1', 0, none⟩) (ss.map Value.string))
    (hr2 : Rd w w.heap.size (some ⟨g2, 0, none⟩) (fs.flatMap Q4.cells)) (hr2' : Rd w w.heap.size (some ⟨g2', 0, none⟩) (fs.flatMap Q4.cells)) :
    Calls Try.prog 30 #[.agg #[.slice (some ⟨g1, 0, none⟩) n1 c1, .slice (some ⟨g2, 0, none⟩) n2 c2], .agg #[.slice (some ⟨g1', 0, none⟩) n1 c1', .slice (some ⟨g2', 0, none⟩) n2 c2']] w
      fun e w' => e = .returned (.bool true) ∧ Below w.heap.size w w' := by
  have HN1 := Lib.hid hn1; have HN2 := Lib.hid hn2; clear hn1 hn2
  go_enter Try.func30, Try.ntmps30
  go_wp2_with fail
  have hb0 := ((Below.refl w.heap.size w).alloc (Nat.le_refl _) (Obj.cells #[.slice (some ⟨g1, 0, none⟩) n1 c1, .slice (some ⟨g2, 0, none⟩) n2 c2] 32)).alloc (by simp) (Obj.cells #[.slice (some ⟨g1', 0, none⟩) n1 c1', .slice (some ⟨g2', 0, none⟩) n2 c2'] 32)
  have HB0 := Lib.hid hb0
  refine (eqStrS _ _ n1 c1 c1' ss _ HN1.out (hr1.moved hb0) (hr1'.moved hb0) (by omega)).mono ?_
  clear hb0
  rintro e w2 ⟨rfl, hb2⟩
  obtain ⟨hc, hf⟩ := bcell hb2
  have hz := hb2.size
  have hb02 : Below w.heap.size w w2 := HB0.out.trans (hb2.mono HB0.out.size)
  have HB2 := Lib.hid hb02; clear hb02
  simp at hz
  go_wp2_with fail
  refine (eqFibS _ _ n2 c2 c2' fs _ HN2.out (hr2.moved HB2.out) (hr2'.moved HB2.out) (by omega)).mono ?_
  rintro e w4 ⟨rfl, hb4⟩
  go_wp2
  go_ret
  exact ⟨rfl, HB2.out.trans (hb4.mono HB2.out.size)⟩
end Go.Proofs.Ytcbjdfgmkiodkaa
