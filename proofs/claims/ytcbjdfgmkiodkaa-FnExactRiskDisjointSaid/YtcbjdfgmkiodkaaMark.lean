/- Contracts of the law's helpers that mark memory (strings, structs of ints, a network): some strings and numbers are written; only the blocks of the marked slices turn. No condition but those typed. -/
import Derived.Test.YtcbjdfgmkiodkaaNetA
namespace Go.Proofs.Ytcbjdfgmkiodkaa
open Go.ChangeShapes Go.WideShapes Go.ChangeAt Go.RowKit

/-- nothing but the blocks of S has changed. -/
structure Off (S : Nat → Prop) (w w' : World) : Prop where
  os : w'.os = w.os
  tape : w'.tape = w.tape
  output : w'.output = w.output
  size : w.heap.size ≤ w'.heap.size
  block : ∀ k, k < w.heap.size → ¬ S k → w'.heap[k]? = w.heap[k]?
theorem Off.refl (S : Nat → Prop) (w : World) : Off S w w := ⟨rfl, rfl, rfl, Nat.le_refl _, fun _ _ _ => rfl⟩
theorem Off.trans {S : Nat → Prop} {a b c : World} (h : Off S a b) (k : Off S b c) : Off S a c :=
  ⟨k.os.trans h.os, k.tape.trans h.tape, k.output.trans h.output, Nat.le_trans h.size k.size, fun i hi hs => (k.block i (Nat.lt_of_lt_of_le hi h.size) hs).trans (h.block i hi hs)⟩
theorem Off.ofBelow {S : Nat → Prop} {w w' : World} (h : Below w.heap.size w w') : Off S w w' := ⟨h.os, h.tape, h.output, h.size, fun k hk _ => h.block k hk⟩
theorem Off.wider {S S' : Nat → Prop} {w w' : World} (h : Off S w w') (hs : ∀ k, S k → S' k) : Off S' w w' := ⟨h.os, h.tape, h.output, h.size, fun k hk hn => h.block k hk (fun x => hn (hs k x))⟩
theorem Off.below {S : Nat → Prop} {B : Nat} {w w' : World} (h : Off S w w') (hB : B ≤ w.heap.size) (hs : ∀ k, S k → B ≤ k) : Below B w w' :=
  ⟨h.os, h.tape, h.output, h.size, fun k hk => h.block k (by omega) (fun x => by have := hs k x; omega)⟩
theorem Off.set_ {S : Nat → Prop} {w w' : World} (h : Off S w w') {p : Addr} (hp : S p.block) (u : Value) : Off S w (w'.setCell p u) :=
  ⟨h.os, h.tape, h.output, by simpa using h.size, fun k hk hn => (Below.heap_setCell w' p u k (fun e => hn (by rw [e]; exact hp))).trans (h.block k hk hn)⟩
theorem Off.cell {S : Nat → Prop} {w w' : World} (h : Off S w w') {p : Addr} (hp : p.block < w.heap.size) (hs : ¬ S p.block) : w'.cell? p = w.cell? p := World.cell?_of_block (w := w) (h.block p.block hp hs)
theorem Off.own {S : Nat → Prop} {w w' : World} {B E s n g c : Nat} {xs : List Value} (h : Off S w w') (ho : w.ownsRow B E s (.slice (some ⟨g, 0, none⟩) n c) n xs) (hs : ¬ S g) : w'.ownsRow B E s (.slice (some ⟨g, 0, none⟩) n c) n xs := by
  refine ⟨ho.1, ?_⟩
  rcases ho.2 with hn | ⟨g', cap', cur, e, hg, hh, rest⟩
  · exact .inl hn
  · injection e with e1 e2 e3
    injection e1 with e1; injection e1 with e1
    subst e1
    exact .inr ⟨g, cap', cur, by rw [e3], hg, (h.block g (Array.getElem?_eq_some_iff.1 hh).1 hs).trans hh, rest⟩
theorem Rd.off {S : Nat → Prop} {w w' : World} {g o : Nat} {xs : List Value} (h : Rd w w.heap.size (some ⟨g, o, none⟩) xs) (hb : Off S w w') (hs : ¬ S g) : Rd w' w'.heap.size (some ⟨g, o, none⟩) xs := by
  intro k u hu
  obtain ⟨ad, e, hl, hc⟩ := h k u hu
  injection e with e; subst e
  exact ⟨_, rfl, Nat.lt_of_lt_of_le hl hb.size, by rw [hb.cell (by rw [addBlock]; exact hl) (by rw [addBlock]; exact hs)]; exact hc⟩

def TextP (w : World) (e : Ending) (w' : World) : Prop := ∃ s : ByteArray, e = .returned (.string s) ∧ s.size ≤ 100 ∧ Below w.heap.size w w'

theorem pow_step (z : Int) (j : Nat) (hz : 0 < z) (h : z < 10 ^ j) : ∃ i, j = i + 1 ∧ z / 10 < 10 ^ i := by
  cases j with
  | zero => simp at h; omega
  | succ i => exact ⟨i, rfl, by rw [Int.pow_succ] at h; omega⟩
theorem pow_cap (z : Int) (j : Nat) (hj : j ≤ 10) (h : z < 10 ^ j) : z ≤ 10000000000 := by
  have h1 : (10 : Nat) ^ j ≤ 10 ^ 10 := Nat.pow_le_pow_right (by omega) hj
  have h2 : ((10 : Int) ^ j) = ((10 ^ j : Nat) : Int) := by simp
  rw [h2] at h
  have h3 : (10 : Nat) ^ 10 = 10000000000 := by decide
  omega

set_option maxRecDepth 100000 in
set_option maxHeartbeats 1000000 in
theorem markText_ (k : Int) (w : World) (h0 : 1 ≤ k) (h1 : k ≤ 1000000000) : Calls Try.prog 218 #[.int .i64 k] w (TextP w) := by
  go_enter Try.func218, Try.ntmps218
  go_wp2
  go_loopw [0, 3] (fun q s wr => ∃ (z : Int) (t : ByteArray) (j : Nat), q = .int .i64 z ∧ s = .string t ∧ 0 ≤ z ∧ z < 10 ^ j ∧ j ≤ 10 ∧ t.size + j ≤ 10 ∧ Below w.heap.size w wr) (fun q _ _ => (intOf q).toNat)
  case atStart => exact ⟨k, ByteArray.empty, 10, rfl, rfl, by omega, by omega, by omega, by simp, Below.refl _ _⟩
  case round =>
    obtain ⟨z, t, j, rfl, rfl, hz0, hz1, hj, ht, hb⟩ := hrel
    have hz9 := pow_cap z j hj hz1
    have ht10 : (t.size : Int) ≤ 10 := by omega
    by_cases hz : 0 < z
    · obtain ⟨i, hji, hz2⟩ := pow_step z j hz hz1
      have HZ2 := Lib.hid hz2; have HT : Hid (t.size + (i + 1) ≤ 10 ∧ i + 1 ≤ 10) := Lib.hid ⟨by omega, by omega⟩
      clear hz1 ht hji hj hz2
      have hm0 : 0 ≤ z % 10 := by omega
      have hm1 : z % 10 < 10 := by omega
      obtain ⟨u, hu⟩ : ∃ u : UInt8, (u.toNat : Int) = 48 + z % 10 := ⟨UInt8.ofNat (48 + z % 10).toNat, by
        rw [UInt8.toNat_ofNat']; omega⟩
      have hcv : Sem.run Try.prog (convert 269 9 (Value.slice (some ⟨wr.heap.size, 0, none⟩) 1 1)) (wr.alloc (Obj.cells #[.int .u8 (48 + z % 10)] 5)) = .ok (.string ⟨#[u]⟩) (wr.alloc (Obj.cells #[.int .u8 (48 + z % 10)] 5)) :=
        run_convert_bytes_back (P := Try.prog) (wr.alloc (Obj.cells #[.int .u8 (48 + z % 10)] 5)) 269 9 5 ⟨wr.heap.size, 0, none⟩ 1 [u] Try.underlying269 Try.underlying5 Try.underlying9
          (fun j hj => by
            have hj' : j < 1 := hj
            obtain rfl : j = 0 := by omega
            simp [go_sem, Addr.add, hu])
      clear hu
      have hus : (⟨#[u]⟩ : ByteArray).size = 1 := rfl
      obtain ⟨b, hbb⟩ : ∃ b : ByteArray, ⟨#[u]⟩ = b := ⟨_, rfl⟩
      rw [hbb] at hcv hus
      clear hbb
      have hus' : (b.size : Int) ≤ 1 := by omega
      have HUS := Lib.hid hus; clear hus
      go_wp2
      go_roundw
      case rel => exact ⟨z / 10, b ++ t, i, rfl, rfl, by omega, HZ2.out, by have := HT.out; omega, by rw [ByteArray.size_append, HUS.out]; have := HT.out; omega, hb.alloc hb.size _⟩
      case measure => simp [intOf]; omega
    · have hzz : z = 0 := by omega
      subst hzz
      have HT := Lib.hid ht
      clear hz1 ht hz9 hz hj
      go_wp2
      go_ret
      exact ⟨_, rfl, by rw [ByteArray.size_append]; have := HT.out; have : (⟨#[109]⟩ : ByteArray).size = 1 := rfl; omega, hb⟩

set_option maxHeartbeats 1000000 in
theorem markStrS (g n c : Nat) (k : Int) (xs : List Value) (w : World) (ho : w.ownsRow 0 9 1 (.slice (some ⟨g, 0, none⟩) n c) n xs) (hn : n ≤ 1048576) (h0 : 1 ≤ k) (h1 : k ≤ 10000000) :
    Calls Try.prog 124 #[.slice (some ⟨g, 0, none⟩) n c, .int .i64 k] w fun e w' => e = .returned (.int .i64 (k + n)) ∧ Off (· = g) w w' ∧ ∃ ys, w'.ownsRow 0 9 1 (.slice (some ⟨g, 0, none⟩) n c) n ys := by
  have HO := Lib.hid ho; clear ho
  go_enter Try.func124, Try.ntmps124
  go_wp2
  go_loopw [1, 5] (fun q i wr => ∃ (j : Nat) (ys : List Value), j ≤ n ∧ i = .int .i64 j ∧ q = .int .i64 (k + j) ∧ Off (· = g) w wr ∧ wr.ownsRow 0 9 1 (.slice (some ⟨g, 0, none⟩) n c) n ys) (fun _ i _ => n - (intOf i).toNat)
  case atStart => exact ⟨0, xs, Nat.zero_le _, rfl, by simp, Off.refl _ _, HO.out⟩
  case round =>
    obtain ⟨j, ys, hj, rfl, rfl, hoff, hown⟩ := hrel
    have HF := Lib.hid hoff; have HW := Lib.hid hown; clear hoff hown
    by_cases hlt : j < n
    · go_wp2_with fail
      refine (markText_ (k + j) wr (by omega) (by omega)).mono ?_
      rintro e w2 ⟨s, rfl, hs, hb2⟩
      have hown2 := ownB HW.out hb2
      have hlen := hown2.1
      have hold := hown2.cellAt j (by omega)
      have hjl : j < ys.length := by omega
      rw [List.getElem?_eq_getElem hjl] at hold
      have hfz := hown2.frozenAt j
      have hst := hown2.stored j (.string s)
      have HST := Lib.hid hst.1
      have HF2 := Lib.hid (HF.out.trans (Off.ofBelow hb2))
      obtain ⟨old, hold'⟩ : ∃ v, ys[j]'hjl = v := ⟨_, rfl⟩
      rw [hold'] at hold
      clear hst hown2 hlen hold' hb2
      go_wp2
      go_roundw
      case rel => exact ⟨j + 1, _, by omega, by go_num, by go_num, HF2.out.set_ rfl _, HST.out⟩
      case measure => simp [intOf]; omega
    · have hjn : j = n := by omega
      subst hjn
      clear hlt
      go_wp2
      go_ret
      exact ⟨rfl, HF.out, ys, HW.out⟩
end Go.Proofs.Ytcbjdfgmkiodkaa
