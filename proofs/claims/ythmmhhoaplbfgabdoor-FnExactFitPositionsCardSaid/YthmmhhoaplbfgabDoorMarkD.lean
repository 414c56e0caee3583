/- Contracts of the law's helpers that mark a slice of ints and ask whether it is still marked; ints compared, nil let in. No condition but those typed. -/
import Derived.Test.YthmmhhoaplbfgabDoorFits
namespace Go.Proofs.YthmmhhoaplbfgabDoor
open Go.ChangeShapes Go.WideShapes Go.ChangeAt Go.RowKit

/-- nothing but the blocks of S has changed. -/
structure Off (S : Nat → Prop) (w w' : World) : Prop where
  os : w'.os = w.os
  tape : w'.tape = w.tape
  output : w'.output = w.output
  size : w.heap.size ≤ w'.heap.size
  block : ∀ k, k < w.heap.size → ¬ S k → w'.heap[k]? = w.heap[k]?
theorem Off.refl (S : Nat → Prop) (w : World) : Off S w w := ⟨rfl, rfl, rfl, Nat.le_refl _, fun _ _ _ => rfl⟩
theorem Off.trans {S : Nat → Prop} {a b c : World} (h : Off S a b) (k : Off S b c) : Off S a c :=
  ⟨k.os.trans h.os, k.tape.trans h.tape, k.output.trans h.output, Nat.le_trans h.size k.size, fun i hi hs => (k.block i (Nat.lt_of_lt_of_le hi h.size) hs).trans (h.block i hi hs)⟩
theorem Off.ofBelow {S : Nat → Prop} {w w' : World} (h : Below w.heap.size w w') : Off S w w' := ⟨h.os, h.tape, h.output, h.size, fun k hk _ => h.block k hk⟩
theorem Off.wider {S S' : Nat → Prop} {w w' : World} (h : Off S w w') (hs : ∀ k, S k → S' k) : Off S' w w' := ⟨h.os, h.tape, h.output, h.size, fun k hk hn => h.block k hk (fun x => hn (hs k x))⟩
theorem Off.below {S : Nat → Prop} {B : Nat} {w w' : World} (h : Off S w w') (hB : B ≤ w.heap.size) (hs : ∀ k, S k → B ≤ k) : Below B w w' :=
  ⟨h.os, h.tape, h.output, h.size, fun k hk => h.block k (by omega) (fun x => by have := hs k x; omega)⟩
theorem Off.set_ {S : Nat → Prop} {w w' : World} (h : Off S w w') {p : Addr} (hp : S p.block) (u : Value) : Off S w (w'.setCell p u) :=
  ⟨h.os, h.tape, h.output, by simpa using h.size, fun k hk hn => (Below.heap_setCell w' p u k (fun e => hn (by rw [e]; exact hp))).trans (h.block k hk hn)⟩
theorem Off.cell {S : Nat → Prop} {w w' : World} (h : Off S w w') {p : Addr} (hp : p.block < w.heap.size) (hs : ¬ S p.block) : w'.cell? p = w.cell? p := World.cell?_of_block (w := w) (h.block p.block hp hs)
theorem Off.own {S : Nat → Prop} {w w' : World} {B E s n g c : Nat} {xs : List Value} (h : Off S w w') (ho : w.ownsRow B E s (.slice (some ⟨g, 0, none⟩) n c) n xs) (hs : ¬ S g) : w'.ownsRow B E s (.slice (some ⟨g, 0, none⟩) n c) n xs := by
  refine ⟨ho.1, ?_⟩
  rcases ho.2 with hn | ⟨g', cap', cur, e, hg, hh, rest⟩
  · exact .inl hn
  · injection e with e1 e2 e3
    injection e1 with e1; injection e1 with e1
    subst e1
    exact .inr ⟨g, cap', cur, by rw [e3], hg, (h.block g (Array.getElem?_eq_some_iff.1 hh).1 hs).trans hh, rest⟩
theorem Rd.off {S : Nat → Prop} {w w' : World} {g o : Nat} {xs : List Value} (h : Rd w w.heap.size (some ⟨g, o, none⟩) xs) (hb : Off S w w') (hs : ¬ S g) : Rd w' w'.heap.size (some ⟨g, o, none⟩) xs := by
  intro k u hu
  obtain ⟨ad, e, hl, hc⟩ := h k u hu
  injection e with e; subst e
  exact ⟨_, rfl, Nat.lt_of_lt_of_le hl hb.size, by rw [hb.cell (by rw [addBlock]; exact hl) (by rw [addBlock]; exact hs)]; exact hc⟩

theorem own_base {w : World} {B B' E s n : Nat} {v : Value} {xs : List Value} (h : w.ownsRow B E s v n xs) (hB : B' ≤ B) : w.ownsRow B' E s v n xs := by
  refine ⟨h.1, ?_⟩
  rcases h.2 with hn | ⟨g, cap, cur, rfl, hg, rest⟩
  · exact .inl hn
  · exact .inr ⟨g, cap, cur, rfl, by omega, rest⟩
def marks (m n : Nat) : List Int := (List.range n).map fun i => ((m + i : Nat) : Int)
theorem marks_get (m n i : Nat) (h : i < n) : (marks m n)[i]? = some ((m + i : Nat) : Int) := by
  unfold marks; rw [List.getElem?_map, List.getElem?_range h]; rfl
theorem marks_len (m n : Nat) : (marks m n).length = n := by unfold marks; simp

/-- an int slice of the call's own: nil, or a row. -/
def IntsOwn (B : Nat) (v : Value) (n : Nat) (zs : List Int) (w : World) : Prop := w.ownsRow B 3 1 v n (zs.map (Value.int .i64))
theorem IntsOwn.form {B n : Nat} {v : Value} {zs : List Int} {w : World} (h : IntsOwn B v n zs w) : (v = .slice none 0 0 ∧ n = 0) ∨ ∃ g c, v = .slice (some ⟨g, 0, none⟩) n c ∧ B ≤ g ∧ g < w.heap.size := by
  rcases h.2 with ⟨rfl, h0⟩ | ⟨g, cap, cur, rfl, hg, hh, _⟩
  · exact .inl ⟨rfl, h0⟩
  · exact .inr ⟨g, cap, rfl, hg, (Array.getElem?_eq_some_iff.1 hh).1⟩

set_option maxHeartbeats 1000000 in
theorem markInts (g n c : Nat) (zs : List Int) (w : World) (ho : IntsOwn 0 (.slice (some ⟨g, 0, none⟩) n c) n zs w) (hn : n ≤ 1048576) :
    Calls Tryd.prog 20 #[.slice (some ⟨g, 0, none⟩) n c, .int .i64 1] w fun e w' => e = .returned (.int .i64 (1 + n)) ∧ Off (· = g) w w' ∧ IntsOwn 0 (.slice (some ⟨g, 0, none⟩) n c) n (marks 1 n) w' := by
  have HO := Lib.hid ho; clear ho
  have hzl : zs.length = n := by have := HO.out.1; simpa using this
  have HZL := Lib.hid hzl; clear hzl
  go_enter Tryd.func20, Tryd.ntmps20
  go_wp2
  go_loopw [1, 5] (fun q i wr => ∃ j : Nat, j ≤ n ∧ i = .int .i64 j ∧ q = .int .i64 (1 + j) ∧ Off (· = g) w wr ∧ wr.ownsRow 0 3 1 (.slice (some ⟨g, 0, none⟩) n c) n ((marks 1 j ++ zs.drop j).map (Value.int .i64))) (fun _ i _ => n - (intOf i).toNat)
  case atStart => exact ⟨0, Nat.zero_le _, rfl, by simp, Off.refl _ _, by have h := HO.out; unfold IntsOwn at h; simpa [marks] using h⟩
  case round =>
    obtain ⟨j, hj, rfl, rfl, hoff, hown⟩ := hrel
    have HF := Lib.hid hoff; clear hoff
    by_cases hlt : j < n
    · have hjl : j < zs.length := by have := HZL.out; omega
      have hold := hown.cellAt j (by omega)
      have hml := marks_len 1 j
      rw [List.getElem?_map, List.getElem?_append_right (by omega), hml, Nat.sub_self, List.getElem?_drop, Nat.add_zero, List.getElem?_eq_getElem hjl] at hold
      have hfz := hown.frozenAt j
      have hst := (hown.stored j (.int .i64 (1 + j))).1
      have e : ((marks 1 j ++ zs.drop j).map (Value.int .i64)).set j (.int .i64 (1 + j)) = (marks 1 (j + 1) ++ zs.drop (j + 1)).map (Value.int .i64) := by
        rw [List.drop_eq_getElem_cons hjl, List.map_append, List.map_cons, List.set_append_right _ _ (by simp [hml]), List.length_map, hml, Nat.sub_self, List.set_cons_zero]
        have em : marks 1 (j + 1) = marks 1 j ++ [((1 + j : Nat) : Int)] := by unfold marks; rw [List.range_succ, List.map_append]; rfl
        rw [em]
        simp
      rw [e] at hst
      have HST := Lib.hid hst
      obtain ⟨old, ho⟩ : ∃ v, zs[j]'hjl = v := ⟨_, rfl⟩
      rw [ho] at hold
      simp only [Option.map_some] at hold
      clear hown hst e hml ho
      go_wp2
      go_roundw
      case rel => exact ⟨j + 1, by omega, by go_num, by go_num, HF.out.set_ (p := ⟨g, _, none⟩) rfl _, HST.out⟩
      case measure => simp [intOf]; omega
    · have hjn : j = n := by omega
      subst hjn
      have e : marks 1 j ++ zs.drop j = marks 1 j := by rw [List.drop_of_length_le (by have := HZL.out; omega), List.append_nil]
      rw [e] at hown
      have HW := Lib.hid hown
      clear hlt hown e
      go_wp2
      go_ret
      exact ⟨rfl, HF.out, HW.out⟩

theorem markInts_nil (w : World) :
    Calls Tryd.prog 20 #[.slice none 0 0, .int .i64 1] w fun e w' => e = .returned (.int .i64 1) ∧ w = w' := by
  go_enter Tryd.func20, Tryd.ntmps20
  go_wp2
  go_loop [1, 5] (fun q i => q = .int .i64 1 ∧ i = .int .i64 0) (fun _ _ => 0)
  case atStart => exact ⟨rfl, rfl⟩
  case round =>
    obtain ⟨rfl, rfl⟩ := hrel
    go_wp2
    go_ret
    exact ⟨rfl, rfl⟩

set_option maxHeartbeats 1000000 in
theorem heldInts (A : Option Addr) (n c : Nat) (w : World) (hr : Rd w w.heap.size A ((marks 1 n).map (Value.int .i64))) (hn : n ≤ 1048576) :
    Calls Tryd.prog 21 #[.slice A n c, .int .i64 1] w fun e w' => e = .returned (.int .i64 (1 + n)) ∧ w = w' := by
  go_enter Tryd.func21, Tryd.ntmps21
  go_wp2
  go_loop [1, 5] (fun q i => ∃ j : Nat, j ≤ n ∧ i = .int .i64 j ∧ q = .int .i64 (1 + j)) (fun _ i => n - (intOf i).toNat)
  case atStart => exact ⟨0, Nat.zero_le _, rfl, by simp⟩
  case round =>
    obtain ⟨j, hj, rfl, rfl⟩ := hrel
    by_cases hlt : j < n
    · obtain ⟨ad, rfl, _, hcell⟩ := hr j (.int .i64 (1 + j)) (by rw [List.getElem?_map, marks_get 1 n j hlt]; simp)
      go_wp2
      go_round
      case rel => exact ⟨j + 1, by omega, by go_num, by go_num⟩
      case measure => simp [intOf]; omega
    · have hjn : j = n := by omega
      subst hjn
      clear hlt
      go_wp2
      go_ret
      exact ⟨rfl, rfl⟩

set_option maxHeartbeats 1000000 in
theorem eqInts (A A' : Option Addr) (n c c' : Nat) (zs : List Int) (w : World) (hn : zs.length = n) (hr : Rd w w.heap.size A (zs.map (Value.int .i64))) (hr' : Rd w w.heap.size A' (zs.map (Value.int .i64))) (hsz : n ≤ 1048576) :
    Calls Tryd.prog 15 #[.slice A n c, .slice A' n c'] w fun e w' => e = .returned (.bool true) ∧ Below w.heap.size w w' := by
  have HN := Lib.hid hn; clear hn
  go_enter Tryd.func15, Tryd.ntmps15
  go_wp2
  go_loopw [5] (fun i wr => ∃ k : Nat, k ≤ n ∧ i = .int .i64 k ∧ Below w.heap.size w wr) (fun i _ => n - (intOf i).toNat)
  case atStart => exact ⟨0, Nat.zero_le _, rfl, Below.refl _ _⟩
  case round =>
    obtain ⟨k, hk, rfl, hb⟩ := hrel
    by_cases hlt : k < n
    · have hks : k < zs.length := by have := HN.out; omega
      obtain ⟨ad, rfl, _, hcell⟩ := (hr.over hb).got (k := k) (by simpa using hks)
      obtain ⟨ad', rfl, _, hcell'⟩ := (hr'.over hb).got (k := k) (by simpa using hks)
      simp only [List.getElem_map] at hcell hcell'
      obtain ⟨z, hz⟩ : ∃ z, zs[k]'hks = z := ⟨_, rfl⟩
      rw [hz] at hcell hcell'; clear hz
      go_wp2
      go_quiet (fail)
      go_wp2
      go_roundw
      case rel => exact ⟨k + 1, by omega, by go_num, drewN_below hb _⟩
      case measure => simp [intOf]; omega
    · go_wp2
      go_ret
      exact ⟨rfl, hb⟩
theorem own_off {S : Nat → Prop} {w w' : World} {B E s n : Nat} {v : Value} {xs : List Value} (ho : w.ownsRow B E s v n xs) (h : Off S w w') (hs : ∀ b, S b → b < B) : w'.ownsRow B E s v n xs := by
  refine ⟨ho.1, ?_⟩
  rcases ho.2 with hn | ⟨g, cap, cur, e, hg, hh, rest⟩
  · exact .inl hn
  · exact .inr ⟨g, cap, cur, e, hg, (h.block g (Array.getElem?_eq_some_iff.1 hh).1 (fun x => by have := hs g x; omega)).trans hh, rest⟩
theorem markIntsA (A : Option Addr) (n c : Nat) (zs : List Int) (w : World) {B : Nat} (ho : w.ownsRow B 3 1 (.slice A n c) n (zs.map (Value.int .i64))) (hn : n ≤ 1048576) :
    Calls Tryd.prog 20 #[.slice A n c, .int .i64 1] w fun e w' => e = .returned (.int .i64 (1 + n)) ∧ Off (fun b => B ≤ b) w w' ∧ w'.ownsRow B 3 1 (.slice A n c) n ((marks 1 n).map (Value.int .i64)) := by
  rcases ho.2 with ⟨hv, h0⟩ | ⟨g, cap, cur, hv, hg, _⟩
  · injection hv with hA hN hC
    subst hA h0 hC
    refine (markInts_nil w).mono ?_
    rintro e w' ⟨rfl, rfl⟩
    exact ⟨rfl, Off.refl _ _, World.ownsRow_nil _ _ _ _⟩
  · injection hv with hA _ hC
    subst hA hC
    refine (markInts g n c zs w (own_base ho (Nat.zero_le _)) hn).mono ?_
    rintro e w' ⟨rfl, hoff, hown⟩
    refine ⟨rfl, hoff.wider (fun k h => by have h' : k = g := h; omega), ?_⟩
    refine ⟨hown.1, ?_⟩
    rcases hown.2 with hn' | ⟨g', cap', cur', e', _, rest⟩
    · exact .inl hn'
    · have e2 := e'
      injection e2 with e1; injection e1 with e1; injection e1 with e1
      exact .inr ⟨g', cap', cur', e', by omega, rest⟩
/-- a list of ints in memory of the call's own, and a word. -/
def IntsP (zs : List Int) (b : Bool) (w : World) (e : Ending) (w' : World) : Prop :=
  ∃ (A : Option Addr) (N c : Nat), e = .returned (.tuple #[.slice A N c, .bool b]) ∧ Hid (N = zs.length) ∧ w'.ownsRow w.heap.size 3 1 (.slice A N c) N (zs.map (Value.int .i64)) ∧ Below w.heap.size w w'
end Go.Proofs.YthmmhhoaplbfgabDoor
