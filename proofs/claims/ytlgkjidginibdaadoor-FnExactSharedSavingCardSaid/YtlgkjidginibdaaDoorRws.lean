/- Rows of rows of ints of the call's own: kept, pushed, read; the law's helpers over them (compare, mark, held). No condition but those typed. -/
import Derived.Test.YtlgkjidginibdaaDoorGB
namespace Go.Proofs.YtlgkjidginibdaaDoor
open Go.ChangeShapes Go.WideShapes Go.ChangeAt Go.RowKit

theorem own_type_apart {w : World} {B B' E E' s s' n n' : Nat} {v v' : Value} {xs ys : List Value} (h : w.ownsRow B E s v n xs) (h' : w.ownsRow B' E' s' v' n' ys) (hE : E ≠ E') : Apart v v' := by
  intro g hg hg'
  rcases h.2 with ⟨hv, _⟩ | ⟨g1, cap, cur, hv, _, hh, _⟩
  · rw [hv] at hg; simp [Value.ownBlock] at hg
  · rcases h'.2 with ⟨hv', _⟩ | ⟨g2, cap', cur', hv', _, hh', _⟩
    · rw [hv'] at hg'; simp [Value.ownBlock] at hg'
    · rw [hv] at hg
      rw [hv'] at hg'
      have e1 : g1 = g := by simpa [Value.ownBlock] using hg
      have e2 : g2 = g := by simpa [Value.ownBlock] using hg'
      subst e1; subst e2
      rw [hh] at hh'
      injection hh' with hh'
      injection hh' with _ ht
      exact hE ht
/-- a row of ints as it lies in memory. -/
structure Rw where
  A : Option Addr
  n : Nat
  c : Nat
  zs : List Int
def Rw.val (y : Rw) : Value := .slice y.A y.n y.c
def RwOwn (B : Nat) (w : World) (y : Rw) : Prop := y.n = y.zs.length ∧ w.ownsRow B 3 1 (.slice y.A y.n y.c) y.n (y.zs.map (Value.int .i64))
theorem RwOwn.base {B B' : Nat} {w : World} {y : Rw} (h : RwOwn B w y) (hB : B' ≤ B) : RwOwn B' w y := ⟨h.1, own_base h.2 hB⟩
theorem RwOwn.moved {B : Nat} {w w' : World} {y : Rw} (h : RwOwn B w y) (hb : Below w.heap.size w w') : RwOwn B w' y := ⟨h.1, ownB h.2 hb⟩
theorem RwOwn.rd {B : Nat} {w : World} {y : Rw} (h : RwOwn B w y) : Rd w w.heap.size y.A (y.zs.map (Value.int .i64)) := Rd.ofOwn h.2
theorem own_offV {S : Nat → Prop} {w w' : World} {B E s n : Nat} {v : Value} {xs : List Value} (ho : w.ownsRow B E s v n xs) (h : Off S w w') (hs : ∀ g, v.ownBlock = some g → ¬ S g) : w'.ownsRow B E s v n xs := by
  refine ⟨ho.1, ?_⟩
  rcases ho.2 with hn | ⟨g, cap, cur, e, hg, hh, rest⟩
  · exact .inl hn
  · exact .inr ⟨g, cap, cur, e, hg, (h.block g (Array.getElem?_eq_some_iff.1 hh).1 (hs g (by rw [e]; rfl))).trans hh, rest⟩
theorem RwOwn.off {S : Nat → Prop} {B : Nat} {w w' : World} {y : Rw} (h : RwOwn B w y) (hoff : Off S w w') (hs : ∀ g, y.val.ownBlock = some g → ¬ S g) : RwOwn B w' y := ⟨h.1, own_offV h.2 hoff hs⟩
/-- the rows, each in memory of its own, and the row of them. -/
structure Rws (B : Nat) (A : Option Addr) (n c : Nat) (ys : List Rw) (w : World) : Prop where
  len : ys.length = n
  row : w.ownsRow B 29 1 (.slice A n c) n (ys.map Rw.val)
  own : ∀ y ∈ ys, RwOwn B w y
  apart : ys.Pairwise fun y y' => Apart y.val y'.val
theorem Rws.nil (B : Nat) (w : World) : Rws B none 0 0 [] w := ⟨rfl, World.ownsRow_nil _ _ _ _, fun y hy => by simp at hy, List.Pairwise.nil⟩
theorem Rws.lit (B : Nat) (w : World) (hB : B ≤ w.heap.size) : Rws B (some ⟨w.heap.size, 0, none⟩) 0 0 [] (w.alloc (Obj.cells #[] 29)) :=
  ⟨rfl, World.ownsRow_lit (base := B) (e := 29) (size := 1) w #[] 0 hB (by unfold maxLen; omega) rfl, fun y hy => by simp at hy, List.Pairwise.nil⟩
theorem Rws.moved {B : Nat} {A : Option Addr} {n c : Nat} {ys : List Rw} {w w' : World} (h : Rws B A n c ys w) (hb : Below w.heap.size w w') : Rws B A n c ys w' := ⟨h.len, ownB h.row hb, fun y hy => (h.own y hy).moved hb, h.apart⟩
theorem Rws.base {B B' : Nat} {A : Option Addr} {n c : Nat} {ys : List Rw} {w : World} (h : Rws B A n c ys w) (hB : B' ≤ B) : Rws B' A n c ys w := ⟨h.len, own_base h.row hB, fun y hy => (h.own y hy).base hB, h.apart⟩
theorem Rws.heapW {B : Nat} {A : Option Addr} {n c : Nat} {ys : List Rw} {w w' : World} (h : Rws B A n c ys w) (e : w'.heap = w.heap) : Rws B A n c ys w' := ⟨h.len, own_heapW e h.row, fun y hy => ⟨(h.own y hy).1, own_heapW e (h.own y hy).2⟩, h.apart⟩
theorem Rws.alloc {B : Nat} {A : Option Addr} {n c : Nat} {ys : List Rw} {w : World} (h : Rws B A n c ys w) (o : Obj) : Rws B A n c ys (w.alloc o) := h.moved ((Below.refl _ _).alloc (Nat.le_refl _) o)
theorem Rws.rd {B : Nat} {A : Option Addr} {n c : Nat} {ys : List Rw} {w : World} (h : Rws B A n c ys w) : Rd w w.heap.size A (ys.map Rw.val) := Rd.ofOwn h.row
/-- the cell of row k, and what lies behind it. -/
theorem Rws.at_ {B : Nat} {A : Option Addr} {n c : Nat} {ys : List Rw} {w : World} (h : Rws B A n c ys w) {k : Nat} (hk : k < ys.length) {y : Rw} (hy : ys[k] = y) : ∃ g, A = some ⟨g, 0, none⟩ ∧ g < w.heap.size ∧ w.cell? ⟨g, k, none⟩ = some (.slice y.A y.n y.c) ∧ RwOwn B w y := by
  obtain ⟨g, rfl⟩ := own_some h.row (by have := h.len; omega)
  have h1 := h.row.cellAt k (by have := h.len; omega)
  rw [List.getElem?_map, List.getElem?_eq_getElem hk, hy] at h1
  exact ⟨g, rfl, (h.row.lt g rfl).2, h1, h.own y (by rw [← hy]; exact List.getElem_mem hk)⟩
theorem Rws.ap {B : Nat} {A : Option Addr} {n c : Nat} {ys : List Rw} {w : World} (h : Rws B A n c ys w) {y : Rw} (hy : RwOwn B w y) : Apart y.val (.slice A n c) := own_type_apart hy.2 h.row (by decide)
/-- a new row pushed. -/
theorem Rws.push {B : Nat} {A : Option Addr} {n c : Nat} {ys : List Rw} {w : World} (h : Rws B A n c ys w) {y : Rw} (hy : RwOwn B w y) (hap : ∀ x ∈ ys, Apart x.val y.val) {w' : World} {A2 : Option Addr} {n2 c2 : Nat} (hn2 : n2 = n + 1)
    (ho : w'.ownsRow B 29 1 (.slice A2 n2 c2) n2 (ys.map Rw.val ++ [y.val])) (hg : w.grownBy w' (Value.slice A n c).ownBlock) : Rws B A2 n2 c2 (ys ++ [y]) w' :=
  ⟨by rw [List.length_append, h.len, hn2]; rfl, by rw [List.map_append]; exact ho, fun x hx => by
    rcases List.mem_append.1 hx with hx | hx
    · exact ⟨(h.own x hx).1, (h.ap (h.own x hx)).kept (h.own x hx).2 hg⟩
    · rw [List.mem_singleton.1 hx]; exact ⟨hy.1, (h.ap hy).kept hy.2 hg⟩, List.pairwise_append.2 ⟨h.apart, List.pairwise_singleton _ _, fun x hx x' hx' => by rw [List.mem_singleton.1 hx']; exact hap x hx⟩⟩
/-- what was made later is apart. -/
theorem Rws.newer {B : Nat} {A : Option Addr} {n c : Nat} {ys : List Rw} {w w' : World} (h : Rws B A n c ys w) {B' : Nat} {y : Rw} (hy : RwOwn B' w' y) (hB : w.heap.size ≤ B') : ∀ x ∈ ys, Apart x.val y.val :=
  fun x hx => (apart_new (h.own x hx).2 hy.2 hB).symm
/-- kept where an int row apart grows. -/
theorem Rws.grown {B : Nat} {A : Option Addr} {n c : Nat} {ys : List Rw} {w w' : World} (h : Rws B A n c ys w) {u : Value} {B' s' m : Nat} {xs : List Value} (ho : w.ownsRow B' 3 s' u m xs) (hap : ∀ y ∈ ys, Apart y.val u) (hg : w.grownBy w' u.ownBlock) : Rws B A n c ys w' :=
  ⟨h.len, (own_type_apart h.row ho (by decide)).kept h.row hg, fun y hy => ⟨(h.own y hy).1, (hap y hy).kept (h.own y hy).2 hg⟩, h.apart⟩
theorem Rws.loc {B : Nat} {A : Option Addr} {n c : Nat} {ys : List Rw} {w : World} (h : Rws B A n c ys w) {u u1 : Value} {K : Nat} (hap : ∀ y ∈ ys, Apart y.val u) (hloc : u1.ownBlock = u.ownBlock ∨ u1.ownBlock = some K) (hK : w.heap.size ≤ K) : ∀ y ∈ ys, Apart y.val u1 :=
  fun y hy => apart_loc (hap y hy) (h.own y hy).2 hK hloc
theorem news_sl (A : Option Addr) (n c : Nat) : ∀ u ∈ [Value.slice A n c], u.oneCell' = true := by
  intro u hu; simp at hu; subst hu; rfl
theorem Tryd.inf_ss : (Tryd.prog.info? 29).map (fun i => (i.zero, i.size, i.bytes)) = some (some (.slice none 0 0), 1, 24) := by kernel_rfl
def Rtot (ys : List Rw) : Nat := (ys.map Rw.n).sum
theorem Rtot_snoc (ys : List Rw) (k : Nat) (h : k < ys.length) : Rtot (ys.take (k + 1)) = Rtot (ys.take k) + ys[k].n := by
  unfold Rtot; rw [List.take_succ_eq_append_getElem h, List.map_append, List.sum_append]; simp
theorem Rtot_all (ys : List Rw) (k : Nat) (h : ys.length ≤ k) : Rtot (ys.take k) = Rtot ys := by rw [List.take_of_length_le h]
theorem Rtot_le (ys : List Rw) (k : Nat) : Rtot (ys.take k) ≤ Rtot ys := by
  unfold Rtot
  have h : (ys.map Rw.n).sum = ((ys.take k).map Rw.n).sum + ((ys.drop k).map Rw.n).sum := by rw [← List.sum_append, ← List.map_append, List.take_append_drop]
  omega
theorem Rn_le {ys : List Rw} {y : Rw} (h : y ∈ ys) : y.n ≤ Rtot ys := by
  induction ys with
  | nil => simp at h
  | cons x xs ih =>
    have e : Rtot (x :: xs) = x.n + Rtot xs := by unfold Rtot; simp
    rcases List.mem_cons.1 h with rfl | h
    · omega
    · have := ih h; omega
theorem Rtot_zs {B : Nat} {A : Option Addr} {n c : Nat} {ys : List Rw} {w : World} (h : Rws B A n c ys w) {L : List (List Int)} (hL : ys.map Rw.zs = L) : Rtot ys = (L.map List.length).sum := by
  subst hL
  unfold Rtot
  rw [List.map_map]
  congr 1
  exact List.map_congr_left fun y hy => (h.own y hy).1

theorem marks_snoc (m j : Nat) : marks m (j + 1) = marks m j ++ [((m + j : Nat) : Int)] := by unfold marks; rw [List.range_succ, List.map_append]; rfl
set_option maxHeartbeats 1000000 in
theorem markIntsG (A : Option Addr) (n c k : Nat) (zs : List Int) (w : World) {B : Nat} (ho : w.ownsRow B 3 1 (.slice A n c) n (zs.map (Value.int .i64))) (hn : n ≤ 1048576) (hk : k ≤ 100000000) :
    Calls Tryd.prog 17 #[.slice A n c, .int .i64 k] w fun e w' => e = .returned (.int .i64 ((k : Int) + (n : Int))) ∧ Off (fun b => (Value.slice A n c).ownBlock = some b) w w' ∧ w'.ownsRow B 3 1 (.slice A n c) n ((marks k n).map (Value.int .i64)) := by
  have HO := Lib.hid ho
  have hzl : zs.length = n := by have := ho.1; simpa using this
  have HZL := Lib.hid hzl
  clear ho hzl
  go_enter Tryd.func17, Tryd.ntmps17
  go_wp2
  go_loopw [1, 5] (fun q i wr => ∃ j : Nat, j ≤ n ∧ i = .int .i64 j ∧ q = .int .i64 (k + j) ∧ Off (fun b => (Value.slice A n c).ownBlock = some b) w wr ∧ wr.ownsRow B 3 1 (.slice A n c) n ((marks k j ++ zs.drop j).map (Value.int .i64))) (fun _ i _ => n - (intOf i).toNat)
  case atStart => exact ⟨0, Nat.zero_le _, rfl, by simp, Off.refl _ _, by have h := HO.out; simpa [marks] using h⟩
  case round =>
    obtain ⟨j, hj, rfl, rfl, hoff, hown⟩ := hrel
    have HF := Lib.hid hoff; clear hoff
    by_cases hlt : j < n
    · have hjl : j < zs.length := by have := HZL.out; omega
      obtain ⟨g, rfl⟩ := own_some hown (by omega)
      have hold := hown.cellAt j (by omega)
      have hml := marks_len k j
      rw [List.getElem?_map, List.getElem?_append_right (by omega), hml, Nat.sub_self, List.getElem?_drop, Nat.add_zero, List.getElem?_eq_getElem hjl] at hold
      have hfz := hown.frozenAt j
      have hst := (hown.stored j (.int .i64 (k + j))).1
      have e : ((marks k j ++ zs.drop j).map (Value.int .i64)).set j (.int .i64 (k + j)) = (marks k (j + 1) ++ zs.drop (j + 1)).map (Value.int .i64) := by
        rw [List.drop_eq_getElem_cons hjl, List.map_append, List.map_cons, List.set_append_right _ _ (by simp [hml]), List.length_map, hml, Nat.sub_self, List.set_cons_zero, marks_snoc]
        simp
      rw [e] at hst
      have HST := Lib.hid hst
      obtain ⟨old, ho⟩ : ∃ v, zs[j]'hjl = v := ⟨_, rfl⟩
      rw [ho] at hold
      simp only [Option.map_some] at hold
      clear hown hst e hml ho
      go_wp2
      go_roundw
      case rel => exact ⟨j + 1, by omega, by go_num, by go_num, HF.out.set_ (p := ⟨g, j, none⟩) rfl _, HST.out⟩
      case measure => simp [intOf]; omega
    · have hjn : j = n := by omega
      subst hjn
      have e : marks k j ++ zs.drop j = marks k j := by rw [List.drop_of_length_le (by have := HZL.out; omega), List.append_nil]
      rw [e] at hown
      have HW := Lib.hid hown
      clear hlt hown e
      go_wp2
      go_ret
      exact ⟨rfl, HF.out, HW.out⟩
set_option maxHeartbeats 1000000 in
theorem heldIntsG (A : Option Addr) (n c k : Nat) (w : World) (hr : Rd w w.heap.size A ((marks k n).map (Value.int .i64))) (hn : n ≤ 1048576) (hk : k ≤ 100000000) :
    Calls Tryd.prog 18 #[.slice A n c, .int .i64 k] w fun e w' => e = .returned (.int .i64 ((k : Int) + (n : Int))) ∧ w = w' := by
  go_enter Tryd.func18, Tryd.ntmps18
  go_wp2
  go_loop [1, 5] (fun q i => ∃ j : Nat, j ≤ n ∧ i = .int .i64 j ∧ q = .int .i64 (k + j)) (fun _ i => n - (intOf i).toNat)
  case atStart => exact ⟨0, Nat.zero_le _, rfl, by simp⟩
  case round =>
    obtain ⟨j, hj, rfl, rfl⟩ := hrel
    by_cases hlt : j < n
    · obtain ⟨ad, rfl, _, hcell⟩ := hr j (.int .i64 (k + j)) (by rw [List.getElem?_map, marks_get k n j hlt]; simp)
      go_wp2
      go_round
      case rel => exact ⟨j + 1, by omega, by go_num, by go_num⟩
      case measure => simp [intOf]; omega
    · have hjn : j = n := by omega
      subst hjn
      clear hlt
      go_wp2
      go_ret
      exact ⟨rfl, rfl⟩
/-- the marks of row i. -/
def Rmk (ys : List Rw) (i : Nat) (B : Nat) (w : World) (y : Rw) : Prop := w.ownsRow B 3 1 (.slice y.A y.n y.c) y.n ((marks (1 + Rtot (ys.take i)) y.n).map (Value.int .i64))
structure RMk (B : Nat) (A : Option Addr) (n c : Nat) (ys : List Rw) (w : World) : Prop where
  len : ys.length = n
  row : w.ownsRow B 29 1 (.slice A n c) n (ys.map Rw.val)
  mks : ∀ i (h : i < ys.length), Rmk ys i B w ys[i]
theorem RMk.moved {B : Nat} {A : Option Addr} {n c : Nat} {ys : List Rw} {w w' : World} (h : RMk B A n c ys w) (hb : Below w.heap.size w w') : RMk B A n c ys w' := ⟨h.len, ownB h.row hb, fun i hi => ownB (h.mks i hi) hb⟩
theorem Rws.offB {S : Nat → Prop} {B : Nat} {A : Option Addr} {n c : Nat} {ys : List Rw} {w w' : World} (h : Rws B A n c ys w) (hoff : Off S w w') (hs : ∀ b, S b → b < B) : Rws B A n c ys w' :=
  ⟨h.len, own_off h.row hoff hs, fun y hy => ⟨(h.own y hy).1, own_off (h.own y hy).2 hoff hs⟩, h.apart⟩
/-- rows of ints and a word. -/
def RowsP (L : List (List Int)) (b : Bool) (w : World) (e : Ending) (w' : World) : Prop :=
  ∃ (A : Option Addr) (N c : Nat) (ys : List Rw), e = .returned (.tuple #[.slice A N c, .bool b]) ∧ Hid (ys.map Rw.zs = L) ∧ Rws w.heap.size A N c ys w' ∧ Below w.heap.size w w'
def RowsO (L : List (List Int)) (w : World) (e : Ending) (w' : World) : Prop :=
  ∃ (A : Option Addr) (N c : Nat) (ys : List Rw), e = .returned (.slice A N c) ∧ Hid (ys.map Rw.zs = L) ∧ Rws w.heap.size A N c ys w' ∧ Below w.heap.size w w'
theorem rows_no {L : List (List Int)} {b : Bool} {w w' : World} (h : L = [] ∧ b = false) (hb : Below w.heap.size w w') : RowsP L b w (.returned (.tuple #[.slice none 0 0, .bool false])) w' := by
  obtain ⟨rfl, rfl⟩ := h
  exact ⟨none, 0, 0, [], rfl, Lib.hid rfl, Rws.nil _ _, hb⟩
theorem rows_lit {L : List (List Int)} {b : Bool} {w w' : World} (h : L = [] ∧ b = false) (hb : Below w.heap.size w w') {g : Nat} (hg : w'.heap.size = g) : RowsP L b w (.returned (.tuple #[.slice (some ⟨g, 0, none⟩) 0 0, .bool false])) (w'.alloc (Obj.cells #[] 29)) := by
  obtain ⟨rfl, rfl⟩ := h
  subst hg
  exact ⟨_, 0, 0, [], rfl, Lib.hid rfl, Rws.lit _ _ hb.size, hb.alloc hb.size _⟩
end Go.Proofs.YtlgkjidginibdaaDoor
