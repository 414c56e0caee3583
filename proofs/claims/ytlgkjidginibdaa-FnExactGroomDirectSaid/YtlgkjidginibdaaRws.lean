/- Rows of rows of ints of the call's own: kept, pushed, read; the law's helpers over them (compare, mark, held). No condition but those typed. -/
import Derived.Test.YtlgkjidginibdaaGB
namespace Go.Proofs.Ytlgkjidginibdaa
open Go.ChangeShapes Go.WideShapes Go.ChangeAt Go.RowKit

theorem own_type_apart {w : World} {B B' E E' s s' n n' : Nat} {v v' : Value} {xs ys : List Value} (h : w.ownsRow B E s v n xs) (h' : w.ownsRow B' E' s' v' n' ys) (hE : E ≠ E') : Apart v v' := by
  intro g hg hg'
  rcases h.2 with ⟨hv, _⟩ | ⟨g1, cap, cur, hv, _, hh, _⟩
  · rw [hv] at hg; simp [Value.ownBlock] at hg
  · rcases h'.2 with ⟨hv', _⟩ | ⟨g2, cap', cur', hv', _, hh', _⟩
    · rw [hv'] at hg'; simp [Value.ownBlock] at hg'
    · rw [hv] at hg
      rw [hv'] at hg'
      have e1 : g1 = g := by simpa [Value.ownBlock] using hg
      have e2 : g2 = g := by simpa [Value.ownBlock] using hg'
      subst e1; subst e2
      rw [hh] at hh'
      injection hh' with hh'
      injection hh' with _ ht
      exact hE ht
/-- a row of ints as it lies in memory. -/
structure Rw where
  A : Option Addr
  n : Nat
  c : Nat
  zs : List Int
def Rw.val (y : Rw) : Value := .slice y.A y.n y.c
def RwOwn (B : Nat) (w : World) (y : Rw) : Prop := y.n = y.zs.length ∧ w.ownsRow B 3 1 (.slice y.A y.n y.c) y.n (y.zs.map (Value.int .i64))
theorem RwOwn.base {B B' : Nat} {w : World} {y : Rw} (h : RwOwn B w y) (hB : B' ≤ B) : RwOwn B' w y := ⟨h.1, own_base h.2 hB⟩
theorem RwOwn.moved {B : Nat} {w w' : World} {y : Rw} (h : RwOwn B w y) (hb : Below w.heap.size w w') : RwOwn B w' y := ⟨h.1, ownB h.2 hb⟩
theorem RwOwn.rd {B : Nat} {w : World} {y : Rw} (h : RwOwn B w y) : Rd w w.heap.size y.A (y.zs.map (Value.int .i64)) := Rd.ofOwn h.2
theorem own_offV {S : Nat → Prop} {w w' : World} {B E s n : Nat} {v : Value} {xs : List Value} (ho : w.ownsRow B E s v n xs) (h : Off S w w') (hs : ∀ g, v.ownBlock = some g → ¬ S g) : w'.ownsRow B E s v n xs := by
  refine ⟨ho.1, ?_⟩
  rcases ho.2 with hn | ⟨g, cap, cur, e, hg, hh, rest⟩
  · exact .inl hn
  · exact .inr ⟨g, cap, cur, e, hg, (h.block g (Array.getElem?_eq_some_iff.1 hh).1 (hs g (by rw [e]; rfl))).trans hh, rest⟩
theorem RwOwn.off {S : Nat → Prop} {B : Nat} {w w' : World} {y : Rw} (h : RwOwn B w y) (hoff : Off S w w') (hs : ∀ g, y.val.ownBlock = some g → ¬ S g) : RwOwn B w' y := ⟨h.1, own_offV h.2 hoff hs⟩
/-- the rows, each in memory of its own, and the row of them. -/
structure Rws (B : Nat) (A : Option Addr) (n c : Nat) (ys : List Rw) (w : World) : Prop where
  len : ys.length = n
  row : w.ownsRow B 26 1 (.slice A n c) n (ys.map Rw.val)
  own : ∀ y ∈ ys, RwOwn B w y
  apart : ys.Pairwise fun y y' => Apart y.val y'.val
theorem Rws.nil (B : Nat) (w : World) : Rws B none 0 0 [] w := ⟨rfl, World.ownsRow_nil _ _ _ _, fun y hy => by simp at hy, List.Pairwise.nil⟩
theorem Rws.lit (B : Nat) (w : World) (hB : B ≤ w.heap.size) : Rws B (some ⟨w.heap.size, 0, none⟩) 0 0 [] (w.alloc (Obj.cells #[] 26)) :=
  ⟨rfl, World.ownsRow_lit (base := B) (e := 26) (size := 1) w #[] 0 hB (by unfold maxLen; omega) rfl, fun y hy => by simp at hy, List.Pairwise.nil⟩
theorem Rws.moved {B : Nat} {A : Option Addr} {n c : Nat} {ys : List Rw} {w w' : World} (h : Rws B A n c ys w) (hb : Below w.heap.size w w') : Rws B A n c ys w' := ⟨h.len, ownB h.row hb, fun y hy => (h.own y hy).moved hb, h.apart⟩
theorem Rws.base {B B' : Nat} {A : Option Addr} {n c : Nat} {ys : List Rw} {w : World} (h : Rws B A n c ys w) (hB : B' ≤ B) : Rws B' A n c ys w := ⟨h.len, own_base h.row hB, fun y hy => (h.own y hy).base hB, h.apart⟩
theorem Rws.heapW {B : Nat} {A : Option Addr} {n c : Nat} {ys : List Rw} {w w' : World} (h : Rws B A n c ys w) (e : w'.heap = w.heap) : Rws B A n c ys w' := ⟨h.len, own_heapW e h.row, fun y hy => ⟨(h.own y hy).1, own_heapW e (h.own y hy).2⟩, h.apart⟩
theorem Rws.alloc {B : Nat} {A : Option Addr} {n c : Nat} {ys : List Rw} {w : World} (h : Rws B A n c ys w) (o : Obj) : Rws B A n c ys (w.alloc o) := h.moved ((Below.refl _ _).alloc (Nat.le_refl _) o)
theorem Rws.rd {B : Nat} {A : Option Addr} {n c : Nat} {ys : List Rw} {w : World} (h : Rws B A n c ys w) : Rd w w.heap.size A (ys.map Rw.val) := Rd.ofOwn h.row
/-- the cell of row k, and what lies behind it. -/
theorem Rws.at_ {B : Nat} {A : Option Addr} {n c : Nat} {ys : List Rw} {w : World} (h : Rws B A n c ys w) {k : Nat} (hk : k < ys.length) {y : Rw} (hy : ys[k] = y) : ∃ g, A = some ⟨g, 0, none⟩ ∧ g < w.heap.size ∧ w.cell? ⟨g, k, none⟩ = some (.slice y.A y.n y.c) ∧ RwOwn B w y := by
  obtain ⟨g, rfl⟩ := own_some h.row (by have := h.len; omega)
  have h1 := h.row.cellAt k (by have := h.len; omega)
  rw [List.getElem?_map, List.getElem?_eq_getElem hk, hy] at h1
  exact ⟨g, rfl, (h.row.lt g rfl).2, h1, h.own y (by rw [← hy]; exact List.getElem_mem hk)⟩
theorem Rws.ap {B : Nat} {A : Option Addr} {n c : Nat} {ys : List Rw} {w : World} (h : Rws B A n c ys w) {y : Rw} (hy : RwOwn B w y) : Apart y.val (.slice A n c) := own_type_apart hy.2 h.row (by decide)
/-- a new row pushed. -/
theorem Rws.push {B : Nat} {A : Option Addr} {n c : Nat} {ys : List Rw} {w : World} (h : Rws B A n c ys w) {y : Rw} (hy : RwOwn B w y) (hap : ∀ x ∈ ys, Apart x.val y.val) {w' : World} {A2 : Option Addr} {n2 c2 : Nat} (hn2 : n2 = n + 1)
    (ho : w'.ownsRow B 26 1 (.slice A2 n2 c2) n2 (ys.map Rw.val ++ [y.val])) (hg : w.grownBy w' (Value.slice A n c).ownBlock) : Rws B A2 n2 c2 (ys ++ [y]) w' :=
  ⟨by rw [List.length_append, h.len, hn2]; rfl, by rw [List.map_append]; exact ho, fun x hx => by
    rcases List.mem_append.1 hx with hx | hx
    · exact ⟨(h.own x hx).1, (h.ap (h.own x hx)).kept (h.own x hx).2 hg⟩
    · rw [List.mem_singleton.1 hx]; exact ⟨hy.1, (h.ap hy).kept hy.2 hg⟩, List.pairwise_append.2 ⟨h.apart, List.pairwise_singleton _ _, fun x hx x' hx' => by rw [List.mem_singleton.1 hx']; exact hap x hx⟩⟩
/-- what was made later is apart. -/
theorem Rws.newer {B : Nat} {A : Option Addr} {n c : Nat} {ys : List Rw} {w w' : World} (h : Rws B A n c ys w) {B' : Nat} {y : Rw} (hy : RwOwn B' w' y) (hB : w.heap.size ≤ B') : ∀ x ∈ ys, Apart x.val y.val :=
  fun x hx => (apart_new (h.own x hx).2 hy.2 hB).symm
/-- kept where an int row apart grows. -/
theorem Rws.grown {B : Nat} {A : Option Addr} {n c : Nat} {ys : List Rw} {w w' : World} (h : Rws B A n c ys w) {u : Value} {B' s' m : Nat} {xs : List Value} (ho : w.ownsRow B' 3 s' u m xs) (hap : ∀ y ∈ ys, Apart y.val u) (hg : w.grownBy w' u.ownBlock) : Rws B A n c ys w' :=
  ⟨h.len, (own_type_apart h.row ho (by decide)).kept h.row hg, fun y hy => ⟨(h.own y hy).1, (hap y hy).kept (h.own y hy).2 hg⟩, h.apart⟩
theorem Rws.loc {B : Nat} {A : Option Addr} {n c : Nat} {ys : List Rw} {w : World} (h : Rws B A n c ys w) {u u1 : Value} {K : Nat} (hap : ∀ y ∈ ys, Apart y.val u) (hloc : u1.ownBlock = u.ownBlock ∨ u1.ownBlock = some K) (hK : w.heap.size ≤ K) : ∀ y ∈ ys, Apart y.val u1 :=
  fun y hy => apart_loc (hap y hy) (h.own y hy).2 hK hloc
theorem news_sl (A : Option Addr) (n c : Nat) : ∀ u ∈ [Value.slice A n c], u.oneCell' = true := by
  intro u hu; simp at hu; subst hu; rfl
theorem Try.inf_ss : (Try.prog.info? 26).map (fun i => (i.zero, i.size, i.bytes)) = some (some (.slice none 0 0), 1, 24) := by kernel_rfl
def Rtot (ys : List Rw) : Nat := (ys.map Rw.n).sum
theorem Rtot_snoc (ys : List Rw) (k : Nat) (h : k < ys.length) : Rtot (ys.take (k + 1)) = Rtot (ys.take k) + ys[k].n := by
  unfold Rtot; rw [List.take_succ_eq_append_getElem h, List.map_append, List.sum_append]; simp
theorem Rtot_all (ys : List Rw) (k : Nat) (h : ys.length ≤ k) : Rtot (ys.take k) = Rtot ys := by rw [List.take_of_length_le h]
theorem Rtot_le (ys : List Rw) (k : Nat) : Rtot (ys.take k) ≤ Rtot ys := by
  unfold Rtot
  have h : (ys.map Rw.n).sum = ((ys.take k).map Rw.n).sum + ((ys.drop k).map Rw.n).sum := by rw [← List.sum_append, ← List.map_append, List.take_append_drop]
  omega
theorem Rn_le {ys : List Rw} {y : Rw} (h : y ∈ ys) : y.n ≤ Rtot ys := by
  induction ys with
  | nil => simp at h
  | cons x xs ih =>
    have e : Rtot (x :: xs) = x.n + Rtot xs := by unfold Rtot; simp
    rcases List.mem_cons.1 h with rfl | h
    · omega
    · have := ih h; omega
theorem Rtot_zs {B : Nat} {A : Option Addr} {n c : Nat} {ys : List Rw} {w : World} (h : Rws B A n c ys w) {L : List (List Int)} (hL : ys.map Rw.zs = L) : Rtot ys = (L.map List.length).sum := by
  subst hL
  unfold Rtot
  rw [List.map_map]
  congr 1
  exact List.map_congr_left fun y hy => (h.own y hy).1

set_option maxRecDepth 100000 in
set_option maxHeartbeats 2000000 in
theorem eqRws {B B' : Nat} {A A' : Option Addr} {n c c' : Nat} {ys ys' : List Rw} (w : World) (h : Rws B A n c ys w) (h' : Rws B' A' n c' ys' w) (hd : ys.map Rw.zs = ys'.map Rw.zs) (hs : n ≤ 1048576) (ht : Rtot ys ≤ 1048576) :
    Calls Try.prog 51 #[.slice A n c, .slice A' n c'] w fun e w' => e = .returned (.bool true) ∧ Below w.heap.size w w' := by
  have H := Lib.hid h; have H' := Lib.hid h'; have HD := Lib.hid hd
  have HL := Lib.hid h.len
  clear h h' hd
  go_enter Try.func51, Try.ntmps51
  go_wp2
  go_loopw [5] (fun i wr => ∃ k : Nat, k ≤ n ∧ i = .int .i64 k ∧ Below w.heap.size w wr) (fun i _ => n - (intOf i).toNat)
  case atStart => exact ⟨0, Nat.zero_le _, rfl, Below.refl _ _⟩
  case round =>
    obtain ⟨k, hk, rfl, hb⟩ := hrel
    by_cases hlt : k < n
    case neg =>
      go_wp2
      go_ret
      exact ⟨rfl, hb⟩
    case pos =>
    have hk1 : k < ys.length := by have := HL.out; omega
    have hk2 : k < ys'.length := by have := H'.out.len; omega
    obtain ⟨y, hy⟩ : ∃ y, ys[k]'hk1 = y := ⟨_, rfl⟩
    obtain ⟨y', hy'⟩ : ∃ y, ys'[k]'hk2 = y := ⟨_, rfl⟩
    obtain ⟨g, rfl, hg, hc, ho⟩ := (H.out.moved hb).at_ hk1 hy
    obtain ⟨g', rfl, hg', hc', ho'⟩ := (H'.out.moved hb).at_ hk2 hy'
    have hz : y.zs = y'.zs := by
      have h9 := congrArg (fun l : List (List Int) => l[k]?) HD.out
      simp only [List.getElem?_map, List.getElem?_eq_getElem hk1, List.getElem?_eq_getElem hk2, hy, hy', Option.map_some] at h9
      injection h9
    have hyn := Nat.le_trans (Rn_le (ys := ys) (y := y) (by rw [← hy]; exact List.getElem_mem hk1)) ht
    obtain ⟨yA, yn, yc, zs⟩ := y
    obtain ⟨yA', yn', yc', zs'⟩ := y'
    obtain ⟨e1, o1⟩ := ho
    obtain ⟨e2, o2⟩ := ho'
    simp only at hz e1 e2 hyn hc hc' o1 o2
    subst hz
    obtain rfl : yn = yn' := e1.trans e2.symm
    have HB := Lib.hid hb
    have HZ1 := Lib.hid (Rd.ofOwn o1); have HZ2 := Lib.hid (Rd.ofOwn o2)
    have HZN := Lib.hid e1.symm
    clear hy hy' e1 e2 o1 o2
    go_wp2
    have hbd : Bel wr wr.drew := Bel.of (Below.refl _ _).drew
    go_region_held3 (fun U => U.cell? ⟨g, k, none⟩ = some (.slice yA yn yc) ∧ U.cell? ⟨g', k, none⟩ = some (.slice yA' yn yc') ∧ Bel wr U)
      (first | go_keep | (go_split_ands; (refine ⟨?_, ?_, ?_⟩ <;> first | assumption | exact Bel.step (by assumption) hb2 | exact (Bel.at_ (by assumption) hb2 (by assumption)).trans (by assumption))))
      (first | (go_at_call 62; go_split_ands; refine (eqInts yA yA' yn yc yc' zs _ HZN.out (HZ1.out.moved (Bel.out (by assumption))) (HZ2.out.moved (Bel.out (by assumption))) hyn).mono ?_; rintro e w2 ⟨rfl, hb2⟩))
    all_goals
      go_wp2
      go_roundw
      case rel => (go_split_ands; exact ⟨k + 1, by omega, by go_num, hb.trans ((Bel.out (by assumption)).mono hb.size)⟩)
      case measure => simp [intOf]; omega
theorem marks_snoc (m j : Nat) : marks m (j + 1) = marks m j ++ [((m + j : Nat) : Int)] := by unfold marks; rw [List.range_succ, List.map_append]; rfl
set_option maxHeartbeats 1000000 in
theorem markIntsG (A : Option Addr) (n c k : Nat) (zs : List Int) (w : World) {B : Nat} (ho : w.ownsRow B 3 1 (.slice A n c) n (zs.map (Value.int .i64))) (hn : n ≤ 1048576) (hk : k ≤ 100000000) :
    Calls Try.prog 65 #[.slice A n c, .int .i64 k] w fun e w' => e = .returned (.int .i64 ((k : Int) + (n : Int))) ∧ Off (fun b => (Value.slice A n c).ownBlock = some b) w w' ∧ w'.ownsRow B 3 1 (.slice A n c) n ((marks k n).map (Value.int .i64)) := by
  have HO := Lib.hid ho
  have hzl : zs.length = n := by have := ho.1; simpa using this
  have HZL := Lib.hid hzl
  clear ho hzl
  go_enter Try.func65, Try.ntmps65
  go_wp2
  go_loopw [1, 5] (fun q i wr => ∃ j : Nat, j ≤ n ∧ i = .int .i64 j ∧ q = .int .i64 (k + j) ∧ Off (fun b => (Value.slice A n c).ownBlock = some b) w wr ∧ wr.ownsRow B 3 1 (.slice A n c) n ((marks k j ++ zs.drop j).map (Value.int .i64))) (fun _ i _ => n - (intOf i).toNat)
  case atStart => exact ⟨0, Nat.zero_le _, rfl, by simp, Off.refl _ _, by have h := HO.out; simpa [marks] using h⟩
  case round =>
    obtain ⟨j, hj, rfl, rfl, hoff, hown⟩ := hrel
    have HF := Lib.hid hoff; clear hoff
    by_cases hlt : j < n
    · have hjl : j < zs.length := by have := HZL.out; omega
      obtain ⟨g, rfl⟩ := own_some hown (by omega)
      have hold := hown.cellAt j (by omega)
      have hml := marks_len k j
      rw [List.getElem?_map, List.getElem?_append_right (by omega), hml, Nat.sub_self, List.getElem?_drop, Nat.add_zero, List.getElem?_eq_getElem hjl] at hold
      have hfz := hown.frozenAt j
      have hst := (hown.stored j (.int .i64 (k + j))).1
      have e : ((marks k j ++ zs.drop j).map (Value.int .i64)).set j (.int .i64 (k + j)) = (marks k (j + 1) ++ zs.drop (j + 1)).map (Value.int .i64) := by
        rw [List.drop_eq_getElem_cons hjl, List.map_append, List.map_cons, List.set_append_right _ _ (by simp [hml]), List.length_map, hml, Nat.sub_self, List.set_cons_zero, marks_snoc]
        simp
      rw [e] at hst
      have HST := Lib.hid hst
      obtain ⟨old, ho⟩ : ∃ v, zs[j]'hjl = v := ⟨_, rfl⟩
      rw [ho] at hold
      simp only [Option.map_some] at hold
      clear hown hst e hml ho
      go_wp2
      go_roundw
      case rel => exact ⟨j + 1, by omega, by go_num, by go_num, HF.out.set_ (p := ⟨g, j, none⟩) rfl _, HST.out⟩
      case measure => simp [intOf]; omega
    · have hjn : j = n := by omega
      subst hjn
      have e : marks k j ++ zs.drop j = marks k j := by rw [List.drop_of_length_le (by have := HZL.out; omega), List.append_nil]
      rw [e] at hown
      have HW := Lib.hid hown
      clear hlt hown e
      go_wp2
      go_ret
      exact ⟨rfl, HF.out, HW.out⟩
set_option maxHeartbeats 1000000 in
theorem heldIntsG (A : Option Addr) (n c k : Nat) (w : World) (hr : Rd w w.heap.size A ((marks k n).map (Value.int .i64))) (hn : n ≤ 1048576) (hk : k ≤ 100000000) :
    Calls Try.prog 66 #[.slice A n c, .int .i64 k] w fun e w' => e = .returned (.int .i64 ((k : Int) + (n : Int))) ∧ w = w' := by
  go_enter Try.func66, Try.ntmps66
  go_wp2
  go_loop [1, 5] (fun q i => ∃ j : Nat, j ≤ n ∧ i = .int .i64 j ∧ q = .int .i64 (k + j)) (fun _ i => n - (intOf i).toNat)
  case atStart => exact ⟨0, Nat.zero_le _, rfl, by simp⟩
  case round =>
    obtain ⟨j, hj, rfl, rfl⟩ := hrel
    by_cases hlt : j < n
    · obtain ⟨ad, rfl, _, hcell⟩ := hr j (.int .i64 (k + j)) (by rw [List.getElem?_map, marks_get k n j hlt]; simp)
      go_wp2
      go_round
      case rel => exact ⟨j + 1, by omega, by go_num, by go_num⟩
      case measure => simp [intOf]; omega
    · have hjn : j = n := by omega
      subst hjn
      clear hlt
      go_wp2
      go_ret
      exact ⟨rfl, rfl⟩
/-- the marks of row i. -/
def Rmk (ys : List Rw) (i : Nat) (B : Nat) (w : World) (y : Rw) : Prop := w.ownsRow B 3 1 (.slice y.A y.n y.c) y.n ((marks (1 + Rtot (ys.take i)) y.n).map (Value.int .i64))
structure RMk (B : Nat) (A : Option Addr) (n c : Nat) (ys : List Rw) (w : World) : Prop where
  len : ys.length = n
  row : w.ownsRow B 26 1 (.slice A n c) n (ys.map Rw.val)
  mks : ∀ i (h : i < ys.length), Rmk ys i B w ys[i]
theorem RMk.moved {B : Nat} {A : Option Addr} {n c : Nat} {ys : List Rw} {w w' : World} (h : RMk B A n c ys w) (hb : Below w.heap.size w w') : RMk B A n c ys w' := ⟨h.len, ownB h.row hb, fun i hi => ownB (h.mks i hi) hb⟩
theorem Rws.offB {S : Nat → Prop} {B : Nat} {A : Option Addr} {n c : Nat} {ys : List Rw} {w w' : World} (h : Rws B A n c ys w) (hoff : Off S w w') (hs : ∀ b, S b → b < B) : Rws B A n c ys w' :=
  ⟨h.len, own_off h.row hoff hs, fun y hy => ⟨(h.own y hy).1, own_off (h.own y hy).2 hoff hs⟩, h.apart⟩
set_option maxRecDepth 100000 in
set_option maxHeartbeats 2000000 in
theorem markRws {B : Nat} {A : Option Addr} {n c : Nat} {ys : List Rw} (w : World) (h : Rws B A n c ys w) (hs : n ≤ 1048576) (ht : Rtot ys ≤ 1048576) :
    Calls Try.prog 54 #[.slice A n c, .int .i64 1] w fun e w' => e = .returned (.int .i64 (1 + (Rtot ys : Int))) ∧ Off (fun b => B ≤ b) w w' ∧ RMk B A n c ys w' := by
  have H := Lib.hid h
  have HL := Lib.hid h.len
  have HS0 : Hid (∀ i (hi : i < ys.length), 0 ≤ i → RwOwn B w ys[i]) := Lib.hid (fun i hi _ => h.own _ (List.getElem_mem hi))
  clear h
  go_enter Try.func54, Try.ntmps54
  go_wp2
  go_loopw [1, 5] (fun q i wr => ∃ j v : Nat, j ≤ n ∧ i = .int .i64 j ∧ q = .int .i64 v ∧ v ≤ 1048577 ∧ Hid (v = 1 + Rtot (ys.take j)) ∧ Off (fun b => B ≤ b) w wr ∧ Hid (wr.ownsRow B 26 1 (.slice A n c) n (ys.map Rw.val)) ∧ Hid (∀ i (hi : i < ys.length), i < j → Rmk ys i B wr ys[i]) ∧ Hid (∀ i (hi : i < ys.length), j ≤ i → RwOwn B wr ys[i])) (fun _ i _ => n - (intOf i).toNat)
  case atStart => exact ⟨0, 1, Nat.zero_le _, rfl, rfl, by omega, Lib.hid rfl, Off.refl _ _, Lib.hid H.out.row, Lib.hid (fun i hi h => by omega), HS0⟩
  case round =>
    obtain ⟨j, v, hj, rfl, rfl, hv, HV, hoff, HR, HM, HU⟩ := hrel
    have HF := Lib.hid hoff; clear hoff
    by_cases hlt : j < n
    case neg =>
      have HE : Hid (v = 1 + Rtot ys) := Lib.hid (by rw [HV.out, Rtot_all ys j (by have := HL.out; omega)])
      have HN : Hid (∀ i (h : i < ys.length), Rmk ys i B wr ys[i]) := Lib.hid (fun i hi => HM.out i hi (by have := HL.out; omega))
      go_wp2
      go_ret
      exact ⟨reti (by have := HE.out; omega), HF.out, HL.out, HR.out, HN.out⟩
    case pos =>
    have hjl : j < ys.length := by have := HL.out; omega
    obtain ⟨y, hy⟩ : ∃ y, ys[j]'hjl = y := ⟨_, rfl⟩
    have hoy := HU.out j hjl (Nat.le_refl _)
    rw [hy] at hoy
    obtain ⟨g, hA⟩ := own_some HR.out (by omega)
    subst hA
    have hc := HR.out.cellAt j (by omega)
    rw [List.getElem?_map, List.getElem?_eq_getElem hjl, hy] at hc
    have hyn := Nat.le_trans (Rn_le (ys := ys) (y := y) (by rw [← hy]; exact List.getElem_mem hjl)) ht
    have HTS := Lib.hid (Rtot_snoc ys j hjl)
    have HTL := Lib.hid (Rtot_le ys (j + 1))
    have HAP : Hid (∀ i (hi : i < ys.length), i ≠ j → Apart ys[i].val y.val) := Lib.hid (fun i hi hne => by
      rw [← hy]
      rcases Nat.lt_or_gt_of_ne hne with h | h
      · exact List.pairwise_iff_getElem.1 H.out.apart i j hi hjl h
      · exact (List.pairwise_iff_getElem.1 H.out.apart j i hjl hi h).symm)
    have HAR := Lib.hid (own_type_apart HR.out hoy.2 (by decide))
    have HY := Lib.hid hy
    obtain ⟨yA, yn, yc, zs⟩ := y
    have HO := Lib.hid hoy.2
    have hc2 : wr.cell? ⟨g, j, none⟩ = some (.slice yA yn yc) := hc
    have hyn2 : yn ≤ 1048576 := hyn
    clear hy hc hoy hyn
    have CM := Lib.hid (markIntsG yA yn yc v zs wr HO.out hyn2 (by omega))
    obtain ⟨u, hu⟩ : ∃ u, v + yn = u := ⟨_, rfl⟩
    have e9 : ((v : Int) + (yn : Int)) = (u : Int) := by omega
    rw [e9] at CM
    have HUU := Lib.hid hu
    clear e9 hu
    go_wp2_with fail
    refine CM.out.mono ?_
    rintro e w2 ⟨rfl, hoff, hown⟩
    have HR2 := Lib.hid (own_offV HR.out hoff (fun q h1 h2 => HAR.out q h1 h2))
    have HU2 : Hid (∀ i (hi : i < ys.length), j + 1 ≤ i → RwOwn B w2 ys[i]) := Lib.hid (fun i hi h => (HU.out i hi (by omega)).off hoff (fun q h1 h2 => HAP.out i hi (by omega) q h1 h2))
    have HM2 : Hid (∀ i (hi : i < ys.length), i < j + 1 → Rmk ys i B w2 ys[i]) := Lib.hid (fun i hi h => by
      rcases Nat.lt_or_ge i j with h1 | h1
      · exact own_offV (HM.out i hi h1) hoff (fun q h1 h2 => HAP.out i hi (by omega) q h1 h2)
      · obtain rfl : i = j := by omega
        unfold Rmk
        rw [HY.out, ← HV.out]
        exact hown)
    have HF2 := Lib.hid (HF.out.trans (hoff.wider (fun q hq => (HO.out.lt q hq).1)))
    have hv2 : u = 1 + Rtot (ys.take (j + 1)) := by have h0 := HUU.out; have h1 := HTS.out; have h2 := HV.out; rw [HY.out] at h1; simp only at h1; omega
    have hv3 : u ≤ 1048577 := by have := HTL.out; omega
    have HV2 := Lib.hid hv2
    clear hoff hown hc2 hv2
    go_wp2
    go_roundw
    case rel => exact ⟨j + 1, u, by omega, by go_num, rfl, hv3, HV2, HF2.out, HR2, HM2, HU2⟩
    case measure => simp [intOf]; omega
set_option maxRecDepth 100000 in
set_option maxHeartbeats 2000000 in
theorem heldRws {B : Nat} {A : Option Addr} {n c : Nat} {ys : List Rw} (w : World) (h : RMk B A n c ys w) (hs : n ≤ 1048576) (ht : Rtot ys ≤ 1048576) :
    Calls Try.prog 55 #[.slice A n c, .int .i64 1] w fun e w' => e = .returned (.int .i64 (1 + (Rtot ys : Int))) ∧ w = w' := by
  have H := Lib.hid h
  have HL := Lib.hid h.len
  clear h
  go_enter Try.func55, Try.ntmps55
  go_wp2
  go_loop [1, 5] (fun q i => ∃ j v : Nat, j ≤ n ∧ i = .int .i64 j ∧ q = .int .i64 v ∧ v ≤ 1048577 ∧ Hid (v = 1 + Rtot (ys.take j))) (fun _ i => n - (intOf i).toNat)
  case atStart => exact ⟨0, 1, Nat.zero_le _, rfl, rfl, by omega, Lib.hid rfl⟩
  case round =>
    obtain ⟨j, v, hj, rfl, rfl, hv, HV⟩ := hrel
    by_cases hlt : j < n
    case neg =>
      have HE : Hid (v = 1 + Rtot ys) := Lib.hid (by rw [HV.out, Rtot_all ys j (by have := HL.out; omega)])
      go_wp2
      go_ret
      exact ⟨reti (by have := HE.out; omega), rfl⟩
    case pos =>
    have hjl : j < ys.length := by have := HL.out; omega
    obtain ⟨y, hy⟩ : ∃ y, ys[j]'hjl = y := ⟨_, rfl⟩
    have hm := H.out.mks j hjl
    obtain ⟨g, hA⟩ := own_some H.out.row (by omega)
    subst hA
    have hc := H.out.row.cellAt j (by omega)
    rw [List.getElem?_map, List.getElem?_eq_getElem hjl, hy] at hc
    have hyn := Nat.le_trans (Rn_le (ys := ys) (y := y) (by rw [← hy]; exact List.getElem_mem hjl)) ht
    have hts := Rtot_snoc ys j hjl
    have htl := Rtot_le ys (j + 1)
    unfold Rmk at hm
    rw [← HV.out] at hm
    rw [hy] at hm hts
    obtain ⟨yA, yn, yc, zs⟩ := y
    have hc2 : w.cell? ⟨g, j, none⟩ = some (.slice yA yn yc) := hc
    have hyn2 : yn ≤ 1048576 := hyn
    simp only at hts hm
    have HM := Lib.hid (Rd.ofOwn hm)
    have hv2 : v + yn = 1 + Rtot (ys.take (j + 1)) := by have h2 := HV.out; omega
    have hv3 : v + yn ≤ 1048577 := by omega
    have HV2 := Lib.hid hv2
    have CH := Lib.hid (heldIntsG yA yn yc v w HM.out hyn2 (by omega))
    obtain ⟨u, hu⟩ : ∃ u, v + yn = u := ⟨_, rfl⟩
    have e9 : ((v : Int) + (yn : Int)) = (u : Int) := by omega
    rw [e9] at CH
    rw [hu] at HV2 hv3
    have hng : decide ((u : Int) < 0) = false := decide_eq_false (by omega)
    clear hy hc hm hts htl hv2 hyn hjl hu e9
    go_wp2_with fail
    refine CH.out.mono ?_
    rintro e w2 ⟨rfl, rfl⟩
    go_wp2
    go_round
    case rel => exact ⟨j + 1, u, by omega, by go_num, rfl, hv3, HV2⟩
    case measure => simp [intOf]; omega
/-- rows of ints and a word. -/
def RowsP (L : List (List Int)) (b : Bool) (w : World) (e : Ending) (w' : World) : Prop :=
  ∃ (A : Option Addr) (N c : Nat) (ys : List Rw), e = .returned (.tuple #[.slice A N c, .bool b]) ∧ Hid (ys.map Rw.zs = L) ∧ Rws w.heap.size A N c ys w' ∧ Below w.heap.size w w'
def RowsO (L : List (List Int)) (w : World) (e : Ending) (w' : World) : Prop :=
  ∃ (A : Option Addr) (N c : Nat) (ys : List Rw), e = .returned (.slice A N c) ∧ Hid (ys.map Rw.zs = L) ∧ Rws w.heap.size A N c ys w' ∧ Below w.heap.size w w'
theorem rows_no {L : List (List Int)} {b : Bool} {w w' : World} (h : L = [] ∧ b = false) (hb : Below w.heap.size w w') : RowsP L b w (.returned (.tuple #[.slice none 0 0, .bool false])) w' := by
  obtain ⟨rfl, rfl⟩ := h
  exact ⟨none, 0, 0, [], rfl, Lib.hid rfl, Rws.nil _ _, hb⟩
theorem rows_lit {L : List (List Int)} {b : Bool} {w w' : World} (h : L = [] ∧ b = false) (hb : Below w.heap.size w w') {g : Nat} (hg : w'.heap.size = g) : RowsP L b w (.returned (.tuple #[.slice (some ⟨g, 0, none⟩) 0 0, .bool false])) (w'.alloc (Obj.cells #[] 26)) := by
  obtain ⟨rfl, rfl⟩ := h
  subst hg
  exact ⟨_, 0, 0, [], rfl, Lib.hid rfl, Rws.lit _ _ hb.size, hb.alloc hb.size _⟩
end Go.Proofs.Ytlgkjidginibdaa
