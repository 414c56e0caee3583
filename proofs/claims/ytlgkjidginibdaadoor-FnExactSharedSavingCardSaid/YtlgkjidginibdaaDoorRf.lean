/- Fibers removed from a network: contracts of RemoveFibers, both sides. No condition but those typed. -/
import Derived.Test.YtlgkjidginibdaaDoorL2Own
import Derived.Test.YtlgkjidginibdaaDoorFb
import Derived.Test.YtlgkjidginibdaaDoorNtA
import Derived.Test.YtlgkjidginibdaaDoorGB
namespace Go.Proofs.YtlgkjidginibdaaDoor
open Go.ChangeShapes Go.WideShapes Go.ChangeAt Go.RowKit

def rfK (gone : List Int) (k : Nat) : List Nat := (List.range k).filter fun i => !decide ((i : Int) ∈ gone)
def rfF (fs : List Q4) (gone : List Int) (k : Nat) : List Q4 := (rfK gone k).map fun i => fs.getD i ⟨0, 0, 0, 0⟩
def rfO (gone : List Int) (k : Nat) : List Int := (rfK gone k).map fun i => ((i : Nat) : Int)
theorem rfK_yes {gone : List Int} {k : Nat} (h : ¬ (k : Int) ∈ gone) : rfK gone (k + 1) = rfK gone k ++ [k] := by
  unfold rfK; rw [List.range_succ, List.filter_append]; simp [h]
theorem rfK_no {gone : List Int} {k : Nat} (h : (k : Int) ∈ gone) : rfK gone (k + 1) = rfK gone k := by
  unfold rfK; rw [List.range_succ, List.filter_append]; simp [h]
theorem rfK_len (gone : List Int) (k : Nat) : (rfK gone k).length ≤ k := Nat.le_trans (List.length_filter_le _ _) (by rw [List.length_range]; exact Nat.le_refl _)
theorem rfF_yes {fs : List Q4} {gone : List Int} {k : Nat} (hk : k < fs.length) {q : Q4} (hq : fs[k] = q) (h : ¬ (k : Int) ∈ gone) : rfF fs gone (k + 1) = rfF fs gone k ++ [q] := by
  unfold rfF; rw [rfK_yes h, List.map_append]
  simp [List.getElem?_eq_getElem hk, hq]
theorem rfF_no {fs : List Q4} {gone : List Int} {k : Nat} (h : (k : Int) ∈ gone) : rfF fs gone (k + 1) = rfF fs gone k := by unfold rfF; rw [rfK_no h]
theorem rfO_yes {gone : List Int} {k : Nat} (h : ¬ (k : Int) ∈ gone) : rfO gone (k + 1) = rfO gone k ++ [(k : Int)] := by unfold rfO; rw [rfK_yes h, List.map_append]; rfl
theorem rfO_no {gone : List Int} {k : Nat} (h : (k : Int) ∈ gone) : rfO gone (k + 1) = rfO gone k := by unfold rfO; rw [rfK_no h]
theorem rfF_len (fs : List Q4) (gone : List Int) (k : Nat) : (rfF fs gone k).length = (rfK gone k).length := by unfold rfF; rw [List.length_map]
theorem rfO_len (gone : List Int) (k : Nat) : (rfO gone k).length = (rfK gone k).length := by unfold rfO; rw [List.length_map]
def rfP (ss : List ByteArray) (fs : List Q4) (gone : List Int) : Prop := netP ss fs ∧ risB gone fs.length = true
noncomputable def rfLS (ss : List ByteArray) (fs : List Q4) (gone : List Int) : List ByteArray := if pb (rfP ss fs gone) then ss else []
noncomputable def rfLF (ss : List ByteArray) (fs : List Q4) (gone : List Int) : List Q4 := if pb (rfP ss fs gone) then rfF fs gone fs.length else []
noncomputable def rfLO (ss : List ByteArray) (fs : List Q4) (gone : List Int) : List Int := if pb (rfP ss fs gone) then rfO gone fs.length else []
theorem rf_no {ss : List ByteArray} {fs : List Q4} {gone : List Int} (h : ¬ rfP ss fs gone) : rfLS ss fs gone = [] ∧ rfLF ss fs gone = [] ∧ rfLO ss fs gone = [] ∧ pb (rfP ss fs gone) = false := by
  have e := pb_false h
  unfold rfLS rfLF rfLO; rw [e]; exact ⟨rfl, rfl, rfl, rfl⟩
theorem rf_yes {ss : List ByteArray} {fs : List Q4} {gone : List Int} (h : rfP ss fs gone) : rfLS ss fs gone = ss ∧ rfLF ss fs gone = rfF fs gone fs.length ∧ rfLO ss fs gone = rfO gone fs.length ∧ pb (rfP ss fs gone) = true := by
  have e := pb_true h
  unfold rfLS rfLF rfLO; rw [e]; exact ⟨rfl, rfl, rfl, rfl⟩
theorem rfL_len (ss : List ByteArray) (fs : List Q4) (gone : List Int) : (rfLS ss fs gone).length ≤ ss.length ∧ (rfLF ss fs gone).length ≤ fs.length ∧ (rfLO ss fs gone).length ≤ fs.length := by
  unfold rfLS rfLF rfLO
  split
  · exact ⟨Nat.le_refl _, by rw [rfF_len]; exact rfK_len _ _, by rw [rfO_len]; exact rfK_len _ _⟩
  · simp
/-- an answer: a network, a list of ints and a word. -/
def NtO (ss : List ByteArray) (fs : List Q4) (os : List Int) (b : Bool) (w : World) (e : Ending) (w' : World) : Prop :=
  ∃ (A1 A2 A3 : Option Addr) (N1 N2 N3 d1 d2 d3 : Nat), e = .returned (.tuple #[.agg #[.slice A1 N1 d1, .slice A2 N2 d2], .slice A3 N3 d3, .bool b]) ∧ Hid (N1 = ss.length) ∧ Hid (N2 = fs.length) ∧ Hid (N3 = os.length) ∧
    w'.ownsRow w.heap.size 9 1 (.slice A1 N1 d1) N1 (ss.map Value.string) ∧ w'.ownsRow w.heap.size 97 4 (.slice A2 N2 d2) N2 (fs.flatMap Q4.cells) ∧ w'.ownsRow w.heap.size 3 1 (.slice A3 N3 d3) N3 (os.map (Value.int .i64)) ∧ Below w.heap.size w w'
theorem one_rowN (w : World) (a b : Value) {base : Nat} (hb : base ≤ w.heap.size) : (w.alloc (.cells #[a, b] 34)).ownsRow base 34 2 (.slice (some ⟨w.heap.size, 0, none⟩) 1 1) 1 [a, b] := by
  have := World.ownsRow_lit (base := base) (e := 34) (size := 2) w #[a, b] 1 hb (by unfold maxLen; omega) rfl
  simpa using this
theorem new_four (W : World) (E : TypeId) (a b c d : Value) (g : Nat) (hg : W.heap.size = g) : ∀ (j : Nat) (u : Value), [a, b, c, d][j]? = some u → (W.alloc (.cells #[a, b, c, d] E)).cell? ⟨g, j, none⟩ = some u := by
  subst hg
  intro j u hu
  match j, hu with
  | 0, hu => simp at hu; subst hu; simp [go_sem]
  | 1, hu => simp at hu; subst hu; simp [go_sem]
  | 2, hu => simp at hu; subst hu; simp [go_sem]
  | 3, hu => simp at hu; subst hu; simp [go_sem]
theorem new_fourA (W : World) (E : TypeId) (a b c d : Value) (g : Nat) (hg : W.heap.size = g) : ∀ (j : Nat) (u : Value), [a, b, c, d][j]? = some u → (W.alloc (.cells #[a, b, c, d] E)).cell? ((⟨g, 0, none⟩ : Addr).add j) = some u := by
  intro j u hu
  have e0 : (⟨g, 0, none⟩ : Addr).add j = ⟨g, j, none⟩ := by unfold Addr.add; split <;> simp_all
  rw [e0]; exact new_four W E a b c d g hg j u hu
theorem four_one (q : Q4) : ∀ u ∈ q.cells, u.oneCell' = true := by
  intro u hu
  simp only [Q4.cells, List.mem_cons, List.not_mem_nil, or_false] at hu
  rcases hu with rfl | rfl | rfl | rfl <;> rfl
theorem own_heapA {w w' : World} {B E s n : Nat} {v : Value} {xs : List Value} (h : w.ownsRow B E s v n xs) (e : w'.heap = w.heap) (o : Obj) : (w'.alloc o).ownsRow B E s v n xs := (own_heapW e h).alloc o
theorem new_fourB {W' W : World} {E : TypeId} {a b c d : Value} {g : Nat} (e : W'.heap = (W.alloc (.cells #[a, b, c, d] E)).heap) (hg : W.heap.size = g) : ∀ (j : Nat) (u : Value), [a, b, c, d][j]? = some u → W'.cell? ((⟨g, 0, none⟩ : Addr).add j) = some u := by
  intro j u hu
  rw [← new_fourA W E a b c d g hg j u hu]
  exact World.cell?_of_block (by rw [e])
theorem cells_snoc (xs : List Q4) (q : Q4) : (xs ++ [q]).flatMap Q4.cells = xs.flatMap Q4.cells ++ q.cells := by rw [List.flatMap_append]; simp
theorem madeS (n : Nat) : (madeCells #[Value.string ByteArray.empty] n).toList = List.replicate n (Value.string ByteArray.empty) := by
  apply List.ext_getElem?
  intro j
  by_cases hj : j < n
  · simp [madeCells, hj, Nat.mod_one]
  · simp [madeCells, hj]
def strF (ss : List ByteArray) (k n : Nat) : List Value := (ss.take k).map Value.string ++ List.replicate (n - k) (.string ByteArray.empty)
theorem strF_set {ss : List ByteArray} {k n : Nat} (hn : ss.length = n) (hk : k < n) {s : ByteArray} (hs : ss[k]'(by omega) = s) : (strF ss k n).set k (.string s) = strF ss (k + 1) n := by
  have hp : ((ss.take k).map Value.string).length = k := by rw [List.length_map, List.length_take]; omega
  have e : n - k = (n - (k + 1)) + 1 := by omega
  unfold strF
  rw [set_pre0 _ _ _ _ hp, e, List.replicate_succ, List.set_cons_zero, List.take_succ_eq_append_getElem (by omega), hs, List.map_append, List.append_assoc]; rfl
end Go.Proofs.YtlgkjidginibdaaDoor
