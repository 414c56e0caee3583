/- Words of our own: a network as an argument of a function of the program; validity's contracts over it. No condition but those typed. -/
import Derived.Test.YtcbjdfgmkiodkaaNetI
namespace Go.Proofs.Ytcbjdfgmkiodkaa
open Go.ChangeShapes Go.WideShapes Go.ChangeAt Go.RowKit

structure NetAt (g1 g2 n1 n2 c1 c2 : Nat) (ss : List ByteArray) (fs : List Q4) (w : World) : Prop where
  ln1 : ss.length = n1
  sm1 : n1 ≤ 1048576
  cap1 : n1 ≤ c1
  rd1 : Rd w w.heap.size (some ⟨g1, 0, none⟩) (ss.map Value.string)
  ws : ∀ s ∈ ss, s.size ≤ maxLen
  ln2 : fs.length = n2
  sm2 : n2 ≤ 1048576
  rd2 : Rd w w.heap.size (some ⟨g2, 0, none⟩) (fs.flatMap Q4.cells)
section
variable {g1 g2 n1 n2 c1 c2 : Nat} {ss : List ByteArray} {fs : List Q4} {w w' : World}
theorem NetAt.moved (h : NetAt g1 g2 n1 n2 c1 c2 ss fs w) (hb : Below w.heap.size w w') : NetAt g1 g2 n1 n2 c1 c2 ss fs w' :=
  ⟨h.ln1, h.sm1, h.cap1, h.rd1.moved hb, h.ws, h.ln2, h.sm2, h.rd2.moved hb⟩
theorem specNet_ (h : NetAt g1 g2 n1 n2 c1 c2 ss fs w) :
    Calls Try.prog 116 #[.agg #[.slice (some ⟨g1, 0, none⟩) n1 c1, .slice (some ⟨g2, 0, none⟩) n2 c2]] w (BoolP (pb (netP ss fs)) w) :=
  specNet g1 g2 n1 n2 c1 c2 ss fs w h.ln1 h.sm1 h.rd1 h.ws h.ln2 h.sm2 h.rd2
theorem implNet_ (h : NetAt g1 g2 n1 n2 c1 c2 ss fs w) :
    Calls Try.prog 120 #[.agg #[.slice (some ⟨g1, 0, none⟩) n1 c1, .slice (some ⟨g2, 0, none⟩) n2 c2]] w (BoolP (pb (netP ss fs)) w) :=
  implNet g1 g2 n1 n2 c1 c2 ss fs w h.ln1 h.sm1 h.cap1 h.rd1 h.ws h.ln2 h.sm2 h.rd2
theorem find_ (h : NetAt g1 g2 n1 n2 c1 c2 ss fs w) (s : ByteArray) :
    Calls Try.prog 208 #[.slice (some ⟨g1, 0, none⟩) n1 c1, .string s] w fun e w' => e = .returned (.int .i64 (findV ss s)) ∧ w = w' :=
  find_any (some ⟨g1, 0, none⟩) n1 c1 ss s w h.ln1 h.sm1 h.rd1
theorem idx_find (ss : List ByteArray) (s : ByteArray) : Lib.idxOfS ss s = findV ss s := by
  have e : ss.take ss.length = ss := List.take_of_length_le (Nat.le_refl _)
  cases hf : ss.findIdx? (fun x => x.toList == s.toList) with
  | none =>
    have hno : ∀ j (h : j < ss.length), ss[j].toList ≠ s.toList := by
      intro j h
      have := List.findIdx?_eq_none_iff.1 hf ss[j] (List.getElem_mem h)
      simpa using this
    rw [findV_no ss s hno]
    have := Lib.idxOfS_miss ss ss.length s (fun j hj he => hno j hj (by
      rw [List.getD_eq_getElem?_getD, List.getElem?_eq_getElem hj] at he
      have he' : ss[j] = s := he
      rw [he']))
    rw [e] at this; exact this
  | some k =>
    obtain ⟨hk, h1, h2⟩ := List.findIdx?_eq_some_iff_getElem.1 hf
    have hkk : ss[k].toList = s.toList := by simpa using h1
    have hno : ∀ j (h : j < ss.length), j < k → ss[j].toList ≠ s.toList := fun j h hj => by simpa using h2 j hj
    rw [findV_at ss s k hk hno hkk]
    have := Lib.idxOfS_hit ss ss.length k s hk (Nat.le_refl _) (by rw [List.getD_eq_getElem?_getD, List.getElem?_eq_getElem hk]; exact tl_inj hkk)
      (fun j hj he => hno j (by omega) hj (by
        rw [List.getD_eq_getElem?_getD, List.getElem?_eq_getElem (by omega)] at he
        have he' : ss[j] = s := he
        rw [he']))
    rw [e] at this; exact this
theorem index_ (h : NetAt g1 g2 n1 n2 c1 c2 ss fs w) (s : ByteArray) :
    Calls Try.prog 250 #[.slice (some ⟨g1, 0, none⟩) n1 c1, .string s] w fun e w' => e = .returned (.int .i64 (findV ss s)) ∧ w = w' := by
  have hrall : ∀ j, j < ss.length → w.cell? ⟨g1, 0 + j, none⟩ = some (.string (ss.getD j ByteArray.empty)) := by
    intro j hj
    obtain ⟨ad, e, _, hcell⟩ := h.rd1.got (k := j) (by simpa using hj)
    injection e with e; subst e
    have ea : (⟨g1, 0, none⟩ : Addr).add j = ⟨g1, j, none⟩ := by unfold Addr.add; by_cases h : j = 0 <;> simp [h]
    rw [ea, strGet ss j hj] at hcell
    rw [Nat.zero_add, hcell, List.getD_eq_getElem?_getD, List.getElem?_eq_getElem hj]; rfl
  have hs1 := h.sm1
  have hn1 := h.ln1
  refine (Try.slices_Index_string g1 0 n1 c1 ss s w (by omega) (by omega) hrall).mono ?_
  rintro e w' ⟨rfl, rfl⟩
  refine ⟨?_, rfl⟩
  rw [List.take_of_length_le (by omega), idx_find]
end
/-- one answer; nothing of what was there has changed. -/
def RetP (v : Value) (w : World) (e : Ending) (w' : World) : Prop := e = .returned v ∧ Below w.heap.size w w'
theorem retP {u v : Value} {w w' : World} (h : u = v) (hb : Below w.heap.size w w') : RetP v w (.returned u) w' := ⟨by rw [h], hb⟩
theorem findV_lo (ss : List ByteArray) (s : ByteArray) : -1 ≤ findV ss s := by unfold findV; split <;> omega
end Go.Proofs.Ytcbjdfgmkiodkaa
