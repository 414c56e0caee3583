/- Words of our own: a slice of bytes that the call owns, appended to and turned into a string. No program, no condition. -/
import Derived.Test.YtbfbkedndnekpaaDoorRd
import Derived.Lib.AppendStr
import Derived.Lib.IndexLaws
import Derived.Laws.IdiomStrings
namespace Go.Proofs.YtbfbkedndnekpaaDoor
open Go.ChangeShapes Go.WideShapes Go.ChangeAt Go.RowKit
open Go.Lib (strCells strCells_length)

theorem ownForm {w : World} {base : Nat} {e : TypeId} {size : Nat} {v : Value} {n : Nat} {xs : List Value} (h : w.ownsRow base e size v n xs) : ∃ A c, v = .slice A n c := by
  rcases h.2 with ⟨rfl, rfl⟩ | ⟨g, cap, cur, rfl, _⟩
  · exact ⟨none, 0, rfl⟩
  · exact ⟨_, _, rfl⟩
theorem strCells_app (a b : ByteArray) : strCells a ++ strCells b = strCells (a ++ b) := by
  unfold strCells; rw [← List.map_append, ByteArray.data_append, Array.toList_append]
/-- what is left of bytes that the call owns, as a string. -/
theorem run_str_own {P : Program} (w : World) {base : Nat} (src dst e : TypeId) (hs : P.underlying src = some (.slice e)) (he : P.underlying e = some (.int .u8)) (hd : P.underlying dst = some .string)
    {A : Option Addr} {c : Nat} {acc : ByteArray} (h : w.ownsRow base e 1 (.slice A acc.size c) acc.size (strCells acc)) :
    (convert src dst (.slice A acc.size c)).run P w = .ok (.string acc) w := by
  rcases A with _ | ad
  · rcases h.2 with ⟨hv, h0⟩ | ⟨g, cap, cur, hv, _⟩
    · simp only [Value.slice.injEq, true_and] at hv
      obtain ⟨_, rfl⟩ := hv
      have : acc = ByteArray.empty := by
        apply ByteArray.ext; apply Array.eq_empty_of_size_eq_zero; exact h0
      subst this
      rw [run_convert_bytes_string w src dst e none _ 0 hs he hd]
      unfold Conv.bytesToString
      simp [Sem.run_pure]
    · simp at hv
  · have hc := h.cells (g := ad.block) rfl
    have hform := h.2
    rcases hform with ⟨hv, _⟩ | ⟨g, cap, cur, hv, _⟩
    · simp at hv
    · simp only [Value.slice.injEq, Option.some.injEq] at hv
      obtain ⟨rfl, _, _⟩ := hv
      have hl : acc.data.toList.length = acc.size := Array.length_toList
      have := run_convert_bytes_back (P := P) w src dst e ⟨g, 0, none⟩ c acc.data.toList hs he hd (fun j hj => hc j _ (by unfold strCells; rw [List.getElem?_map, List.getElem?_eq_getElem hj]; rfl))
      rw [hl] at this
      rw [this]
end Go.Proofs.YtbfbkedndnekpaaDoor
