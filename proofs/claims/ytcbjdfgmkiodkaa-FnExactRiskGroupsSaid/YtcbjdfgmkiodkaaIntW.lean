/- Words of our own for laws whose answer is a list of ints: marks written through whatever slice of the call's own; rows kept. No condition but those typed. -/
import Derived.Test.YtcbjdfgmkiodkaaAtI
namespace Go.Proofs.Ytcbjdfgmkiodkaa
open Go.ChangeShapes Go.WideShapes Go.ChangeAt Go.RowKit

theorem own_off {S : Nat → Prop} {w w' : World} {B E s n : Nat} {v : Value} {xs : List Value} (ho : w.ownsRow B E s v n xs) (h : Off S w w') (hs : ∀ b, S b → b < B) : w'.ownsRow B E s v n xs := by
  refine ⟨ho.1, ?_⟩
  rcases ho.2 with hn | ⟨g, cap, cur, e, hg, hh, rest⟩
  · exact .inl hn
  · exact .inr ⟨g, cap, cur, e, hg, (h.block g (Array.getElem?_eq_some_iff.1 hh).1 (fun x => by have := hs g x; omega)).trans hh, rest⟩
theorem rows_apart {w : World} {B B' E E' s s' n n' g g' c c' : Nat} {xs ys : List Value} (h : w.ownsRow B E s (.slice (some ⟨g, 0, none⟩) n c) n xs) (h' : w.ownsRow B' E' s' (.slice (some ⟨g', 0, none⟩) n' c') n' ys) (hE : E ≠ E') : g ≠ g' := by
  rintro rfl
  rcases h.2 with ⟨hn, _⟩ | ⟨g1, cap, cur, e, _, hh, _⟩
  · simp at hn
  · rcases h'.2 with ⟨hn, _⟩ | ⟨g2, cap', cur', e', _, hh', _⟩
    · simp at hn
    · injection e with e1; injection e1 with e1; injection e1 with e1
      injection e' with e2; injection e2 with e2; injection e2 with e2
      rw [← e1] at hh
      rw [← e2, hh] at hh'
      injection hh' with hh'
      injection hh' with _ ht
      exact hE ht
def blkOf (A : Option Addr) (b : Nat) : Prop := A.map Addr.block = some b
theorem markIntsA (A : Option Addr) (n c : Nat) (zs : List Int) (w : World) {B : Nat} (ho : w.ownsRow B 3 1 (.slice A n c) n (zs.map (Value.int .i64))) (hn : n ≤ 1048576) :
    Calls Try.prog 43 #[.slice A n c, .int .i64 1] w fun e w' => e = .returned (.int .i64 (1 + n)) ∧ Off (fun b => B ≤ b) w w' ∧ w'.ownsRow B 3 1 (.slice A n c) n ((marks 1 n).map (Value.int .i64)) := by
  rcases ho.2 with ⟨hv, h0⟩ | ⟨g, cap, cur, hv, hg, _⟩
  · injection hv with hA hN hC
    subst hA h0 hC
    refine (markInts_nil w).mono ?_
    rintro e w' ⟨rfl, rfl⟩
    exact ⟨rfl, Off.refl _ _, World.ownsRow_nil _ _ _ _⟩
  · injection hv with hA _ hC
    subst hA hC
    refine (markInts g n c zs w (own_base ho (Nat.zero_le _)) hn).mono ?_
    rintro e w' ⟨rfl, hoff, hown⟩
    refine ⟨rfl, hoff.wider (fun k h => by have h' : k = g := h; omega), ?_⟩
    refine ⟨hown.1, ?_⟩
    rcases hown.2 with hn' | ⟨g', cap', cur', e', _, rest⟩
    · exact .inl hn'
    · have e2 := e'
      injection e2 with e1; injection e1 with e1; injection e1 with e1
      exact .inr ⟨g', cap', cur', e', by omega, rest⟩
theorem atL_len (ss : List ByteArray) (fs : List Q4) (x : Int) : (atL ss fs x).length ≤ fs.length := by
  unfold atL; split
  · exact atK_len _ _ _
  · simp
end Go.Proofs.Ytcbjdfgmkiodkaa
