/- Words of our own: a region that draws its order and whose callees make memory, walked once in the order of the text: the class of the worlds that keep all that was there. No condition. -/
import Derived.Test.YtcbjdfgmkiodkaaFill
import Derived.Deep.QuietTactic
import Derived.BigQuiet
namespace Go.Proofs.Ytcbjdfgmkiodkaa
open Go.RowKit

theorem wp_region_class {P : Program} {T : Type} (f : T → World) {id : Nat} {Q : Exit → Act → World → Prop} {a : Act} {w : World} {l : List Oper} (hm : P.follows .mixedOrders = true) (hB : Region.lexB .any l.toArray = true) (x0 : T) (hx0 : f x0 = w.drew)
    (h : wpQuiet P l.toArray (fun w' => ∃ x, w' = f x) (fun a' => ∀ w', (∃ x, w' = f x) → Q .normal a' w') l a) : (Code.region id l.toArray true).wp P Q a w :=
  wp_region_quiet (C := fun w' => ∃ x, w' = f x) hm hB ⟨x0, hx0.symm⟩ (by simpa using h)

/-- the worlds that keep what wr held. -/
theorem above (wr : World) : ∃ (T : Type) (f : T → World) (x0 : T), f x0 = wr.drew ∧ (∀ x, Below wr.heap.size wr (f x)) ∧ Hid (∀ x w2, Below (f x).heap.size (f x) w2 → ∃ y, w2 = f y) :=
  ⟨{ W // Below wr.heap.size wr W }, Subtype.val, ⟨wr.drew, (Below.refl _ _).drew⟩, rfl, fun x => x.2, Lib.hid fun x w2 h => ⟨⟨w2, x.2.trans (h.mono x.2.size)⟩, rfl⟩⟩

/-- a callee in such a region: one value, and nothing of what was there has changed. -/
theorem Calls.inClass {P : Program} {T : Type} {f : T → World} (hst : Hid (∀ x w2, Below (f x).heap.size (f x) w2 → ∃ y, w2 = f y)) {fn : FuncId} {args : Array Value} {x : T} {v : Value}
    (h : Calls P fn args (f x) fun e w' => e = .returned v ∧ Below (f x).heap.size (f x) w') : Calls P fn args (f x) fun e w'' => e = .returned v ∧ ∃ y, w'' = f y :=
  h.mono fun _ _ ⟨he, hb⟩ => ⟨he, hst.out _ _ hb⟩
end Go.Proofs.Ytcbjdfgmkiodkaa
