/- A list of ints copied: contract of spec.l1Own over a slice that is not nil. No condition but those typed. -/
import Derived.Test.YtlgkjidginibdaaDoorGB
namespace Go.Proofs.YtlgkjidginibdaaDoor
open Go.ChangeShapes Go.WideShapes Go.ChangeAt Go.RowKit

theorem news_ints (zs : List Int) : ∀ u ∈ zs.map (Value.int .i64), u.oneCell' = true := by
  intro u hu
  obtain ⟨z, _, rfl⟩ := List.mem_map.1 hu
  rfl
end Go.Proofs.YtlgkjidginibdaaDoor
