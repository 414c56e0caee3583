/- The joined route is short. No condition. -/
import Derived.Test.YtflniajjecfgeaaJrI
namespace Go.Proofs.Ytflniajjecfgeaa
open Go.ChangeShapes Go.WideShapes Go.ChangeAt Go.RowKit
theorem jrL_short (ss : List ByteArray) (fs : List Q4) (sa : Int) (xs : List Int) (sb : Int) (ys : List Int) : (jrL ss fs sa xs sb ys).length ≤ 1048576 := by
  by_cases h : jrP ss fs sa xs sb ys
  · obtain ⟨_, b, _⟩ := jr_yes h
    rw [b]
    obtain ⟨h1, h2⟩ := route_nodup h.2.2
    have h3 := nodup_bound fs.length _ h1 h2
    have h4 := (routeB_yes h.2.2).1.2.1
    omega
  · obtain ⟨_, b, _⟩ := jr_no h
    rw [b]; simp
end Go.Proofs.Ytflniajjecfgeaa
