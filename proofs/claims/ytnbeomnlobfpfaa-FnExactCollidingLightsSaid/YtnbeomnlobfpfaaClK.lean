/- CollidingLights, both sides, as a law asks them. No condition but those typed. -/
import Derived.Test.YtnbeomnlobfpfaaClI
import Derived.Test.YtnbeomnlobfpfaaLtK
namespace Go.Proofs.Ytnbeomnlobfpfaa
open Go.ChangeShapes Go.WideShapes Go.ChangeAt Go.RowKit
theorem specCLK {g1 g2 g3 n1 n2 n3 c1 c2 B : Nat} {ss : List ByteArray} {fs : List Q4} {ys : List Lt} {ds : List LtD} {w : World} (h : NetAt g1 g2 n1 n2 c1 c2 ss fs w) (hT : Lts B g3 n3 ys w) (hd : ys.map Lt.d = ds) (hs : n3 ≤ 1048576) (p0 p1 : Int) {A : Option Addr} {n c : Nat} {zs : List Int} (hn : zs.length = n) (hr : Rd w w.heap.size A (zs.map (Value.int .i64))) (hsn : n ≤ 1048576) (q0 q1 : Int) :
    Calls Try.prog 46 #[.agg #[.slice (some ⟨g1, 0, none⟩) n1 c1, .slice (some ⟨g2, 0, none⟩) n2 c2, .slice (some ⟨g3, 0, none⟩) n3 n3], .agg #[.int .i64 p0, .int .i64 p1, .slice A n c, .int .i64 q0, .int .i64 q1]] w (IntsP (clL ss fs ds ⟨p0, p1, zs, q0, q1⟩) (pb (clP ss fs ds ⟨p0, p1, zs, q0, q1⟩)) w) :=
  specCL h hT hd hs ⟨p0, p1, A, n, c, zs, q0, q1⟩ ⟨hn, hsn, hr⟩
theorem implCLK {g1 g2 g3 n1 n2 n3 c1 c2 B : Nat} {ss : List ByteArray} {fs : List Q4} {ys : List Lt} {ds : List LtD} {w : World} (h : NetAt g1 g2 n1 n2 c1 c2 ss fs w) (hT : Lts B g3 n3 ys w) (hd : ys.map Lt.d = ds) (hs : n3 ≤ 1048576) (p0 p1 : Int) {A : Option Addr} {n c : Nat} {zs : List Int} (hn : zs.length = n) (hr : Rd w w.heap.size A (zs.map (Value.int .i64))) (hsn : n ≤ 1048576) (q0 q1 : Int) :
    Calls Try.prog 48 #[.agg #[.slice (some ⟨g1, 0, none⟩) n1 c1, .slice (some ⟨g2, 0, none⟩) n2 c2, .slice (some ⟨g3, 0, none⟩) n3 n3], .agg #[.int .i64 p0, .int .i64 p1, .slice A n c, .int .i64 q0, .int .i64 q1]] w (IntsP (clL ss fs ds ⟨p0, p1, zs, q0, q1⟩) (pb (clP ss fs ds ⟨p0, p1, zs, q0, q1⟩)) w) :=
  implCL h hT hd hs ⟨p0, p1, A, n, c, zs, q0, q1⟩ ⟨hn, hsn, hr⟩
end Go.Proofs.Ytnbeomnlobfpfaa
