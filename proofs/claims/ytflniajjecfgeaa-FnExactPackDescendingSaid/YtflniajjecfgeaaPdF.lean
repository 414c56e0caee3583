/- First fit in descending order: contract of spec.PackDescending. No condition but those typed. -/
import Derived.Test.YtflniajjecfgeaaPdO
import Derived.Test.YtflniajjecfgeaaPdD
namespace Go.Proofs.Ytflniajjecfgeaa
open Go.ChangeShapes Go.WideShapes Go.ChangeAt Go.RowKit

set_option maxRecDepth 100000 in
set_option maxHeartbeats 4000000 in
theorem specPD {A : Option Addr} {n c : Nat} {L : List Int} {w : World} (hn : L.length = n) (hr : Rd w w.heap.size A (L.map (Value.int .i64))) (hs : n ≤ 1048576) (cap : Int) :
    Calls Try.prog 39 #[.slice A n c, .int .i64 cap] w (IntsP (pdL cap L) (pb (ratesP cap L)) w) := by
  have HN := Lib.hid hn; have HR := Lib.hid hr
  have CC := Lib.hid (l18Rates_ (c := c) cap hn hr hs)
  clear hn hr
  by_cases hp : ratesP cap L
  case neg =>
    have HE := Lib.hid (pd_no hp)
    rw [pb_false hp] at CC HE ⊢
    clear hp
    go_enter Try.func39, Try.ntmps39
    go_wp2_with fail
    refine CC.out.mono ?_
    rintro e w1 ⟨rfl, rfl⟩
    go_wp2
    go_ret2
    exact ints_lit ⟨HE.out.1, rfl⟩ (Below.refl _ _) rfl
  case pos =>
    have HP := Lib.hid hp
    have HE := Lib.hid (pd_yes hp)
    rw [pb_true hp] at CC ⊢
    have CN := Lib.hid (l18OrderD_ (A := A) (n := n) (c0 := c) (wx := w) (by have := hp.1; have := HN.out; omega) HN.out HR.out)
    clear hp
    go_enter Try.func39, Try.ntmps39
    go_wp2_with fail
    refine CC.out.mono ?_
    rintro e w1 ⟨rfl, rfl⟩
    go_wp2_with fail
    refine CN.out.mono ?_
    rintro e w1 ⟨g, c1, rfl, ho1, hb1⟩
    have CP := Lib.hid (l18PackD_ (c := c) (c2 := c1) cap HN.out (HR.out.moved hb1) HP.out (by rw [HN.out]; exact ordD_ok L n) (Rd.ofOwn ho1) (ho1.lt g rfl).2)
    have HB1 := Lib.hid hb1
    clear ho1 hb1
    go_wp2_with fail
    refine CP.out.mono ?_
    rintro e w2 ⟨z, rfl, ho2, hb2⟩
    have HO2 := Lib.hid ho2; have HB2 := Lib.hid hb2
    clear ho2 hb2
    go_wp2
    go_ret2
    rw [HE.out.1, HN.out]
    exact ints_of HB1.out (by rw [unP_len]; exact HN.out) HO2.out HB2.out
end Go.Proofs.Ytflniajjecfgeaa
