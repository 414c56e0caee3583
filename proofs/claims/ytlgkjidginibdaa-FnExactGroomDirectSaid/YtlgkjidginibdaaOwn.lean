/- A list of ints copied: contract of spec.l1Own over a slice that is not nil. No condition but those typed. -/
import Derived.Test.YtlgkjidginibdaaGB
namespace Go.Proofs.Ytlgkjidginibdaa
open Go.ChangeShapes Go.WideShapes Go.ChangeAt Go.RowKit

theorem news_ints (zs : List Int) : ∀ u ∈ zs.map (Value.int .i64), u.oneCell' = true := by
  intro u hu
  obtain ⟨z, _, rfl⟩ := List.mem_map.1 hu
  rfl
set_option maxRecDepth 100000 in
set_option maxHeartbeats 2000000 in
theorem own_ (ad : Addr) (n c : Nat) (zs : List Int) (w : World) (hn : zs.length = n) (hs : n ≤ 1048576) (hr : Rd w w.heap.size (some ad) (zs.map (Value.int .i64))) :
    Calls Try.prog 144 #[.slice (some ad) n c] w (IntsO zs w) := by
  obtain ⟨i0, hi, hz0_, hz1_, hz2_⟩ := info_parts Try.inf_int
  have HN := Lib.hid hn
  have HO0 : Hid ((w.alloc (Obj.cells #[] 3)).ownsRow w.heap.size 3 1 (.slice (some ⟨w.heap.size, 0, none⟩) 0 0) 0 []) := Lib.hid (World.ownsRow_lit (base := w.heap.size) (e := 3) (size := 1) w #[] 0 (Nat.le_refl _) (by unfold maxLen; omega) rfl)
  have hb0 := (Below.refl w.heap.size w).alloc (Nat.le_refl _) (Obj.cells #[] 3)
  have HNW : Hid (∀ (j : Nat) (u : Value), (zs.map (Value.int .i64))[j]? = some u → (w.alloc (Obj.cells #[] 3)).cell? (ad.add j) = some u) := Lib.hid (fun j u hu => by
    obtain ⟨ad', e, hl, hc⟩ := hr.moved hb0 j u hu
    have e2 : ad = ad' := Option.some.inj e
    rw [e2]
    exact hc)
  have HB0 := Lib.hid hb0
  clear hn hr hb0
  go_enter Try.func144, Try.ntmps144
  go_wp2_with (at_builtin; refine wpList_append_own _ rfl _ _ 26 rfl w.heap.size 3 i0 (.int .i64 0) 1 8 Try.underlying26 hi hz0_ hz1_ hz2_ rfl (by decide) _ 0 _ rfl HO0.out ad n c _ rfl (by rw [List.length_map, HN.out, Nat.mul_one]) HNW.out (news_ints zs) (by unfold maxLen; omega) (by omega) (by simp) ?_)
  intro v1 w2 hown hgrow _
  have HB2 : Hid (Below w.heap.size w w2) := Lib.hid (HB0.out.grown hgrow (by simp) (fun g hg => (HO0.out.lt g hg).1))
  obtain ⟨A1, c1, rfl⟩ := formOf hown
  have HOW := Lib.hid hown
  clear hown hgrow hi hz0_ hz1_ hz2_
  go_wp2
  go_ret
  exact ⟨A1, n, c1, rfl, Lib.hid HN.out.symm, HOW.out, HB2.out⟩
end Go.Proofs.Ytlgkjidginibdaa
