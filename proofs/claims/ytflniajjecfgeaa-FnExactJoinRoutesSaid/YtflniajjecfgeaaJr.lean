/- Two routes joined: contracts of JoinRoutes, both sides. No condition but those typed. -/
import Derived.Test.YtflniajjecfgeaaTwo
import Derived.Test.YtflniajjecfgeaaWk11
import Derived.Test.YtflniajjecfgeaaL2Own
import Derived.Test.YtflniajjecfgeaaRtA
import Derived.BigQuiet
namespace Go.Proofs.Ytflniajjecfgeaa
open Go.ChangeShapes Go.WideShapes Go.ChangeAt Go.RowKit

theorem walkR_app {fs : List Q4} : ∀ {xs ys ns : List Int}, walkR fs (xs ++ ys) ns = (walkR fs xs ns).bind (walkR fs ys)
  | [], ys, ns => rfl
  | x :: r, ys, ns => by
    rw [List.cons_append]
    unfold walkR
    cases h : stepO fs ns x with
    | none => rfl
    | some nx => exact walkR_app
theorem routeN_app {n1 : Nat} {fs : List Q4} {st : Int} {xs ys vs : List Int} (h : routeN n1 fs st xs = some vs) : routeN n1 fs st (xs ++ ys) = walkR fs ys vs := by
  unfold routeN at h ⊢
  split at h
  · rename_i hc
    rw [if_pos ⟨hc.1, fun h9 => hc.2 (List.append_eq_nil_iff.1 h9).1⟩, walkR_app, h]; rfl
  · cases h
noncomputable def endR (ss : List ByteArray) (fs : List Q4) (st : Int) (xs : List Int) : Int := ((routeN ss.length fs st xs).getD []).headD 0
def jrP (ss : List ByteArray) (fs : List Q4) (sa : Int) (xs : List Int) (sb : Int) (ys : List Int) : Prop := crB ss fs sa xs sb ys = true ∧ endR ss fs sa xs = sb ∧ routeB ss fs sa (xs ++ ys) = true
noncomputable def jrS (ss : List ByteArray) (fs : List Q4) (sa : Int) (xs : List Int) (sb : Int) (ys : List Int) : Int := if pb (jrP ss fs sa xs sb ys) then sa else 0
noncomputable def jrL (ss : List ByteArray) (fs : List Q4) (sa : Int) (xs : List Int) (sb : Int) (ys : List Int) : List Int := if pb (jrP ss fs sa xs sb ys) then xs ++ ys else []
theorem jr_no {ss : List ByteArray} {fs : List Q4} {sa sb : Int} {xs ys : List Int} (h : ¬ jrP ss fs sa xs sb ys) : jrS ss fs sa xs sb ys = 0 ∧ jrL ss fs sa xs sb ys = [] ∧ pb (jrP ss fs sa xs sb ys) = false := by
  have e := pb_false h
  unfold jrS jrL; rw [e]; exact ⟨rfl, rfl, rfl⟩
theorem jr_yes {ss : List ByteArray} {fs : List Q4} {sa sb : Int} {xs ys : List Int} (h : jrP ss fs sa xs sb ys) : jrS ss fs sa xs sb ys = sa ∧ jrL ss fs sa xs sb ys = xs ++ ys ∧ pb (jrP ss fs sa xs sb ys) = true := by
  have e := pb_true h
  unfold jrS jrL; rw [e]; exact ⟨rfl, rfl, rfl⟩
theorem jrL_len (ss : List ByteArray) (fs : List Q4) (sa : Int) (xs : List Int) (sb : Int) (ys : List Int) : (jrL ss fs sa xs sb ys).length ≤ xs.length + ys.length := by
  unfold jrL
  split
  · rw [List.length_append]; exact Nat.le_refl _
  · simp
/-- a route in memory of the call's own. -/
def RtO1 (s : Int) (zs : List Int) (w : World) (e : Ending) (w' : World) : Prop :=
  ∃ (A : Option Addr) (N c : Nat), e = .returned (.agg #[.int .i64 s, .slice A N c]) ∧ Hid (N = zs.length) ∧ w'.ownsRow w.heap.size 3 1 (.slice A N c) N (zs.map (Value.int .i64)) ∧ Below w.heap.size w w'
set_option maxRecDepth 100000 in
set_option maxHeartbeats 800000 in
theorem route_ {fs : List Q4} {xs ns : List Int} {g : Nat} (w : World) (h : Lk fs w g xs ns) (hx : xs.length ≤ 1048576) (s : Int) (hs : ns.reverse.headD 0 = s) (hns : ns ≠ []) :
    Calls Try.prog 83 #[.pointer (some ⟨g, 0, none⟩)] w (RtO1 s xs.reverse w) := by
  have HL := Lib.hid h
  obtain ⟨N, hN⟩ : ∃ N, xs.length = N := ⟨_, rfl⟩
  have HN := Lib.hid hN
  have hNb : N ≤ 1048576 := by omega
  obtain ⟨RV, hRV⟩ : ∃ r, ns.reverse = r := ⟨_, rfl⟩
  obtain ⟨FV, hFV⟩ : ∃ r, xs.reverse = r := ⟨_, rfl⟩
  have HFL : Hid (FV.length = N) := Lib.hid (by rw [← hFV, List.length_reverse]; exact hN)
  rw [hRV] at hs
  have HR0 : Hid ((RV.map (Value.int .i64))[0]? = some (.int .i64 s)) := Lib.hid (by
    cases hc : RV with
    | nil => exact absurd (by rw [← List.reverse_reverse ns, hRV, hc]; rfl) hns
    | cons a r => rw [hc] at hs; rw [← hs]; rfl)
  have HRV := Lib.hid hRV; have HFV := Lib.hid hFV; have HX := Lib.hid hx
  rw [hFV]
  clear h hN hRV hFV hs hx hns
  go_enter Try.func83, Try.ntmps83
  go_wp2_with fail
  obtain ⟨W0, hW0⟩ : ∃ W0, w.alloc (Obj.cells #[.int .i64 0, .slice none 0 0] 31) = W0 := ⟨_, rfl⟩
  have hb0 : Below w.heap.size w W0 := by rw [← hW0]; exact (Below.refl _ _).alloc (Nat.le_refl _) _
  have m0 : W0.cell? ⟨w.heap.size, 0, none⟩ = some (.int .i64 0) := by rw [← hW0]; simp [go_sem]
  have m1 : W0.cell? ⟨w.heap.size, 1, none⟩ = some (.slice none 0 0) := by rw [← hW0]; simp [go_sem]
  have f0 : W0.frozen? ⟨w.heap.size, 0, none⟩ = false := by rw [← hW0]; simp [go_sem]
  have f1 : W0.frozen? ⟨w.heap.size, 1, none⟩ = false := by rw [← hW0]; simp [go_sem]
  have hz0 : W0.heap.size = w.heap.size + 1 := by rw [← hW0]; simp
  have HB0 := Lib.hid hb0; have HZ0 := Lib.hid hz0
  rw [hW0]
  have hzz : w.heap.size < W0.heap.size := by omega
  clear hW0 hb0 hz0
  have HK : Hid (∀ u, Below W0.heap.size W0 u → u.cell? ⟨w.heap.size, 0, none⟩ = some (.int .i64 0) ∧ u.cell? ⟨w.heap.size, 1, none⟩ = some (.slice none 0 0) ∧ u.frozen? ⟨w.heap.size, 0, none⟩ = false ∧ u.frozen? ⟨w.heap.size, 1, none⟩ = false ∧ Below w.heap.size w u ∧ w.heap.size < u.heap.size) := Lib.hid (fun u hu => ⟨(hu.cell (p := ⟨w.heap.size, 0, none⟩) hzz).trans m0, (hu.cell (p := ⟨w.heap.size, 1, none⟩) hzz).trans m1, (hu.frozen (p := ⟨w.heap.size, 0, none⟩) hzz).trans f0, (hu.frozen (p := ⟨w.heap.size, 1, none⟩) hzz).trans f1, HB0.out.trans (hu.mono (by have := HZ0.out; omega)), Nat.lt_of_lt_of_le hzz hu.size⟩)
  clear m0 m1 f0 f1
  have hN1 : (0 : Int) < (N : Int) + 1 := by omega
  have CN : Hid (∀ U, Below W0.heap.size W0 U → Calls Try.prog 92 #[.pointer (some ⟨g, 0, none⟩)] U fun e w' => ∃ gN, e = .returned (.slice (some ⟨gN, 0, none⟩) (N + 1) (N + 1)) ∧ Hid (w'.ownsRow W0.heap.size 3 1 (.slice (some ⟨gN, 0, none⟩) (N + 1) (N + 1)) (N + 1) (RV.map (Value.int .i64))) ∧ Below W0.heap.size W0 w' ∧ Below U.heap.size U w') := Lib.hid fun U hU => by
    have h9 := nodes_ U ((HL.out.over HB0.out).over hU) HX.out
    rw [HRV.out, HN.out] at h9
    exact h9.mono fun e w' ⟨gN, h1, h2, h3⟩ => ⟨gN, h1, Lib.hid (own_base h2 hU.size), hU.trans (h3.mono hU.size), h3⟩
  have CF : Hid (∀ U, Below W0.heap.size W0 U → Calls Try.prog 149 #[.pointer (some ⟨g, 0, none⟩)] U fun e w' => ∃ gF, e = .returned (.slice (some ⟨gF, 0, none⟩) N N) ∧ Hid (w'.ownsRow W0.heap.size 3 1 (.slice (some ⟨gF, 0, none⟩) N N) N (FV.map (Value.int .i64))) ∧ Below W0.heap.size W0 w' ∧ Below U.heap.size U w') := Lib.hid fun U hU => by
    have h9 := fibers_ U ((HL.out.over HB0.out).over hU) HX.out
    rw [HFV.out, HN.out] at h9
    exact h9.mono fun e w' ⟨gF, h1, h2, h3⟩ => ⟨gF, h1, Lib.hid (own_base h2 hU.size), hU.trans (h3.mono hU.size), h3⟩
  go_region_with (first
    | (go_at_call 92; refine (CN.out _ (by first | exact (Below.refl _ _) | exact (Below.refl _ _).drew | exact drewN_below (Below.refl _ _) _ | exact hv2 | exact hv2.drew | exact drewN_below hv2 _)).mono ?_; rintro e u1 ⟨gN, rfl, ho1, hv1, hb8⟩; have hc1 := ho1.out.cellAt 0 (by omega); rw [HR0.out] at hc1; obtain ⟨q0, q1, q2, q3, q4, q5⟩ := HK.out u1 hv1; (first | (have HFs := Lib.hid (ownB HFs.out (show Below u2.heap.size u2 u1 from Below.trans (by first | exact Below.refl _ _ | exact (Below.refl _ _).drew | exact drewN_below (Below.refl _ _) _) (hb8.mono (by first | exact Nat.le_refl _ | (simp; done) | (simp; omega)))))) | skip))
    | (go_at_call 149; refine (CF.out _ (by first | exact (Below.refl _ _) | exact (Below.refl _ _).drew | exact drewN_below (Below.refl _ _) _ | exact hv1 | exact hv1.drew | exact drewN_below hv1 _)).mono ?_; rintro e u2 ⟨gF, rfl, HFs, hv2, hb9⟩; obtain ⟨r0, r1, r2, r3, r4, r5⟩ := HK.out u2 hv2; (first | (have hc1 := ((ownB ho1.out hb9).cellAt 0 (by omega)); rw [HR0.out] at hc1) | skip)))
  all_goals
    go_wp2_with fail
    first
      | exact bodyPost_ret (v := .agg #[.int .i64 s, .slice (some ⟨gF, 0, none⟩) N N]) (by simp [results, Try.results83, go_sem, r0, r1, r5]) rfl ⟨some ⟨gF, 0, none⟩, N, N, rfl, Lib.hid HFL.out.symm, own_base (ownsRow_setCell_below (ownsRow_setCell_below HFs.out (a := ⟨w.heap.size, 0, none⟩) (by show w.heap.size < W0.heap.size; have := HZ0.out; omega) _) (a := ⟨w.heap.size, 1, none⟩) (by show w.heap.size < W0.heap.size; have := HZ0.out; omega) _) (by have := HZ0.out; omega), (r4.setCell (p := ⟨w.heap.size, 0, none⟩) (Nat.le_refl _) _).setCell (p := ⟨w.heap.size, 1, none⟩) (Nat.le_refl _) _⟩
      | exact bodyPost_ret (v := .agg #[.int .i64 s, .slice (some ⟨gF, 0, none⟩) N N]) (by simp [results, Try.results83, go_sem, q0, q1, q5]) rfl ⟨some ⟨gF, 0, none⟩, N, N, rfl, Lib.hid HFL.out.symm, own_base (ownsRow_setCell_below (ownsRow_setCell_below HFs.out (a := ⟨w.heap.size, 0, none⟩) (by show w.heap.size < W0.heap.size; have := HZ0.out; omega) _) (a := ⟨w.heap.size, 1, none⟩) (by show w.heap.size < W0.heap.size; have := HZ0.out; omega) _) (by have := HZ0.out; omega), (q4.setCell (p := ⟨w.heap.size, 0, none⟩) (Nat.le_refl _) _).setCell (p := ⟨w.heap.size, 1, none⟩) (Nat.le_refl _) _⟩
end Go.Proofs.Ytflniajjecfgeaa
