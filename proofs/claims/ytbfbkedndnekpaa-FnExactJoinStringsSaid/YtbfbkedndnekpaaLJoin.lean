/- Proved: at every list of strings and every separator impl.JoinStrings answers as spec.JoinStrings does and leaves its arguments alone (the law FnExactJoinStrings returns true; its arguments read as before). No condition. -/
import Derived.Test.YtbfbkedndnekpaaJoinI
import Derived.OpenShut
import Derived.ShutString
import Derived.SizedLaws
import Derived.Carry
namespace Go.Proofs.Ytbfbkedndnekpaa.fnExactJoinStrings
open Go.ChangeShapes Go.WideShapes Go.ChangeAt Go.RowKit
open Go.ChangeMaps (open_string shut_string)

theorem size_le_tot : ∀ (ss : List ByteArray) (s : ByteArray), s ∈ ss → s.size ≤ totS ss
  | [], _, h => by simp at h
  | a :: r, s, h => by
    have e : totS (a :: r) = a.size + totS r := by simp [totS]
    rcases List.mem_cons.1 h with rfl | h
    · omega
    · have := size_le_tot r s h; omega

set_option maxHeartbeats 1000000 in
theorem walk (A : Option Addr) (n c : Nat) (sep : ByteArray) (ss : List ByteArray) (w : World) (hn : ss.length = n) (hr : Rd w w.heap.size A (ss.map Value.string)) (hws : ∀ s ∈ ss, s.size ≤ maxLen)
    (hsz : n * 16 ≤ 140737488355328) (hw1 : sep.size ≤ maxLen) :
    Calls Try.prog 3 #[.slice A n c, .string sep] w fun e w' => e = .returned (.bool true) ∧ Below w.heap.size w w' := by
  have hw1' := hw1
  unfold maxLen at hw1'
  have hm : n ≤ 9223372036854775807 := by omega
  have HN := Lib.hid hn; clear hn
  go_enter Try.func3, Try.ntmps3
  by_cases hbig : (sep.size : Int) ≤ 1048576
  · go_wp2_with fail
    refine (szStrS A n c 1048576 ss w HN.out hr hws hsz (by omega) (by omega)).mono ?_
    rintro e w' ⟨v, rfl, rfl, hv0, hv1, hv2⟩
    by_cases hneg : v < 0
    · go_wp2
      go_ret
      exact ⟨rfl, Below.refl _ _⟩
    have hneg' : 0 ≤ v := by omega
    clear hneg
    have htot := hv2 hneg'
    have hbs : ∀ s ∈ ss, s.size ≤ 140737488355328 := fun s hs => by have := size_le_tot ss s hs; omega
    clear hv2 htot
    go_wp2_with fail
    refine (toStrS A n c ss w HN.out hr hsz).mono ?_
    rintro e w1 ⟨rfl, hown1, hb1⟩
    have hr1 := Rd.ofOwn hown1
    go_wp2_with fail
    refine (specJoin _ n n sep ss w1 HN.out hr1 hws hsz hw1 hbs).mono ?_
    rintro e w2 ⟨rfl, hb2⟩
    obtain ⟨r1, hr1e⟩ : ∃ r1, (jres sep ss).1 = r1 := ⟨_, rfl⟩
    obtain ⟨r2, hr2e⟩ : ∃ r2, (jres sep ss).2 = r2 := ⟨_, rfl⟩
    rw [hr1e, hr2e]
    have HR1 := Lib.hid hr1e; have HR2 := Lib.hid hr2e; clear hr1e hr2e
    have hb02 : Below w.heap.size w w2 := hb1.trans (hb2.mono hb1.size)
    go_wp2_with fail
    have hrw2 := (hr.over hb02).wider hb02.size
    refine (toStrS A n c ss w2 HN.out hrw2 hsz).mono ?_
    rintro e w3 ⟨rfl, hown3, hb3⟩
    have hr3 := Rd.ofOwn hown3
    have hb03 : Below w.heap.size w w3 := hb02.trans (hb3.mono hb02.size)
    go_wp2_with fail
    refine (implJoin _ n n sep ss w3 HN.out hr3 hsz hw1 hbs).mono ?_
    rintro e w4 ⟨rfl, hb4⟩
    rw [HR1.out, HR2.out]
    have hb04 : Below w.heap.size w w4 := hb03.trans (hb4.mono hb03.size)
    have hr4 := (hr3.over hb4).wider hb4.size
    go_wp2_with fail
    have hrw4 := (hr.over hb04).wider hb04.size
    refine (toStrS A n c ss w4 HN.out hrw4 hsz).mono ?_
    rintro e w5 ⟨rfl, hown5, hb5⟩
    have hr5 := Rd.ofOwn hown5
    have hr45 := (hr4.over hb5).wider hb5.size
    have hb05 : Below w.heap.size w w5 := hb04.trans (hb5.mono hb04.size)
    go_wp2_with fail
    refine (eqStrS _ _ n n n ss w5 HN.out hr45 hr5 hsz).mono ?_
    rintro e w6 ⟨rfl, hb6⟩
    have hb06 : Below w.heap.size w w6 := hb05.trans (hb6.mono hb05.size)
    go_wp2
    go_ret
    exact ⟨rfl, hb06⟩
  · have hbig' : 1048576 < (sep.size : Int) := by omega
    clear hbig
    go_wp2
    go_ret
    exact ⟨rfl, Below.refl _ _⟩

theorem own : ownKnob Try.prog.godebug = none := by kernel_rfl
theorem laidOut : laidOutB Try.prog = true := by kernel_rfl
theorem cellsStr : Try.prog.cellsOf 9 = 1 := by kernel_rfl
theorem bytesStr : Try.prog.bytesOf 9 = 16 := by kernel_rfl

set_option maxRecDepth 100000 in
theorem lifted (os : Os) (started : os.Started) (H : Type) (enc : TypeId × Value → H) :
    ReturnsInHanded {} Try.checked os 3 .any (Rows.fnExactJoinStringsSpec.pre6 enc Try.prog Try.f3 Rows.fnExactJoinStringsRow.domain false) (Rows.fnExactJoinStringsSpec.post enc Try.prog Try.f3 false true false false) := by
  refine returnsInHanded_of_change_sized (C := Try.checked) own started (by kernel_rfl) Try.func3
    (ChangeSpec.witness6 (enc := enc) (C := Try.checked) false ⟨#[], #[.slice none 0 0, .string ByteArray.empty], []⟩ 8 (by kernel_rfl) (by kernel_rfl) (by kernel_rfl) (by kernel_rfl)) ?_
  intro W base args ds gs before hval0 hW _ hsz0 _
  have hsz : (DataW.weightsEach Try.prog (Try.f3.params.toList ++ Rows.fnExactJoinStringsSpec.plain.varTypes Try.prog) (ds ++ gs)).all (· ≤ reachBytes) = true := hsz0
  clear hsz0
  have hval : ∀ (j : Nat) t v, Try.f3.params[j]? = some t → args[j]? = some v → Value.okWide Try.prog W .any base t v := hval0
  have hW' := hW
  obtain ⟨p, q, hA0, hV, rfl, _, _⟩ := hW
  have hA : DataW.TrodAll enc Try.prog W 0 (fun _ => true) true Try.f3.params.toList args.toList ds p := hA0
  rw [Try.params3] at hA hval hsz
  obtain ⟨v0, v1, d0, d1, p0, p1, rfl, rfl, rfl, h0, h1⟩ := trodAll_two hA
  obtain ⟨rfl, rfl⟩ := trodVars_none hV
  obtain ⟨a0, len, cap, rfl⟩ := okWide_slice Try.underlying22 (hval 0 22 v0 rfl rfl)
  obtain ⟨sep, rfl, rfl, rfl, w1⟩ := open_string Try.underlying9 (hval 1 9 v1 rfl rfl) h1
  have h0k := h0
  obtain ⟨fuel, hf⟩ := h0
  clear hA0 hval0
  simp only [List.append_nil] at hW'
  have hlt : ∀ x ∈ p0, x.block < W.heap.size := fun x hx => by simpa using hW'.lt x (by simpa using hx)
  have fin : ∀ W' : World, Below W.heap.size W W' →
      Rows.fnExactJoinStringsSpec.post enc Try.checked.prog Try.f3 false true false false W #[.slice a0 len cap, .string sep] (.bool true) W' := by
    intro W' hb
    refine ⟨_, _, _, [] ++ [], p0 ++ [], [], hW', ?_, ?_, rfl, hb.frame _, fun h => by cases h⟩
    · exact trodAll_mk1 (shut_bool Try.underlying4 true)
    · exact trodAll_cons_mk (Below.trod laidOut (by kernel_rfl) (of_decide_eq_true (by kernel_rfl)) h0k hb hlt) (trodAll_mk1 (shut_string Try.underlying9 w1))
  rcases open_strings Try.underlying22 Try.underlying9 cellsStr hf with ⟨hcs, hx⟩ | ⟨a, len', cap', ss, hcs, _, hl, hm, hz, hx, hcell, hws⟩
  · simp [Value.cells] at hcs
    obtain ⟨rfl, rfl, rfl⟩ := hcs
    exact (walk none 0 0 sep [] W rfl (fun k u hu => by simp at hu) (fun s hs => by simp at hs) (by omega) w1).mono fun e W' ⟨he, hb⟩ => ⟨_, he, fin W' hb⟩
  · simp [Value.cells] at hcs
    obtain ⟨rfl, rfl, rfl⟩ := hcs
    simp only [Prod.mk.injEq] at hx
    obtain ⟨rfl, rfl⟩ := hx
    simp only [if_true] at hz
    have hreach : len * 16 ≤ 140737488355328 := by
      have := sized_slice hsz (j := 0) (t := 22) (e := 9) rfl rfl Try.underlying22
      rw [bytesStr] at this
      simp only [strs, List.length_map, List.length_take, List.length_drop, reachBytes] at this
      omega
    refine (walk (some a) len cap sep (ss.take len) W (by simp; omega) ?_ (fun s hs => hws s (List.mem_of_mem_take hs)) hreach w1).mono fun e W' ⟨he, hb⟩ => ⟨_, he, fin W' hb⟩
    intro k u hu
    rw [List.getElem?_map, List.getElem?_take] at hu
    by_cases hk : k < len
    · rw [if_pos hk, List.getElem?_eq_getElem (by omega)] at hu
      simp only [Option.map_some, Option.some.injEq] at hu
      subst hu
      have hc := hcell k (by omega)
      rw [List.getD_eq_getElem?_getD, List.getElem?_eq_getElem (by omega)] at hc
      exact ⟨a, rfl, by rw [← addBlock a k]; exact World.block_lt_of_cell? W _ hc, hc⟩
    · rw [if_neg hk] at hu; simp at hu

theorem over : Rows.fnExactJoinStringsRow.holds Try.pinned (OpenSpec.ofChange Rows.fnExactJoinStringsSpec) :=
  OpenClaim.holds_of_wide 3 Try.f3 rfl rfl rfl rfl rfl rfl rfl ⟨rfl, rfl, rfl, rfl, rfl⟩ rfl rfl rfl rfl rfl (by kernel_rfl) Try.func3 (by kernel_rfl)
    (of_decide_eq_true (by kernel_rfl)) (by unfold Func.isWrapper; first | (rw [if_pos (by decide +kernel)]; kernel_rfl) | (rw [if_neg (by decide +kernel)]; exact ⟨rfl, rfl⟩))
    (fun os started H enc _ => lifted os started H enc)

/-- THE STATEMENT -/
theorem proved : Rows.FnExactJoinStringsSaid :=
  over
end Go.Proofs.Ytbfbkedndnekpaa.fnExactJoinStrings
