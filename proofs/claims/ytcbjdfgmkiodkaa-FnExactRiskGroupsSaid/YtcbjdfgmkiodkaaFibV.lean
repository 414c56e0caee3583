/- Contracts: the program's words on one fiber and on two (a fiber among so many nodes; the order of fibers), of the specification and of the implementation. No condition but those typed. -/
import Derived.Test.YtcbjdfgmkiodkaaName
import Derived.Test.YtcbjdfgmkiodkaaShelf
import Derived.StillTailTactics
namespace Go.Proofs.Ytcbjdfgmkiodkaa
open Go.ChangeShapes Go.WideShapes Go.ChangeAt Go.RowKit

def firstNZ : List Int → Int
  | [] => 0
  | z :: r => if z = 0 then firstNZ r else z
theorem firstNZ_drop (zs : List Int) (k : Nat) (hk : k < zs.length) : firstNZ (zs.drop k) = if zs[k] = 0 then firstNZ (zs.drop (k + 1)) else zs[k] := by
  rw [List.drop_eq_getElem_cons hk]; rfl

set_option maxHeartbeats 400000 in
theorem or_any (b n c : Nat) (zs : List Int) (w : World) (hn : zs.length = n) (hm : n ≤ 1048576) (hr : Rd w w.heap.size (some ⟨b, 0, none⟩) (zs.map (Value.int .i64))) :
    Calls Try.prog 251 #[.slice (some ⟨b, 0, none⟩) n c] w fun e w' => e = .returned (.int .i64 (firstNZ zs)) ∧ w = w' := by
  have HN := Lib.hid hn; clear hn
  go_enter Try.func251, Try.ntmps251
  go_wp2
  go_loop [8] (fun i => ∃ k : Nat, k ≤ n ∧ i = .int .i64 k ∧ firstNZ zs = firstNZ (zs.drop k)) (fun i => n - (intOf i).toNat)
  case atStart => exact ⟨0, Nat.zero_le _, rfl, rfl⟩
  case round =>
    obtain ⟨k, hk, rfl, hf⟩ := hrel
    have HF := Lib.hid hf; clear hf
    by_cases hlt : k < n
    · have hks : k < zs.length := by have := HN.out; omega
      have hd := firstNZ_drop zs k hks
      obtain ⟨ad, e, _, hcell⟩ := hr.got (k := k) (by simpa using hks)
      injection e with e; subst e
      have ea : (⟨b, 0, none⟩ : Addr).add k = ⟨b, k, none⟩ := by unfold Addr.add; by_cases h : k = 0 <;> simp [h]
      rw [ea] at hcell
      simp only [List.getElem_map] at hcell
      obtain ⟨z, hz⟩ : ∃ z, zs[k]'hks = z := ⟨_, rfl⟩
      rw [hz] at hcell hd
      clear hz ea
      by_cases h0 : z = 0
      · subst h0
        rw [if_pos rfl] at hd
        have HD : Hid (firstNZ zs = firstNZ (zs.drop (k + 1))) := Lib.hid (HF.out.trans hd)
        clear hd
        go_wp2
        go_round
        case rel => exact ⟨k + 1, by omega, by go_num, HD.out⟩
        case measure => simp [intOf]; omega
      · rw [if_neg h0] at hd
        have HD : Hid (firstNZ zs = z) := Lib.hid (HF.out.trans hd)
        have hz1 : (z == 0) = false := by simpa using h0
        have hz2 : (z != 0) = true := by simpa using h0
        clear hd h0
        go_wp2
        go_ret
        exact ⟨reti HD.out.symm, rfl⟩
    · have hkn : k = n := by omega
      subst hkn
      have HD : Hid (firstNZ zs = 0) := Lib.hid (by rw [HF.out, List.drop_of_length_le (by have := HN.out; omega)]; rfl)
      clear hlt
      go_wp2
      go_ret
      exact ⟨reti HD.out.symm, rfl⟩

def cmpV (f g : Q4) : Int := firstNZ [Lib.compareInt f.a g.a, Lib.compareInt f.b g.b, Lib.compareInt f.c g.c, Lib.compareInt f.d g.d]
theorem cmp_cases (x y : Int) : (x < y ∧ Lib.compareInt x y = -1) ∨ (x = y ∧ Lib.compareInt x y = 0) ∨ (y < x ∧ Lib.compareInt x y = 1) := by
  unfold Lib.compareInt
  rcases Int.lt_trichotomy x y with h | h | h
  · left; exact ⟨h, by rw [if_pos h]⟩
  · right; left; subst h; exact ⟨rfl, by simp⟩
  · right; right; exact ⟨h, by rw [if_neg (by omega), if_pos h]⟩
theorem cmpV_neg (f g : Q4) : cmpV f g < 0 ↔ lexLt f g := by
  unfold cmpV lexLt firstNZ
  rcases cmp_cases f.a g.a with ⟨h, e⟩ | ⟨h, e⟩ | ⟨h, e⟩ <;> rw [e]
  · simp; omega
  · simp only [if_true, firstNZ]
    rcases cmp_cases f.b g.b with ⟨h2, e⟩ | ⟨h2, e⟩ | ⟨h2, e⟩ <;> rw [e]
    · simp; omega
    · simp only [if_true]
      rcases cmp_cases f.c g.c with ⟨h3, e⟩ | ⟨h3, e⟩ | ⟨h3, e⟩ <;> rw [e]
      · simp; omega
      · simp only [if_true]
        rcases cmp_cases f.d g.d with ⟨h4, e⟩ | ⟨h4, e⟩ | ⟨h4, e⟩ <;> rw [e]
        · simp; omega
        · simp; omega
        · simp; omega
      · simp; omega
    · simp; omega
  · simp; omega

def cells4 (q : Q4) : Value := .agg #[.int .i64 q.a, .int .i64 q.b, .int .i64 q.c, .int .i64 q.d]

set_option maxRecDepth 100000 in
set_option maxHeartbeats 1000000 in
theorem less_any (f g : Q4) (w : World) :
    Calls Try.prog 216 #[cells4 f, cells4 g] w fun e w' => e = .returned (.bool (pb (lexLt f g))) ∧ Below w.heap.size w w' := by
  obtain ⟨fa, fb, fc, fd⟩ := f
  obtain ⟨ga, gb, gc, gd⟩ := g
  have hx := cmpV_neg ⟨fa, fb, fc, fd⟩ ⟨ga, gb, gc, gd⟩
  have HX := Lib.hid hx; clear hx
  unfold cells4
  go_enter Try.func216, Try.ntmps216
  go_wp2_with fail
  obtain ⟨W, hW⟩ : ∃ W, ((w.alloc (Obj.cells #[.int .i64 fa, .int .i64 fb, .int .i64 fc, .int .i64 fd] 172)).alloc (Obj.cells #[.int .i64 ga, .int .i64 gb, .int .i64 gc, .int .i64 gd] 172)) = W := ⟨_, rfl⟩
  have hb : Below w.heap.size w W := by rw [← hW]; exact ((Below.refl _ _).alloc (Nat.le_refl _) _).alloc (by simp) _
  have hsz : W.heap.size = w.heap.size + 2 := by rw [← hW]; simp
  have f0 : W.cell? ⟨w.heap.size, 0, none⟩ = some (.int .i64 fa) := by rw [← hW]; simp [go_sem]
  have f1 : W.cell? ⟨w.heap.size, 1, none⟩ = some (.int .i64 fb) := by rw [← hW]; simp [go_sem]
  have f2 : W.cell? ⟨w.heap.size, 2, none⟩ = some (.int .i64 fc) := by rw [← hW]; simp [go_sem]
  have f3 : W.cell? ⟨w.heap.size, 3, none⟩ = some (.int .i64 fd) := by rw [← hW]; simp [go_sem]
  have g0 : W.cell? ⟨w.heap.size + 1, 0, none⟩ = some (.int .i64 ga) := by rw [← hW]; simp [go_sem]
  have g1 : W.cell? ⟨w.heap.size + 1, 1, none⟩ = some (.int .i64 gb) := by rw [← hW]; simp [go_sem]
  have g2 : W.cell? ⟨w.heap.size + 1, 2, none⟩ = some (.int .i64 gc) := by rw [← hW]; simp [go_sem]
  have g3 : W.cell? ⟨w.heap.size + 1, 3, none⟩ = some (.int .i64 gd) := by rw [← hW]; simp [go_sem]
  rw [hW]
  clear hW
  have HB := Lib.hid hb; have HSZ := Lib.hid hsz; clear hb hsz
  have hdr : ∀ t d o u p, ({ heap := W.heap, tape := t, drawn := d, os := o, output := u } : World).cell? p = W.cell? p := fun _ _ _ _ _ => rfl
  go_still_tail 20, (by kernel_rfl)
  still_call (Try.cmp_Compare_int _ _ _)
  repeat still_step
  still_call (Try.cmp_Compare_int _ _ _)
  repeat still_step
  still_call (Try.cmp_Compare_int _ _ _)
  repeat still_step
  still_call (Try.cmp_Compare_int _ _ _)
  repeat still_step
  refine wpStill_nil ?_
  change wpList _ _ _ _ _ W.drew
  clear f0 f1 f2 f3 g0 g1 g2 g3 hdr
  have hb2 : Below w.heap.size w W.drew := HB.out.drew
  obtain ⟨W2, hW2⟩ : ∃ W2, W.drew = W2 := ⟨_, rfl⟩
  rw [hW2] at hb2 ⊢
  have HB2 := Lib.hid hb2; clear hW2 hb2
  obtain ⟨c0, hc0⟩ : ∃ c, Lib.compareInt fa ga = c := ⟨_, rfl⟩
  obtain ⟨c1, hc1⟩ : ∃ c, Lib.compareInt fb gb = c := ⟨_, rfl⟩
  obtain ⟨c2, hc2⟩ : ∃ c, Lib.compareInt fc gc = c := ⟨_, rfl⟩
  obtain ⟨c3, hc3⟩ : ∃ c, Lib.compareInt fd gd = c := ⟨_, rfl⟩
  unfold cmpV at HX
  simp only [hc0, hc1, hc2, hc3] at HX ⊢
  clear hc0 hc1 hc2 hc3
  go_wp2_with fail
  refine (or_any _ 4 4 [c0, c1, c2, c3] _ rfl (by omega) ?_).mono ?_
  · intro k u hu
    simp only [List.map_cons, List.map_nil] at hu
    match k, hu with
    | 0, hu => simp at hu; subst hu; exact ⟨_, rfl, by simp, by simp [go_sem, Addr.add]⟩
    | 1, hu => simp at hu; subst hu; exact ⟨_, rfl, by simp, by simp [go_sem, Addr.add]⟩
    | 2, hu => simp at hu; subst hu; exact ⟨_, rfl, by simp, by simp [go_sem, Addr.add]⟩
    | 3, hu => simp at hu; subst hu; exact ⟨_, rfl, by simp, by simp [go_sem, Addr.add]⟩
    | k + 4, hu => simp at hu
  rintro e w4 ⟨rfl, rfl⟩
  obtain ⟨z, hz⟩ : ∃ z, firstNZ [c0, c1, c2, c3] = z := ⟨_, rfl⟩
  rw [hz] at HX ⊢
  clear hz
  by_cases hneg : z < 0
  · have HT : Hid (pb (lexLt ⟨fa, fb, fc, fd⟩ ⟨ga, gb, gc, gd⟩) = true) := Lib.hid (pb_true (HX.out.1 hneg))
    go_wp2
    go_ret
    exact ⟨retb HT.out.symm, HB2.out.alloc HB2.out.size _⟩
  · have HF : Hid (pb (lexLt ⟨fa, fb, fc, fd⟩ ⟨ga, gb, gc, gd⟩) = false) := Lib.hid (pb_false fun h => hneg (HX.out.2 h))
    have hneg' : decide (z < 0) = false := decide_eq_false hneg
    clear hneg
    go_wp2
    go_ret
    exact ⟨retb HF.out.symm, HB2.out.alloc HB2.out.size _⟩

set_option maxRecDepth 100000 in
set_option maxHeartbeats 1000000 in
theorem among_any (f : Q4) (n : Nat) (w : World) (hn : n ≤ 1048576) :
    Calls Try.prog 215 #[cells4 f, .int .i64 n] w fun e w' => e = .returned (.bool (pb (fibP f n))) ∧ Below w.heap.size w w' := by
  obtain ⟨a, b, c, d⟩ := f
  unfold cells4
  by_cases h1 : 0 ≤ a ∧ a < b ∧ b < n ∧ 1 ≤ c ∧ c ≤ 5000 ∧ 0 ≤ d ∧ d ≤ 9
  · have HT : Hid (pb (fibP ⟨a, b, c, d⟩ n) = true) := Lib.hid (pb_true h1)
    obtain ⟨h1, h2, h3, h4, h5, h6, h7⟩ := h1
    go_enter Try.func215, Try.ntmps215
    go_wp2
    go_ret
    exact ⟨retb HT.out.symm, (Below.refl _ _).alloc (Nat.le_refl _) _⟩
  · have HF : Hid (pb (fibP ⟨a, b, c, d⟩ n) = false) := Lib.hid (pb_false h1)
    by_cases p0 : 0 ≤ a
    rotate_left
    · clear h1
      have q : decide (0 ≤ a) = false := decide_eq_false p0
      clear p0
      go_enter Try.func215, Try.ntmps215
      go_wp2
      go_ret
      exact ⟨retb HF.out.symm, (Below.refl _ _).alloc (Nat.le_refl _) _⟩
    by_cases p1 : a < b
    rotate_left
    · clear h1
      have q : decide (a < b) = false := decide_eq_false p1
      clear p1
      go_enter Try.func215, Try.ntmps215
      go_wp2
      go_ret
      exact ⟨retb HF.out.symm, (Below.refl _ _).alloc (Nat.le_refl _) _⟩
    by_cases p2 : b < (n : Int)
    rotate_left
    · clear h1
      have q : decide (b < (n : Int)) = false := decide_eq_false p2
      clear p2
      go_enter Try.func215, Try.ntmps215
      go_wp2
      go_ret
      exact ⟨retb HF.out.symm, (Below.refl _ _).alloc (Nat.le_refl _) _⟩
    by_cases p3 : 1 ≤ c
    rotate_left
    · clear h1
      have q : decide (1 ≤ c) = false := decide_eq_false p3
      clear p3
      go_enter Try.func215, Try.ntmps215
      go_wp2
      go_ret
      exact ⟨retb HF.out.symm, (Below.refl _ _).alloc (Nat.le_refl _) _⟩
    by_cases p4 : c ≤ 5000
    rotate_left
    · clear h1
      have q : decide (c ≤ 5000) = false := decide_eq_false p4
      clear p4
      go_enter Try.func215, Try.ntmps215
      go_wp2
      go_ret
      exact ⟨retb HF.out.symm, (Below.refl _ _).alloc (Nat.le_refl _) _⟩
    by_cases p5 : 0 ≤ d
    rotate_left
    · clear h1
      have q : decide (0 ≤ d) = false := decide_eq_false p5
      clear p5
      go_enter Try.func215, Try.ntmps215
      go_wp2
      go_ret
      exact ⟨retb HF.out.symm, (Below.refl _ _).alloc (Nat.le_refl _) _⟩
    by_cases p6 : d ≤ 9
    · exact absurd ⟨p0, p1, p2, p3, p4, p5, p6⟩ h1
    · clear h1
      have q : decide (d ≤ 9) = false := decide_eq_false p6
      clear p6
      go_enter Try.func215, Try.ntmps215
      go_wp2
      go_ret
      exact ⟨retb HF.out.symm, (Below.refl _ _).alloc (Nat.le_refl _) _⟩

set_option maxRecDepth 100000 in
set_option maxHeartbeats 1000000 in
theorem specFib (f : Q4) (n : Nat) (w : World) (hn : n ≤ 1048576) :
    Calls Try.prog 209 #[cells4 f, .int .i64 n] w fun e w' => e = .returned (.bool (pb (fibP f n))) ∧ Below w.heap.size w w' := by
  obtain ⟨a, b, c, d⟩ := f
  unfold cells4
  have HB := Lib.hid ((Below.refl w.heap.size w).alloc (Nat.le_refl _) (Obj.cells #[.int .i64 a, .int .i64 b, .int .i64 c, .int .i64 d] 172))
  by_cases p1 : 0 ≤ a ∧ a ≤ (n : Int) - 1
  · obtain ⟨p1a, p1b⟩ := p1
    by_cases p2 : a + 1 ≤ b ∧ b ≤ (n : Int) - 1
    · obtain ⟨p2a, p2b⟩ := p2
      by_cases p3 : 1 ≤ c ∧ c ≤ 5000
      · obtain ⟨p3a, p3b⟩ := p3
        by_cases p4 : 0 ≤ d ∧ d ≤ 9
        · have HT : Hid (pb (fibP ⟨a, b, c, d⟩ n) = true) := Lib.hid (pb_true ⟨p1a, by show a < b; omega, by show b < (n : Int); omega, p3a, p3b, p4.1, p4.2⟩)
          obtain ⟨p4a, p4b⟩ := p4
          go_enter Try.func209, Try.ntmps209
          go_wp2_with (first | (refine (in_yes _ _ _ _ (by omega) (by omega)).mono ?_; rintro e w' ⟨rfl, rfl⟩))
          go_ret
          exact ⟨retb HT.out.symm, HB.out⟩
        · have HF : Hid (pb (fibP ⟨a, b, c, d⟩ n) = false) := Lib.hid (pb_false fun h => p4 ⟨h.2.2.2.2.2.1, h.2.2.2.2.2.2⟩)
          have q : d < 0 ∨ 9 < d := by omega
          clear p4
          go_enter Try.func209, Try.ntmps209
          go_wp2_with (first | (refine (in_yes _ _ _ _ (by omega) (by omega)).mono ?_; rintro e w' ⟨rfl, rfl⟩) | (refine (in_no _ _ _ _ (by omega)).mono ?_; rintro e w' ⟨rfl, rfl⟩))
          go_ret
          exact ⟨retb HF.out.symm, HB.out⟩
      · have HF : Hid (pb (fibP ⟨a, b, c, d⟩ n) = false) := Lib.hid (pb_false fun h => p3 ⟨h.2.2.2.1, h.2.2.2.2.1⟩)
        have q : c < 1 ∨ 5000 < c := by omega
        clear p3
        go_enter Try.func209, Try.ntmps209
        go_wp2_with (first | (refine (in_yes _ _ _ _ (by omega) (by omega)).mono ?_; rintro e w' ⟨rfl, rfl⟩) | (refine (in_no _ _ _ _ (by omega)).mono ?_; rintro e w' ⟨rfl, rfl⟩))
        go_ret
        exact ⟨retb HF.out.symm, HB.out⟩
    · have HF : Hid (pb (fibP ⟨a, b, c, d⟩ n) = false) := Lib.hid (pb_false fun h => p2 ⟨by have : a < b := h.2.1; omega, by have : b < (n : Int) := h.2.2.1; omega⟩)
      have q : b < a + 1 ∨ (n : Int) - 1 < b := by omega
      clear p2
      go_enter Try.func209, Try.ntmps209
      go_wp2_with (first | (refine (in_yes _ _ _ _ (by omega) (by omega)).mono ?_; rintro e w' ⟨rfl, rfl⟩) | (refine (in_no _ _ _ _ (by omega)).mono ?_; rintro e w' ⟨rfl, rfl⟩))
      go_ret
      exact ⟨retb HF.out.symm, HB.out⟩
  · have HF : Hid (pb (fibP ⟨a, b, c, d⟩ n) = false) := Lib.hid (pb_false fun h => p1 ⟨h.1, by have h1 : a < b := h.2.1; have h2 : b < (n : Int) := h.2.2.1; omega⟩)
    have q : a < 0 ∨ (n : Int) - 1 < a := by omega
    clear p1
    have HC := Lib.hid (fun W => in_no a 0 ((n : Int) - 1) W q)
    clear q
    go_enter Try.func209, Try.ntmps209
    go_wp2_with fail
    refine (HC.out _).mono ?_
    rintro e w' ⟨rfl, rfl⟩
    go_wp2
    go_ret
    exact ⟨retb HF.out.symm, HB.out⟩

def befV (f g : Q4) : Int := if f.a ≠ g.a then f.a - g.a else if f.b ≠ g.b then f.b - g.b else if f.c ≠ g.c then f.c - g.c else f.d - g.d
theorem befV_pos (f g : Q4) : 0 < befV f g ↔ lexLt g f := by
  unfold befV lexLt
  by_cases h1 : f.a = g.a
  · rw [if_neg (by simp [h1])]
    by_cases h2 : f.b = g.b
    · rw [if_neg (by simp [h2])]
      by_cases h3 : f.c = g.c
      · rw [if_neg (by simp [h3])]; omega
      · rw [if_pos h3]; omega
    · rw [if_pos h2]; omega
  · rw [if_pos h1]; omega
def smallQ (q : Q4) : Prop := (0 ≤ q.a ∧ q.a ≤ 1048576) ∧ (0 ≤ q.b ∧ q.b ≤ 1048576) ∧ (0 ≤ q.c ∧ q.c ≤ 1048576) ∧ (0 ≤ q.d ∧ q.d ≤ 1048576)
theorem fibP.small {q : Q4} {n : Nat} (h : fibP q n) (hn : n ≤ 1048576) : smallQ q := by
  obtain ⟨h1, h2, h3, h4, h5, h6, h7⟩ := h
  exact ⟨⟨by omega, by omega⟩, ⟨by omega, by omega⟩, ⟨by omega, by omega⟩, ⟨by omega, by omega⟩⟩

set_option maxRecDepth 100000 in
set_option maxHeartbeats 1000000 in
theorem specBef (f g : Q4) (w : World) (hf : smallQ f) (hg : smallQ g) :
    Calls Try.prog 210 #[cells4 f, cells4 g] w fun e w' => e = .returned (.int .i64 (befV f g)) ∧ Below w.heap.size w w' := by
  obtain ⟨fa, fb, fc, fd⟩ := f
  obtain ⟨ga, gb, gc, gd⟩ := g
  obtain ⟨⟨a1, a2⟩, ⟨b1, b2⟩, ⟨c1, c2⟩, ⟨d1, d2⟩⟩ := hf
  obtain ⟨⟨a3, a4⟩, ⟨b3, b4⟩, ⟨c3, c4⟩, ⟨d3, d4⟩⟩ := hg
  unfold cells4
  simp only at a1 a2 b1 b2 c1 c2 d1 d2 a3 a4 b3 b4 c3 c4 d3 d4
  have HB := Lib.hid (((Below.refl w.heap.size w).alloc (Nat.le_refl _) (Obj.cells #[.int .i64 fa, .int .i64 fb, .int .i64 fc, .int .i64 fd] 172)).alloc (by simp) (Obj.cells #[.int .i64 ga, .int .i64 gb, .int .i64 gc, .int .i64 gd] 172))
  by_cases h1 : fa = ga
  · subst h1
    by_cases h2 : fb = gb
    · subst h2
      by_cases h3 : fc = gc
      · subst h3
        have HV : Hid (befV ⟨fa, fb, fc, fd⟩ ⟨fa, fb, fc, gd⟩ = fd - gd) := Lib.hid (by unfold befV; simp)
        go_enter Try.func210, Try.ntmps210
        go_wp2
        go_ret
        exact ⟨reti HV.out.symm, HB.out⟩
      · have HV : Hid (befV ⟨fa, fb, fc, fd⟩ ⟨fa, fb, gc, gd⟩ = fc - gc) := Lib.hid (by unfold befV; simp [h3])
        have q : (fc != gc) = true := by simpa using h3
        have q2 : (fc == gc) = false := by simpa using h3
        clear h3
        go_enter Try.func210, Try.ntmps210
        go_wp2
        go_ret
        exact ⟨reti HV.out.symm, HB.out⟩
    · have HV : Hid (befV ⟨fa, fb, fc, fd⟩ ⟨fa, gb, gc, gd⟩ = fb - gb) := Lib.hid (by unfold befV; simp [h2])
      have q : (fb != gb) = true := by simpa using h2
      have q2 : (fb == gb) = false := by simpa using h2
      clear h2
      go_enter Try.func210, Try.ntmps210
      go_wp2
      go_ret
      exact ⟨reti HV.out.symm, HB.out⟩
  · have HV : Hid (befV ⟨fa, fb, fc, fd⟩ ⟨ga, gb, gc, gd⟩ = fa - ga) := Lib.hid (by unfold befV; simp [h1])
    have q : (fa != ga) = true := by simpa using h1
    have q2 : (fa == ga) = false := by simpa using h1
    clear h1
    go_enter Try.func210, Try.ntmps210
    go_wp2
    go_ret
    exact ⟨reti HV.out.symm, HB.out⟩

/-- the first place at which a list of strings holds s, or -1. -/
def findV (ss : List ByteArray) (s : ByteArray) : Int := match ss.findIdx? (fun x => x.toList == s.toList) with | some i => (i : Int) | none => -1
theorem findV_at (ss : List ByteArray) (s : ByteArray) (k : Nat) (hk : k < ss.length) (h1 : ∀ j (h : j < ss.length), j < k → ss[j].toList ≠ s.toList) (h2 : ss[k].toList = s.toList) : findV ss s = k := by
  unfold findV
  have : ss.findIdx? (fun x => x.toList == s.toList) = some k := by
    rw [List.findIdx?_eq_some_iff_getElem]
    exact ⟨hk, by simpa using h2, fun j hj => by simpa using h1 j (by omega) hj⟩
  rw [this]
theorem findV_no (ss : List ByteArray) (s : ByteArray) (h1 : ∀ j (h : j < ss.length), ss[j].toList ≠ s.toList) : findV ss s = -1 := by
  unfold findV
  have : ss.findIdx? (fun x => x.toList == s.toList) = none := by
    rw [List.findIdx?_eq_none_iff]
    intro x hx
    obtain ⟨j, hj, rfl⟩ := List.getElem_of_mem hx
    simpa using h1 j hj
  rw [this]

set_option maxHeartbeats 1000000 in
theorem find_any (A : Option Addr) (n c : Nat) (ss : List ByteArray) (s : ByteArray) (w : World) (hn : ss.length = n) (hm : n ≤ 1048576) (hr : Rd w w.heap.size A (ss.map Value.string)) :
    Calls Try.prog 208 #[.slice A n c, .string s] w fun e w' => e = .returned (.int .i64 (findV ss s)) ∧ w = w' := by
  have HN := Lib.hid hn; clear hn
  go_enter Try.func208, Try.ntmps208
  go_wp2
  go_loop [5] (fun i => ∃ k : Nat, k ≤ n ∧ i = .int .i64 k ∧ (∀ j (h : j < ss.length), j < k → ss[j].toList ≠ s.toList)) (fun i => n - (intOf i).toNat)
  case atStart => exact ⟨0, Nat.zero_le _, rfl, fun j _ h => absurd h (by omega)⟩
  case round =>
    obtain ⟨k, hk, rfl, hall⟩ := hrel
    have HA := Lib.hid hall; clear hall
    by_cases hlt : k < n
    · have hks : k < ss.length := by have := HN.out; omega
      obtain ⟨ad, rfl, _, hcell⟩ := hr.got (k := k) (by simpa using hks)
      rw [strGet ss k hks] at hcell
      obtain ⟨x, hx⟩ : ∃ x, ss[k]'hks = x := ⟨_, rfl⟩
      by_cases heq : x = s
      · have HV : Hid (findV ss s = k) := Lib.hid (findV_at ss s k hks HA.out (by rw [hx, heq]))
        subst heq
        rw [hx] at hcell
        clear hx
        go_wp2
        go_ret
        exact ⟨reti HV.out.symm, rfl⟩
      · have HS : Hid (∀ j (h : j < ss.length), j < k + 1 → ss[j].toList ≠ s.toList) := Lib.hid (by
          intro j h hj
          by_cases hjk : j < k
          · exact HA.out j h hjk
          · obtain rfl : j = k := by omega
            rw [hx]; exact fun e => heq (tl_inj e))
        have q1 := tl_ne heq
        rw [hx] at hcell
        clear hx heq
        go_wp2
        go_round
        case rel => exact ⟨k + 1, by omega, by go_num, HS.out⟩
        case measure => simp [intOf]; omega
    · have hkn : k = n := by omega
      subst hkn
      have HV : Hid (findV ss s = -1) := Lib.hid (findV_no ss s (fun j h => HA.out j h (by have := HN.out; omega)))
      clear hlt
      go_wp2
      go_ret
      exact ⟨reti HV.out.symm, rfl⟩
end Go.Proofs.Ytcbjdfgmkiodkaa
