/- Sums over the states of a network: contracts of impl.overFailures and impl.availability. Condition: the table of math/bits holds what Go's text lays. -/
import Derived.Test.YtnbeomnlobfpfaaDoorAvP
import Derived.Test.YtnbeomnlobfpfaaDoorGrpS
import Derived.Test.YtnbeomnlobfpfaaDoorOutS
import Derived.Test.YtnbeomnlobfpfaaDoorLst
import Derived.Test.YtnbeomnlobfpfaaDoorBoth
import Derived.Test.YtnbeomnlobfpfaaDoorSplit6
import Derived.Test.YtnbeomnlobfpfaaDoorRws
import Derived.Deep.DeepCutAuto
import Derived.Deep.CutBlock
namespace Go.Proofs.YtnbeomnlobfpfaaDoor
open Go.ChangeShapes Go.WideShapes Go.ChangeAt Go.RowKit

/-- the fibers of a set of risk groups. -/
def gnN (G : List (List Int)) (f : Nat) : Nat := orN f.testBit (fun k => mkN (G.getD k [])) G.length
def GB (G : List (List Int)) : Prop := ∀ g ∈ G, ∀ k, k < g.length → 0 ≤ nth g k ∧ nth g k < 20
theorem mk_lt {g : List Int} (h : ∀ k, k < g.length → 0 ≤ nth g k ∧ nth g k < 20) : mkN g < 2 ^ 20 := maskT_lt (k := g.length) h
theorem gb_at {G : List (List Int)} (h : GB G) {k : Nat} (hk : k < G.length) : mkN (G.getD k []) < 2 ^ 20 := by
  rw [List.getD_eq_getElem?_getD, List.getElem?_eq_getElem hk]
  exact mk_lt (h G[k] (List.getElem_mem hk))
theorem gn_lt {G : List (List Int)} (h : GB G) (f : Nat) : gnN G f < 2 ^ 20 := orN_lt fun j hj => gb_at h hj
theorem gm_at {fs : List Q4} {k : Nat} (hk : k < (rgL fs).length) : nth (gmL fs) k = (mkN ((rgL fs).getD k []) : Nat) := by
  unfold nth gmL
  rw [List.getD_eq_getElem?_getD, List.getElem?_map, List.getD_eq_getElem?_getD, List.getElem?_eq_getElem hk]; rfl
theorem rg_gb {ss : List ByteArray} {fs : List Q4} (hv : netP ss fs) : GB (rgL fs) := fun g hg => rgp_bd hv hg
theorem or_i64v (x y : Nat) (hx : x < 2 ^ 20) (hy : y < 2 ^ 20) : bits .or .i64 (x : Int) (y : Int) = ((x ||| y : Nat) : Int) := or_i64_ x y (by omega) (by omega)
theorem tz_lt {x G : Nat} (h0 : x ≠ 0) (hx : x < 2 ^ G) (hG : G ≤ 14) : Lib.ctz 64 x < G := by
  obtain ⟨h1, _⟩ := low_bit x h0 (Nat.lt_of_lt_of_le hx (Nat.pow_le_pow_right (by decide) (by omega)))
  refine Nat.lt_of_not_le fun hle => ?_
  rw [Nat.testBit_lt_two_pow (Nat.lt_of_lt_of_le hx (Nat.pow_le_pow_right (by decide) hle))] at h1
  cases h1

theorem one_rowF (w : World) (a b d : Value) {base : Nat} (hb : base ≤ w.heap.size) : (w.alloc (.cells #[a, b, d] 95)).ownsRow base 95 3 (.slice (some ⟨w.heap.size, 0, none⟩) 1 1) 1 [a, b, d] := by
  have := World.ownsRow_lit (base := base) (e := 95) (size := 3) w #[a, b, d] 1 hb (by unfold maxLen; omega) rfl
  simpa using this
set_option maxRecDepth 100000 in
set_option maxHeartbeats 4000000 in
theorem gone16_ {B N c : Nat} {A : Option Addr} {ys : List Rw} {G : List (List Int)} {w : World} (h : Rws B A N c ys w) (hd : ys.map Rw.zs = G) (hN : N ≤ 14) (hb : GB G) (hz : ∀ g ∈ G, g.length ≤ 1048576) (f : Nat) (hf : f < 2 ^ 62) :
    Calls Tryd.prog 62 #[.slice A N c, .int .i64 (f : Int)] w (RetP (.int .i64 (gnN G f : Nat)) w) := by
  have HRW := Lib.hid h; have HD := Lib.hid hd; have HGB := Lib.hid hb; have HZG := Lib.hid hz
  have HGL : Hid (G.length = N) := Lib.hid (by rw [← hd, List.length_map]; exact h.len)
  have HLT : Hid (∀ k, k ≤ N → orN f.testBit (fun k => mkN (G.getD k [])) k < 2 ^ 20) := Lib.hid (fun k hk => orN_lt fun j hj => gb_at HGB.out (by have := HGL.out; omega))
  clear h hd hb hz
  go_enter Tryd.func62, Tryd.ntmps62
  go_wp2
  go_loopw [5, 6] (fun v i wr => ∃ (k m : Nat), k ≤ N ∧ i = .int .i64 k ∧ v = .int .i64 m ∧ Hid (orN f.testBit (fun k => mkN (G.getD k [])) k = m) ∧ Below w.heap.size w wr) (fun _ i _ => N - (intOf i).toNat)
  case atStart => exact ⟨0, 0, Nat.zero_le _, rfl, rfl, Lib.hid rfl, Below.refl _ _⟩
  case round =>
    obtain ⟨k, m, hk, rfl, rfl, HM, hb⟩ := hrel
    have HBR := Lib.hid hb
    clear hb
    by_cases hlt : k < N
    case neg =>
      have HE : Hid ((m : Int) = (gnN G f : Nat)) := Lib.hid (by unfold gnN; rw [HGL.out, ← HM.out, show k = N by omega])
      have hlt2 : ¬ (k : Int) < N := by omega
      clear hlt
      go_wp2
      go_ret
      exact ⟨reti HE.out, HBR.out⟩
    case pos =>
    have hm20 : m < 2 ^ 20 := by have := HLT.out k hk; rw [HM.out] at this; exact this
    have hbit := bit_of f k hf
    cases hfk : f.testBit k
    case false =>
      rw [hfk, if_neg (by decide)] at hbit
      have HM2 : Hid (orN f.testBit (fun k => mkN (G.getD k [])) (k + 1) = m) := Lib.hid (by rw [orN_no hfk]; exact HM.out)
      clear hfk
      go_wp2
      go_roundw
      case rel => exact ⟨k + 1, m, by omega, by go_num, rfl, HM2, HBR.out⟩
      case measure => simp [intOf]; omega
    case true =>
    rw [hfk, if_pos rfl] at hbit
    have hky : k < ys.length := by have := HRW.out.len; omega
    obtain ⟨y, hy⟩ : ∃ y, ys[k]'hky = y := ⟨_, rfl⟩
    obtain ⟨g, hA, hgl, hcl, hown⟩ := (HRW.out.moved HBR.out).at_ hky hy
    subst hA
    have hyz : G.getD k [] = y.zs := by rw [← HD.out, List.getD_eq_getElem?_getD, List.getElem?_map, List.getElem?_eq_getElem hky, hy]; rfl
    have hyb := gb_at HGB.out (k := k) (by have := HGL.out; omega)
    have HYB : Hid (∀ j, j < y.zs.length → 0 ≤ nth y.zs j ∧ nth y.zs j < 20) := Lib.hid (by
      have h9 := HGB.out (y.zs) (by rw [← HD.out, List.mem_map]; exact ⟨y, by rw [← hy]; exact List.getElem_mem hky, rfl⟩)
      exact h9)
    have HM2 : Hid (orN f.testBit (fun k => mkN (G.getD k [])) (k + 1) = m ||| mkN y.zs) := Lib.hid (by rw [orN_yes hfk, HM.out, hyz])
    rw [hyz] at hyb
    obtain ⟨yA, yn, yc, zs⟩ := y
    have hyn : yn = zs.length := hown.1
    have hyn2 : yn ≤ 1048576 := by
      have h9 := HZG.out zs (by rw [← HD.out, List.mem_map]; exact ⟨_, List.getElem_mem hky, by rw [hy]⟩)
      omega
    have CM : Hid (∀ W, Below wr.heap.size wr W → Calls Tryd.prog 34 #[.slice yA yn yc] W fun e w' => e = .returned (.int .i64 (mkN zs : Nat)) ∧ w' = W) := Lib.hid (fun W hW => by
      have h9 := l6Mask_ yA yn yc zs W hyn.symm hyn2 (hown.rd.moved hW) (fun j hj => HYB.out j (by simp only; omega))
      unfold mkN
      rw [← hyn]
      exact h9.mono fun _ _ h => ⟨h.1, h.2.symm⟩)
    simp only at hyb HM2 hcl
    obtain ⟨z, hz⟩ : ∃ z, mkN zs = z := ⟨_, rfl⟩
    rw [hz] at CM HM2 hyb
    have hor := or_i64v m z hm20 hyb
    obtain ⟨v, hv⟩ : ∃ v, m ||| z = v := ⟨_, rfl⟩
    rw [hv] at hor HM2
    have HBR1 := HBR.out
    clear hfk hown hy hyz hz hv hyn
    go_wp2_with fail
    refine (CM.out _ (Below.refl _ _)).mono ?_
    rintro e w2 ⟨rfl, rfl⟩
    clear hcl
    go_wp2
    go_roundw
    case rel => exact ⟨k + 1, v, by omega, by go_num, rfl, HM2, HBR1⟩
    case measure => simp [intOf]; omega
end Go.Proofs.YtnbeomnlobfpfaaDoor
