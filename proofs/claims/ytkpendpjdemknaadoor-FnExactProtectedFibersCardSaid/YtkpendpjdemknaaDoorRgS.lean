/- Rings: the specification's walk around: a contract. No condition but those typed. -/
import Derived.Test.YtkpendpjdemknaaDoorRgP
import Derived.Test.YtkpendpjdemknaaDoorL2Own
import Derived.Test.YtkpendpjdemknaaDoorGB
namespace Go.Proofs.YtkpendpjdemknaaDoor
open Go.ChangeShapes Go.WideShapes Go.ChangeAt Go.RowKit

theorem rd_take {w : World} {B : Nat} {A : Option Addr} {fl : List Int} (h : Rd w B A (fl.map (Value.int .i64))) (k : Nat) : Rd w B A ((fl.take k).map (Value.int .i64)) := fun j v hv => h j v (by
  rw [List.getElem?_map] at hv ⊢
  rw [List.getElem?_take] at hv
  split at hv
  · exact hv
  · simp at hv)
/-- the specification's walk around a ring. -/
def RWalkP (fs : List Q4) (fl : List Int) (st : Int) (w : World) (e : Ending) (w' : World) : Prop :=
  ∃ (A : Option Addr) (N c : Nat) (b : Bool) (es : List Int), e = .returned (.tuple #[.slice A N c, .bool b]) ∧ Hid (N = es.length ∧ N ≤ fl.length) ∧ Hid (w'.ownsRow w.heap.size 3 1 (.slice A N c) N (es.reverse.map (Value.int .i64))) ∧ Hid ((b = true ∧ okR fs fl st es) ∨ (b = false ∧ ∀ us, ¬ okR fs fl st us)) ∧ Below w.heap.size w w'

set_option maxRecDepth 100000 in
set_option maxHeartbeats 8000000 in
theorem l17Walk_ {g1 g2 n1 n2 c1 c2 : Nat} {ss : List ByteArray} {fs : List Q4} {w : World} (h : NetAt g1 g2 n1 n2 c1 c2 ss fs w) (hv : netP ss fs)
    {A : Option Addr} {n c : Nat} {fl : List Int} (hn : fl.length = n) (hr : Rd w w.heap.size A (fl.map (Value.int .i64))) (hx : n ≤ 1048576) (hcp : n ≤ c) (st : Int) :
    Calls Tryd.prog 78 #[.agg #[.slice (some ⟨g1, 0, none⟩) n1 c1, .slice (some ⟨g2, 0, none⟩) n2 c2], .slice A n c, .int .i64 st] w (RWalkP fs fl st w) := by
  have HV := Lib.hid hv; have HN := Lib.hid hn
  have HLN := Lib.hid h.ln2
  have hs1 := h.sm1
  have hs2 := h.sm2
  have HNT := Lib.hid h; have HR := Lib.hid hr
  obtain ⟨i0, hi, hz0_, hz1_, hz2_⟩ := info_parts Tryd.inf_int
  have HI := Lib.hid hi; have HZ0 := Lib.hid hz0_; have HZ1 := Lib.hid hz1_; have HZ2 := Lib.hid hz2_
  clear hv hn h hr hi hz0_ hz1_ hz2_
  go_enter Tryd.func78, Tryd.ntmps78
  go_wp2_with fail
  obtain ⟨W0, hW0⟩ : ∃ W0, (w.alloc (Obj.cells #[.slice (some ⟨g1, 0, none⟩) n1 c1, .slice (some ⟨g2, 0, none⟩) n2 c2] 32)).alloc (Obj.cells #[] 3) = W0 := ⟨_, rfl⟩
  have hb0 : Below w.heap.size w W0 := by rw [← hW0]; exact ((Below.refl _ _).alloc (Nat.le_refl _) _).alloc (by simp) _
  have hk0 : W0.cell? ⟨w.heap.size, 0, none⟩ = some (.slice (some ⟨g1, 0, none⟩) n1 c1) := by rw [← hW0]; simp [go_sem]
  have hk1 : W0.cell? ⟨w.heap.size, 1, none⟩ = some (.slice (some ⟨g2, 0, none⟩) n2 c2) := by rw [← hW0]; simp [go_sem]
  have hz0 : w.heap.size + 1 < W0.heap.size := by rw [← hW0]; simp
  have hown0 : W0.ownsRow (w.heap.size + 1) 3 1 (.slice (some ⟨w.heap.size + 1, 0, none⟩) 0 0) 0 [] := by
    rw [← hW0]
    have h9 := World.ownsRow_lit (base := w.heap.size + 1) (e := 3) (size := 1) (w.alloc (Obj.cells #[.slice (some ⟨g1, 0, none⟩) n1 c1, .slice (some ⟨g2, 0, none⟩) n2 c2] 32)) #[] 0 (by simp) (by unfold maxLen; omega) rfl
    simpa using h9
  have HO0 := Lib.hid hown0; have HB0 := Lib.hid hb0
  rw [hW0]
  clear hW0 hown0 hb0
  have HK0 := Lib.hid hk0; have HK1 := Lib.hid hk1; have HZB := Lib.hid hz0
  go_wp2
  clear hk0 hk1 hz0
  go_loopw [8, 9, 10] (fun v a i wr => ∃ (k : Nat) (ns : List Int) (at_ : Int) (B : Option Addr) (cc : Nat), k ≤ n ∧ i = .int .i64 (k : Int) ∧ a = .int .i64 at_ ∧ v = .slice B k cc ∧ Hid (rw7 fs fl [] [] st = rw7 fs (fl.drop k) (fl.take k) ns at_ ∧ k = ns.length)
      ∧ Hid (wr.ownsRow (w.heap.size + 1) 3 1 (.slice B k cc) k (ns.reverse.map (Value.int .i64))) ∧ Below (w.heap.size + 1) W0 wr) (fun _ _ i _ => n - (intOf i).toNat)
  case atStart => exact ⟨0, [], st, _, _, Nat.zero_le _, rfl, rfl, rfl, Lib.hid ⟨by rw [List.drop_zero, List.take_zero], rfl⟩, HO0, Below.refl _ _⟩
  case round =>
    obtain ⟨k, ns, at_, B, cc, hk, rfl, rfl, rfl, HW, HOW, hb⟩ := hrel
    have HBW := Lib.hid (HB0.out.trans (hb.mono (by omega)))
    have HRB := Lib.hid hb
    have hk0 := (hb.cell (p := ⟨w.heap.size, 0, none⟩) (by show w.heap.size < _; omega)).trans HK0.out
    have hk1 := (hb.cell (p := ⟨w.heap.size, 1, none⟩) (by show w.heap.size < _; omega)).trans HK1.out
    have hzw : w.heap.size + 1 < wr.heap.size := Nat.lt_of_lt_of_le HZB.out hb.size
    clear hb
    have HKL : Hid (k ≤ fl.length) := Lib.hid (by have := HN.out; omega)
    by_cases hlt : k < n
    case neg =>
      have hkn : k = n := by omega
      have HF : Hid (rw7 fs fl [] [] st = some (ns, at_)) := Lib.hid (by rw [HW.out.1, List.drop_of_length_le (by have := HN.out; omega)]; rfl)
      have HNR : Hid (fl.length = k) := Lib.hid (by rw [HN.out]; exact hkn.symm)
      subst hkn
      clear hlt hk0 hk1
      by_cases hat : at_ = st
      case neg =>
        have hat1 : (at_ == st) = false := beq_eq_false_iff_ne.2 hat
        have hat2 : decide (at_ = st) = false := decide_eq_false hat
        have HX : Hid (∀ us, ¬ okR fs fl st us) := Lib.hid (fun us hu => by
          have := hu.1
          rw [HF.out] at this
          injection this with this
          injection this with _ this
          exact hat this)
        clear hat
        go_wp2
        go_ret2
        exact ⟨B, k, cc, false, ns, rfl, Lib.hid ⟨HW.out.2, HKL.out⟩, Lib.hid (own_base HOW.out (by omega)), Lib.hid (.inr ⟨rfl, HX.out⟩), HBW.out⟩
      case pos =>
      subst hat
      have hat1 : (at_ == at_) = true := beq_self_eq_true _
      by_cases hl1 : 1 < k
      case neg =>
        have hl2 : decide (1 < k) = false := decide_eq_false hl1
        have hl3 : ¬ ((1 : Int) < (k : Int)) := by omega
        have HX : Hid (∀ us, ¬ okR fs fl at_ us) := Lib.hid (fun us hu => by
          have := hu.2
          have := HNR.out
          omega)
        clear hl1
        go_wp2
        go_ret2
        exact ⟨B, k, cc, false, ns, rfl, Lib.hid ⟨HW.out.2, HKL.out⟩, Lib.hid (own_base HOW.out (by omega)), Lib.hid (.inr ⟨rfl, HX.out⟩), HBW.out⟩
      case pos =>
        have hl2 : decide (1 < k) = true := decide_eq_true hl1
        have hl3 : (1 : Int) < (k : Int) := by omega
        have HX : Hid (okR fs fl at_ ns) := Lib.hid ⟨HF.out, by have := HNR.out; omega⟩
        go_wp2
        go_ret2
        exact ⟨B, k, cc, true, ns, rfl, Lib.hid ⟨HW.out.2, HKL.out⟩, Lib.hid (own_base HOW.out (by omega)), Lib.hid (.inl ⟨rfl, HX.out⟩), HBW.out⟩
    case pos =>
    have hkl : k < fl.length := by have := HN.out; omega
    obtain ⟨ad, hA, hbl, hcell⟩ := ints_at HR.out hkl
    subst hA
    have HCE := Lib.hid hcell; have HBL := Lib.hid hbl
    rw [← HBW.out.cell (by rw [addBlock]; exact hbl)] at hcell
    obtain ⟨x, hx⟩ : ∃ x, fl[k]'hkl = x := ⟨_, rfl⟩
    rw [hx] at hcell HCE
    have HD : Hid (rw7 fs fl [] [] st = rw7 fs (x :: fl.drop (k + 1)) (fl.take k) ns at_) := Lib.hid (by rw [HW.out.1, drop_at fl k hkl, hx])
    have HTK : Hid (fl.take (k + 1) = fl.take k ++ [x]) := Lib.hid (by rw [List.take_succ_eq_append_getElem hkl, hx])
    have e1 : IntKind.i64.wrap ((n2 : Int) - 1) = (n2 : Int) - 1 := IntWalk.i64_in _ (by omega)
    have hkc : k ≤ c := by omega
    clear hx
    have HXNO : Hid (¬ ((0 ≤ x ∧ x < fs.length) ∧ ¬ x ∈ fl.take k ∧ ¬ at_ ∈ ns ∧ acrB (fibI fs x) at_ = true) → ∀ us, ¬ okR fs fl st us) := Lib.hid (fun hno us hu => by
      have := hu.1
      rw [HD.out, rw7_no hno] at this
      exact absurd this (by simp))
    by_cases hin : 0 ≤ x ∧ x ≤ (n2 : Int) - 1
    case neg =>
      have HF := Lib.hid (HXNO.out (fun h => hin (by have h1 := h.1; have := HLN.out; omega)))
      have CI := Lib.hid (fun W => in_no x 0 ((n2 : Int) - 1) W (by omega))
      clear hin
      go_wp2
      go_quiet ((go_at_call 41; exact Calls.quiet_of_same (CI.out _)))
      obtain ⟨wd, hwd⟩ : ∃ wd, wr.drewN nq = wd := ⟨_, rfl⟩
      have HWD : Hid (Below w.heap.size w wd) := Lib.hid (by rw [← hwd]; exact drewN_below HBW.out _)
      have HOD : Hid (wd.ownsRow (w.heap.size + 1) 3 1 (.slice B k cc) k (ns.reverse.map (Value.int .i64))) := Lib.hid (by rw [← hwd]; exact own_heapW rfl HOW.out)
      rw [hwd]
      clear hwd e1 hk0 hk1 hcell
      go_wp2
      go_ret2
      exact ⟨B, k, cc, false, ns, rfl, Lib.hid ⟨HW.out.2, HKL.out⟩, Lib.hid (own_base HOD.out (by omega)), Lib.hid (.inr ⟨rfl, HF.out⟩), HWD.out⟩
    case pos =>
    have CI := Lib.hid (fun W => in_yes x 0 ((n2 : Int) - 1) W hin.1 hin.2)
    obtain ⟨m, rfl⟩ : ∃ m : Nat, x = m := ⟨x.toNat, by omega⟩
    have hmn : m < n2 := by omega
    have hml : m < fs.length := by have := HLN.out; omega
    obtain ⟨q, hq⟩ : ∃ q, fs[m]'hml = q := ⟨_, rfl⟩
    have HQ : Hid (fibI fs (m : Int) = q) := Lib.hid (by
      unfold fibI
      rw [List.getD_eq_getElem?_getD, show ((m : Int)).toNat = m by omega, List.getElem?_eq_getElem hml, hq]; rfl)
    have HQ2 := Lib.hid hq
    have HTL : Hid ((fl.take k).length = k) := Lib.hid (by rw [List.length_take]; omega)
    have hk6 : k ≤ 1000000000000 := by omega
    have CS : Hid (∀ W, Below wr.heap.size wr W → Calls Tryd.prog 55 #[.slice (some ad) k c, .int .i64 (m : Int)] W fun e w' => e = .returned (.bool (decide ((m : Int) ∈ fl.take k))) ∧ w' = W) := Lib.hid (fun W hW => (has_ (some ad) k c (fl.take k) (m : Int) W HTL.out ((rd_take HR.out k).moved (HBW.out.trans (hW.mono HBW.out.size))) hk6).mono fun _ _ h => ⟨h.1, h.2.symm⟩)
    have CN : Hid (∀ W, Below wr.heap.size wr W → Calls Tryd.prog 55 #[.slice B k cc, .int .i64 at_] W fun e w' => e = .returned (.bool (decide (at_ ∈ ns))) ∧ w' = W) := Lib.hid (fun W hW => by
      have h9 := has_ B k cc ns.reverse at_ W (by rw [List.length_reverse]; exact HW.out.2.symm) ((Rd.ofOwn HOW.out).moved hW) hk6
      have hmem : decide (at_ ∈ ns.reverse) = decide (at_ ∈ ns) := by simp
      rw [hmem] at h9
      exact h9.mono fun _ _ h => ⟨h.1, h.2.symm⟩)
    clear hin hq
    cases hs1 : decide ((m : Int) ∈ fl.take k)
    case true =>
      have HF := Lib.hid (HXNO.out (fun h => h.2.1 (of_decide_eq_true hs1)))
      rw [hs1] at CS
      clear hs1
      go_wp2
      go_quiet (first | (go_at_call 41; exact Calls.quiet_of_same (CI.out _)) | (go_at_call 55; with_reducible exact Calls.quiet_of_same (CS.out _ (by first | exact Below.refl _ _ | exact drewN_below_ (Below.refl _ _) _))))
      obtain ⟨wd, hwd⟩ : ∃ wd, wr.drewN nq = wd := ⟨_, rfl⟩
      have HWD : Hid (Below w.heap.size w wd) := Lib.hid (by rw [← hwd]; exact drewN_below HBW.out _)
      have HOD : Hid (wd.ownsRow (w.heap.size + 1) 3 1 (.slice B k cc) k (ns.reverse.map (Value.int .i64))) := Lib.hid (by rw [← hwd]; exact own_heapW rfl HOW.out)
      rw [hwd]
      clear hwd e1 hk0 hk1 hcell
      go_wp2
      go_ret2
      exact ⟨B, k, cc, false, ns, rfl, Lib.hid ⟨HW.out.2, HKL.out⟩, Lib.hid (own_base HOD.out (by omega)), Lib.hid (.inr ⟨rfl, HF.out⟩), HWD.out⟩
    case false =>
    have HNS := Lib.hid (of_decide_eq_false hs1)
    rw [hs1] at CS
    clear hs1
    cases hs2 : decide (at_ ∈ ns)
    case true =>
      have HF := Lib.hid (HXNO.out (fun h => h.2.2.1 (of_decide_eq_true hs2)))
      rw [hs2] at CN
      clear hs2
      go_wp2
      go_quiet (first | (go_at_call 41; exact Calls.quiet_of_same (CI.out _)) | (go_at_call 55; with_reducible exact Calls.quiet_of_same (CS.out _ (by first | exact Below.refl _ _ | exact drewN_below_ (Below.refl _ _) _))) | (go_at_call 55; with_reducible exact Calls.quiet_of_same (CN.out _ (by first | exact Below.refl _ _ | exact drewN_below_ (Below.refl _ _) _))))
      obtain ⟨wd, hwd⟩ : ∃ wd, wr.drewN nq = wd := ⟨_, rfl⟩
      have HWD : Hid (Below w.heap.size w wd) := Lib.hid (by rw [← hwd]; exact drewN_below HBW.out _)
      have HOD : Hid (wd.ownsRow (w.heap.size + 1) 3 1 (.slice B k cc) k (ns.reverse.map (Value.int .i64))) := Lib.hid (by rw [← hwd]; exact own_heapW rfl HOW.out)
      rw [hwd]
      clear hwd e1 hk0 hk1 hcell
      go_wp2
      go_ret2
      exact ⟨B, k, cc, false, ns, rfl, Lib.hid ⟨HW.out.2, HKL.out⟩, Lib.hid (own_base HOD.out (by omega)), Lib.hid (.inr ⟨rfl, HF.out⟩), HWD.out⟩
    case false =>
    have HNN := Lib.hid (of_decide_eq_false hs2)
    rw [hs2] at CN
    clear hs2
    go_wp2
    go_quiet (first | (go_at_call 41; exact Calls.quiet_of_same (CI.out _)) | (go_at_call 55; with_reducible exact Calls.quiet_of_same (CS.out _ (by first | exact Below.refl _ _ | exact drewN_below_ (Below.refl _ _) _))) | (go_at_call 55; with_reducible exact Calls.quiet_of_same (CN.out _ (by first | exact Below.refl _ _ | exact drewN_below_ (Below.refl _ _) _))))
    obtain ⟨wd, hwd⟩ : ∃ wd, wr.drewN nq = wd := ⟨_, rfl⟩
    have HWD : Hid (Below (w.heap.size + 1) W0 wd) := Lib.hid (by rw [← hwd]; exact drewN_below_ HRB.out _)
    have HOD : Hid (wd.ownsRow (w.heap.size + 1) 3 1 (.slice B k cc) k (ns.reverse.map (Value.int .i64))) := Lib.hid (by rw [← hwd]; exact own_heapW rfl HOW.out)
    rw [hwd]
    have hzd : w.heap.size + 1 < wd.heap.size := Nat.lt_of_lt_of_le HZB.out HWD.out.size
    have hown := HOD.out
    clear hwd e1 hk0 hk1 hcell
    go_wp2_with (at_builtin; refine wpList_append_own _ rfl _ _ 26 rfl (w.heap.size + 1) 3 i0 (.int .i64 0) 1 8 Tryd.underlying26 HI.out HZ0.out HZ1.out HZ2.out rfl (by decide) _ k _ rfl (hown.alloc _) ⟨wd.heap.size, 0, none⟩ 1 1 [.int .i64 at_] rfl rfl (new_one _ _ _) (new_int _) (by unfold maxLen; omega) (by omega) (by simp; omega) ?_)
    intro v1 w3 hown1 hgrow1 _
    have hB3 : Below (w.heap.size + 1) W0 w3 := (HWD.out.alloc (Nat.le_of_lt hzd) _).grown hgrow1 (by simp; omega) (fun g hg => (hown.lt g hg).1)
    obtain ⟨A1, cc1, rfl⟩ := formOf hown1
    have HOW1 : Hid (w3.ownsRow (w.heap.size + 1) 3 1 (.slice A1 (k + 1) cc1) (k + 1) ((at_ :: ns).reverse.map (Value.int .i64))) := Lib.hid (by simpa using hown1)
    have HB3 := Lib.hid hB3
    have HB3W := Lib.hid (HB0.out.trans (hB3.mono (by omega)))
    clear hown1 hgrow1 hown hB3
    go_wp2_with fail
    obtain ⟨T, f, x0, hx0, hT, HST⟩ := above w3
    haveI : Nonempty T := ⟨x0⟩
    have HTB : Hid (∀ x, Below (w.heap.size + 1) W0 (f x)) := Lib.hid fun x => HB3.out.trans ((hT x).mono (Nat.le_of_lt (Nat.lt_of_lt_of_le HZB.out HB3.out.size)))
    have HTT : Hid (∀ x, Below w.heap.size w (f x)) := Lib.hid fun x => HB0.out.trans ((HTB.out x).mono (by omega))
    have HTO : Hid (∀ x, (f x).ownsRow (w.heap.size + 1) 3 1 (.slice A1 (k + 1) cc1) (k + 1) ((at_ :: ns).reverse.map (Value.int .i64))) := Lib.hid fun x => ownB HOW1.out (hT x)
    have s0 : ∀ x, (f x).cell? ⟨w.heap.size, 0, none⟩ = some (.slice (some ⟨g1, 0, none⟩) n1 c1) := fun x => ((HTB.out x).cell (p := ⟨w.heap.size, 0, none⟩) (by show w.heap.size < _; omega)).trans HK0.out
    have s1 : ∀ x, (f x).cell? ⟨w.heap.size, 1, none⟩ = some (.slice (some ⟨g2, 0, none⟩) n2 c2) := fun x => ((HTB.out x).cell (p := ⟨w.heap.size, 1, none⟩) (by show w.heap.size < _; omega)).trans HK1.out
    have s2 : ∀ x, w.heap.size < (f x).heap.size := fun x => Nat.lt_of_lt_of_le (by have := HZB.out; omega) (HTB.out x).size
    have s4 : ∀ x, (f x).cell? (ad.add k) = some (.int .i64 (m : Int)) := fun x => by
      rw [(HTT.out x).cell (p := ad.add k) (by rw [addBlock]; exact HBL.out), HCE.out]
    have CO : Hid (∀ x, Calls Tryd.prog 103 #[.agg #[.slice (some ⟨g1, 0, none⟩) n1 c1, .slice (some ⟨g2, 0, none⟩) n2 c2], .int .i64 (m : Int), .int .i64 at_] (f x) fun e w' => e = .returned (.int .i64 (otherV q at_)) ∧ Below (f x).heap.size (f x) w') := Lib.hid fun x => l2Other_ (HNT.out.moved (HTT.out x)) m hmn q (fun _ => HQ2.out) at_
    obtain ⟨ov, hov⟩ : ∃ ov, otherV q at_ = ov := ⟨_, rfl⟩
    rw [hov] at CO
    have HOV := Lib.hid hov
    have HXX := Lib.hid hx0
    clear hT hx0 hov
    refine wp_region_class f (by kernel_rfl) (by kernel_rfl) x0 HXX.out ?_
    repeat (go_big_quiet_step ((go_at_call 103; exact Calls.inClass HST (CO.out _))))
    refine wpQuiet_nil ?_
    rintro _ ⟨x, rfl⟩
    have HBT := Lib.hid (HTB.out x)
    have HBTT := Lib.hid (HTT.out x)
    have HO2 := Lib.hid (HTO.out x)
    clear s0 s1 s2 s4
    generalize f x = w2 at HBT HBTT HO2 ⊢
    clear HST HTT HTB HTO CO CI CS CN HXX
    have HNX1 : Hid (k + 1 = (at_ :: ns).length) := Lib.hid (by rw [List.length_cons, ← HW.out.2])
    have HKL1 : Hid (k + 1 ≤ fl.length) := Lib.hid hkl
    cases hac : acrB q at_
    case false =>
      have hov := (otherV_neg HV.out hml HQ2.out at_).1 hac
      rw [HOV.out] at hov
      have HF := Lib.hid (HXNO.out (fun h => by have := h.2.2.2; rw [HQ.out, hac] at this; exact absurd this (by decide)))
      subst hov
      clear hac
      go_wp2
      go_ret2
      exact ⟨A1, k + 1, cc1, false, at_ :: ns, rfl, Lib.hid ⟨HNX1.out, HKL1.out⟩, Lib.hid (own_base HO2.out (by omega)), Lib.hid (.inr ⟨rfl, HF.out⟩), HBTT.out⟩
    case true =>
    obtain ⟨hov, hov0⟩ := (otherV_neg HV.out hml HQ2.out at_).2 hac
    rw [HOV.out] at hov
    rw [← hov] at hov0
    have HF : Hid (rw7 fs fl [] [] st = rw7 fs (fl.drop (k + 1)) (fl.take (k + 1)) (at_ :: ns) ov ∧ k + 1 = (at_ :: ns).length) := Lib.hid ⟨by
      rw [HD.out, rw7_yes ⟨⟨by omega, by have := HLN.out; omega⟩, HNS.out, HNN.out, by rw [HQ.out]; exact hac⟩, HTK.out, HQ.out, ← hov], HNX1.out⟩
    have hov1 : ¬ (ov < 0) := by omega
    clear hov hac
    go_wp2
    go_roundw
    case rel => exact ⟨k + 1, at_ :: ns, ov, A1, cc1, by omega, by go_num, rfl, rfl, HF, HO2, HBT.out⟩
    case measure => simp [intOf]; omega
end Go.Proofs.YtkpendpjdemknaaDoor
