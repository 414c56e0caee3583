/- Plans: the slots that are occupied on a fiber and along a route: contracts of RouteMask, both sides. No condition but those typed. -/
import Derived.Test.YtdaopbdjbpopiaaPlanJ
import Derived.Test.YtdaopbdjbpopiaaWk5
namespace Go.Proofs.Ytdaopbdjbpopiaa
open Go.ChangeShapes Go.WideShapes Go.ChangeAt Go.RowKit Go.Maps

theorem ret_tupU {a b : Value} (h : a = b) : Ending.returned a = .returned b := by rw [h]
set_option maxRecDepth 100000 in
set_option maxHeartbeats 4000000 in
theorem l9Used_ {g1 g2 g3 n1 n2 n3 c1 c2 B : Nat} {ss : List ByteArray} {fs : List Q4} {ys : List Lt} {ds : List LtD} {w : World} (h : NetAt g1 g2 n1 n2 c1 c2 ss fs w) (hT : Lts B g3 n3 ys w) (hd : ys.map Lt.d = ds) (hs : n3 ≤ 1048576) (hblk : ∀ t, t < ds.length → blkP (dn ds t).q0 (dn ds t).q1) (x : Int) :
    Calls Try.prog 141 #[.agg #[.slice (some ⟨g1, 0, none⟩) n1 c1, .slice (some ⟨g2, 0, none⟩) n2 c2, .slice (some ⟨g3, 0, none⟩) n3 n3], .int .i64 x] w (RetP (.int .i64 (usedK ds ds.length x : Int)) w) := by
  have HNT := Lib.hid h; have HT := Lib.hid hT; have HD := Lib.hid hd
  have HLD : Hid (ds.length = n3) := Lib.hid (by rw [← hd, List.length_map]; exact hT.len)
  clear h hT hd
  have HBLK := Lib.hid hblk
  clear hblk
  obtain ⟨r, hrr⟩ : ∃ r, usedK ds ds.length x = r := ⟨_, rfl⟩
  rw [hrr]
  have HRR := Lib.hid hrr
  clear hrr
  go_enter Try.func141, Try.ntmps141
  go_wp2
  obtain ⟨W0, hW0⟩ : ∃ W0, w.alloc (Obj.cells #[.slice (some ⟨g1, 0, none⟩) n1 c1, .slice (some ⟨g2, 0, none⟩) n2 c2, .slice (some ⟨g3, 0, none⟩) n3 n3] 84) = W0 := ⟨_, rfl⟩
  have hb0 : Below w.heap.size w W0 := by rw [← hW0]; exact (Below.refl _ _).alloc (Nat.le_refl _) _
  have hk0 : W0.cell? ⟨w.heap.size, 0, none⟩ = some (.slice (some ⟨g1, 0, none⟩) n1 c1) := by rw [← hW0]; simp [go_sem]
  have hk1 : W0.cell? ⟨w.heap.size, 1, none⟩ = some (.slice (some ⟨g2, 0, none⟩) n2 c2) := by rw [← hW0]; simp [go_sem]
  have hk2 : W0.cell? ⟨w.heap.size, 2, none⟩ = some (.slice (some ⟨g3, 0, none⟩) n3 n3) := by rw [← hW0]; simp [go_sem]
  have hz0 : w.heap.size < W0.heap.size := by rw [← hW0]; simp
  have HB0 := Lib.hid hb0; have HK0 := Lib.hid hk0; have HK1 := Lib.hid hk1; have HK2 := Lib.hid hk2; have HZB := Lib.hid hz0
  rw [hW0]
  clear hW0 hb0 hk0 hk1 hk2 hz0
  go_loopw [5, 6] (fun v i wr => ∃ (k u : Nat), k ≤ n3 ∧ i = .int .i64 k ∧ v = .int .i64 u ∧ Hid (u = usedK ds k x) ∧ u < 16777216 ∧ Below W0.heap.size W0 wr) (fun _ i _ => n3 - (intOf i).toNat)
  case atStart => exact ⟨0, 0, Nat.zero_le _, rfl, rfl, Lib.hid rfl, by omega, Below.refl _ _⟩
  case round =>
    obtain ⟨k, u, hk, rfl, rfl, HU, hu, hb⟩ := hrel
    have HBW := Lib.hid (HB0.out.trans (hb.mono HB0.out.size))
    have HBR := Lib.hid hb
    have k2 := (hb.cell (p := ⟨w.heap.size, 2, none⟩) HZB.out).trans HK2.out
    have hzw : w.heap.size < wr.heap.size := Nat.lt_of_lt_of_le HZB.out hb.size
    by_cases hlt : k < n3
    case neg =>
      have HE : Hid (((u : Nat) : Int) = (r : Int)) := Lib.hid (by rw [HU.out, ← HRR.out, show k = ds.length by have := HLD.out; omega])
      clear hb
      go_wp2
      go_ret
      exact ⟨reti HE.out, HBW.out⟩
    case pos =>
    have hkl : k < ys.length := by have := HT.out.len; omega
    have HKD : Hid (k < ds.length) := Lib.hid (by have := HLD.out; omega)
    obtain ⟨y, hke⟩ : ∃ y, ys[k]'hkl = y := ⟨_, rfl⟩
    have HDK := Lib.hid (dn_at HD.out hkl hke)
    have hyat : LtAt w y := by rw [← hke]; exact HT.out.at_ _ (List.getElem_mem hkl)
    obtain ⟨hg, f0, f1, f2, f3, f4⟩ := (HT.out.moved HBW.out).rd.ltc hkl
    rw [Nat.zero_add, hke] at f0 f1 f2 f3 f4
    have hbk := HBLK.out k HKD.out
    rw [HDK.out] at hbk
    have hblk : blkP y.q0 y.q1 := hbk
    have hbe := bitN_eq (d := y.d) hbk
    have hbl := bitN_lt (d := y.d) hbk
    have hbe2 : bitsV y.q0 y.q1 = (bitN y.d : Int) := hbe
    have CB : Hid (∀ W, Calls Try.prog 189 #[.agg #[.int .i64 y.q0, .int .i64 y.q1]] W (RetP (.int .i64 (bitN y.d : Int)) W)) := Lib.hid (fun W => by rw [← hbe2]; exact specBits y.q0 y.q1 W hblk)
    have CH := Lib.hid (has_ y.A y.n y.c y.zs x wr hyat.1 (hyat.2.2.moved HBW.out) (by have := hyat.2.1; omega))
    have HIN : Hid (x ∈ (dn ds k).zs ↔ x ∈ y.zs) := Lib.hid (by rw [HDK.out]; exact Iff.rfl)
    have HBN : Hid (bitN (dn ds k) = bitN y.d) := Lib.hid (by rw [HDK.out])
    obtain ⟨b, hbb⟩ : ∃ b, bitN y.d = b := ⟨_, rfl⟩
    rw [hbb] at CB HBN hbl
    have hor := or_i64_ u b (by omega) (by omega)
    have hol : u ||| b < 2 ^ 24 := Nat.or_lt_two_pow hu hbl
    have HOI := Lib.hid (fun h : x ∈ y.zs => (used_in (HIN.out.2 h)).trans (by rw [HBN.out, ← HU.out]))
    have HOO := Lib.hid (fun h : ¬ x ∈ y.zs => (used_out (fun h2 => h (HIN.out.1 h2))).trans HU.out.symm)
    obtain ⟨o, ho⟩ : ∃ o, u ||| b = o := ⟨_, rfl⟩
    rw [ho] at hor hol HOI
    clear f0 f1 hke hkl hb hyat hbk hblk hbe hbe2 hbb ho hbl
    cases hin : decide (x ∈ y.zs)
    case true =>
      have HS : Hid (o = usedK ds (k + 1) x) := Lib.hid (HOI.out (of_decide_eq_true hin)).symm
      rw [hin] at CH
      clear hin
      go_wp2_with fail
      refine CH.out.mono ?_
      rintro e w' ⟨rfl, rfl⟩
      go_wp2_with fail
      refine (CB.out _).mono ?_
      rintro e w3 ⟨rfl, hb3⟩
      have HB3 := Lib.hid (HBR.out.trans (hb3.mono HBR.out.size))
      clear hb3
      go_wp2
      go_roundw
      case rel => exact ⟨k + 1, o, by omega, by go_num, rfl, HS, by omega, HB3.out⟩
      case measure => simp [intOf]; omega
    case false =>
      have HS : Hid (u = usedK ds (k + 1) x) := Lib.hid (HOO.out (of_decide_eq_false hin)).symm
      rw [hin] at CH
      clear hin
      go_wp2_with fail
      refine CH.out.mono ?_
      rintro e w' ⟨rfl, rfl⟩
      go_wp2
      go_roundw
      case rel => exact ⟨k + 1, u, by omega, by go_num, rfl, HS, hu, HBR.out⟩
      case measure => simp [intOf]; omega

def alongK (ds : List LtD) (fl : List Int) : Nat → Nat
  | 0 => 0
  | k + 1 => alongK ds fl k ||| usedK ds ds.length (fl.getD k 0)
theorem along_at {ds : List LtD} {fl : List Int} {k : Nat} (hk : k < fl.length) {x : Int} (hx : fl[k] = x) : alongK ds fl (k + 1) = alongK ds fl k ||| usedK ds ds.length x := by
  rw [alongK, List.getD_eq_getElem?_getD, List.getElem?_eq_getElem hk, hx]; rfl
noncomputable def rmB (ss : List ByteArray) (fs : List Q4) (ds : List LtD) (st : Int) (fl : List Int) : Bool := pb (planP ss fs ds) && routeB ss fs st fl
noncomputable def rmI (ss : List ByteArray) (fs : List Q4) (ds : List LtD) (st : Int) (fl : List Int) : Int := if rmB ss fs ds st fl then (alongK ds fl fl.length : Int) else 0
noncomputable def rmR (ss : List ByteArray) (fs : List Q4) (ds : List LtD) (st : Int) (fl : List Int) : Value := .tuple #[.int .i64 (rmI ss fs ds st fl), .bool (rmB ss fs ds st fl)]
theorem rm_no {ss : List ByteArray} {fs : List Q4} {ds : List LtD} {st : Int} {fl : List Int} (h : rmB ss fs ds st fl = false) : (.tuple #[.int .i64 0, .bool false] : Value) = rmR ss fs ds st fl := by unfold rmR rmI; rw [h]; rfl
theorem rm_yes {ss : List ByteArray} {fs : List Q4} {ds : List LtD} {st : Int} {fl : List Int} (h : rmB ss fs ds st fl = true) : (.tuple #[.int .i64 (alongK ds fl fl.length : Int), .bool true] : Value) = rmR ss fs ds st fl := by unfold rmR rmI; rw [h]; rfl

set_option maxRecDepth 100000 in
set_option maxHeartbeats 4000000 in
theorem l9Along_ {g1 g2 g3 n1 n2 n3 c1 c2 B : Nat} {ss : List ByteArray} {fs : List Q4} {ys : List Lt} {ds : List LtD} {w : World} (h : NetAt g1 g2 n1 n2 c1 c2 ss fs w) (hT : Lts B g3 n3 ys w) (hd : ys.map Lt.d = ds) (hs : n3 ≤ 1048576) (hblk : ∀ t, t < ds.length → blkP (dn ds t).q0 (dn ds t).q1) (st : Int) {A : Option Addr} {n c : Nat} {fl : List Int} (hn : fl.length = n) (hr : Rd w w.heap.size A (fl.map (Value.int .i64))) (hx : n ≤ 1048576) :
    Calls Try.prog 143 #[.agg #[.slice (some ⟨g1, 0, none⟩) n1 c1, .slice (some ⟨g2, 0, none⟩) n2 c2, .slice (some ⟨g3, 0, none⟩) n3 n3], .agg #[.int .i64 st, .slice A n c]] w (RetP (.int .i64 (alongK ds fl fl.length : Int)) w) := by
  have HNT := Lib.hid h; have HT := Lib.hid hT; have HD := Lib.hid hd
  have HLD : Hid (ds.length = n3) := Lib.hid (by rw [← hd, List.length_map]; exact hT.len)
  clear h hT hd
  have HBLK := Lib.hid hblk; have HN := Lib.hid hn; have HR := Lib.hid hr
  clear hblk hn hr
  obtain ⟨r, hrr⟩ : ∃ r, alongK ds fl fl.length = r := ⟨_, rfl⟩
  rw [hrr]
  have HRR := Lib.hid hrr
  clear hrr
  go_enter Try.func143, Try.ntmps143
  go_wp2
  obtain ⟨W0, hW0⟩ : ∃ W0, (w.alloc (Obj.cells #[.slice (some ⟨g1, 0, none⟩) n1 c1, .slice (some ⟨g2, 0, none⟩) n2 c2, .slice (some ⟨g3, 0, none⟩) n3 n3] 84)).alloc (Obj.cells #[.int .i64 st, .slice A n c] 45) = W0 := ⟨_, rfl⟩
  have hb0 : Below w.heap.size w W0 := by rw [← hW0]; exact ((Below.refl _ _).alloc (Nat.le_refl _) _).alloc (by simp) _
  have hk0 : W0.cell? ⟨w.heap.size, 0, none⟩ = some (.slice (some ⟨g1, 0, none⟩) n1 c1) := by rw [← hW0]; simp [go_sem]
  have hk1 : W0.cell? ⟨w.heap.size, 1, none⟩ = some (.slice (some ⟨g2, 0, none⟩) n2 c2) := by rw [← hW0]; simp [go_sem]
  have hk2 : W0.cell? ⟨w.heap.size, 2, none⟩ = some (.slice (some ⟨g3, 0, none⟩) n3 n3) := by rw [← hW0]; simp [go_sem]
  have hk3 : W0.cell? ⟨w.heap.size + 1, 1, none⟩ = some (.slice A n c) := by rw [← hW0]; simp [go_sem]
  have hz0 : w.heap.size + 1 < W0.heap.size := by rw [← hW0]; simp
  have HB0 := Lib.hid hb0; have HK0 := Lib.hid hk0; have HK1 := Lib.hid hk1; have HK2 := Lib.hid hk2; have HK3 := Lib.hid hk3; have HZB := Lib.hid hz0
  rw [hW0]
  clear hW0 hb0 hk0 hk1 hk2 hk3 hz0
  go_loopw [5, 6] (fun v i wr => ∃ (k u : Nat), k ≤ n ∧ i = .int .i64 k ∧ v = .int .i64 u ∧ Hid (u = alongK ds fl k) ∧ u < 16777216 ∧ Below W0.heap.size W0 wr) (fun _ i _ => n - (intOf i).toNat)
  case atStart => exact ⟨0, 0, Nat.zero_le _, rfl, rfl, Lib.hid rfl, by omega, Below.refl _ _⟩
  case round =>
    obtain ⟨k, u, hk, rfl, rfl, HU, hu, hb⟩ := hrel
    have HBW := Lib.hid (HB0.out.trans (hb.mono HB0.out.size))
    have HBR := Lib.hid hb
    have k3 := (hb.cell (p := ⟨w.heap.size + 1, 1, none⟩) HZB.out).trans HK3.out
    by_cases hlt : k < n
    case neg =>
      have HE : Hid (((u : Nat) : Int) = (r : Int)) := Lib.hid (by rw [HU.out, ← HRR.out, show k = fl.length by have := HN.out; omega])
      clear hb
      go_wp2
      go_ret
      exact ⟨reti HE.out, HBW.out⟩
    case pos =>
    have hkl : k < fl.length := by have := HN.out; omega
    obtain ⟨x, hxe⟩ : ∃ x, fl[k]'hkl = x := ⟨_, rfl⟩
    have HXE := Lib.hid (along_at (ds := ds) hkl hxe)
    obtain ⟨ad, hA, hbl, hcell⟩ := ints_at HR.out hkl
    subst hA
    rw [hxe] at hcell
    have HUL : Hid (usedK ds ds.length x < 2 ^ 24) := Lib.hid (used_lt (fun t ht => HBLK.out t ht))
    obtain ⟨T, f, x0, hx0, hTT, HST⟩ := above wr
    haveI : Nonempty T := ⟨x0⟩
    have hbx : ∀ x, Below w.heap.size w (f x) := fun x => HBW.out.trans ((hTT x).mono HBW.out.size)
    have hba : ∀ x, Below W0.heap.size W0 (f x) := fun x => HBR.out.trans ((hTT x).mono HBR.out.size)
    have s0 : ∀ x, (f x).cell? ⟨w.heap.size, 0, none⟩ = some (.slice (some ⟨g1, 0, none⟩) n1 c1) := fun x => ((hba x).cell (p := ⟨w.heap.size, 0, none⟩) (by show w.heap.size < _; have := HZB.out; omega)).trans HK0.out
    have s1 : ∀ x, (f x).cell? ⟨w.heap.size, 1, none⟩ = some (.slice (some ⟨g2, 0, none⟩) n2 c2) := fun x => ((hba x).cell (p := ⟨w.heap.size, 1, none⟩) (by show w.heap.size < _; have := HZB.out; omega)).trans HK1.out
    have s2 : ∀ x, (f x).cell? ⟨w.heap.size, 2, none⟩ = some (.slice (some ⟨g3, 0, none⟩) n3 n3) := fun x => ((hba x).cell (p := ⟨w.heap.size, 2, none⟩) (by show w.heap.size < _; have := HZB.out; omega)).trans HK2.out
    have s3 : ∀ x, (f x).cell? ⟨w.heap.size + 1, 1, none⟩ = some (.slice (some ad) n c) := fun x => ((hba x).cell (p := ⟨w.heap.size + 1, 1, none⟩) HZB.out).trans HK3.out
    have s4 : ∀ y, (f y).cell? (ad.add k) = some (.int .i64 x) := fun y => by rw [(hbx y).cell (p := ad.add k) (by rw [addBlock]; exact hbl)]; exact hcell
    have CU : Hid (∀ y, Calls Try.prog 141 #[.agg #[.slice (some ⟨g1, 0, none⟩) n1 c1, .slice (some ⟨g2, 0, none⟩) n2 c2, .slice (some ⟨g3, 0, none⟩) n3 n3], .int .i64 x] (f y) (RetP (.int .i64 (usedK ds ds.length x : Int)) (f y))) := Lib.hid fun y => l9Used_ (HNT.out.moved (hbx y)) (HT.out.moved (hbx y)) HD.out hs HBLK.out x
    obtain ⟨b, hbb⟩ : ∃ b, usedK ds ds.length x = b := ⟨_, rfl⟩
    rw [hbb] at CU HUL HXE
    have hor := or_i64_ u b (by omega) (by have := HUL.out; omega)
    have hol : u ||| b < 2 ^ 24 := Nat.or_lt_two_pow hu HUL.out
    rw [← HU.out] at HXE
    obtain ⟨o, ho⟩ : ∃ o, u ||| b = o := ⟨_, rfl⟩
    rw [ho] at hor hol HXE
    have HT1 : Hid (∀ x, Below W0.heap.size W0 (f x)) := Lib.hid hba
    have HXX := Lib.hid hx0
    have HS : Hid (o = alongK ds fl (k + 1)) := Lib.hid HXE.out.symm
    clear hba hbx hTT hx0 hcell hxe hkl hb hbb ho
    go_wp2
    refine wp_region_class f (by kernel_rfl) (by kernel_rfl) x0 HXX.out ?_
    repeat (go_big_quiet_step ((go_at_call 141; exact Calls.inClass HST (CU.out _))))
    refine wpQuiet_nil ?_
    rintro _ ⟨y, rfl⟩
    have HB2 := Lib.hid (HT1.out y)
    clear s0 s1 s2 s3 s4 k3
    go_wp2
    go_roundw
    case rel => exact ⟨k + 1, o, by omega, by go_num, rfl, HS, by omega, HB2.out⟩
    case measure => simp [intOf]; omega

set_option maxRecDepth 100000 in
set_option maxHeartbeats 4000000 in
theorem specRM {g1 g2 g3 n1 n2 n3 c1 c2 B : Nat} {ss : List ByteArray} {fs : List Q4} {ys : List Lt} {ds : List LtD} {w : World} (h : NetAt g1 g2 n1 n2 c1 c2 ss fs w) (hT : Lts B g3 n3 ys w) (hd : ys.map Lt.d = ds) (hs : n3 ≤ 1048576) (st : Int) {A : Option Addr} {n c : Nat} {fl : List Int} (hn : fl.length = n) (hr : Rd w w.heap.size A (fl.map (Value.int .i64))) (hx : n ≤ 1048576) :
    Calls Try.prog 71 #[.agg #[.slice (some ⟨g1, 0, none⟩) n1 c1, .slice (some ⟨g2, 0, none⟩) n2 c2, .slice (some ⟨g3, 0, none⟩) n3 n3], .agg #[.int .i64 st, .slice A n c]] w (RetP (rmR ss fs ds st fl) w) := by
  have HNT := Lib.hid h; have HT := Lib.hid hT; have HD := Lib.hid hd
  have HLD : Hid (ds.length = n3) := Lib.hid (by rw [← hd, List.length_map]; exact hT.len)
  clear h hT hd
  have HN := Lib.hid hn; have HR := Lib.hid hr
  clear hn hr
  obtain ⟨R, hRR⟩ : ∃ R, rmR ss fs ds st fl = R := ⟨_, rfl⟩
  rw [hRR]
  have HRR := Lib.hid hRR
  clear hRR
  go_enter Try.func71, Try.ntmps71
  go_wp2_with fail
  obtain ⟨W0, hW0⟩ : ∃ W0, (w.alloc (Obj.cells #[.slice (some ⟨g1, 0, none⟩) n1 c1, .slice (some ⟨g2, 0, none⟩) n2 c2, .slice (some ⟨g3, 0, none⟩) n3 n3] 84)).alloc (Obj.cells #[.int .i64 st, .slice A n c] 45) = W0 := ⟨_, rfl⟩
  have hb0 : Below w.heap.size w W0 := by rw [← hW0]; exact ((Below.refl _ _).alloc (Nat.le_refl _) _).alloc (by simp) _
  have hk0 : W0.cell? ⟨w.heap.size, 0, none⟩ = some (.slice (some ⟨g1, 0, none⟩) n1 c1) := by rw [← hW0]; simp [go_sem]
  have hk1 : W0.cell? ⟨w.heap.size, 1, none⟩ = some (.slice (some ⟨g2, 0, none⟩) n2 c2) := by rw [← hW0]; simp [go_sem]
  have hk2 : W0.cell? ⟨w.heap.size, 2, none⟩ = some (.slice (some ⟨g3, 0, none⟩) n3 n3) := by rw [← hW0]; simp [go_sem]
  have hk3 : W0.cell? ⟨w.heap.size + 1, 0, none⟩ = some (.int .i64 st) := by rw [← hW0]; simp [go_sem]
  have hk4 : W0.cell? ⟨w.heap.size + 1, 1, none⟩ = some (.slice A n c) := by rw [← hW0]; simp [go_sem]
  have hz0 : w.heap.size + 1 < W0.heap.size := by rw [← hW0]; simp
  have HB0 := Lib.hid hb0
  rw [hW0]
  clear hW0 hb0
  have CG := Lib.hid (l9Good_ (HNT.out.moved HB0.out) (HT.out.moved HB0.out) HD.out hs)
  obtain ⟨b, hb⟩ : ∃ b, pb (planP ss fs ds) = b := ⟨_, rfl⟩
  rw [hb] at CG
  have HPB := Lib.hid hb
  clear hb
  refine CG.out.mono ?_
  rintro e w1 ⟨rfl, hb1⟩
  have HB1 := Lib.hid (HB0.out.trans (hb1.mono HB0.out.size))
  have l0 := (hb1.cell (p := ⟨w.heap.size, 0, none⟩) (by show w.heap.size < _; omega)).trans hk0
  have l1 := (hb1.cell (p := ⟨w.heap.size, 1, none⟩) (by show w.heap.size < _; omega)).trans hk1
  have l2 := (hb1.cell (p := ⟨w.heap.size, 2, none⟩) (by show w.heap.size < _; omega)).trans hk2
  have l3 := (hb1.cell (p := ⟨w.heap.size + 1, 0, none⟩) (by show w.heap.size + 1 < _; omega)).trans hk3
  have l4 := (hb1.cell (p := ⟨w.heap.size + 1, 1, none⟩) (by show w.heap.size + 1 < _; omega)).trans hk4
  have hzw : w.heap.size + 1 < w1.heap.size := Nat.lt_of_lt_of_le hz0 hb1.size
  clear hb1 hk0 hk1 hk2 hk3 hk4 hz0
  cases b
  case false =>
    have HE : Hid ((.tuple #[.int .i64 0, .bool false] : Value) = R) := Lib.hid (by rw [← HRR.out]; exact rm_no (by unfold rmB; rw [HPB.out]; rfl))
    go_wp2
    go_ret2
    exact ⟨ret_tupU HE.out, HB1.out⟩
  case true =>
  have HPL : Hid (planP ss fs ds) := Lib.hid (of_pb HPB.out)
  have CR := Lib.hid (l4Good_ (c := c) (HNT.out.moved HB1.out) st HN.out (HR.out.moved HB1.out) hx)
  obtain ⟨b2, hb2⟩ : ∃ b, routeB ss fs st fl = b := ⟨_, rfl⟩
  rw [hb2] at CR
  have HRB := Lib.hid hb2
  clear hb2
  go_wp2_with fail
  refine CR.out.mono ?_
  rintro e w2 ⟨rfl, hb2⟩
  have HB2 := Lib.hid (HB1.out.trans (hb2.mono HB1.out.size))
  have m0 := (hb2.cell (p := ⟨w.heap.size, 0, none⟩) (by show w.heap.size < _; omega)).trans l0
  have m1 := (hb2.cell (p := ⟨w.heap.size, 1, none⟩) (by show w.heap.size < _; omega)).trans l1
  have m2 := (hb2.cell (p := ⟨w.heap.size, 2, none⟩) (by show w.heap.size < _; omega)).trans l2
  have m3 := (hb2.cell (p := ⟨w.heap.size + 1, 0, none⟩) (by show w.heap.size + 1 < _; omega)).trans l3
  have m4 := (hb2.cell (p := ⟨w.heap.size + 1, 1, none⟩) (by show w.heap.size + 1 < _; omega)).trans l4
  clear l0 l1 l2 l3 l4
  have hzw2 : w.heap.size + 1 < w2.heap.size := Nat.lt_of_lt_of_le hzw hb2.size
  clear hb2
  cases b2
  case false =>
    have HE : Hid ((.tuple #[.int .i64 0, .bool false] : Value) = R) := Lib.hid (by rw [← HRR.out]; exact rm_no (by unfold rmB; rw [HRB.out, Bool.and_false]))
    go_wp2
    go_ret2
    exact ⟨ret_tupU HE.out, HB2.out⟩
  case true =>
  have HE : Hid ((.tuple #[.int .i64 (alongK ds fl fl.length : Int), .bool true] : Value) = R) := Lib.hid (by rw [← HRR.out]; exact rm_yes (by unfold rmB; rw [HPB.out, HRB.out]; rfl))
  have CA := Lib.hid (l9Along_ (c := c) (HNT.out.moved HB2.out) (HT.out.moved HB2.out) HD.out hs (fun t ht => (HPL.out.2.2.1 t ht).1.2.2) st HN.out (HR.out.moved HB2.out) hx)
  obtain ⟨z, hz⟩ : ∃ z, alongK ds fl fl.length = z := ⟨_, rfl⟩
  rw [hz] at CA HE
  clear hz
  go_wp2_with fail
  refine CA.out.mono ?_
  rintro e w3 ⟨rfl, hb3⟩
  have HB3 := Lib.hid (HB2.out.trans (hb3.mono HB2.out.size))
  clear hb3
  go_wp2
  go_ret2
  exact ⟨ret_tupU HE.out, HB3.out⟩

set_option maxRecDepth 100000 in
set_option maxHeartbeats 4000000 in
theorem implRM {g1 g2 g3 n1 n2 n3 c1 c2 B : Nat} {ss : List ByteArray} {fs : List Q4} {ys : List Lt} {ds : List LtD} {w : World} (h : NetAt g1 g2 n1 n2 c1 c2 ss fs w) (hT : Lts B g3 n3 ys w) (hd : ys.map Lt.d = ds) (hs : n3 ≤ 1048576) (st : Int) {A : Option Addr} {n c : Nat} {fl : List Int} (hn : fl.length = n) (hr : Rd w w.heap.size A (fl.map (Value.int .i64))) (hx : n ≤ 1048576) :
    Calls Try.prog 72 #[.agg #[.slice (some ⟨g1, 0, none⟩) n1 c1, .slice (some ⟨g2, 0, none⟩) n2 c2, .slice (some ⟨g3, 0, none⟩) n3 n3], .agg #[.int .i64 st, .slice A n c]] w (RetP (rmR ss fs ds st fl) w) := by
  have HNT := Lib.hid h; have HT := Lib.hid hT; have HD := Lib.hid hd
  have HLD : Hid (ds.length = n3) := Lib.hid (by rw [← hd, List.length_map]; exact hT.len)
  clear h hT hd
  have HN := Lib.hid hn; have HR := Lib.hid hr
  clear hn hr
  obtain ⟨R, hRR⟩ : ∃ R, rmR ss fs ds st fl = R := ⟨_, rfl⟩
  rw [hRR]
  have HRR := Lib.hid hRR
  clear hRR
  go_enter Try.func72, Try.ntmps72
  go_wp2_with fail
  obtain ⟨W0, hW0⟩ : ∃ W0, (w.alloc (Obj.cells #[.slice (some ⟨g1, 0, none⟩) n1 c1, .slice (some ⟨g2, 0, none⟩) n2 c2, .slice (some ⟨g3, 0, none⟩) n3 n3] 84)).alloc (Obj.cells #[.int .i64 st, .slice A n c] 45) = W0 := ⟨_, rfl⟩
  have hb0 : Below w.heap.size w W0 := by rw [← hW0]; exact ((Below.refl _ _).alloc (Nat.le_refl _) _).alloc (by simp) _
  have hk0 : W0.cell? ⟨w.heap.size, 0, none⟩ = some (.slice (some ⟨g1, 0, none⟩) n1 c1) := by rw [← hW0]; simp [go_sem]
  have hk1 : W0.cell? ⟨w.heap.size, 1, none⟩ = some (.slice (some ⟨g2, 0, none⟩) n2 c2) := by rw [← hW0]; simp [go_sem]
  have hk2 : W0.cell? ⟨w.heap.size, 2, none⟩ = some (.slice (some ⟨g3, 0, none⟩) n3 n3) := by rw [← hW0]; simp [go_sem]
  have hk3 : W0.cell? ⟨w.heap.size + 1, 0, none⟩ = some (.int .i64 st) := by rw [← hW0]; simp [go_sem]
  have hk4 : W0.cell? ⟨w.heap.size + 1, 1, none⟩ = some (.slice A n c) := by rw [← hW0]; simp [go_sem]
  have hz0 : w.heap.size + 1 < W0.heap.size := by rw [← hW0]; simp
  have HB0 := Lib.hid hb0
  rw [hW0]
  clear hW0 hb0
  have CG := Lib.hid (implVP (HNT.out.moved HB0.out) (HT.out.moved HB0.out) HD.out hs)
  obtain ⟨b, hb⟩ : ∃ b, pb (planP ss fs ds) = b := ⟨_, rfl⟩
  rw [hb] at CG
  have HPB := Lib.hid hb
  clear hb
  refine CG.out.mono ?_
  rintro e w1 ⟨rfl, hb1⟩
  have HB1 := Lib.hid (HB0.out.trans (hb1.mono HB0.out.size))
  have l0 := (hb1.cell (p := ⟨w.heap.size, 0, none⟩) (by show w.heap.size < _; omega)).trans hk0
  have l1 := (hb1.cell (p := ⟨w.heap.size, 1, none⟩) (by show w.heap.size < _; omega)).trans hk1
  have l2 := (hb1.cell (p := ⟨w.heap.size, 2, none⟩) (by show w.heap.size < _; omega)).trans hk2
  have l3 := (hb1.cell (p := ⟨w.heap.size + 1, 0, none⟩) (by show w.heap.size + 1 < _; omega)).trans hk3
  have l4 := (hb1.cell (p := ⟨w.heap.size + 1, 1, none⟩) (by show w.heap.size + 1 < _; omega)).trans hk4
  have hzw : w.heap.size + 1 < w1.heap.size := Nat.lt_of_lt_of_le hz0 hb1.size
  clear hb1 hk0 hk1 hk2 hk3 hk4 hz0
  cases b
  case false =>
    have HE : Hid ((.tuple #[.int .i64 0, .bool false] : Value) = R) := Lib.hid (by rw [← HRR.out]; exact rm_no (by unfold rmB; rw [HPB.out]; rfl))
    go_wp2
    go_ret2
    exact ⟨ret_tupU HE.out, HB1.out⟩
  case true =>
  have HPL : Hid (planP ss fs ds) := Lib.hid (of_pb HPB.out)
  have CR := Lib.hid (implVR (c := c) (HNT.out.moved HB1.out) st HN.out (HR.out.moved HB1.out) hx)
  obtain ⟨b2, hb2⟩ : ∃ b, routeB ss fs st fl = b := ⟨_, rfl⟩
  rw [hb2] at CR
  have HRB := Lib.hid hb2
  clear hb2
  go_wp2_with fail
  refine CR.out.mono ?_
  rintro e w2 ⟨rfl, hb2⟩
  have HB2 := Lib.hid (HB1.out.trans (hb2.mono HB1.out.size))
  have m0 := (hb2.cell (p := ⟨w.heap.size, 0, none⟩) (by show w.heap.size < _; omega)).trans l0
  have m1 := (hb2.cell (p := ⟨w.heap.size, 1, none⟩) (by show w.heap.size < _; omega)).trans l1
  have m2 := (hb2.cell (p := ⟨w.heap.size, 2, none⟩) (by show w.heap.size < _; omega)).trans l2
  have m3 := (hb2.cell (p := ⟨w.heap.size + 1, 0, none⟩) (by show w.heap.size + 1 < _; omega)).trans l3
  have m4 := (hb2.cell (p := ⟨w.heap.size + 1, 1, none⟩) (by show w.heap.size + 1 < _; omega)).trans l4
  clear l0 l1 l2 l3 l4
  have hzw2 : w.heap.size + 1 < w2.heap.size := Nat.lt_of_lt_of_le hzw hb2.size
  clear hb2
  cases b2
  case false =>
    have HE : Hid ((.tuple #[.int .i64 0, .bool false] : Value) = R) := Lib.hid (by rw [← HRR.out]; exact rm_no (by unfold rmB; rw [HRB.out, Bool.and_false]))
    go_wp2
    go_ret2
    exact ⟨ret_tupU HE.out, HB2.out⟩
  case true =>
  have HE : Hid ((.tuple #[.int .i64 (alongK ds fl fl.length : Int), .bool true] : Value) = R) := Lib.hid (by rw [← HRR.out]; exact rm_yes (by unfold rmB; rw [HPB.out, HRB.out]; rfl))
  have CO := Lib.hid (occupied_ (HT.out.moved HB2.out) HD.out (by have := HPL.out.2.1; have := HLD.out; omega) (fun t ht => lightP_good (HPL.out.2.2.1 t ht).1 HPL.out.1))
  go_wp2_with fail
  refine CO.out.mono ?_
  rintro e w3 ⟨hb3, h3⟩
  have HB3 := Lib.hid (HB2.out.trans (hb3.mono HB2.out.size))
  have q4 := (hb3.cell (p := ⟨w.heap.size + 1, 1, none⟩) hzw2).trans m4
  clear hb3 m0 m1 m2 m3 m4
  rcases h3 with ⟨hap, _⟩ | ⟨_, MB, cnt, D, rfl, _, hown, hmf⟩
  · exact absurd HPL.out.2.2.2 hap
  have HMF := Lib.hid hmf
  have HFB := Lib.hid (route_nodup HRB.out).2
  have HNF := Lib.hid HPL.out.1.2.1
  have HBLK : Hid (∀ t, t < ds.length → blkP (dn ds t).q0 (dn ds t).q1) := Lib.hid (fun t ht => (HPL.out.2.2.1 t ht).1.2.2)
  have HRW := Lib.hid (HR.out.moved HB3.out)
  clear hmf
  go_wp2
  clear q4
  go_loop [8, 30] (fun v i => ∃ (k u : Nat), k ≤ n ∧ i = .int .i64 k ∧ v = .int .i64 u ∧ Hid (u = alongK ds fl k) ∧ u < 16777216) (fun _ i => n - (intOf i).toNat)
  case atStart => exact ⟨0, 0, Nat.zero_le _, rfl, rfl, Lib.hid rfl, by omega⟩
  case round =>
    obtain ⟨k, u, hk, rfl, rfl, HU, hu⟩ := hrel
    by_cases hlt : k < n
    case neg =>
      have HE2 : Hid ((.tuple #[.int .i64 (u : Int), .bool true] : Value) = R) := Lib.hid (by rw [← HE.out, HU.out, show k = fl.length by have := HN.out; omega])
      go_wp2
      go_ret2
      exact ⟨ret_tupU HE2.out, HB3.out⟩
    case pos =>
    have hkl : k < fl.length := by have := HN.out; omega
    obtain ⟨x, hxe⟩ : ∃ x, fl[k]'hkl = x := ⟨_, rfl⟩
    have HXE := Lib.hid (along_at (ds := ds) hkl hxe)
    obtain ⟨ad, hA, hbl, hcell⟩ := ints_at HRW.out hkl
    subst hA
    rw [hxe] at hcell
    have hxf := HFB.out x (by rw [← hxe]; exact List.getElem_mem hkl)
    have hnf := HNF.out
    have HKEY := Lib.hid (keyOf_int_mk (P := Try.prog) Try.underlying3 (a := x) (WalkArith.wf_i64 (by omega)))
    have HUL : Hid (usedK ds ds.length x < 2 ^ 24) := Lib.hid (used_lt (fun t ht => HBLK.out t ht))
    have HVAL : Hid (∀ c : Int, D.atKey (.int .i64 x) (.lit (.int .i64 0)) = .lit (.int .i64 c) → c = (usedK ds ds.length x : Int)) := Lib.hid (fun c hat => HMF.out.val hat)
    obtain ⟨b, hbb⟩ : ∃ b, usedK ds ds.length x = b := ⟨_, rfl⟩
    rw [hbb] at HUL HXE HVAL
    have hor := or_i64_ u b (by omega) (by have := HUL.out; omega)
    have hol : u ||| b < 2 ^ 24 := Nat.or_lt_two_pow hu HUL.out
    rw [← HU.out] at HXE
    obtain ⟨o, ho⟩ : ∃ o, u ||| b = o := ⟨_, rfl⟩
    rw [ho] at hor hol HXE
    have HS : Hid (o = alongK ds fl (k + 1)) := Lib.hid HXE.out.symm
    clear hxe hkl hbb ho hxf hnf
    go_wp2_with (first
      | (at_lookup; refine wpList_lookup_own_int _ rfl _ _ 173 rfl 3 3 .i64 law_int Try.underlying173 Try.underlying3 (zero_int _) MB cnt _ rfl hown _ _ rfl HKEY.out ?_; intro c hat hwc; obtain rfl := HVAL.out c hat; clear hat hwc)
      | go_in)
    go_round
    case rel => exact ⟨k + 1, o, by omega, by go_num, rfl, HS, by omega⟩
    case measure => simp [intOf]; omega
end Go.Proofs.Ytdaopbdjbpopiaa
