/- What a plan uses along a route, over own lights of whatever capacities. No condition but those typed. -/
import Derived.Test.YtflniajjecfgeaaGreatDoorGD
import Derived.Test.YtflniajjecfgeaaGreatDoorLtC
import Derived.Test.YtflniajjecfgeaaGreatDoorGB
namespace Go.Proofs.YtflniajjecfgeaaGreatDoor
open Go.ChangeShapes Go.WideShapes Go.ChangeAt Go.RowKit Go.Maps

set_option maxRecDepth 100000 in
set_option maxHeartbeats 4000000 in
theorem l9UsedR_ {n1 n2 n3 c1 c2 c3 B : Nat} {G1 G2 G3 : Option Addr} {ys : List Lt} {ds : List LtD} {w : World} (hT : LtC B G3 n3 c3 ys w) (hd : ys.map Lt.d = ds) (hs : n3 ≤ 1048576) (hblk : ∀ t, t < ds.length → blkP (dn ds t).q0 (dn ds t).q1) (x : Int) :
    Calls Tryz.prog 123 #[.agg #[.slice G1 n1 c1, .slice G2 n2 c2, .slice G3 n3 c3], .int .i64 x] w (RetP (.int .i64 (usedK ds ds.length x : Int)) w) := by
  have HT := Lib.hid hT; have HD := Lib.hid hd
  have HLD : Hid (ds.length = n3) := Lib.hid (by rw [← hd, List.length_map]; exact hT.len)
  clear hT hd
  have HBLK := Lib.hid hblk
  clear hblk
  obtain ⟨r, hrr⟩ : ∃ r, usedK ds ds.length x = r := ⟨_, rfl⟩
  rw [hrr]
  have HRR := Lib.hid hrr
  clear hrr
  go_enter Tryz.func123, Tryz.ntmps123
  go_wp2
  obtain ⟨W0, hW0⟩ : ∃ W0, w.alloc (Obj.cells #[.slice G1 n1 c1, .slice G2 n2 c2, .slice G3 n3 c3] 35) = W0 := ⟨_, rfl⟩
  have hb0 : Below w.heap.size w W0 := by rw [← hW0]; exact (Below.refl _ _).alloc (Nat.le_refl _) _
  have hk0 : W0.cell? ⟨w.heap.size, 0, none⟩ = some (.slice G1 n1 c1) := by rw [← hW0]; simp [go_sem]
  have hk1 : W0.cell? ⟨w.heap.size, 1, none⟩ = some (.slice G2 n2 c2) := by rw [← hW0]; simp [go_sem]
  have hk2 : W0.cell? ⟨w.heap.size, 2, none⟩ = some (.slice G3 n3 c3) := by rw [← hW0]; simp [go_sem]
  have hz0 : w.heap.size < W0.heap.size := by rw [← hW0]; simp
  have HB0 := Lib.hid hb0; have HK0 := Lib.hid hk0; have HK1 := Lib.hid hk1; have HK2 := Lib.hid hk2; have HZB := Lib.hid hz0
  rw [hW0]
  clear hW0 hb0 hk0 hk1 hk2 hz0
  go_loopw [5, 6] (fun v i wr => ∃ (k u : Nat), k ≤ n3 ∧ i = .int .i64 k ∧ v = .int .i64 u ∧ Hid (u = usedK ds k x) ∧ u < 16777216 ∧ Below W0.heap.size W0 wr) (fun _ i _ => n3 - (intOf i).toNat)
  case atStart => exact ⟨0, 0, Nat.zero_le _, rfl, rfl, Lib.hid rfl, by omega, Below.refl _ _⟩
  case round =>
    obtain ⟨k, u, hk, rfl, rfl, HU, hu, hb⟩ := hrel
    have HBW := Lib.hid (HB0.out.trans (hb.mono HB0.out.size))
    have HBR := Lib.hid hb
    have k2 := (hb.cell (p := ⟨w.heap.size, 2, none⟩) HZB.out).trans HK2.out
    have hzw : w.heap.size < wr.heap.size := Nat.lt_of_lt_of_le HZB.out hb.size
    by_cases hlt : k < n3
    case neg =>
      have HE : Hid (((u : Nat) : Int) = (r : Int)) := Lib.hid (by rw [HU.out, ← HRR.out, show k = ds.length by have := HLD.out; omega])
      clear hb
      go_wp2
      go_ret
      exact ⟨reti HE.out, HBW.out⟩
    case pos =>
    obtain ⟨g3, rfl⟩ := own_some HT.out.row (by omega)
    have hkl : k < ys.length := by have := HT.out.len; omega
    have HKD : Hid (k < ds.length) := Lib.hid (by have := HLD.out; omega)
    obtain ⟨y, hke⟩ : ∃ y, ys[k]'hkl = y := ⟨_, rfl⟩
    have HDK := Lib.hid (dn_at HD.out hkl hke)
    have hyat : LtAt w y := by rw [← hke]; exact (HT.out.own _ (List.getElem_mem hkl)).at_
    obtain ⟨hg, f0, f1, f2, f3, f4⟩ := (HT.out.moved HBW.out).rd.ltc hkl
    rw [Nat.zero_add, hke] at f0 f1 f2 f3 f4
    have hbk := HBLK.out k HKD.out
    rw [HDK.out] at hbk
    have hblk : blkP y.q0 y.q1 := hbk
    have hbe := bitN_eq (d := y.d) hbk
    have hbl := bitN_lt (d := y.d) hbk
    have hbe2 : bitsV y.q0 y.q1 = (bitN y.d : Int) := hbe
    have CB : Hid (∀ W, Calls Tryz.prog 93 #[.agg #[.int .i64 y.q0, .int .i64 y.q1]] W (RetP (.int .i64 (bitN y.d : Int)) W)) := Lib.hid (fun W => by rw [← hbe2]; exact specBits y.q0 y.q1 W hblk)
    have CH := Lib.hid (has_ y.A y.n y.c y.zs x wr hyat.1 (hyat.2.2.moved HBW.out) (by have := hyat.2.1; omega))
    have HIN : Hid (x ∈ (dn ds k).zs ↔ x ∈ y.zs) := Lib.hid (by rw [HDK.out]; exact Iff.rfl)
    have HBN : Hid (bitN (dn ds k) = bitN y.d) := Lib.hid (by rw [HDK.out])
    obtain ⟨b, hbb⟩ : ∃ b, bitN y.d = b := ⟨_, rfl⟩
    rw [hbb] at CB HBN hbl
    have hor := or_i64_ u b (by omega) (by omega)
    have hol : u ||| b < 2 ^ 24 := Nat.or_lt_two_pow hu hbl
    have HOI := Lib.hid (fun h : x ∈ y.zs => (used_in (HIN.out.2 h)).trans (by rw [HBN.out, ← HU.out]))
    have HOO := Lib.hid (fun h : ¬ x ∈ y.zs => (used_out (fun h2 => h (HIN.out.1 h2))).trans HU.out.symm)
    obtain ⟨o, ho⟩ : ∃ o, u ||| b = o := ⟨_, rfl⟩
    rw [ho] at hor hol HOI
    clear f0 f1 hke hkl hb hyat hbk hblk hbe hbe2 hbb ho hbl
    cases hin : decide (x ∈ y.zs)
    case true =>
      have HS : Hid (o = usedK ds (k + 1) x) := Lib.hid (HOI.out (of_decide_eq_true hin)).symm
      rw [hin] at CH
      clear hin
      go_wp2_with fail
      refine CH.out.mono ?_
      rintro e w' ⟨rfl, rfl⟩
      go_wp2_with fail
      refine (CB.out _).mono ?_
      rintro e w3 ⟨rfl, hb3⟩
      have HB3 := Lib.hid (HBR.out.trans (hb3.mono HBR.out.size))
      clear hb3
      go_wp2
      go_roundw
      case rel => exact ⟨k + 1, o, by omega, by go_num, rfl, HS, by omega, HB3.out⟩
      case measure => simp [intOf]; omega
    case false =>
      have HS : Hid (u = usedK ds (k + 1) x) := Lib.hid (HOO.out (of_decide_eq_false hin)).symm
      rw [hin] at CH
      clear hin
      go_wp2_with fail
      refine CH.out.mono ?_
      rintro e w' ⟨rfl, rfl⟩
      go_wp2
      go_roundw
      case rel => exact ⟨k + 1, u, by omega, by go_num, rfl, HS, hu, HBR.out⟩
      case measure => simp [intOf]; omega
set_option maxRecDepth 100000 in
set_option maxHeartbeats 4000000 in
theorem l9AlongR_ {n1 n2 n3 c1 c2 c3 B : Nat} {G1 G2 G3 : Option Addr} {ys : List Lt} {ds : List LtD} {w : World} (hT : LtC B G3 n3 c3 ys w) (hd : ys.map Lt.d = ds) (hs : n3 ≤ 1048576) (hblk : ∀ t, t < ds.length → blkP (dn ds t).q0 (dn ds t).q1) (st : Int) {A : Option Addr} {n c : Nat} {fl : List Int} (hn : fl.length = n) (hr : Rd w w.heap.size A (fl.map (Value.int .i64))) (hx : n ≤ 1048576) :
    Calls Tryz.prog 94 #[.agg #[.slice G1 n1 c1, .slice G2 n2 c2, .slice G3 n3 c3], .agg #[.int .i64 st, .slice A n c]] w (RetP (.int .i64 (alongK ds fl fl.length : Int)) w) := by
  have HT := Lib.hid hT; have HD := Lib.hid hd
  have HLD : Hid (ds.length = n3) := Lib.hid (by rw [← hd, List.length_map]; exact hT.len)
  clear hT hd
  have HBLK := Lib.hid hblk; have HN := Lib.hid hn; have HR := Lib.hid hr
  clear hblk hn hr
  obtain ⟨r, hrr⟩ : ∃ r, alongK ds fl fl.length = r := ⟨_, rfl⟩
  rw [hrr]
  have HRR := Lib.hid hrr
  clear hrr
  go_enter Tryz.func94, Tryz.ntmps94
  go_wp2
  obtain ⟨W0, hW0⟩ : ∃ W0, (w.alloc (Obj.cells #[.slice G1 n1 c1, .slice G2 n2 c2, .slice G3 n3 c3] 35)).alloc (Obj.cells #[.int .i64 st, .slice A n c] 59) = W0 := ⟨_, rfl⟩
  have hb0 : Below w.heap.size w W0 := by rw [← hW0]; exact ((Below.refl _ _).alloc (Nat.le_refl _) _).alloc (by simp) _
  have hk0 : W0.cell? ⟨w.heap.size, 0, none⟩ = some (.slice G1 n1 c1) := by rw [← hW0]; simp [go_sem]
  have hk1 : W0.cell? ⟨w.heap.size, 1, none⟩ = some (.slice G2 n2 c2) := by rw [← hW0]; simp [go_sem]
  have hk2 : W0.cell? ⟨w.heap.size, 2, none⟩ = some (.slice G3 n3 c3) := by rw [← hW0]; simp [go_sem]
  have hk3 : W0.cell? ⟨w.heap.size + 1, 1, none⟩ = some (.slice A n c) := by rw [← hW0]; simp [go_sem]
  have hz0 : w.heap.size + 1 < W0.heap.size := by rw [← hW0]; simp
  have HB0 := Lib.hid hb0; have HK0 := Lib.hid hk0; have HK1 := Lib.hid hk1; have HK2 := Lib.hid hk2; have HK3 := Lib.hid hk3; have HZB := Lib.hid hz0
  rw [hW0]
  clear hW0 hb0 hk0 hk1 hk2 hk3 hz0
  go_loopw [5, 6] (fun v i wr => ∃ (k u : Nat), k ≤ n ∧ i = .int .i64 k ∧ v = .int .i64 u ∧ Hid (u = alongK ds fl k) ∧ u < 16777216 ∧ Below W0.heap.size W0 wr) (fun _ i _ => n - (intOf i).toNat)
  case atStart => exact ⟨0, 0, Nat.zero_le _, rfl, rfl, Lib.hid rfl, by omega, Below.refl _ _⟩
  case round =>
    obtain ⟨k, u, hk, rfl, rfl, HU, hu, hb⟩ := hrel
    have HBW := Lib.hid (HB0.out.trans (hb.mono HB0.out.size))
    have HBR := Lib.hid hb
    have k3 := (hb.cell (p := ⟨w.heap.size + 1, 1, none⟩) HZB.out).trans HK3.out
    by_cases hlt : k < n
    case neg =>
      have HE : Hid (((u : Nat) : Int) = (r : Int)) := Lib.hid (by rw [HU.out, ← HRR.out, show k = fl.length by have := HN.out; omega])
      clear hb
      go_wp2
      go_ret
      exact ⟨reti HE.out, HBW.out⟩
    case pos =>
    have hkl : k < fl.length := by have := HN.out; omega
    obtain ⟨x, hxe⟩ : ∃ x, fl[k]'hkl = x := ⟨_, rfl⟩
    have HXE := Lib.hid (along_at (ds := ds) hkl hxe)
    obtain ⟨ad, hA, hbl, hcell⟩ := ints_at HR.out hkl
    subst hA
    rw [hxe] at hcell
    have HUL : Hid (usedK ds ds.length x < 2 ^ 24) := Lib.hid (used_lt (fun t ht => HBLK.out t ht))
    obtain ⟨T, f, x0, hx0, hTT, HST⟩ := above wr
    haveI : Nonempty T := ⟨x0⟩
    have hbx : ∀ x, Below w.heap.size w (f x) := fun x => HBW.out.trans ((hTT x).mono HBW.out.size)
    have hba : ∀ x, Below W0.heap.size W0 (f x) := fun x => HBR.out.trans ((hTT x).mono HBR.out.size)
    have s0 : ∀ x, (f x).cell? ⟨w.heap.size, 0, none⟩ = some (.slice G1 n1 c1) := fun x => ((hba x).cell (p := ⟨w.heap.size, 0, none⟩) (by show w.heap.size < _; have := HZB.out; omega)).trans HK0.out
    have s1 : ∀ x, (f x).cell? ⟨w.heap.size, 1, none⟩ = some (.slice G2 n2 c2) := fun x => ((hba x).cell (p := ⟨w.heap.size, 1, none⟩) (by show w.heap.size < _; have := HZB.out; omega)).trans HK1.out
    have s2 : ∀ x, (f x).cell? ⟨w.heap.size, 2, none⟩ = some (.slice G3 n3 c3) := fun x => ((hba x).cell (p := ⟨w.heap.size, 2, none⟩) (by show w.heap.size < _; have := HZB.out; omega)).trans HK2.out
    have s3 : ∀ x, (f x).cell? ⟨w.heap.size + 1, 1, none⟩ = some (.slice (some ad) n c) := fun x => ((hba x).cell (p := ⟨w.heap.size + 1, 1, none⟩) HZB.out).trans HK3.out
    have s4 : ∀ y, (f y).cell? (ad.add k) = some (.int .i64 x) := fun y => by rw [(hbx y).cell (p := ad.add k) (by rw [addBlock]; exact hbl)]; exact hcell
    have CU : Hid (∀ y, Calls Tryz.prog 123 #[.agg #[.slice G1 n1 c1, .slice G2 n2 c2, .slice G3 n3 c3], .int .i64 x] (f y) (RetP (.int .i64 (usedK ds ds.length x : Int)) (f y))) := Lib.hid fun y => l9UsedR_ (HT.out.moved (hbx y)) HD.out hs HBLK.out x
    obtain ⟨b, hbb⟩ : ∃ b, usedK ds ds.length x = b := ⟨_, rfl⟩
    rw [hbb] at CU HUL HXE
    have hor := or_i64_ u b (by omega) (by have := HUL.out; omega)
    have hol : u ||| b < 2 ^ 24 := Nat.or_lt_two_pow hu HUL.out
    rw [← HU.out] at HXE
    obtain ⟨o, ho⟩ : ∃ o, u ||| b = o := ⟨_, rfl⟩
    rw [ho] at hor hol HXE
    have HT1 : Hid (∀ x, Below W0.heap.size W0 (f x)) := Lib.hid hba
    have HXX := Lib.hid hx0
    have HS : Hid (o = alongK ds fl (k + 1)) := Lib.hid HXE.out.symm
    clear hba hbx hTT hx0 hcell hxe hkl hb hbb ho
    go_wp2
    refine wp_region_class f (by kernel_rfl) (by kernel_rfl) x0 HXX.out ?_
    repeat (go_big_quiet_step ((go_at_call 123; exact Calls.inClass HST (CU.out _))))
    refine wpQuiet_nil ?_
    rintro _ ⟨y, rfl⟩
    have HB2 := Lib.hid (HT1.out y)
    clear s0 s1 s2 s3 s4 k3
    go_wp2
    go_roundw
    case rel => exact ⟨k + 1, o, by omega, by go_num, rfl, HS, by omega, HB2.out⟩
    case measure => simp [intOf]; omega
end Go.Proofs.YtflniajjecfgeaaGreatDoor
