/- Fibers removed from a network: contracts of RemoveFibers, both sides. No condition but those typed. -/
import Derived.Test.YtlmemmcdabhooaaL2Own
import Derived.Test.YtlmemmcdabhooaaFb
import Derived.Test.YtlmemmcdabhooaaNtA
import Derived.Test.YtlmemmcdabhooaaGB
namespace Go.Proofs.Ytlmemmcdabhooaa
open Go.ChangeShapes Go.WideShapes Go.ChangeAt Go.RowKit

def rfK (gone : List Int) (k : Nat) : List Nat := (List.range k).filter fun i => !decide ((i : Int) ∈ gone)
def rfF (fs : List Q4) (gone : List Int) (k : Nat) : List Q4 := (rfK gone k).map fun i => fs.getD i ⟨0, 0, 0, 0⟩
def rfO (gone : List Int) (k : Nat) : List Int := (rfK gone k).map fun i => ((i : Nat) : Int)
theorem rfK_yes {gone : List Int} {k : Nat} (h : ¬ (k : Int) ∈ gone) : rfK gone (k + 1) = rfK gone k ++ [k] := by
  unfold rfK; rw [List.range_succ, List.filter_append]; simp [h]
theorem rfK_no {gone : List Int} {k : Nat} (h : (k : Int) ∈ gone) : rfK gone (k + 1) = rfK gone k := by
  unfold rfK; rw [List.range_succ, List.filter_append]; simp [h]
theorem rfK_len (gone : List Int) (k : Nat) : (rfK gone k).length ≤ k := Nat.le_trans (List.length_filter_le _ _) (by rw [List.length_range]; exact Nat.le_refl _)
theorem rfF_yes {fs : List Q4} {gone : List Int} {k : Nat} (hk : k < fs.length) {q : Q4} (hq : fs[k] = q) (h : ¬ (k : Int) ∈ gone) : rfF fs gone (k + 1) = rfF fs gone k ++ [q] := by
  unfold rfF; rw [rfK_yes h, List.map_append]
  simp [List.getElem?_eq_getElem hk, hq]
theorem rfF_no {fs : List Q4} {gone : List Int} {k : Nat} (h : (k : Int) ∈ gone) : rfF fs gone (k + 1) = rfF fs gone k := by unfold rfF; rw [rfK_no h]
theorem rfO_yes {gone : List Int} {k : Nat} (h : ¬ (k : Int) ∈ gone) : rfO gone (k + 1) = rfO gone k ++ [(k : Int)] := by unfold rfO; rw [rfK_yes h, List.map_append]; rfl
theorem rfO_no {gone : List Int} {k : Nat} (h : (k : Int) ∈ gone) : rfO gone (k + 1) = rfO gone k := by unfold rfO; rw [rfK_no h]
theorem rfF_len (fs : List Q4) (gone : List Int) (k : Nat) : (rfF fs gone k).length = (rfK gone k).length := by unfold rfF; rw [List.length_map]
theorem rfO_len (gone : List Int) (k : Nat) : (rfO gone k).length = (rfK gone k).length := by unfold rfO; rw [List.length_map]
def rfP (ss : List ByteArray) (fs : List Q4) (gone : List Int) : Prop := netP ss fs ∧ risB gone fs.length = true
noncomputable def rfLS (ss : List ByteArray) (fs : List Q4) (gone : List Int) : List ByteArray := if pb (rfP ss fs gone) then ss else []
noncomputable def rfLF (ss : List ByteArray) (fs : List Q4) (gone : List Int) : List Q4 := if pb (rfP ss fs gone) then rfF fs gone fs.length else []
noncomputable def rfLO (ss : List ByteArray) (fs : List Q4) (gone : List Int) : List Int := if pb (rfP ss fs gone) then rfO gone fs.length else []
theorem rf_no {ss : List ByteArray} {fs : List Q4} {gone : List Int} (h : ¬ rfP ss fs gone) : rfLS ss fs gone = [] ∧ rfLF ss fs gone = [] ∧ rfLO ss fs gone = [] ∧ pb (rfP ss fs gone) = false := by
  have e := pb_false h
  unfold rfLS rfLF rfLO; rw [e]; exact ⟨rfl, rfl, rfl, rfl⟩
theorem rf_yes {ss : List ByteArray} {fs : List Q4} {gone : List Int} (h : rfP ss fs gone) : rfLS ss fs gone = ss ∧ rfLF ss fs gone = rfF fs gone fs.length ∧ rfLO ss fs gone = rfO gone fs.length ∧ pb (rfP ss fs gone) = true := by
  have e := pb_true h
  unfold rfLS rfLF rfLO; rw [e]; exact ⟨rfl, rfl, rfl, rfl⟩
theorem rfL_len (ss : List ByteArray) (fs : List Q4) (gone : List Int) : (rfLS ss fs gone).length ≤ ss.length ∧ (rfLF ss fs gone).length ≤ fs.length ∧ (rfLO ss fs gone).length ≤ fs.length := by
  unfold rfLS rfLF rfLO
  split
  · exact ⟨Nat.le_refl _, by rw [rfF_len]; exact rfK_len _ _, by rw [rfO_len]; exact rfK_len _ _⟩
  · simp
/-- an answer: a network, a list of ints and a word. -/
def NtO (ss : List ByteArray) (fs : List Q4) (os : List Int) (b : Bool) (w : World) (e : Ending) (w' : World) : Prop :=
  ∃ (A1 A2 A3 : Option Addr) (N1 N2 N3 d1 d2 d3 : Nat), e = .returned (.tuple #[.agg #[.slice A1 N1 d1, .slice A2 N2 d2], .slice A3 N3 d3, .bool b]) ∧ Hid (N1 = ss.length) ∧ Hid (N2 = fs.length) ∧ Hid (N3 = os.length) ∧
    w'.ownsRow w.heap.size 9 1 (.slice A1 N1 d1) N1 (ss.map Value.string) ∧ w'.ownsRow w.heap.size 94 4 (.slice A2 N2 d2) N2 (fs.flatMap Q4.cells) ∧ w'.ownsRow w.heap.size 3 1 (.slice A3 N3 d3) N3 (os.map (Value.int .i64)) ∧ Below w.heap.size w w'
theorem one_rowN (w : World) (a b : Value) {base : Nat} (hb : base ≤ w.heap.size) : (w.alloc (.cells #[a, b] 34)).ownsRow base 34 2 (.slice (some ⟨w.heap.size, 0, none⟩) 1 1) 1 [a, b] := by
  have := World.ownsRow_lit (base := base) (e := 34) (size := 2) w #[a, b] 1 hb (by unfold maxLen; omega) rfl
  simpa using this
theorem new_four (W : World) (E : TypeId) (a b c d : Value) (g : Nat) (hg : W.heap.size = g) : ∀ (j : Nat) (u : Value), [a, b, c, d][j]? = some u → (W.alloc (.cells #[a, b, c, d] E)).cell? ⟨g, j, none⟩ = some u := by
  subst hg
  intro j u hu
  match j, hu with
  | 0, hu => simp at hu; subst hu; simp [go_sem]
  | 1, hu => simp at hu; subst hu; simp [go_sem]
  | 2, hu => simp at hu; subst hu; simp [go_sem]
  | 3, hu => simp at hu; subst hu; simp [go_sem]
theorem new_fourA (W : World) (E : TypeId) (a b c d : Value) (g : Nat) (hg : W.heap.size = g) : ∀ (j : Nat) (u : Value), [a, b, c, d][j]? = some u → (W.alloc (.cells #[a, b, c, d] E)).cell? ((⟨g, 0, none⟩ : Addr).add j) = some u := by
  intro j u hu
  have e0 : (⟨g, 0, none⟩ : Addr).add j = ⟨g, j, none⟩ := by unfold Addr.add; split <;> simp_all
  rw [e0]; exact new_four W E a b c d g hg j u hu
theorem four_one (q : Q4) : ∀ u ∈ q.cells, u.oneCell' = true := by
  intro u hu
  simp only [Q4.cells, List.mem_cons, List.not_mem_nil, or_false] at hu
  rcases hu with rfl | rfl | rfl | rfl <;> rfl
theorem own_heapA {w w' : World} {B E s n : Nat} {v : Value} {xs : List Value} (h : w.ownsRow B E s v n xs) (e : w'.heap = w.heap) (o : Obj) : (w'.alloc o).ownsRow B E s v n xs := (own_heapW e h).alloc o
theorem new_fourB {W' W : World} {E : TypeId} {a b c d : Value} {g : Nat} (e : W'.heap = (W.alloc (.cells #[a, b, c, d] E)).heap) (hg : W.heap.size = g) : ∀ (j : Nat) (u : Value), [a, b, c, d][j]? = some u → W'.cell? ((⟨g, 0, none⟩ : Addr).add j) = some u := by
  intro j u hu
  rw [← new_fourA W E a b c d g hg j u hu]
  exact World.cell?_of_block (by rw [e])
theorem cells_snoc (xs : List Q4) (q : Q4) : (xs ++ [q]).flatMap Q4.cells = xs.flatMap Q4.cells ++ q.cells := by rw [List.flatMap_append]; simp
set_option maxHeartbeats 1000000 in
theorem sclone_ (s : ByteArray) (w : World) (hlim : s.size ≤ 281474976710656) :
    Calls Try.prog 143 #[.string s] w fun e w' => e = .returned (.string s) ∧ Below w.heap.size w w' := by
  have C := Lib.hid (Try.stringslite_Clone s w hlim)
  go_enter Try.func143, Try.ntmps143
  go_wp2_with fail
  refine C.out.mono ?_
  rintro e w' ⟨rfl, hb⟩
  go_wp2
  go_ret
  exact ⟨rfl, hb⟩
theorem madeS (n : Nat) : (madeCells #[Value.string ByteArray.empty] n).toList = List.replicate n (Value.string ByteArray.empty) := by
  apply List.ext_getElem?
  intro j
  by_cases hj : j < n
  · simp [madeCells, hj, Nat.mod_one]
  · simp [madeCells, hj]
def strF (ss : List ByteArray) (k n : Nat) : List Value := (ss.take k).map Value.string ++ List.replicate (n - k) (.string ByteArray.empty)
theorem strF_set {ss : List ByteArray} {k n : Nat} (hn : ss.length = n) (hk : k < n) {s : ByteArray} (hs : ss[k]'(by omega) = s) : (strF ss k n).set k (.string s) = strF ss (k + 1) n := by
  have hp : ((ss.take k).map Value.string).length = k := by rw [List.length_map, List.length_take]; omega
  have e : n - k = (n - (k + 1)) + 1 := by omega
  unfold strF
  rw [set_pre0 _ _ _ _ hp, e, List.replicate_succ, List.set_cons_zero, List.take_succ_eq_append_getElem (by omega), hs, List.map_append, List.append_assoc]; rfl
set_option maxRecDepth 100000 in
set_option maxHeartbeats 4000000 in
theorem copyNames_ (g n c : Nat) (ss : List ByteArray) (w : World) (hn : ss.length = n) (hs : n ≤ 1000) (hsz : ∀ s ∈ ss, s.size ≤ 281474976710656) (hr : Rd w w.heap.size (some ⟨g, 0, none⟩) (ss.map Value.string)) :
    Calls Try.prog 89 #[.slice (some ⟨g, 0, none⟩) n c] w fun e w' => ∃ gN, e = .returned (.slice (some ⟨gN, 0, none⟩) n n) ∧ w'.ownsRow w.heap.size 9 1 (.slice (some ⟨gN, 0, none⟩) n n) n (ss.map Value.string) ∧ Below w.heap.size w w' := by
  obtain ⟨i0, hi, hz0_, hz1_, hz2_⟩ := info_parts Try.inf_str
  have HI := Lib.hid hi; have HZI0 := Lib.hid hz0_; have HZI1 := Lib.hid hz1_; have HZI2 := Lib.hid hz2_
  clear hi hz0_ hz1_ hz2_
  have HN := Lib.hid hn; have HR := Lib.hid hr; have HSZ := Lib.hid hsz
  clear hn hr hsz
  go_enter Try.func89, Try.ntmps89
  go_wp2_with (at_make; refine wpList_make_full _ rfl _ _ 22 rfl w.heap.size 9 i0 _ 1 Try.underlying22 HI.out HZI0.out HZI1.out .i64 .i64 n n n rfl rfl rfl rfl (by rw [HZI2.out]; omega) (by unfold maxLen; omega) (Nat.le_refl _) ?_)
  intro w1 hown hgrow
  have HB1 : Hid (Below w.heap.size w w1) := Lib.hid ((Below.refl _ _).grown hgrow (Nat.le_refl _) (fun k h => by cases h))
  have HO1 : Hid (w1.ownsRow w.heap.size 9 1 (.slice (some ⟨w.heap.size, 0, none⟩) n n) n (strF ss 0 n)) := Lib.hid (by
    have e : strF ss 0 n = (madeCells #[Value.string ByteArray.empty] n).toList := by
      rw [madeS]; unfold strF; simp
    rw [e]; exact hown)
  clear hown hgrow
  go_wp2
  go_loopw [11] (fun i wr => ∃ k : Nat, k ≤ n ∧ i = .int .i64 k ∧ Hid (wr.ownsRow w.heap.size 9 1 (.slice (some ⟨w.heap.size, 0, none⟩) n n) n (strF ss k n)) ∧ Below w.heap.size w wr) (fun i _ => n - (intOf i).toNat)
  case atStart => exact ⟨0, Nat.zero_le _, rfl, HO1, HB1.out⟩
  case round =>
    obtain ⟨k, hk, rfl, HOW, hb⟩ := hrel
    have HBR := Lib.hid hb
    by_cases hlt : k < n
    case neg =>
      obtain rfl : k = n := by omega
      have HE : Hid (strF ss k k = ss.map Value.string) := Lib.hid (by unfold strF; rw [List.take_of_length_le (by have := HN.out; omega)]; simp)
      clear hlt hb
      go_wp2
      go_ret
      exact ⟨_, rfl, by rw [← HE.out]; exact HOW.out, HBR.out⟩
    case pos =>
    have hks : k < ss.length := by have := HN.out; omega
    obtain ⟨s, hse⟩ : ∃ s, ss[k]'hks = s := ⟨_, rfl⟩
    obtain ⟨ad, e, hbl, hcell⟩ := (HR.out.moved hb) k (.string s) (by rw [List.getElem?_map, List.getElem?_eq_getElem hks, hse]; rfl)
    injection e with e; subst e
    have ea : (⟨g, 0, none⟩ : Addr).add k = ⟨g, k, none⟩ := by unfold Addr.add; split <;> simp_all
    rw [ea] at hcell
    have HSE := Lib.hid hse
    have hss : s.size ≤ 281474976710656 := HSZ.out s (by rw [← hse]; exact List.getElem_mem hks)
    have CC := Lib.hid (sclone_ s wr hss)
    clear hb ea hse
    go_wp2_with fail
    refine CC.out.mono ?_
    rintro e w2 ⟨rfl, hb2⟩
    have hown2 := ownB HOW.out hb2
    have hlen := hown2.1
    have hold := hown2.cellAt k (by omega)
    rw [List.getElem?_eq_getElem (by omega)] at hold
    have hfz := hown2.frozenAt k
    have hst := (hown2.stored k (.string s)).1
    rw [strF_set HN.out hlt HSE.out] at hst
    have HST := Lib.hid hst
    have HB3 : Hid (Below w.heap.size w (w2.setCell ⟨w.heap.size, k, none⟩ (.string s))) := Lib.hid ((HBR.out.trans (hb2.mono HBR.out.size)).setCell (p := ⟨w.heap.size, k, none⟩) (Nat.le_refl _) _)
    obtain ⟨old, hold'⟩ : ∃ v, (strF ss k n)[k]'(by omega) = v := ⟨_, rfl⟩
    rw [hold'] at hold
    clear hst hown2 hlen hold' hb2
    go_wp2
    go_roundw
    case rel => exact ⟨k + 1, by omega, by go_num, HST, HB3.out⟩
    case measure => simp [intOf]; omega

set_option maxRecDepth 100000 in
set_option maxHeartbeats 8000000 in
theorem specRF {g1 g2 n1 n2 c1 c2 : Nat} {ss : List ByteArray} {fs : List Q4} {w : World} (h : NetAt g1 g2 n1 n2 c1 c2 ss fs w) {g3 n3 c3 : Nat} {gone : List Int} (hn3 : gone.length = n3) (hrd : Rd w w.heap.size (some ⟨g3, 0, none⟩) (gone.map (Value.int .i64))) (hs3 : n3 ≤ 1048576) :
    Calls Try.prog 29 #[.agg #[.slice (some ⟨g1, 0, none⟩) n1 c1, .slice (some ⟨g2, 0, none⟩) n2 c2], .slice (some ⟨g3, 0, none⟩) n3 c3] w (NtO (rfLS ss fs gone) (rfLF ss fs gone) (rfLO ss fs gone) (pb (rfP ss fs gone)) w) := by
  have HNT := Lib.hid h; have HN3 := Lib.hid hn3; have HRD := Lib.hid hrd; have HL1 := Lib.hid h.ln1; have HL2 := Lib.hid h.ln2
  have hsm2 := h.sm2
  clear h hn3 hrd
  obtain ⟨LS, hLS⟩ : ∃ r, rfLS ss fs gone = r := ⟨_, rfl⟩
  obtain ⟨LF, hLF⟩ : ∃ r, rfLF ss fs gone = r := ⟨_, rfl⟩
  obtain ⟨LO, hLO⟩ : ∃ r, rfLO ss fs gone = r := ⟨_, rfl⟩
  obtain ⟨RB, hRB⟩ : ∃ r, pb (rfP ss fs gone) = r := ⟨_, rfl⟩
  rw [hLS, hLF, hLO, hRB]
  have HNO : Hid (¬ rfP ss fs gone → LS = [] ∧ LF = [] ∧ LO = [] ∧ RB = false) := Lib.hid (fun e => by rw [← hLS, ← hLF, ← hLO, ← hRB]; exact rf_no e)
  have HYES : Hid (rfP ss fs gone → LS = ss ∧ LF = rfF fs gone fs.length ∧ LO = rfO gone fs.length ∧ RB = true) := Lib.hid (fun e => by rw [← hLS, ← hLF, ← hLO, ← hRB]; exact rf_yes e)
  clear hLS hLF hLO hRB
  obtain ⟨W0, hW0⟩ : ∃ W0, (w.alloc (Obj.cells #[.slice (some ⟨g1, 0, none⟩) n1 c1, .slice (some ⟨g2, 0, none⟩) n2 c2] 34)).alloc (Obj.cells #[.slice none 0 0, .slice none 0 0] 34) = W0 := ⟨_, rfl⟩
  have hb0 : Below w.heap.size w W0 := by rw [← hW0]; exact ((Below.refl _ _).alloc (Nat.le_refl _) _).alloc (by simp) _
  have k0 : W0.cell? ⟨w.heap.size, 0, none⟩ = some (.slice (some ⟨g1, 0, none⟩) n1 c1) := by rw [← hW0]; simp [go_sem]
  have k1 : W0.cell? ⟨w.heap.size, 1, none⟩ = some (.slice (some ⟨g2, 0, none⟩) n2 c2) := by rw [← hW0]; simp [go_sem]
  have HR0 : Hid (W0.ownsRow (w.heap.size + 1) 34 2 (.slice (some ⟨w.heap.size + 1, 0, none⟩) 1 1) 1 [.slice none 0 0, .slice none 0 0]) := Lib.hid (by
    rw [← hW0]
    have := one_rowN (w.alloc (Obj.cells #[.slice (some ⟨g1, 0, none⟩) n1 c1, .slice (some ⟨g2, 0, none⟩) n2 c2] 34)) (.slice none 0 0) (.slice none 0 0) (base := w.heap.size + 1) (by simp)
    simpa using this)
  have hz0 : W0.heap.size = w.heap.size + 2 := by rw [← hW0]; simp
  have HB0 := Lib.hid hb0; have HZ0 := Lib.hid hz0
  obtain ⟨b, hb⟩ : ∃ b, pb (netP ss fs) = b := ⟨_, rfl⟩
  have HPB := Lib.hid hb
  have CG := Lib.hid (specNet_ (HNT.out.moved HB0.out))
  rw [hb] at CG
  have hzy : w.heap.size < W0.heap.size := by omega
  clear hb hb0
  go_enter Try.func29, Try.ntmps29
  go_wp2_with fail
  clear hW0
  refine CG.out.mono ?_
  rintro e w1 ⟨rfl, hb1⟩
  have HB1 := Lib.hid (HB0.out.trans (hb1.mono HB0.out.size))
  have l0 := (hb1.cell (p := ⟨w.heap.size, 0, none⟩) hzy).trans k0
  have l1 := (hb1.cell (p := ⟨w.heap.size, 1, none⟩) hzy).trans k1
  have HR1 := Lib.hid (ownB HR0.out hb1)
  have hzw : w.heap.size + 2 ≤ w1.heap.size := by have := hb1.size; omega
  have HZW := Lib.hid hzw
  clear hb1 k0 k1 hz0 hzy
  have d0 := HR1.out.cellAt 0 (by omega)
  have d1 := HR1.out.cellAt 1 (by omega)
  simp only [List.getElem?_cons_zero, List.getElem?_cons_succ] at d0 d1
  have e0_ := HR1.out.frozenAt 0
  have e1_ := HR1.out.frozenAt 1
  cases b
  case false =>
    have HNB := Lib.hid (HNO.out (fun e => by have := pb_true e.1; rw [HPB.out] at this; cases this))
    obtain ⟨rfl, rfl, rfl, rfl⟩ := HNB.out
    have hszz : w.heap.size + 1 < w1.heap.size := by omega
    go_wp2
    exact bodyPost_ret (v := .tuple #[.agg #[.slice none 0 0, .slice none 0 0], .slice (some ⟨w1.heap.size, 0, none⟩) 0 0, .bool false]) (by simp [results, Try.results29, go_sem, d0, d1, hszz]) rfl ⟨none, none, (some ⟨w1.heap.size, 0, none⟩), 0, 0, 0, 0, 0, 0, rfl, Lib.hid rfl, Lib.hid rfl, Lib.hid rfl, World.ownsRow_nil _ _ _ _, World.ownsRow_nil _ _ _ _, lit_own (nh (by simp)) (by omega), ((HB1.out.setCell (p := ⟨w.heap.size + 1, 0, none⟩) (by show w.heap.size ≤ w.heap.size + 1; omega) _).setCell (p := ⟨w.heap.size + 1, 1, none⟩) (by show w.heap.size ≤ w.heap.size + 1; omega) _).alloc (by simp; omega) _⟩
  case true =>
  have hNP : netP ss fs := of_pb HPB.out
  have HNP := Lib.hid hNP
  have hn14 : n2 ≤ 14 := by have := hNP.2.1; have := HL2.out; omega
  have hn8 : n1 ≤ 8 ∧ 2 ≤ n1 := by have := hNP.1; have := HL1.out; omega
  obtain ⟨rb, hrb⟩ : ∃ b, risB gone fs.length = b := ⟨_, rfl⟩
  have HRB := Lib.hid hrb
  have CR := Lib.hid (rising_ (some ⟨g3, 0, none⟩) n3 c3 gone ((n2 : Int) - 1) w1 HN3.out hs3 (HRD.out.moved HB1.out))
  rw [show (n2 : Int) - 1 + 1 = (fs.length : Int) by have := HL2.out; omega, hrb] at CR
  clear hrb hNP
  go_wp2_with fail
  refine CR.out.mono ?_
  rintro e w2 ⟨rfl, hb2⟩
  have HB2 := Lib.hid (HB1.out.trans (hb2.mono HB1.out.size))
  have m0 := (hb2.cell (p := ⟨w.heap.size, 0, none⟩) (by show w.heap.size < _; omega)).trans l0
  have m1 := (hb2.cell (p := ⟨w.heap.size, 1, none⟩) (by show w.heap.size < _; omega)).trans l1
  have HR2 := Lib.hid (ownB HR1.out hb2)
  have hzw2 : w.heap.size + 2 ≤ w2.heap.size := Nat.le_trans hzw hb2.size
  clear hb2 l0 l1 d0 d1 e0_ e1_ hzw HB1 HR1 HZW
  have HB1 := HB2; have HR1 := HR2
  have d0 := HR1.out.cellAt 0 (by omega)
  have d1 := HR1.out.cellAt 1 (by omega)
  simp only [List.getElem?_cons_zero, List.getElem?_cons_succ] at d0 d1
  have e0_ := HR1.out.frozenAt 0
  have e1_ := HR1.out.frozenAt 1
  cases rb
  case false =>
    have HNB := Lib.hid (HNO.out (fun e => by have := e.2; rw [HRB.out] at this; cases this))
    obtain ⟨rfl, rfl, rfl, rfl⟩ := HNB.out
    have hszz : w.heap.size + 1 < w2.heap.size := by omega
    go_wp2
    exact bodyPost_ret (v := .tuple #[.agg #[.slice none 0 0, .slice none 0 0], .slice (some ⟨w2.heap.size, 0, none⟩) 0 0, .bool false]) (by simp [results, Try.results29, go_sem, d0, d1, hszz]) rfl ⟨none, none, (some ⟨w2.heap.size, 0, none⟩), 0, 0, 0, 0, 0, 0, rfl, Lib.hid rfl, Lib.hid rfl, Lib.hid rfl, World.ownsRow_nil _ _ _ _, World.ownsRow_nil _ _ _ _, lit_own (nh (by simp)) (by omega), ((HB1.out.setCell (p := ⟨w.heap.size + 1, 0, none⟩) (by show w.heap.size ≤ w.heap.size + 1; omega) _).setCell (p := ⟨w.heap.size + 1, 1, none⟩) (by show w.heap.size ≤ w.heap.size + 1; omega) _).alloc (by simp; omega) _⟩
  case true =>
  have HY := Lib.hid (HYES.out ⟨HNP.out, HRB.out⟩)
  clear d0 d1 e0_ e1_
  obtain ⟨is_, his, hs0_, hs1_, hs2_⟩ := info_parts Try.inf_str
  have HIS := Lib.hid his; have HS0 := Lib.hid hs0_; have HS1 := Lib.hid hs1_; have HS2 := Lib.hid hs2_
  clear his hs0_ hs1_ hs2_
  have HNW : Hid (∀ (j : Nat) (u : Value), (ss.map Value.string)[j]? = some u → (w2.alloc (Obj.cells #[] 9)).cell? ((⟨g1, 0, none⟩ : Addr).add j) = some u) := Lib.hid (fun j u hu => Lib.cell?_alloc_some _ (rd_cells (HNT.out.rd1.moved HB2.out) (Below.refl _ _) j u hu))
  have m0a : (w2.alloc (Obj.cells #[] 9)).cell? ⟨w.heap.size, 0, none⟩ = some (.slice (some ⟨g1, 0, none⟩) n1 c1) := Lib.cell?_alloc_some _ m0
  go_wp2_with (at_builtin; refine wpList_append_own _ rfl _ _ 22 rfl w2.heap.size 9 is_ (.string ByteArray.empty) 1 16 Try.underlying22 HIS.out HS0.out HS1.out HS2.out rfl (by decide) _ 0 _ rfl (lit_own (nh rfl) (Nat.le_refl _)) ⟨g1, 0, none⟩ n1 c1 _ rfl (by rw [List.length_map, HL1.out, Nat.mul_one]) HNW.out (one_strs ss) (by unfold maxLen; omega) (by omega) (by simp) ?_)
  intro v1 w3 hown hgrow _
  have hb3 : Below w2.heap.size w2 w3 := ((Below.refl _ _).alloc (Nat.le_refl _) _).grown hgrow (by simp) (fun g hg => by simp [Value.ownBlock] at hg; omega)
  have hown' : w3.ownsRow w2.heap.size 9 1 v1 n1 (ss.map Value.string) := by simpa using hown
  obtain ⟨A1, d1, rfl⟩ := formOf hown'
  clear hown hgrow m0a
  have HN1 := Lib.hid (own_base (B' := w.heap.size + 2) hown' (by omega))
  have HB3 := Lib.hid (HB2.out.trans (hb3.mono HB2.out.size))
  have HR3 := Lib.hid (ownB HR2.out hb3)
  have hm1 := (hb3.cell (p := ⟨w.heap.size, 1, none⟩) (by show w.heap.size < _; omega)).trans m1
  have hzw3 : w.heap.size + 2 ≤ w3.heap.size := Nat.le_trans hzw2 hb3.size
  have HZW := Lib.hid hzw3
  have hm1a : (w3.alloc (Obj.cells #[.slice A1 n1 d1, .slice none 0 0] 34)).cell? ⟨w.heap.size, 1, none⟩ = some (.slice (some ⟨g2, 0, none⟩) n2 c2) := Lib.cell?_alloc_some _ hm1
  clear hown' m0
  go_wp2_with fail
  clear hm1a
  obtain ⟨bx, hbx⟩ : ∃ b, w3.heap.size = b := ⟨_, rfl⟩
  obtain ⟨w4, hw4⟩ : ∃ w4, w3.alloc (Obj.cells #[.slice A1 n1 d1, .slice none 0 0] 34) = w4 := ⟨_, rfl⟩
  have HBX4 : Hid (w4.ownsRow bx 34 2 (.slice (some ⟨bx, 0, none⟩) 1 1) 1 [.slice A1 n1 d1, .slice none 0 0]) := Lib.hid (by rw [← hw4, ← hbx]; exact one_rowN w3 _ _ (Nat.le_refl _))
  have HB4 : Hid (Below bx w3 w4) := Lib.hid (by rw [← hw4, ← hbx]; exact (Below.refl _ _).alloc (Nat.le_refl _) _)
  have hz4 : w4.heap.size = bx + 1 := by rw [← hw4, ← hbx]; simp
  have hzx : w.heap.size + 2 ≤ bx := by rw [← hbx]; exact hzw3
  have HBXE := Lib.hid hbx
  have m4 := (HB4.out.cell (p := ⟨w.heap.size, 1, none⟩) (by show w.heap.size < bx; omega)).trans hm1
  rw [hw4, hbx]
  clear hb3 m1 hzw2 hzw3 hw4 hbx
  have HI4 : Hid ((w4.alloc (Obj.cells #[] 3)).ownsRow (bx + 1) 3 1 (.slice (some ⟨bx + 1, 0, none⟩) 0 0) 0 []) := Lib.hid (lit_own (nh hz4) (Nat.le_refl _))
  have HB5 : Hid (Below bx w3 (w4.alloc (Obj.cells #[] 3))) := Lib.hid (HB4.out.alloc (by omega) _)
  have HBX5 := Lib.hid (ownB HBX4.out ((Below.refl w4.heap.size w4).alloc (Nat.le_refl _) (Obj.cells #[] 3)))
  go_wp2_with fail
  have HM1 := Lib.hid hm1
  clear m4 hm1
  go_loopw [8, 9] (fun v i wr => ∃ (k N : Nat) (A3 A2 : Option Addr) (d2 d3 : Nat), k ≤ n2 ∧ i = .int .i64 (k : Int) ∧ v = .slice A3 N d3 ∧ Hid (N = (rfK gone k).length) ∧ Hid (wr.ownsRow (bx + 1) 94 4 (.slice A2 N d2) N ((rfF fs gone k).flatMap Q4.cells)) ∧ Hid (wr.ownsRow (bx + 1) 3 1 (.slice A3 N d3) N ((rfO gone k).map (Value.int .i64))) ∧ Hid (wr.ownsRow bx 34 2 (.slice (some ⟨bx, 0, none⟩) 1 1) 1 [.slice A1 n1 d1, .slice A2 N d2]) ∧ Below bx w3 wr) (fun _ i _ => n2 - (intOf i).toNat)
  case atStart => exact ⟨0, 0, _, none, 0, _, Nat.zero_le _, rfl, rfl, Lib.hid rfl, Lib.hid (World.ownsRow_nil _ _ _ _), HI4, HBX5, HB5.out⟩
  case round =>
    obtain ⟨k, N, A3, A2, d2, d3, hk, rfl, rfl, HNN, HFR, HIR, HBR, hb⟩ := hrel
    have HBW := Lib.hid hb
    have HBWW := Lib.hid (HB3.out.trans (hb.mono (by omega)))
    have hszx : bx < wr.heap.size := (HBR.out.lt bx rfl).2
    have b0 := HBR.out.cellAt 0 (by decide)
    have b1 := HBR.out.cellAt 1 (by decide)
    simp only [List.getElem?_cons_zero, List.getElem?_cons_succ] at b0 b1
    have z1 := HBR.out.frozenAt 1
    have m1 := (hb.cell (p := ⟨w.heap.size, 1, none⟩) (by show w.heap.size < bx; omega)).trans HM1.out
    have hN14 : N ≤ 14 := by have := rfK_len gone k; have := HNN.out; omega
    clear hb
    by_cases hlt : k < n2
    case neg =>
      obtain rfl : k = n2 := by omega
      have HRR := Lib.hid (ownB (own_lt HR3.out HBW.out (by have := HZW.out; omega)) (Below.refl _ _))
      have t0 := HRR.out.frozenAt 0; have t1 := HRR.out.frozenAt 1
      have s0 := HRR.out.cellAt 0 (by decide); have s1 := HRR.out.cellAt 1 (by decide)
      simp only [List.getElem?_cons_zero, List.getElem?_cons_succ] at s0 s1
      have hz1 : w.heap.size + 1 < wr.heap.size := by omega
      obtain ⟨e1, e2, e3, e4⟩ := HY.out
      have HES := Lib.hid e1; have HEF : Hid (LF = rfF fs gone k) := Lib.hid (by rw [e2, HL2.out]); have HEO : Hid (LO = rfO gone k) := Lib.hid (by rw [e3, HL2.out])
      obtain rfl := e4
      clear hlt e1 e2 e3
      go_wp2_with fail
      refine bodyPost_ret (v := .tuple #[.agg #[.slice A1 n1 d1, .slice A2 N d2], .slice A3 N d3, .bool true]) (by simp [results, Try.results29, go_sem, s0, s1, hz1]) rfl ⟨A1, A2, A3, n1, N, N, d1, d2, d3, rfl, ?_, ?_, ?_, ?_, ?_, ?_, ?_⟩
      · exact Lib.hid (by rw [HES.out, HL1.out])
      · exact Lib.hid (by rw [HEF.out, rfF_len, HNN.out])
      · exact Lib.hid (by rw [HEO.out, rfO_len, HNN.out])
      · rw [HES.out]
        refine own_base (B := w.heap.size + 2) ?_ (by omega)
        repeat (first | with_reducible exact (ownB HN1.out (by rw [HBXE.out]; exact HBW.out)) | refine ownsRow_setCell_below ?_ (a := ⟨w.heap.size + 1, _, none⟩) (by show w.heap.size + 1 < w.heap.size + 2; omega) _)
      · rw [HEF.out]
        refine own_base (B := bx + 1) ?_ (by omega)
        repeat (first | with_reducible exact HFR.out | refine ownsRow_setCell_below ?_ (a := ⟨w.heap.size + 1, _, none⟩) (by show w.heap.size + 1 < bx + 1; omega) _)
      · rw [HEO.out]
        refine own_base (B := bx + 1) ?_ (by omega)
        repeat (first | with_reducible exact HIR.out | refine ownsRow_setCell_below ?_ (a := ⟨w.heap.size + 1, _, none⟩) (by show w.heap.size + 1 < bx + 1; omega) _)
      · repeat (first | with_reducible exact HBWW.out | refine Below.setCell ?_ (p := ⟨w.heap.size + 1, _, none⟩) (by show w.heap.size ≤ w.heap.size + 1; omega) _)
    case pos =>
    have hks : k < fs.length := by have := HL2.out; omega
    obtain ⟨q, hq⟩ : ∃ q, fs[k]'hks = q := ⟨_, rfl⟩
    have HQ := Lib.hid hq
    obtain ⟨qa, qb, qc, qd⟩ := q
    obtain ⟨hg, f0, f1, f2, f3⟩ := (HNT.out.rd2.moved HBWW.out).q4c hks
    rw [Nat.zero_add, hq] at f0 f1 f2 f3
    simp only at f0 f1 f2 f3
    clear hq
    have CH := Lib.hid (has_ (some ⟨g3, 0, none⟩) n3 c3 gone (k : Int) wr HN3.out (HRD.out.moved HBWW.out) (by omega))
    by_cases hin : (k : Int) ∈ gone
    case pos =>
      have HS1 : Hid (rfK gone (k + 1) = rfK gone k) := Lib.hid (rfK_no hin)
      have HS2 : Hid (rfF fs gone (k + 1) = rfF fs gone k) := Lib.hid (rfF_no hin)
      have HS3 : Hid (rfO gone (k + 1) = rfO gone k) := Lib.hid (rfO_no hin)
      rw [decide_eq_true hin] at CH
      rw [← HS1.out] at HNN; rw [← HS2.out] at HFR; rw [← HS3.out] at HIR
      clear hin f0 f1 f2 f3
      go_wp2_with fail
      refine CH.out.mono ?_
      rintro e w' ⟨rfl, rfl⟩
      go_wp2
      go_roundw
      case rel => exact ⟨k + 1, N, A3, A2, d2, d3, by omega, by go_num, rfl, HNN, HFR, HIR, HBR, HBW.out⟩
      case measure => simp [intOf]; omega
    case neg =>
    have HS1 : Hid (rfK gone (k + 1) = rfK gone k ++ [k]) := Lib.hid (rfK_yes hin)
    have HS2 : Hid (rfF fs gone (k + 1) = rfF fs gone k ++ [⟨qa, qb, qc, qd⟩]) := Lib.hid (rfF_yes hks HQ.out hin)
    have HS3 : Hid (rfO gone (k + 1) = rfO gone k ++ [(k : Int)]) := Lib.hid (rfO_yes hin)
    rw [decide_eq_false hin] at CH
    obtain ⟨iF, hiF, hF0, hF1, hF2⟩ := info_parts Try.inf_Fib
    have HIF := Lib.hid hiF; have HF0 := Lib.hid hF0; have HF1 := Lib.hid hF1; have HF2 := Lib.hid hF2
    clear hin hiF hF0 hF1 hF2
    have hkI : (k : Int) < (n2 : Int) := by omega
    go_wp2_with fail
    refine CH.out.mono ?_
    rintro e w' ⟨rfl, rfl⟩
    have hbA : Below (bx + 1) wr (wr.alloc (Obj.cells #[.int .i64 qa, .int .i64 qb, .int .i64 qc, .int .i64 qd] 94)) := (Below.refl _ _).alloc (by omega) _
    have HFA := Lib.hid (HFR.out.alloc (Obj.cells #[.int .i64 qa, .int .i64 qb, .int .i64 qc, .int .i64 qd] 94))
    have HIA := Lib.hid (HIR.out.alloc (Obj.cells #[.int .i64 qa, .int .i64 qb, .int .i64 qc, .int .i64 qd] 94))
    go_wp2_with fail
    go_region_law ((refine step_app (by rfl) (.tmp 42) (.tmp 48) 32 (by rfl) (bx + 1) 94 iF (.agg #[.int .i64 0, .int .i64 0, .int .i64 0, .int .i64 0]) 4 32 Try.underlying32 HIF.out HF0.out HF1.out HF2.out rfl (by decide) (.slice A2 N d2) N ((rfF fs gone k).flatMap Q4.cells) (by rfl) (own_heapW (by rfl) HFA.out) (⟨wr.heap.size, 0, none⟩) 1 1 [.int .i64 qa, .int .i64 qb, .int .i64 qc, .int .i64 qd] (by rfl) (by rfl) (new_fourB (by rfl) (by rfl)) (four_one ⟨qa, qb, qc, qd⟩) (by unfold maxLen; omega) (by omega) (by simp; omega) ?_); intro v2 w5 hown5 hgrow5; obtain ⟨A4, d4, rfl⟩ := formOf hown5; have hb5 : Below (bx + 1) wr w5 := Below.grown (by first | exact hbA | exact hbA.drew | exact drewN_below hbA _) hgrow5 (by simp; omega) (fun g9 hg9 => (HFR.out.lt g9 hg9).1); have HIR5 := Lib.hid ((own_type_apart HIR.out HFR.out (by decide)).kept (own_heapW (by rfl) HIA.out) hgrow5); have HBR5 := Lib.hid (own_lt HBR.out hb5 (by omega)); have c1 := HBR5.out.cellAt 1 (by decide); simp only [List.getElem?_cons_zero, List.getElem?_cons_succ] at c1; have z2 := HBR5.out.frozenAt 1)
    all_goals
      have HFR6 : Hid ((w5.setCell ⟨bx, 1, none⟩ (.slice A4 (N + 1) d4)).ownsRow (bx + 1) 94 4 (.slice A4 (N + 1) d4) (N + 1) ((rfF fs gone (k + 1)).flatMap Q4.cells)) := Lib.hid (by rw [HS2.out, cells_snoc]; exact ownsRow_setCell_below hown5 (a := ⟨bx, 1, none⟩) (by show bx < bx + 1; omega) _)
      have HIR6 : Hid ((w5.setCell ⟨bx, 1, none⟩ (.slice A4 (N + 1) d4)).ownsRow (bx + 1) 3 1 (.slice A3 N d3) N ((rfO gone k).map (Value.int .i64))) := Lib.hid (ownsRow_setCell_below HIR5.out (a := ⟨bx, 1, none⟩) (by show bx < bx + 1; omega) _)
      have HBR6 : Hid ((w5.setCell ⟨bx, 1, none⟩ (.slice A4 (N + 1) d4)).ownsRow bx 34 2 (.slice (some ⟨bx, 0, none⟩) 1 1) 1 [.slice A1 n1 d1, .slice A4 (N + 1) d4]) := Lib.hid (by have h9 := (HBR5.out.stored 1 (.slice A4 (N + 1) d4)).1; simpa using h9)
      have HBW6 : Hid (Below bx w3 (w5.setCell ⟨bx, 1, none⟩ (.slice A4 (N + 1) d4))) := Lib.hid ((HBW.out.trans (hb5.mono (by omega))).setCell (p := ⟨bx, 1, none⟩) (Nat.le_refl _) _)
      have hz6 : bx + 1 ≤ w5.heap.size := Nat.le_trans (by omega) hb5.size
      go_wp2_with (at_builtin; refine wp_app rfl (.tmp 51) (.tmp 53) 55 3 rfl (bx + 1) Try.underlying55 Try.inf_int rfl (by decide) (by decide) _ N _ rfl (HIR6.out.alloc _) _ _ [.int .i64 (k : Int)] rfl rfl (news1 (new_at_ _ _ _ _ (by simp))) (news_int _) (by omega) (by simp; omega) ?_)
      intro A5 d5 N9 w7 hN9 hown7 hgrow7 hloc7
      obtain rfl : N9 = N + 1 := hN9
      have hb7 : Below (bx + 1) (w5.setCell ⟨bx, 1, none⟩ (.slice A4 (N + 1) d4)) w7 := ((Below.refl _ _).alloc (by simp; omega) _).grown hgrow7 (by simp; omega) (fun g9 hg9 => (HIR6.out.lt g9 hg9).1)
      have HFR7 := Lib.hid ((own_type_apart HFR6.out HIR6.out (by decide)).kept (HFR6.out.alloc _) hgrow7)
      have HIR7 : Hid (w7.ownsRow (bx + 1) 3 1 (.slice A5 (N + 1) d5) (N + 1) ((rfO gone (k + 1)).map (Value.int .i64))) := Lib.hid (by rw [HS3.out, List.map_append]; exact hown7)
      have HBR7 := Lib.hid (own_lt HBR6.out hb7 (by omega))
      have HBW7 := Lib.hid (HBW6.out.trans (hb7.mono (by omega)))
      have HNN7 : Hid (N + 1 = (rfK gone (k + 1)).length) := Lib.hid (by rw [HS1.out, List.length_append, ← HNN.out]; rfl)
      clear hown5 hgrow5 hb5 hown7 hgrow7 hloc7 hb7 c1 z2 hz6
      obtain ⟨N3, hN3⟩ : ∃ N3, N + 1 = N3 := ⟨_, rfl⟩
      rw [hN3] at HFR7 HIR7 HBR7 HNN7 ⊢
      clear hN3 HFR6 HIR6 HBR6 HBW6
      go_wp2
      go_roundw
      case rel => exact ⟨k + 1, N3, A5, A4, d4, d5, by omega, by go_num, rfl, HNN7, HFR7, HIR7, HBR7, HBW7.out⟩
      case measure => simp [intOf]; omega


set_option maxRecDepth 100000 in
set_option maxHeartbeats 8000000 in
theorem implRF {g1 g2 n1 n2 c1 c2 : Nat} {ss : List ByteArray} {fs : List Q4} {w : World} (h : NetAt g1 g2 n1 n2 c1 c2 ss fs w) {g3 n3 c3 : Nat} {gone : List Int} (hn3 : gone.length = n3) (hrd : Rd w w.heap.size (some ⟨g3, 0, none⟩) (gone.map (Value.int .i64))) (hs3 : n3 ≤ 1048576) :
    Calls Try.prog 31 #[.agg #[.slice (some ⟨g1, 0, none⟩) n1 c1, .slice (some ⟨g2, 0, none⟩) n2 c2], .slice (some ⟨g3, 0, none⟩) n3 c3] w (NtO (rfLS ss fs gone) (rfLF ss fs gone) (rfLO ss fs gone) (pb (rfP ss fs gone)) w) := by
  have HNT := Lib.hid h; have HN3 := Lib.hid hn3; have HRD := Lib.hid hrd; have HL1 := Lib.hid h.ln1; have HL2 := Lib.hid h.ln2
  have hsm2 := h.sm2
  clear h hn3 hrd
  obtain ⟨LS, hLS⟩ : ∃ r, rfLS ss fs gone = r := ⟨_, rfl⟩
  obtain ⟨LF, hLF⟩ : ∃ r, rfLF ss fs gone = r := ⟨_, rfl⟩
  obtain ⟨LO, hLO⟩ : ∃ r, rfLO ss fs gone = r := ⟨_, rfl⟩
  obtain ⟨RB, hRB⟩ : ∃ r, pb (rfP ss fs gone) = r := ⟨_, rfl⟩
  rw [hLS, hLF, hLO, hRB]
  have HNO : Hid (¬ rfP ss fs gone → LS = [] ∧ LF = [] ∧ LO = [] ∧ RB = false) := Lib.hid (fun e => by rw [← hLS, ← hLF, ← hLO, ← hRB]; exact rf_no e)
  have HYES : Hid (rfP ss fs gone → LS = ss ∧ LF = rfF fs gone fs.length ∧ LO = rfO gone fs.length ∧ RB = true) := Lib.hid (fun e => by rw [← hLS, ← hLF, ← hLO, ← hRB]; exact rf_yes e)
  clear hLS hLF hLO hRB
  obtain ⟨W0, hW0⟩ : ∃ W0, (w.alloc (Obj.cells #[.slice (some ⟨g1, 0, none⟩) n1 c1, .slice (some ⟨g2, 0, none⟩) n2 c2] 34)).alloc (Obj.cells #[.slice none 0 0, .slice none 0 0] 34) = W0 := ⟨_, rfl⟩
  have hb0 : Below w.heap.size w W0 := by rw [← hW0]; exact ((Below.refl _ _).alloc (Nat.le_refl _) _).alloc (by simp) _
  have k0 : W0.cell? ⟨w.heap.size, 0, none⟩ = some (.slice (some ⟨g1, 0, none⟩) n1 c1) := by rw [← hW0]; simp [go_sem]
  have k1 : W0.cell? ⟨w.heap.size, 1, none⟩ = some (.slice (some ⟨g2, 0, none⟩) n2 c2) := by rw [← hW0]; simp [go_sem]
  have HR0 : Hid (W0.ownsRow (w.heap.size + 1) 34 2 (.slice (some ⟨w.heap.size + 1, 0, none⟩) 1 1) 1 [.slice none 0 0, .slice none 0 0]) := Lib.hid (by
    rw [← hW0]
    have := one_rowN (w.alloc (Obj.cells #[.slice (some ⟨g1, 0, none⟩) n1 c1, .slice (some ⟨g2, 0, none⟩) n2 c2] 34)) (.slice none 0 0) (.slice none 0 0) (base := w.heap.size + 1) (by simp)
    simpa using this)
  have hz0 : W0.heap.size = w.heap.size + 2 := by rw [← hW0]; simp
  have HB0 := Lib.hid hb0; have HZ0 := Lib.hid hz0
  obtain ⟨b, hb⟩ : ∃ b, pb (netP ss fs) = b := ⟨_, rfl⟩
  have HPB := Lib.hid hb
  have CG := Lib.hid (implNet_ (HNT.out.moved HB0.out))
  rw [hb] at CG
  have hzy : w.heap.size < W0.heap.size := by omega
  clear hb hb0
  go_enter Try.func31, Try.ntmps31
  go_wp2_with fail
  clear hW0
  refine CG.out.mono ?_
  rintro e w1 ⟨rfl, hb1⟩
  have HB1 := Lib.hid (HB0.out.trans (hb1.mono HB0.out.size))
  have l0 := (hb1.cell (p := ⟨w.heap.size, 0, none⟩) hzy).trans k0
  have l1 := (hb1.cell (p := ⟨w.heap.size, 1, none⟩) hzy).trans k1
  have HR1 := Lib.hid (ownB HR0.out hb1)
  have hzw : w.heap.size + 2 ≤ w1.heap.size := by have := hb1.size; omega
  have HZW := Lib.hid hzw
  clear hb1 k0 k1 hz0 hzy
  have d0 := HR1.out.cellAt 0 (by omega)
  have d1 := HR1.out.cellAt 1 (by omega)
  simp only [List.getElem?_cons_zero, List.getElem?_cons_succ] at d0 d1
  have e0_ := HR1.out.frozenAt 0
  have e1_ := HR1.out.frozenAt 1
  cases b
  case false =>
    have HNB := Lib.hid (HNO.out (fun e => by have := pb_true e.1; rw [HPB.out] at this; cases this))
    obtain ⟨rfl, rfl, rfl, rfl⟩ := HNB.out
    have hszz : w.heap.size + 1 < w1.heap.size := by omega
    go_wp2
    exact bodyPost_ret (v := .tuple #[.agg #[.slice none 0 0, .slice none 0 0], .slice none 0 0, .bool false]) (by simp [results, Try.results31, go_sem, d0, d1, hszz]) rfl ⟨none, none, none, 0, 0, 0, 0, 0, 0, rfl, Lib.hid rfl, Lib.hid rfl, Lib.hid rfl, World.ownsRow_nil _ _ _ _, World.ownsRow_nil _ _ _ _, World.ownsRow_nil _ _ _ _, ((HB1.out.setCell (p := ⟨w.heap.size + 1, 0, none⟩) (by show w.heap.size ≤ w.heap.size + 1; omega) _).setCell (p := ⟨w.heap.size + 1, 1, none⟩) (by show w.heap.size ≤ w.heap.size + 1; omega) _)⟩
  case true =>
  have hNP : netP ss fs := of_pb HPB.out
  have HNP := Lib.hid hNP
  have hn14 : n2 ≤ 14 := by have := hNP.2.1; have := HL2.out; omega
  have hn8 : n1 ≤ 8 ∧ 2 ≤ n1 := by have := hNP.1; have := HL1.out; omega
  obtain ⟨rb, hrb⟩ : ∃ b, risB gone fs.length = b := ⟨_, rfl⟩
  have HRB := Lib.hid hrb
  have CR := Lib.hid (isSet_ (some ⟨g3, 0, none⟩) n3 c3 gone (n2 : Int) w1 HN3.out hs3 (HRD.out.moved HB1.out))
  rw [show (n2 : Int) = (fs.length : Int) by have := HL2.out; omega, hrb, show (fs.length : Int) = (n2 : Int) by have := HL2.out; omega] at CR
  clear hrb hNP
  go_wp2_with fail
  refine CR.out.mono ?_
  rintro e w2 ⟨rfl, rfl⟩
  have m0 := l0; have m1 := l1; have HR2 := HR1; have HB2 := HB1; have hzw2 := hzw
  clear l0 l1 d0 d1 e0_ e1_ hzw HB1 HR1 HZW
  have HB1 := HB2; have HR1 := HR2
  have d0 := HR1.out.cellAt 0 (by omega)
  have d1 := HR1.out.cellAt 1 (by omega)
  simp only [List.getElem?_cons_zero, List.getElem?_cons_succ] at d0 d1
  have e0_ := HR1.out.frozenAt 0
  have e1_ := HR1.out.frozenAt 1
  cases rb
  case false =>
    have HNB := Lib.hid (HNO.out (fun e => by have := e.2; rw [HRB.out] at this; cases this))
    obtain ⟨rfl, rfl, rfl, rfl⟩ := HNB.out
    have hszz : w.heap.size + 1 < w1.heap.size := by omega
    go_wp2
    exact bodyPost_ret (v := .tuple #[.agg #[.slice none 0 0, .slice none 0 0], .slice none 0 0, .bool false]) (by simp [results, Try.results31, go_sem, d0, d1, hszz]) rfl ⟨none, none, none, 0, 0, 0, 0, 0, 0, rfl, Lib.hid rfl, Lib.hid rfl, Lib.hid rfl, World.ownsRow_nil _ _ _ _, World.ownsRow_nil _ _ _ _, World.ownsRow_nil _ _ _ _, ((HB1.out.setCell (p := ⟨w.heap.size + 1, 0, none⟩) (by show w.heap.size ≤ w.heap.size + 1; omega) _).setCell (p := ⟨w.heap.size + 1, 1, none⟩) (by show w.heap.size ≤ w.heap.size + 1; omega) _)⟩
  case true =>
  have HY := Lib.hid (HYES.out ⟨HNP.out, HRB.out⟩)
  clear d0 d1 e0_ e1_
  have CN := Lib.hid (copyNames_ g1 n1 c1 ss w1 HL1.out (by omega) (fun s hs => by
    obtain ⟨i, hi, e⟩ := List.getElem_of_mem hs
    have := (HNP.out.2.2.1 i hi hi).1.2.1
    rw [e] at this; omega) (HNT.out.rd1.moved HB2.out))
  go_wp2_with fail
  refine CN.out.mono ?_
  rintro e w3 ⟨gN, rfl, hown', hb3⟩
  have HN1 := Lib.hid (own_base (B' := w.heap.size + 2) hown' (by omega))
  have HB3 := Lib.hid (HB2.out.trans (hb3.mono HB2.out.size))
  have HR3 := Lib.hid (ownB HR2.out hb3)
  have hm1 := (hb3.cell (p := ⟨w.heap.size, 1, none⟩) (by show w.heap.size < _; omega)).trans m1
  have hzw3 : w.heap.size + 2 ≤ w3.heap.size := Nat.le_trans hzw2 hb3.size
  have HZW := Lib.hid hzw3
  have hm1a : (w3.alloc (Obj.cells #[.slice (some ⟨gN, 0, none⟩) n1 n1, .slice none 0 0] 34)).cell? ⟨w.heap.size, 1, none⟩ = some (.slice (some ⟨g2, 0, none⟩) n2 c2) := Lib.cell?_alloc_some _ hm1
  clear hown' m0
  go_wp2_with fail
  clear hm1a
  obtain ⟨bx, hbx⟩ : ∃ b, w3.heap.size = b := ⟨_, rfl⟩
  obtain ⟨w4, hw4⟩ : ∃ w4, w3.alloc (Obj.cells #[.slice (some ⟨gN, 0, none⟩) n1 n1, .slice none 0 0] 34) = w4 := ⟨_, rfl⟩
  have HBX4 : Hid (w4.ownsRow bx 34 2 (.slice (some ⟨bx, 0, none⟩) 1 1) 1 [.slice (some ⟨gN, 0, none⟩) n1 n1, .slice none 0 0]) := Lib.hid (by rw [← hw4, ← hbx]; exact one_rowN w3 _ _ (Nat.le_refl _))
  have HB4 : Hid (Below bx w3 w4) := Lib.hid (by rw [← hw4, ← hbx]; exact (Below.refl _ _).alloc (Nat.le_refl _) _)
  have hz4 : w4.heap.size = bx + 1 := by rw [← hw4, ← hbx]; simp
  have hzx : w.heap.size + 2 ≤ bx := by rw [← hbx]; exact hzw3
  have HBXE := Lib.hid hbx
  have m4 := (HB4.out.cell (p := ⟨w.heap.size, 1, none⟩) (by show w.heap.size < bx; omega)).trans hm1
  rw [hw4, hbx]
  clear hb3 m1 hzw2 hzw3 hw4 hbx
  go_wp2_with fail
  have HM1 := Lib.hid hm1
  clear m4 hm1
  go_loopw [8, 30] (fun v i wr => ∃ (k N : Nat) (A3 A2 : Option Addr) (d2 d3 : Nat), k ≤ n2 ∧ i = .int .i64 (k : Int) ∧ v = .slice A3 N d3 ∧ Hid (N = (rfK gone k).length) ∧ Hid (wr.ownsRow (bx + 1) 94 4 (.slice A2 N d2) N ((rfF fs gone k).flatMap Q4.cells)) ∧ Hid (wr.ownsRow (bx + 1) 3 1 (.slice A3 N d3) N ((rfO gone k).map (Value.int .i64))) ∧ Hid (wr.ownsRow bx 34 2 (.slice (some ⟨bx, 0, none⟩) 1 1) 1 [.slice (some ⟨gN, 0, none⟩) n1 n1, .slice A2 N d2]) ∧ Below bx w3 wr) (fun _ i _ => n2 - (intOf i).toNat)
  case atStart => exact ⟨0, 0, _, none, 0, _, Nat.zero_le _, rfl, rfl, Lib.hid rfl, Lib.hid (World.ownsRow_nil _ _ _ _), Lib.hid (World.ownsRow_nil _ _ _ _), HBX4, HB4.out⟩
  case round =>
    obtain ⟨k, N, A3, A2, d2, d3, hk, rfl, rfl, HNN, HFR, HIR, HBR, hb⟩ := hrel
    have HBW := Lib.hid hb
    have HBWW := Lib.hid (HB3.out.trans (hb.mono (by omega)))
    have hszx : bx < wr.heap.size := (HBR.out.lt bx rfl).2
    have b0 := HBR.out.cellAt 0 (by decide)
    have b1 := HBR.out.cellAt 1 (by decide)
    simp only [List.getElem?_cons_zero, List.getElem?_cons_succ] at b0 b1
    have z1 := HBR.out.frozenAt 1
    have m1 := (hb.cell (p := ⟨w.heap.size, 1, none⟩) (by show w.heap.size < bx; omega)).trans HM1.out
    have hN14 : N ≤ 14 := by have := rfK_len gone k; have := HNN.out; omega
    clear hb
    by_cases hlt : k < n2
    case neg =>
      obtain rfl : k = n2 := by omega
      have HRR := Lib.hid (ownB (own_lt HR3.out HBW.out (by have := HZW.out; omega)) (Below.refl _ _))
      have t0 := HRR.out.frozenAt 0; have t1 := HRR.out.frozenAt 1
      have s0 := HRR.out.cellAt 0 (by decide); have s1 := HRR.out.cellAt 1 (by decide)
      simp only [List.getElem?_cons_zero, List.getElem?_cons_succ] at s0 s1
      have hz1 : w.heap.size + 1 < wr.heap.size := by omega
      obtain ⟨e1, e2, e3, e4⟩ := HY.out
      have HES := Lib.hid e1; have HEF : Hid (LF = rfF fs gone k) := Lib.hid (by rw [e2, HL2.out]); have HEO : Hid (LO = rfO gone k) := Lib.hid (by rw [e3, HL2.out])
      obtain rfl := e4
      clear hlt e1 e2 e3
      go_wp2_with fail
      refine bodyPost_ret (v := .tuple #[.agg #[.slice (some ⟨gN, 0, none⟩) n1 n1, .slice A2 N d2], .slice A3 N d3, .bool true]) (by simp [results, Try.results31, go_sem, s0, s1, hz1]) rfl ⟨(some ⟨gN, 0, none⟩), A2, A3, n1, N, N, n1, d2, d3, rfl, ?_, ?_, ?_, ?_, ?_, ?_, ?_⟩
      · exact Lib.hid (by rw [HES.out, HL1.out])
      · exact Lib.hid (by rw [HEF.out, rfF_len, HNN.out])
      · exact Lib.hid (by rw [HEO.out, rfO_len, HNN.out])
      · rw [HES.out]
        refine own_base (B := w.heap.size + 2) ?_ (by omega)
        repeat (first | with_reducible exact (ownB HN1.out (by rw [HBXE.out]; exact HBW.out)) | refine ownsRow_setCell_below ?_ (a := ⟨w.heap.size + 1, _, none⟩) (by show w.heap.size + 1 < w.heap.size + 2; omega) _)
      · rw [HEF.out]
        refine own_base (B := bx + 1) ?_ (by omega)
        repeat (first | with_reducible exact HFR.out | refine ownsRow_setCell_below ?_ (a := ⟨w.heap.size + 1, _, none⟩) (by show w.heap.size + 1 < bx + 1; omega) _)
      · rw [HEO.out]
        refine own_base (B := bx + 1) ?_ (by omega)
        repeat (first | with_reducible exact HIR.out | refine ownsRow_setCell_below ?_ (a := ⟨w.heap.size + 1, _, none⟩) (by show w.heap.size + 1 < bx + 1; omega) _)
      · repeat (first | with_reducible exact HBWW.out | refine Below.setCell ?_ (p := ⟨w.heap.size + 1, _, none⟩) (by show w.heap.size ≤ w.heap.size + 1; omega) _)
    case pos =>
    have hks : k < fs.length := by have := HL2.out; omega
    obtain ⟨q, hq⟩ : ∃ q, fs[k]'hks = q := ⟨_, rfl⟩
    have HQ := Lib.hid hq
    obtain ⟨qa, qb, qc, qd⟩ := q
    obtain ⟨hg, f0, f1, f2, f3⟩ := (HNT.out.rd2.moved HBWW.out).q4c hks
    rw [Nat.zero_add, hq] at f0 f1 f2 f3
    simp only at f0 f1 f2 f3
    clear hq
    obtain ⟨WA, hWA⟩ : ∃ W, wr.alloc (Obj.cells #[.int .i64 qa, .int .i64 qb, .int .i64 qc, .int .i64 qd] 94) = W := ⟨_, rfl⟩
    have hbA : Below wr.heap.size wr WA := by rw [← hWA]; exact (Below.refl _ _).alloc (Nat.le_refl _) _
    have t0 : WA.cell? ⟨wr.heap.size, 0, none⟩ = some (.int .i64 qa) := by rw [← hWA]; simp [go_sem]
    have t1 : WA.cell? ⟨wr.heap.size, 1, none⟩ = some (.int .i64 qb) := by rw [← hWA]; simp [go_sem]
    have t2 : WA.cell? ⟨wr.heap.size, 2, none⟩ = some (.int .i64 qc) := by rw [← hWA]; simp [go_sem]
    have t3 : WA.cell? ⟨wr.heap.size, 3, none⟩ = some (.int .i64 qd) := by rw [← hWA]; simp [go_sem]
    have HFRA := Lib.hid (ownB HFR.out hbA); have HIRA := Lib.hid (ownB HIR.out hbA); have HBRA := Lib.hid (ownB HBR.out hbA)
    have HBWA := Lib.hid (HBW.out.trans (hbA.mono (by omega)))
    have HBWWA := Lib.hid (HBWW.out.trans (hbA.mono HBWW.out.size))
    have hzA : wr.heap.size < WA.heap.size := by rw [← hWA]; simp
    have y1 := HBRA.out.cellAt 1 (by decide)
    simp only [List.getElem?_cons_zero, List.getElem?_cons_succ] at y1
    have CH := Lib.hid (cont_ g3 n3 c3 gone (k : Int) WA HN3.out hs3 (HRD.out.moved HBWWA.out))
    by_cases hin : (k : Int) ∈ gone
    case pos =>
      have HS1 : Hid (rfK gone (k + 1) = rfK gone k) := Lib.hid (rfK_no hin)
      have HS2 : Hid (rfF fs gone (k + 1) = rfF fs gone k) := Lib.hid (rfF_no hin)
      have HS3 : Hid (rfO gone (k + 1) = rfO gone k) := Lib.hid (rfO_no hin)
      rw [decide_eq_true hin] at CH
      rw [← HS1.out] at HNN; rw [← HS2.out] at HFRA; rw [← HS3.out] at HIRA
      clear hin
      go_wp2_with fail
      refine CH.out.mono ?_
      rintro e w' ⟨rfl, rfl⟩
      clear hWA f0 f1 f2 f3 t0 t1 t2 t3
      go_wp2
      go_roundw
      case rel => exact ⟨k + 1, N, A3, A2, d2, d3, by omega, by go_num, rfl, HNN, HFRA, HIRA, HBRA, HBWA.out⟩
      case measure => simp [intOf]; omega
    case neg =>
    have HS1 : Hid (rfK gone (k + 1) = rfK gone k ++ [k]) := Lib.hid (rfK_yes hin)
    have HS2 : Hid (rfF fs gone (k + 1) = rfF fs gone k ++ [⟨qa, qb, qc, qd⟩]) := Lib.hid (rfF_yes hks HQ.out hin)
    have HS3 : Hid (rfO gone (k + 1) = rfO gone k ++ [(k : Int)]) := Lib.hid (rfO_yes hin)
    rw [decide_eq_false hin] at CH
    clear hin
    go_wp2_with fail
    refine CH.out.mono ?_
    rintro e w' ⟨rfl, rfl⟩
    clear hWA f0 f1 f2 f3
    go_wp2_with (at_builtin; refine wp_app rfl (.tmp 40) (.tmp 42) 32 94 rfl (bx + 1) Try.underlying32 Try.inf_Fib rfl (by decide) (by decide) _ N _ rfl (HFRA.out.alloc _) _ _ [.int .i64 qa, .int .i64 qb, .int .i64 qc, .int .i64 qd] rfl rfl (new_four _ _ _ _ _ _ _ rfl) (four_one ⟨qa, qb, qc, qd⟩) (by omega) (by simp; omega) ?_)
    intro A4 d4 N8 w5 hN8 hown5 hgrow5 hloc5
    obtain rfl : N8 = N + 1 := hN8
    have hb5 : Below (bx + 1) wr w5 := ((hbA.mono (by omega)).alloc (by omega) _).grown hgrow5 (by simp; omega) (fun g9 hg9 => (HFRA.out.lt g9 hg9).1)
    have HIR5 := Lib.hid ((own_type_apart HIRA.out HFRA.out (by decide)).kept (HIRA.out.alloc _) hgrow5)
    have HBR5 := Lib.hid (own_lt HBR.out hb5 (by omega))
    have c1 := HBR5.out.cellAt 1 (by decide)
    simp only [List.getElem?_cons_zero, List.getElem?_cons_succ] at c1
    have z2 := HBR5.out.frozenAt 1
    have HFR6 : Hid ((w5.setCell ⟨bx, 1, none⟩ (.slice A4 (N + 1) d4)).ownsRow (bx + 1) 94 4 (.slice A4 (N + 1) d4) (N + 1) ((rfF fs gone (k + 1)).flatMap Q4.cells)) := Lib.hid (by rw [HS2.out, cells_snoc]; exact ownsRow_setCell_below hown5 (a := ⟨bx, 1, none⟩) (by show bx < bx + 1; omega) _)
    have HIR6 : Hid ((w5.setCell ⟨bx, 1, none⟩ (.slice A4 (N + 1) d4)).ownsRow (bx + 1) 3 1 (.slice A3 N d3) N ((rfO gone k).map (Value.int .i64))) := Lib.hid (ownsRow_setCell_below HIR5.out (a := ⟨bx, 1, none⟩) (by show bx < bx + 1; omega) _)
    have HBR6 : Hid ((w5.setCell ⟨bx, 1, none⟩ (.slice A4 (N + 1) d4)).ownsRow bx 34 2 (.slice (some ⟨bx, 0, none⟩) 1 1) 1 [.slice (some ⟨gN, 0, none⟩) n1 n1, .slice A4 (N + 1) d4]) := Lib.hid (by have h9 := (HBR5.out.stored 1 (.slice A4 (N + 1) d4)).1; simpa using h9)
    have HBW6 : Hid (Below bx w3 (w5.setCell ⟨bx, 1, none⟩ (.slice A4 (N + 1) d4))) := Lib.hid ((HBW.out.trans (hb5.mono (by omega))).setCell (p := ⟨bx, 1, none⟩) (Nat.le_refl _) _)
    have hz6 : bx + 1 ≤ w5.heap.size := Nat.le_trans (by omega) hb5.size
    go_wp2_with (at_builtin; refine wp_app rfl (.tmp 45) (.tmp 47) 55 3 rfl (bx + 1) Try.underlying55 Try.inf_int rfl (by decide) (by decide) _ N _ rfl (HIR6.out.alloc _) _ _ [.int .i64 (k : Int)] rfl rfl (news1 (new_at_ _ _ _ _ (by simp))) (news_int _) (by omega) (by simp; omega) ?_)
    intro A5 d5 N9 w7 hN9 hown7 hgrow7 hloc7
    obtain rfl : N9 = N + 1 := hN9
    have hb7 : Below (bx + 1) (w5.setCell ⟨bx, 1, none⟩ (.slice A4 (N + 1) d4)) w7 := ((Below.refl _ _).alloc (by simp; omega) _).grown hgrow7 (by simp; omega) (fun g9 hg9 => (HIR6.out.lt g9 hg9).1)
    have HFR7 := Lib.hid ((own_type_apart HFR6.out HIR6.out (by decide)).kept (HFR6.out.alloc _) hgrow7)
    have HIR7 : Hid (w7.ownsRow (bx + 1) 3 1 (.slice A5 (N + 1) d5) (N + 1) ((rfO gone (k + 1)).map (Value.int .i64))) := Lib.hid (by rw [HS3.out, List.map_append]; exact hown7)
    have HBR7 := Lib.hid (own_lt HBR6.out hb7 (by omega))
    have HBW7 := Lib.hid (HBW6.out.trans (hb7.mono (by omega)))
    have HNN7 : Hid (N + 1 = (rfK gone (k + 1)).length) := Lib.hid (by rw [HS1.out, List.length_append, ← HNN.out]; rfl)
    clear hown5 hgrow5 hb5 hown7 hgrow7 hloc7 hb7 c1 z2 hz6
    obtain ⟨N3, hN3⟩ : ∃ N3, N + 1 = N3 := ⟨_, rfl⟩
    rw [hN3] at HFR7 HIR7 HBR7 HNN7 ⊢
    clear hN3 HFR6 HIR6 HBR6 HBW6
    go_wp2
    go_roundw
    case rel => exact ⟨k + 1, N3, A5, A4, d4, d5, by omega, by go_num, rfl, HNN7, HFR7, HIR7, HBR7, HBW7.out⟩
    case measure => simp [intOf]; omega
end Go.Proofs.Ytlmemmcdabhooaa
