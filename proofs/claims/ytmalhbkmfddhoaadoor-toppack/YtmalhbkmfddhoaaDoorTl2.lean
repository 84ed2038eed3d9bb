/- An operation's bytes say it: without memory. -/
import Derived.Test.YtmalhbkmfddhoaaDoorBpD
import Derived.Test.YtmalhbkmfddhoaaDoorBgB
import Derived.Test.YtmalhbkmfddhoaaDoorBgE
import Derived.Test.YtmalhbkmfddhoaaDoorBgN

namespace Go.Proofs.YtmalhbkmfddhoaaDoor
open Go.RowKit

theorem shapeB_ok {o : OpV} (h : shapeB o = true) : (1 ≤ o.kind ∧ o.kind ≤ 4) ∧ (0 ≤ o.n ∧ o.n ≤ 4) ∧ o.name.size ≤ 8 ∧ o.v.length ≤ 4 := by
 have h2 := shapeB_few h
 unfold shapeB at h
 simp only [Bool.and_eq_true, decide_eq_true_eq] at h
 exact ⟨h.1.1.1, h.1.2, h2⟩

theorem opF_ok {o : OpV} (h : opF o = 0) : shapeB o = true ∧ bigB o = false := by
 unfold opF at h
 cases h1 : shapeB o with
 | false => rw [if_pos h1] at h; cases h
 | true =>
  rw [if_neg (by rw [h1]; decide)] at h
  cases h2 : bigB o with
  | false => exact ⟨rfl, rfl⟩
  | true => rw [if_pos h2] at h; cases h

theorem byt_list (l : List UInt8) (k : Nat) : byt ⟨l.toArray⟩ k = ((l.getD k 0).toNat : Int) := by
 unfold byt
 by_cases h : k < l.length
 ·rw [dif_pos (show k < (⟨l.toArray⟩ : ByteArray).size from h), List.getD_eq_getElem?_getD, List.getElem?_eq_getElem h]
  rfl
 ·rw [dif_neg (show ¬ k < (⟨l.toArray⟩ : ByteArray).size from h), List.getD_eq_getElem?_getD, List.getElem?_eq_none (by omega)]
  rfl

theorem two_len (v : List Int) : (v.flatMap twoB).length = 2 * v.length := by
 induction v with
 | nil => rfl
 | cons z t ih => rw [List.flatMap_cons, List.length_append, ih, List.length_cons]; show 2 + 2 * t.length = _; omega

theorem two_at (v : List Int) (k : Nat) (hk : k < v.length) : (v.flatMap twoB).getD (2 * k) 0 = lowB v[k] ∧ (v.flatMap twoB).getD (2 * k + 1) 0 = lowB (v[k] / 256) := by
 induction v generalizing k with
 | nil => cases hk
 | cons z t ih =>
  rw [List.flatMap_cons]
  show ([lowB z, lowB (z / 256)] ++ t.flatMap twoB).getD _ 0 = _ ∧ ([lowB z, lowB (z / 256)] ++ t.flatMap twoB).getD _ 0 = _
  match k with
  | 0 => exact ⟨rfl, rfl⟩
  | k + 1 =>
   have := ih k (by simpa using hk)
   simpa [Nat.mul_add] using this

theorem s16_two (z : Int) (h1 : -32768 ≤ z) (h2 : z ≤ 32767) : s16 (z % 256 + 256 * (z / 256 % 256)) = z := by
 unfold s16
 split <;> omega

theorem opB_len (o : OpV) : (opB o).length = o.name.size + 4 + 2 * o.v.length := by
 unfold opB headB
 rw [List.length_append, two_len]
 simp

theorem unB_opB {o : OpV} (h : opF o = 0) : unB ⟨(opB o).toArray⟩ = some o := by
 obtain ⟨hs, hb⟩ := opF_ok h
 obtain ⟨⟨k1, k4⟩, ⟨n0, n4⟩, h8, hl4⟩ := shapeB_ok hs
 have hlen := opB_len o
 have hsz : (⟨(opB o).toArray⟩ : ByteArray).size = o.name.size + 4 + 2 * o.v.length := hlen
 have hnl : o.name.data.toList.length = o.name.size := by simp
 obtain ⟨kd, nm, n, v⟩ := o
 dsimp only at *
 have g0 : byt ⟨(opB ⟨kd, nm, n, v⟩).toArray⟩ 0 = kd := by
  rw [byt_list]
  show ((lowB kd).toNat : Int) = kd
  rw [lowB_nat]; omega
 have g1 : byt ⟨(opB ⟨kd, nm, n, v⟩).toArray⟩ 1 = nm.size := by
  rw [byt_list]
  show ((lowB nm.size).toNat : Int) = _
  rw [lowB_nat]; omega
 have e : opB ⟨kd, nm, n, v⟩ = ([lowB kd, lowB nm.size] ++ nm.data.toList) ++ ([lowB n, lowB v.length] ++ v.flatMap twoB) := by
  unfold opB headB
  simp
 have hpre : ([lowB kd, lowB nm.size] ++ nm.data.toList).length = nm.size + 2 := by rw [List.length_append, hnl]; show 2 + _ = _; omega
 have g2 : byt ⟨(opB ⟨kd, nm, n, v⟩).toArray⟩ (nm.size + 2) = n := by
  rw [byt_list, e, List.getD_eq_getElem?_getD, List.getElem?_append_right (by omega), hpre, Nat.sub_self]
  show ((lowB n).toNat : Int) = n
  rw [lowB_nat]; omega
 have g3 : byt ⟨(opB ⟨kd, nm, n, v⟩).toArray⟩ (nm.size + 3) = v.length := by
  rw [byt_list, e, List.getD_eq_getElem?_getD, List.getElem?_append_right (by omega), hpre, show nm.size + 3 - (nm.size + 2) = 1 by omega]
  show ((lowB v.length).toNat : Int) = _
  rw [lowB_nat]; omega
 have g4 : (⟨(opB ⟨kd, nm, n, v⟩).toArray⟩ : ByteArray).extract (nm.size + 4) (⟨(opB ⟨kd, nm, n, v⟩).toArray⟩ : ByteArray).size = ⟨(v.flatMap twoB).toArray⟩ := by
  apply ByteArray.ext
  apply Array.toList_inj.1
  rw [ByteArray.data_extract, Array.toList_extract, hsz]
  show List.take _ (List.drop _ (opB _)) = v.flatMap twoB
  rw [e, ← List.append_assoc, List.drop_append_of_le_length (by rw [List.length_append, hpre]; show _ ≤ _ + 2; omega), List.drop_of_length_le (by rw [List.length_append, hpre]; show _ + 2 ≤ _; omega), List.nil_append, List.take_of_length_le (by rw [two_len]; omega)]
 have g5 : (⟨(opB ⟨kd, nm, n, v⟩).toArray⟩ : ByteArray).extract 2 (nm.size + 2) = nm := by
  apply ByteArray.ext
  apply Array.toList_inj.1
  rw [ByteArray.data_extract, Array.toList_extract]
  show List.take _ (List.drop _ (opB _)) = nm.data.toList
  rw [e, List.append_assoc]
  show List.take (nm.size + 2 - 2) (nm.data.toList ++ _) = _
  rw [List.take_append_of_le_length (by omega), List.take_of_length_le (by omega)]
 unfold unB
 rw [hsz, g1, Int.toNat_natCast, if_neg (by omega), if_neg (by omega), g3, Int.toNat_natCast, if_neg (by omega), g0, g2, g5, ← hsz, g4]
 congr 2
 apply List.ext_getElem (by simp)
 intro i hi1 hi2
 rw [List.getElem_map, List.getElem_range, byt_list, byt_list, (two_at v i hi2).1, (two_at v i hi2).2, lowB_nat, lowB_nat]
 have hm : ¬ (v[i] < -999 ∨ 999 < v[i]) := fun hh => by
  have : bigB ⟨kd, nm, n, v⟩ = true := List.any_eq_true.2 ⟨v[i], List.getElem_mem hi2, decide_eq_true hh⟩
  rw [this] at hb; cases hb
 exact s16_two _ (by omega) (by omega)

end Go.Proofs.YtmalhbkmfddhoaaDoor

/- pack.Unop: bytes as an operation. -/
namespace Go.Proofs.YtmalhbkmfddhoaaDoor
open Go.RowKit

def UnopPost (w : World) (s : ByteArray) (e : Ending) (w' : World) : Prop :=
 (((∀ o, opF o = 0 → opB o ≠ s.data.toList) ∧ e = .returned (.tuple #[.agg #[.int .i64 0, .string ⟨#[]⟩, .int .i64 0, .slice none 0 0], errV 5])) ∨
  ∃ (o : OpV) (vo : Option Addr) (vc : Nat), opF o = 0 ∧ opB o = s.data.toList ∧ e = .returned (.tuple #[.agg #[.int .i64 o.kind, .string o.name, .int .i64 o.n, .slice vo o.v.length vc], .nilIface]) ∧ ∃ base, w.heap.size ≤ base ∧ RowAt base w' vo o.v.length vc o.v) ∧ Below w.heap.size w w'

theorem back_data (s : ByteArray) : (⟨s.data.toList.toArray⟩ : ByteArray) = s := by
 apply ByteArray.ext
 simp

theorem unB_none {s : ByteArray} (h : unB s = none) : ∀ o, opF o = 0 → opB o ≠ s.data.toList := fun o h0 e => by
 have h1 := unB_opB h0
 rw [e, back_data, h] at h1
 cases h1

theorem unB_not {s : ByteArray} {o : OpV} (h : unB s = some o) (hno : opF o ≠ 0 ∨ opS o ≠ s) : ∀ o, opF o = 0 → opB o ≠ s.data.toList := fun o' h0 e => by
 have h1 := unB_opB h0
 rw [e, back_data, h] at h1
 obtain rfl := Option.some.inj h1
 rcases hno with h2 | h2
 ·exact h2 h0
 ·apply h2
  unfold opS
  rw [if_pos h0, e, back_data]

set_option linter.unusedSimpArgs false in
set_option maxRecDepth 100000 in
set_option maxHeartbeats 1600000 in
theorem unop_any (w : World) (s : ByteArray) (hs : s.size ≤ 1000000) : Calls Tryd.prog 8 #[.string s] w fun e w' => UnopPost w s e w' := by
 have HB := hide (alloc_below w (.cells #[.int .i64 0, .string ⟨#[]⟩, .int .i64 0, .slice none 0 0] 36))
 have X2 := hide (BoxQ.new w (.int .i64 0) (.string ⟨#[]⟩) (.int .i64 0) (.slice none 0 0) 36)
 go_enter Tryd.func8, Tryd.ntmps8
 go_wp2_with fail
 generalize w.alloc (.cells #[.int .i64 0, .string ⟨#[]⟩, .int .i64 0, .slice none 0 0] 36) = W0 at *
 refine (unpacked_any W0 s hs).mono ?_
 rintro e w1 ⟨h, hb1⟩
 have X2b := hide (X2.out.later hb1); have HBb := hide (HB.out.trans (hb1.mono HB.out.size))
 have hW0 : w.heap.size < W0.heap.size := X2.out.1.2.2.2.2
 clear hb1 X2 HB
 rcases h with ⟨hn, rfl⟩ | ⟨o, vo, vc, ho, rfl, base, hbase, hrow⟩
 ·have HN := hide (unB_none hn)
  have hbA := alloc_below w1 (.cells #[.int .i64 0, .string ⟨#[]⟩, .int .i64 0, .slice none 0 0] 36)
  have X2c := hide (X2b.out.later hbA); have HBc := hide (HBb.out.trans (hbA.mono HBb.out.size))
  clear hbA X2b HBb hn
  obtain ⟨⟨r0, r1, r2, r3, -⟩, hfz⟩ := X2c.out
  have z0 := hfz 0; have z1 := hfz 1; have z2 := hfz 2; have z3 := hfz 3
  clear hfz
  go_wp2
  exact bodyPost_ret (v := .tuple #[.agg #[.int .i64 0, .string ⟨#[]⟩, .int .i64 0, .slice none 0 0], .iface 47 (.int .i64 5)]) (by simp [results, Tryd.results8, go_sem, r0, r1, r2, r3]) rfl ⟨.inl ⟨HN.out, rfl⟩, by first | exact HBc.out | exact below_fill4 HBc.out (Nat.le_refl _) _ _ _ _⟩
 ·have HO := hide ho; have HROW := hide hrow; have HBA := hide hbase
  have hbA := alloc_below w1 (.cells #[.int .i64 o.kind, .string o.name, .int .i64 o.n, .slice vo o.v.length vc] 36)
  have X4 := hide (BoxQ.new w1 (.int .i64 o.kind) (.string o.name) (.int .i64 o.n) (.slice vo o.v.length vc) 36)
  have X2c := hide (X2b.out.later hbA); have HBc := hide (HBb.out.trans (hbA.mono HBb.out.size)); have HROWc := hide (HROW.out.later hbA)
  clear hbA X2b HBb HROW ho hrow hbase
  obtain ⟨⟨c0, c1, c2, c3, -⟩, -⟩ := X4.out
  go_wp2_with fail
  clear c0 c1 c2 c3
  generalize w1.alloc (.cells #[.int .i64 o.kind, .string o.name, .int .i64 o.n, .slice vo o.v.length vc] 36) = W2 at *
  generalize w1.heap.size = B4 at *
  refine (packOp_any W2 o vo vc HROWc.out.row).mono ?_
  rintro e w3 ⟨rfl, hb3⟩
  have X4d := hide (X4.out.later hb3); have X2d := hide (X2c.out.later hb3); have HBd := hide (HBc.out.trans (hb3.mono HBc.out.size)); have HROWd := hide (HROWc.out.later hb3)
  clear hb3 X4 X2c HBc HROWc
  obtain ⟨⟨r0, r1, r2, r3, -⟩, hfz⟩ := X2d.out
  have z0 := hfz 0; have z1 := hfz 1; have z2 := hfz 2; have z3 := hfz 3
  clear hfz
  obtain ⟨⟨c0, c1, c2, c3, -⟩, -⟩ := X4d.out
  by_cases hF : opF o = 0
  ·by_cases hS : opS o = s
   ·have HFIN : Hid (opB o = s.data.toList) := by
     have h := hS
     unfold opS at h
     rw [if_pos hF] at h
     show _ = _
     rw [← h]
    have HF := hide hF
    rw [hF, hS]
    have e0 : errV 0 = .nilIface := rfl
    rw [e0]
    have hRow : ∀ v0 v1 v2 v3, RowAt base ((((w3.setCell ⟨w.heap.size, 0, none⟩ v0).setCell ⟨w.heap.size, 1, none⟩ v1).setCell ⟨w.heap.size, 2, none⟩ v2).setCell ⟨w.heap.size, 3, none⟩ v3) vo o.v.length vc o.v := fun v0 v1 v2 v3 =>
     have hlt : w.heap.size < base := Nat.lt_of_lt_of_le hW0 HBA.out
     ((((HROWd.out.set (p := ⟨w.heap.size, 0, none⟩) hlt v0).set (p := ⟨w.heap.size, 1, none⟩) hlt v1).set (p := ⟨w.heap.size, 2, none⟩) hlt v2).set (p := ⟨w.heap.size, 3, none⟩) hlt v3)
    have HRR := hide hRow
    clear hF hS e0 hRow
    go_wp2
    exact bodyPost_ret (v := .tuple #[.agg #[.int .i64 o.kind, .string o.name, .int .i64 o.n, .slice vo o.v.length vc], .nilIface]) (by simp [results, Tryd.results8, go_sem, r0, r1, r2, r3]) rfl ⟨.inr ⟨o, vo, vc, HF.out, HFIN.out, rfl, base, by have := HBA.out; omega, HRR.out _ _ _ _⟩, below_fill4 HBd.out (Nat.le_refl _) _ _ _ _⟩
   ·have HN := hide (unB_not HO.out (.inr hS))
    have g1 : ((opS o).toList == s.toList) = false := by rw [toList_beq]; exact decide_eq_false hS
    have g2 : ((opS o).toList != s.toList) = true := by rw [bne, g1]; rfl
    have g3 : decide (opS o = s) = false := decide_eq_false hS
    rw [hF]
    have e0 : errV 0 = .nilIface := rfl
    rw [e0]
    clear hF e0
    go_wp2
    exact bodyPost_ret (v := .tuple #[.agg #[.int .i64 0, .string ⟨#[]⟩, .int .i64 0, .slice none 0 0], .iface 47 (.int .i64 5)]) (by simp [results, Tryd.results8, go_sem, r0, r1, r2, r3]) rfl ⟨.inl ⟨HN.out, rfl⟩, by first | exact HBd.out | exact below_fill4 HBd.out (Nat.le_refl _) _ _ _ _⟩
  ·have HN := hide (unB_not HO.out (.inl hF))
   have e0 : errV (opF o) = .iface 47 (.int .i64 ((opF o : Nat) : Int)) := if_neg hF
   rw [e0]
   clear hF e0
   go_wp2
   exact bodyPost_ret (v := .tuple #[.agg #[.int .i64 0, .string ⟨#[]⟩, .int .i64 0, .slice none 0 0], .iface 47 (.int .i64 5)]) (by simp [results, Tryd.results8, go_sem, r0, r1, r2, r3]) rfl ⟨.inl ⟨HN.out, rfl⟩, by first | exact HBd.out | exact below_fill4 HBd.out (Nat.le_refl _) _ _ _ _⟩

end Go.Proofs.YtmalhbkmfddhoaaDoor

/- Operations that came in; are they light? -/
namespace Go.Proofs.YtmalhbkmfddhoaaDoor
open Go.RowKit

structure OpC where
 o : OpV
 vo : Option Addr
 vc : Nat

def OpC.row (q : OpC) : Value := .slice q.vo q.o.v.length q.vc

def OpC.val (q : OpC) : Value := .agg #[.int .i64 q.o.kind, .string q.o.name, .int .i64 q.o.n, .slice q.vo q.o.v.length q.vc]

def OpsN (w : World) (v : Value) (os : List OpC) : Prop :=
 ∃ ao cap, v = .slice ao os.length cap ∧ os.length ≤ cap ∧ (0 < os.length → ∃ b off, ao = some ⟨b, off, none⟩ ∧ b < w.heap.size ∧
  ∀ i q, os[i]? = some q → w.cell? ⟨b, off + i * 4, none⟩ = some (.int .i64 q.o.kind) ∧ w.cell? ⟨b, off + i * 4 + 1, none⟩ = some (.string q.o.name) ∧ w.cell? ⟨b, off + i * 4 + 2, none⟩ = some (.int .i64 q.o.n) ∧ w.cell? ⟨b, off + i * 4 + 3, none⟩ = some q.row ∧ RowS w q.row q.o.v)

theorem OpsN.below {w w' : World} {v : Value} {os : List OpC} (h : OpsN w v os) (hb : Below w.heap.size w w') : OpsN w' v os := by
 obtain ⟨ao, cap, e, hn, hh⟩ := h
 refine ⟨ao, cap, e, hn, fun h0 => ?_⟩
 obtain ⟨b, off, e', hlt, hc⟩ := hh h0
 refine ⟨b, off, e', Nat.lt_of_lt_of_le hlt hb.size, fun i q hq => ?_⟩
 obtain ⟨a0, a1, a2, a3, a4⟩ := hc i q hq
 exact ⟨(hb.cell (p := ⟨b, off + i * 4, none⟩) hlt).trans a0, (hb.cell (p := ⟨b, off + i * 4 + 1, none⟩) hlt).trans a1, (hb.cell (p := ⟨b, off + i * 4 + 2, none⟩) hlt).trans a2, (hb.cell (p := ⟨b, off + i * 4 + 3, none⟩) hlt).trans a3, a4.below hb (Nat.le_refl _)⟩

def lightO (o : OpV) : Bool := decide (o.name.size ≤ 30 ∧ o.v.length ≤ 10)

def lightL (os : List OpC) (m : Nat) : Bool := decide (os.length ≤ m) && os.all (fun q => lightO q.o)

theorem lightL_ok {os : List OpC} {m : Nat} (h : lightL os m = true) : os.length ≤ m ∧ ∀ q ∈ os, q.o.name.size ≤ 30 ∧ q.o.v.length ≤ 10 := by
 unfold lightL lightO at h
 simp only [Bool.and_eq_true, decide_eq_true_eq, List.all_eq_true] at h
 exact h

set_option linter.unusedSimpArgs false in
set_option maxRecDepth 100000 in
set_option maxHeartbeats 1600000 in
theorem lightOps_any (w : World) (v : Value) (os : List OpC) (m : Nat) (h : OpsN w v os) (hm : m ≤ 1000) :
  Calls Tryd.prog 6 #[v, .int .i64 (m : Int)] w fun e w' => e = .returned (.bool (lightL os m)) ∧ w' = w := by
 have HO := hide h
 obtain ⟨ao, cap, rfl, hcap, -⟩ := h
 generalize hr : lightL os m = r
 have HR := hide hr
 clear hr
 by_cases hml : m < os.length
 ·have g0 : decide ((m : Int) < (os.length : Int)) = true := decide_eq_true (by omega)
  obtain rfl : r = false := by rw [← HR.out]; unfold lightL; rw [decide_eq_false (by omega), Bool.false_and]
  go_enter Tryd.func6, Tryd.ntmps6
  go_wp2
  go_ret
  exact ⟨rfl, rfl⟩
 have g0 : decide ((m : Int) < (os.length : Int)) = false := decide_eq_false (by omega)
 have HA : Hid (os.all (fun q => lightO q.o) = r) := by rw [← HR.out]; unfold lightL; rw [decide_eq_true (by omega), Bool.true_and]; rfl
 clear HR
 go_enter Tryd.func6, Tryd.ntmps6
 go_wp2_with fail
 go_loopw [5] (fun i wr => ∃ k : Nat, k ≤ os.length ∧ i = .int .i64 k ∧ Hid ((os.drop k).all (fun q => lightO q.o) = r) ∧ wr = w) (fun i _ => os.length - (intOf i).toNat)
 case atStart => exact ⟨0, Nat.zero_le _, rfl, HA, rfl⟩
 case round =>
  clear HA
  obtain ⟨k, hk, rfl, HA, rfl⟩ := hrel
  by_cases hkl : k < os.length
  ·have ha := HA.out
   rw [List.drop_eq_getElem_cons hkl, List.all_cons] at ha
   obtain ⟨_, _, e, -, hh⟩ := HO.out
   simp only [Value.slice.injEq, true_and] at e
   obtain ⟨rfl, rfl⟩ := e
   obtain ⟨b, off, rfl, hlt, hc⟩ := hh (by omega)
   obtain ⟨a0, a1, a2, a3, -⟩ := hc k os[k] (List.getElem?_eq_getElem hkl)
   have HAA := hide ha
   clear hh hc ha HA
   generalize os[k] = q at *
   obtain ⟨⟨kd, nm, n, vs⟩, vo, vc⟩ := q
   simp only [OpC.row] at a3
   dsimp only at a0 a1 a2 a3 HAA
   by_cases h30 : nm.size ≤ 30
   ·have g1 : decide (30 < (nm.size : Int)) = false := decide_eq_false (by omega)
    by_cases h10 : vs.length ≤ 10
    ·have g2 : decide (10 < (vs.length : Int)) = false := decide_eq_false (by omega)
     have HA : Hid ((os.drop (k + 1)).all (fun q => lightO q.o) = r) := by
      have := HAA.out
      unfold lightO at this
      dsimp only at this
      rw [decide_eq_true ⟨h30, h10⟩, Bool.true_and] at this
      exact this
     clear HAA h30 h10
     go_wp2
     go_roundw
     case rel => exact ⟨k + 1, by omega, by go_num, HA, by first | rfl | trivial⟩
     case measure => simp [intOf]; omega
    ·have g2 : decide (10 < (vs.length : Int)) = true := decide_eq_true (by omega)
     obtain rfl : r = false := by
      have := HAA.out
      unfold lightO at this
      dsimp only at this
      rw [decide_eq_false (fun h => h10 h.2), Bool.false_and] at this
      exact this.symm
     clear HAA h30 h10
     go_wp2
     go_ret
     exact ⟨rfl, rfl⟩
   ·have g1 : decide (30 < (nm.size : Int)) = true := decide_eq_true (by omega)
    obtain rfl : r = false := by
     have := HAA.out
     unfold lightO at this
     dsimp only at this
     rw [decide_eq_false (fun h => h30 h.1), Bool.false_and] at this
     exact this.symm
    clear HAA h30
    go_wp2
    go_ret
    exact ⟨rfl, rfl⟩
  ·obtain rfl : k = os.length := by omega
   obtain rfl : r = true := by rw [← HA.out, List.drop_length]; rfl
   clear HA
   go_wp2
   go_ret
   exact ⟨rfl, rfl⟩

end Go.Proofs.YtmalhbkmfddhoaaDoor

/- The reference: are two operations the same? -/
namespace Go.Proofs.YtmalhbkmfddhoaaDoor
open Go.RowKit

set_option linter.unusedSimpArgs false in
set_option maxRecDepth 100000 in
set_option maxHeartbeats 1600000 in
theorem sameOp_any (w : World) (o : OpV) (ao bo : Option Addr) (ac bc : Nat) (ha : RowS w (.slice ao o.v.length ac) o.v) (hb : RowS w (.slice bo o.v.length bc) o.v) (hl : o.v.length ≤ 1000) :
  Calls Tryd.prog 9 #[.agg #[.int .i64 o.kind, .string o.name, .int .i64 o.n, .slice ao o.v.length ac], .agg #[.int .i64 o.kind, .string o.name, .int .i64 o.n, .slice bo o.v.length bc]] w fun e w' => e = .returned (.bool true) ∧ Below w.heap.size w w' := by
 have hb1 := alloc_below w (.cells #[.int .i64 o.kind, .string o.name, .int .i64 o.n, .slice ao o.v.length ac] 36)
 have hb2 := alloc_below (w.alloc (.cells #[.int .i64 o.kind, .string o.name, .int .i64 o.n, .slice ao o.v.length ac] 36)) (.cells #[.int .i64 o.kind, .string o.name, .int .i64 o.n, .slice bo o.v.length bc] 36)
 have hf1 := (FourV.new w (.int .i64 o.kind) (.string o.name) (.int .i64 o.n) (.slice ao o.v.length ac) 36).later hb2
 have hf2 := FourV.new (w.alloc (.cells #[.int .i64 o.kind, .string o.name, .int .i64 o.n, .slice ao o.v.length ac] 36)) (.int .i64 o.kind) (.string o.name) (.int .i64 o.n) (.slice bo o.v.length bc) 36
 have hs : (w.alloc (.cells #[.int .i64 o.kind, .string o.name, .int .i64 o.n, .slice ao o.v.length ac] 36)).heap.size = w.heap.size + 1 := by simp
 rw [hs] at hf2
 have HB := hide (hb1.trans (hb2.mono hb1.size)); have X1 := hide hf1; have X2 := hide hf2; have HA := hide ha; have HBB := hide hb
 obtain ⟨a0, a1, a2, a3, -⟩ := hf1
 obtain ⟨b0, b1, b2, b3, -⟩ := hf2
 clear hb1 hb2 hs ha hb
 go_enter Tryd.func9, Tryd.ntmps9
 go_wp2_with fail
 generalize (w.alloc (.cells #[.int .i64 o.kind, .string o.name, .int .i64 o.n, .slice ao o.v.length ac] 36)).alloc (.cells #[.int .i64 o.kind, .string o.name, .int .i64 o.n, .slice bo o.v.length bc] 36) = W at *
 refine (sameNumbers_any W _ _ o.v o.v (HA.out.below HB.out (Nat.le_refl _)) (HBB.out.below HB.out (Nat.le_refl _)) (by omega)).mono ?_
 rintro e w1 ⟨rfl, h1⟩
 rw [decide_eq_true (rfl : o.v = o.v)]
 have HB1 := hide (HB.out.trans (h1.mono HB.out.size))
 clear a0 a1 a2 a3 b0 b1 b2 b3
 obtain ⟨a0, a1, a2, a3, -⟩ := X1.out.later h1
 obtain ⟨b0, b1, b2, b3, -⟩ := X2.out.later h1
 clear h1
 go_wp2
 go_ret
 exact ⟨rfl, HB1.out⟩

end Go.Proofs.YtmalhbkmfddhoaaDoor

/- A text's rest, where no numbers are. -/
namespace Go.Proofs.YtmalhbkmfddhoaaDoor
open Go.RowKit

def Code.tail : Code → Code
 | .seq _ b => b
 | c => c

end Go.Proofs.YtmalhbkmfddhoaaDoor
