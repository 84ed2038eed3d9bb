/- A catalog is laid as a whole. -/
import Derived.Test.YtnhbfehfipafoaaGreatDoorSrH
import Derived.Test.YtnhbfehfipafoaaGreatDoorJoins
import Derived.Test.YtnhbfehfipafoaaGreatDoorDetRg
import Derived.Test.YtnhbfehfipafoaaGreatDoorBgO

namespace Go.Proofs.YtnhbfehfipafoaaGreatDoor
open Go.RowKit

set_option linter.unusedSimpArgs false in
set_option maxRecDepth 100000 in
set_option maxHeartbeats 1600000 in
theorem logSec_any (w : World) (base : Own) (B : Nat) (D : Dsk) (m : Nat) (hd : DiskO w base B D) (hl : D.secs.length = m) (hm : m ≤ 200) (h82 : 82 ≤ m) :
  Calls Tryz.prog 50 #[.pointer (some ⟨B, 0, none⟩)] w fun e w' => e = .returned (.int .i64 ((m - 82 : Nat) : Int)) ∧ Below w.heap.size w w' := by
 have HS := hide (sectors_any w base B D hd)
 rw [hl] at HS
 obtain ⟨k, hk⟩ : ∃ k : Nat, m - 82 = k := ⟨_, rfl⟩
 have hmk : (m : Int) - 82 = (k : Int) := by omega
 rw [hk]
 clear hd hl hk
 go_enter Tryz.func50, Tryz.ntmps50
 go_wp2_with fail
 refine HS.out.mono ?_
 rintro e w1 ⟨rfl, hb1⟩
 have HB := hide hb1
 clear HS hb1
 go_wp2
 go_ret
 exact ⟨rfl, HB.out⟩

theorem DiskO.set {W : World} {base : Own} {B : Nat} {D : Dsk} (h : DiskO W base B D) {t : TypeId} (ht : ¬ diskT t) {b : Nat} {cs : Array Value} (hb : W.heap[b]? = some (.cells cs t (0, 0))) (k : Nat) (v : Value) : DiskO (W.setCell ⟨b, k, none⟩ v) base B D := by
 obtain ⟨sv, ls, h⟩ := h
 exact ⟨sv, ls, h.aside hb ht (fun c hc => heap_setCell_other _ _ _ _ hc)⟩

theorem Kept.setNew {w W : World} {base : Own} {b : Nat} (h : Kept base w W) (hb : w.heap.size ≤ b) (k : Nat) (v : Value) : Kept base w (W.setCell ⟨b, k, none⟩ v) :=
 ⟨h.os, h.tape, h.output, by simpa using h.size, fun i hi hn => (heap_setCell_other _ _ _ _ (fun e => by have : i = b := e; omega)).trans (h.block i hi hn)⟩

def LayP (w : World) (base : Own) (B : Nat) (D : Dsk) (a : Hd) (l : List Nmd) (e : Ending) (w' : World) : Prop :=
 ∃ F : Int, (0 < F ∧ F < 4294967296) ∧ numL (cont D 82) ≠ F ∧
  e = .returned (.tuple #[hdV (if (layD (nextHd a F (textC l).length) (textC l) D).2 = true then nextHd a F (textC l).length else hd0), okV (layD (nextHd a F (textC l).length) (textC l) D).2]) ∧
  DiskO w' base B (layD (nextHd a F (textC l).length) (textC l) D).1 ∧ Kept base w w'

set_option linter.unusedSimpArgs false in
set_option maxRecDepth 100000 in
set_option maxHeartbeats 1600000 in
theorem lay_any (w : World) (base : Own) (B : Nat) (D : Dsk) (m : Nat) (a : Hd) (v : Value) (qs : List Nc) (num : Int) (hd : DiskO w base B D) (hdn : D.down = false) (hw : Well D m 0) (hm : m ≤ 200) (h86 : 86 ≤ m)
  (hap : a.pl ≤ 1) (hc : CatV w v qs) (hok : CatOk (qs.map (·.x))) (ht : TabP w) (hnum : 1 ≤ num ∧ num ≤ 8589934592) (hbase : base.h ≤ w.heap.size) :
  Calls Tryz.prog 48 #[.pointer (some ⟨B, 0, none⟩), hdV a, v, .int .i64 num] w fun e w' => LayP w base B D a (qs.map (·.x)) e w' := by
 obtain ⟨u, rfl, hu⟩ := hc
 obtain ⟨lo, lk, rfl, -, -⟩ := id hu
 obtain ⟨ll, hll⟩ : ∃ ll, qs.length = ll := ⟨_, rfl⟩
 rw [hll] at hu ⊢
 have hb1 := alloc_below w (.cells #[.int .i64 (a.pl : Int), .int .u32 a.age, .int .u32 a.first, .int .u32 a.long] 91)
 have hb2 := alloc_below (w.alloc (.cells #[.int .i64 (a.pl : Int), .int .u32 a.age, .int .u32 a.first, .int .u32 a.long] 91)) (.cells #[.slice lo ll lk] 53)
 have hb3 := alloc_below ((w.alloc (.cells #[.int .i64 (a.pl : Int), .int .u32 a.age, .int .u32 a.first, .int .u32 a.long] 91)).alloc (.cells #[.slice lo ll lk] 53)) (.cells #[.int .i64 0, .int .u32 0, .int .u32 0, .int .u32 0] 91)
 have e1 : (w.alloc (.cells #[.int .i64 (a.pl : Int), .int .u32 a.age, .int .u32 a.first, .int .u32 a.long] 91)).heap.size = w.heap.size + 1 := by simp
 have e2 : ((w.alloc (.cells #[.int .i64 (a.pl : Int), .int .u32 a.age, .int .u32 a.first, .int .u32 a.long] 91)).alloc (.cells #[.slice lo ll lk] 53)).heap.size = w.heap.size + 2 := by simp
 have X5 := hide (((HdB.new w (.int .i64 (a.pl : Int)) (.int .u32 a.age) (.int .u32 a.first) (.int .u32 a.long)).later hb2).later hb3)
 have x6 := (One.new (w.alloc (.cells #[.int .i64 (a.pl : Int), .int .u32 a.age, .int .u32 a.first, .int .u32 a.long] 91)) (.slice lo ll lk) 53).later hb3
 have x8 := HdB.new ((w.alloc (.cells #[.int .i64 (a.pl : Int), .int .u32 a.age, .int .u32 a.first, .int .u32 a.long] 91)).alloc (.cells #[.slice lo ll lk] 53)) (.int .i64 0) (.int .u32 0) (.int .u32 0) (.int .u32 0)
 rw [e1] at x6
 rw [e2] at x8
 have X6 := hide x6; have X8 := hide x8
 have HB := hide ((hb1.trans (hb2.mono hb1.size)).trans (hb3.mono (Nat.le_trans hb1.size hb2.size)))
 have HU := hide (hu.below HB.out); have HT := hide (ht.below HB.out); have HD := hide (hd.later HB.out)
 have HW := hide hw; have HDN := hide hdn; have HOK := hide hok; have HBA := hide hbase
 have HS3 : Hid ((((w.alloc (.cells #[.int .i64 (a.pl : Int), .int .u32 a.age, .int .u32 a.first, .int .u32 a.long] 91)).alloc (.cells #[.slice lo ll lk] 53)).alloc (.cells #[.int .i64 0, .int .u32 0, .int .u32 0, .int .u32 0] 91)).heap.size = w.heap.size + 3) := by show _ = _; simp
 have HS2 : Hid (((w.alloc (.cells #[.int .i64 (a.pl : Int), .int .u32 a.age, .int .u32 a.first, .int .u32 a.long] 91)).alloc (.cells #[.slice lo ll lk] 53)).heap.size = w.heap.size + 2) := e2
 have HS1 : Hid ((w.alloc (.cells #[.int .i64 (a.pl : Int), .int .u32 a.age, .int .u32 a.first, .int .u32 a.long] 91)).heap.size = w.heap.size + 1) := e1
 obtain ⟨l, hl⟩ : ∃ l, qs.map (·.x) = l := ⟨_, rfl⟩
 have HL := hide hl
 have hlen : (textC l).length ≤ 1872 := by rw [← hl]; exact textC_few hok
 rw [hl]
 clear hb1 hb2 hb3 x6 x8 hd hw hdn hu ht hok hll hl
 unfold hdV
 go_enter Tryz.func48, Tryz.ntmps48
 go_wp2_with fail
 try rw [HS2.out]
 generalize hW3 : (((w.alloc (.cells #[.int .i64 (a.pl : Int), .int .u32 a.age, .int .u32 a.first, .int .u32 a.long] 91)).alloc (.cells #[.slice lo ll lk] 53)).alloc (.cells #[.int .i64 0, .int .u32 0, .int .u32 0, .int .u32 0] 91)) = W3 at *
 refine (logSec_any W3 base B D m HD.out HW.out.len hm (by omega)).mono ?_
 rintro e w4 ⟨rfl, hb4⟩
 have HB4 := hide (HB.out.trans (hb4.mono HB.out.size)); have HD4 := hide (HD.out.later hb4); have HU4 := hide (HU.out.below hb4); have HT4 := hide (HT.out.below hb4)
 have X54 := hide (X5.out.later hb4); have X64 := hide (X6.out.later hb4); have X84 := hide (X8.out.later hb4)
 clear hb4 HB HD HU HT X5 X6 X8
 go_wp2_with fail
 refine (fresh_any w4 base B D m (m - 82) num HD4.out HDN.out HW.out.len hm (by omega) rfl hnum).mono ?_
 rintro e w5 ⟨F, rfl, hF, hfr, hb5⟩
 have HB5 := hide (HB4.out.trans (hb5.mono HB4.out.size)); have HD5 := hide (HD4.out.later hb5); have HU5 := hide (HU4.out.below hb5); have HT5 := hide (HT4.out.below hb5)
 have X55 := hide (X54.out.later hb5); have X65 := hide (X64.out.later hb5); have X85 := hide (X84.out.later hb5)
 have HFR := hide hfr
 clear hb5 HB4 HD4 HU4 HT4 X54 X64 X84 hfr
 obtain ⟨c6, -, -⟩ := X65.out
 go_wp2_with fail
 refine (textP_any w5 _ qs ⟨_, rfl, HU5.out⟩ (by rw [HL.out]; rw [HL.out] at HOK; exact HOK.out) HT5.out).mono ?_
 rintro e w6 ⟨rfl, hb6⟩
 have HB6 := hide (HB5.out.trans (hb6.mono HB5.out.size)); have HD6 := hide (HD5.out.later hb6)
 have X56 := X55.out.later hb6; have X86 := hide (X85.out.later hb6)
 rw [HL.out]
 clear hb6 HB5 HD5 HU5 HT5 X55 X65 X85 c6
 obtain ⟨t, htx⟩ : ∃ t, textC l = t := ⟨_, rfl⟩
 have HTX := hide htx
 rw [htx] at hlen ⊢
 obtain ⟨n, hn⟩ : ∃ n, nextHd a F t.length = n := ⟨_, rfl⟩
 have HN := hide hn
 have hnok := nextHd_ok a hF (n := t.length) (by omega)
 rw [hn] at hnok
 have n1 : ((a.pl : Int) + 1).tmod 2 = (n.pl : Int) := by
  rw [← hn]
  show ((a.pl : Int) + 1).tmod 2 = (((a.pl + 1) % 2 : Nat) : Int)
  rcases (show a.pl = 0 ∨ a.pl = 1 by omega) with h | h <;> rw [h] <;> rfl
 have n2 : IntKind.u32.wrap (a.age + 1) = n.age := by rw [← hn]; rfl
 have n3 : IntKind.u32.wrap F = n.first := by
  rw [← hn]
  show F % 2 ^ 32 = F
  omega
 have n4 : IntKind.u32.wrap (t.length : Int) = n.long := by
  rw [← hn]
  show (t.length : Int) % 2 ^ 32 = (t.length : Int)
  omega
 have HNOK := hide hnok
 obtain ⟨R, hR⟩ : ∃ R, rawT 40 (2 + n.pl * 40) t D = R := ⟨_, rfl⟩
 have HRW : Hid (Well R.1 m 40) := by
  show Well _ _ _
  rw [← hR]
  have := (rawT_facts 40 (2 + n.pl * 40) t D m 0 HW.out (by have := hnok.pl; omega) (by omega)).1
  rwa [Nat.zero_add] at this
 have HR := hide hR
 have sz : (⟨t.toArray⟩ : ByteArray).size = t.length := secB_size t
 obtain ⟨c0, c1, c2, c3, -⟩ := HdB.cells X56
 obtain ⟨TB, hTB⟩ : ∃ TB : ByteArray, ⟨t.toArray⟩ = TB := ⟨_, rfl⟩
 have HTB : Hid (TB = secB t) := hTB.symm
 rw [hTB] at sz ⊢
 obtain ⟨tl, htl⟩ : ∃ tl, t.length = tl := ⟨_, rfl⟩
 have HTL := hide htl
 rw [htl] at sz n4
 have htl2 : tl ≤ 1872 := by omega
 clear hn hnok hR hTB htl htx X56
 have hbN := alloc_below w6 (.cells #[.int .i64 (n.pl : Int), .int .u32 n.age, .int .u32 n.first, .int .u32 n.long] 91)
 have XN2 := hide (HdB.new w6 (.int .i64 (n.pl : Int)) (.int .u32 n.age) (.int .u32 n.first) (.int .u32 n.long))
 obtain ⟨y0, y1, y2, y3, -⟩ := HdB.cells XN2.out
 have HD7 := hide (HD6.out.later hbN); have X87 := hide (X86.later hbN)
 have HB7 := hide (HB6.out.trans (hbN.mono HB6.out.size))
 clear HB6 HD6 X86 hbN
 go_wp2_with fail
 rw [HTB.out]
 generalize hWN : w6.alloc (.cells #[.int .i64 (n.pl : Int), .int .u32 n.age, .int .u32 n.first, .int .u32 n.long] 91) = WN at *
 clear hWN y0 y1 y2 y3
 refine (writeText_any WN base B D m 0 n t HD7.out HW.out (by omega) hm (by omega) HNOK.out.pl (by rw [HTL.out]; omega) (Nat.le_trans HBA.out HB7.out.size)).mono ?_
 rintro e w8 ⟨rfl, hd8, hk8⟩
 rw [HR.out] at hd8 ⊢
 rw [andFlush_val]
 have HD8 := hide hd8; have X88 := hide (HdB.kept X87.out hk8); have XN3 := hide (HdB.kept XN2.out hk8)
 have HK8 := hide ((Kept.of_below (base := base) HB7.out).trans hk8)
 have HSZ8 : Hid (base.h ≤ w8.heap.size) := Nat.le_trans HBA.out (Nat.le_trans HB7.out.size hk8.size)
 clear hd8 hk8 HD7 X87 XN2 HB7
 have HF := hide hF
 cases hb : andB R.1 R.2 with
 | false =>
  have HLD : Hid (layD n t D = ((andFlush R.1 R.2).2, false)) := by
   show _ = _
   unfold layD
   rw [HR.out, if_pos hb]
  rw [show okV false = errno 9 from rfl]
  obtain ⟨c0, c1, c2, c3, c4, c5, c6, c7⟩ := HdB.cells X88.out
  obtain ⟨y0, y1, y2, y3, -⟩ := HdB.cells (HdB.wrote X88.out (.int .i64 0) (.int .u32 0) (.int .u32 0) (.int .u32 0))
  have hfin : Hid (LayP w base B D a l (.returned (.tuple #[.agg #[.int .i64 0, .int .u32 0, .int .u32 0, .int .u32 0], errno 9])) ((((w8.setCell ⟨w.heap.size + 2, 0, none⟩ (.int .i64 0)).setCell ⟨w.heap.size + 2, 1, none⟩ (.int .u32 0)).setCell ⟨w.heap.size + 2, 2, none⟩ (.int .u32 0)).setCell ⟨w.heap.size + 2, 3, none⟩ (.int .u32 0))) := by
   refine ⟨F, HF.out, HFR.out, ?_, ?_, ?_⟩
   ·rw [HTX.out, HN.out, HLD.out]; rfl
   ·rw [HTX.out, HN.out, HLD.out]
    exact ((((HD8.out.set head_type X88.out 0 _).set head_type (X88.out.set0 _) 1 _).set head_type (heap_setCell_same _ _ 1 _ _ _ (X88.out.set0 _)) 2 _).set head_type (heap_setCell_same _ _ 2 _ _ _ (heap_setCell_same _ _ 1 _ _ _ (X88.out.set0 _))) 3 _)
   ·exact (((HK8.out.setNew (by show w.heap.size ≤ w.heap.size + 2; omega) 0 _).setNew (by show w.heap.size ≤ w.heap.size + 2; omega) 1 _).setNew (by show w.heap.size ≤ w.heap.size + 2; omega) 2 _).setNew (by show w.heap.size ≤ w.heap.size + 2; omega) 3 _
  clear HD8 XN3 HK8 HLD HTX HN hF
  go_wp2
  exact bodyPost_ret (v := .tuple #[.agg #[.int .i64 0, .int .u32 0, .int .u32 0, .int .u32 0], errno 9]) (by simp [results, Tryz.results48, go_sem, y0, y1, y2, y3]) rfl hfin.out
 | true =>
  rw [show okV true = .nilIface from rfl]
  obtain ⟨D2, hD2⟩ : ∃ D2, (andFlush R.1 R.2).2 = D2 := ⟨_, rfl⟩
  rw [hD2] at HD8
  have HW2 : Hid (Well D2 m 1000) := by
   show Well _ _ _
   rw [← hD2]
   exact (andFlush_well HRW.out).mono (by omega)
  have HLD : Hid (layD n t D = ((andFlush (putD D2 (n.pl : Int) (secB (hdB n))) D2.steps).2, andB (putD D2 (n.pl : Int) (secB (hdB n))) D2.steps)) := by
   show _ = _
   unfold layD
   rw [HR.out, if_neg (by rw [hb]; decide), hD2]
  obtain ⟨c0, c1, c2, c3, -⟩ := HdB.cells XN3.out
  clear hb hD2
  go_wp2_with fail
  refine (hwrite_any w8 base B D2 m 1000 n HD8.out HW2.out (by omega) hm (by omega) HNOK.out HSZ8.out).mono ?_
  rintro e w9 ⟨rfl, hd9, hk9⟩
  rw [andFlush_val]
  have HD9 := hide hd9; have X89 := hide (HdB.kept X88.out hk9); have XN4 := hide (HdB.kept XN3.out hk9)
  have HK9 := hide (HK8.out.trans hk9)
  clear hd9 hk9 HD8 X88 XN3 HK8 c0 c1 c2 c3
  cases hb2 : andB (putD D2 (n.pl : Int) (secB (hdB n))) D2.steps with
  | false =>
   rw [hb2] at HLD
   rw [show okV false = errno 9 from rfl]
   obtain ⟨c0, c1, c2, c3, c4, c5, c6, c7⟩ := HdB.cells X89.out
   obtain ⟨y0, y1, y2, y3, -⟩ := HdB.cells (HdB.wrote X89.out (.int .i64 0) (.int .u32 0) (.int .u32 0) (.int .u32 0))
   have hfin : Hid (LayP w base B D a l (.returned (.tuple #[.agg #[.int .i64 0, .int .u32 0, .int .u32 0, .int .u32 0], errno 9])) ((((w9.setCell ⟨w.heap.size + 2, 0, none⟩ (.int .i64 0)).setCell ⟨w.heap.size + 2, 1, none⟩ (.int .u32 0)).setCell ⟨w.heap.size + 2, 2, none⟩ (.int .u32 0)).setCell ⟨w.heap.size + 2, 3, none⟩ (.int .u32 0))) := by
    refine ⟨F, HF.out, HFR.out, ?_, ?_, ?_⟩
    ·rw [HTX.out, HN.out, HLD.out]; rfl
    ·rw [HTX.out, HN.out, HLD.out]
     exact ((((HD9.out.set head_type X89.out 0 _).set head_type (X89.out.set0 _) 1 _).set head_type (heap_setCell_same _ _ 1 _ _ _ (X89.out.set0 _)) 2 _).set head_type (heap_setCell_same _ _ 2 _ _ _ (heap_setCell_same _ _ 1 _ _ _ (X89.out.set0 _))) 3 _)
    ·exact (((HK9.out.setNew (by show w.heap.size ≤ w.heap.size + 2; omega) 0 _).setNew (by show w.heap.size ≤ w.heap.size + 2; omega) 1 _).setNew (by show w.heap.size ≤ w.heap.size + 2; omega) 2 _).setNew (by show w.heap.size ≤ w.heap.size + 2; omega) 3 _
   clear HD9 XN4 HK9 HLD HTX HN hF
   go_wp2
   exact bodyPost_ret (v := .tuple #[.agg #[.int .i64 0, .int .u32 0, .int .u32 0, .int .u32 0], errno 9]) (by simp [results, Tryz.results48, go_sem, y0, y1, y2, y3]) rfl hfin.out
  | true =>
   rw [hb2] at HLD
   rw [show okV true = .nilIface from rfl]
   obtain ⟨c0, c1, c2, c3, c4, c5, c6, c7⟩ := HdB.cells X89.out
   obtain ⟨x0, x1, x2, x3, -⟩ := HdB.cells XN4.out
   obtain ⟨y0, y1, y2, y3, -⟩ := HdB.cells (HdB.wrote X89.out (.int .i64 (n.pl : Int)) (.int .u32 n.age) (.int .u32 n.first) (.int .u32 n.long))
   have hfin : Hid (LayP w base B D a l (.returned (.tuple #[.agg #[.int .i64 (n.pl : Int), .int .u32 n.age, .int .u32 n.first, .int .u32 n.long], .nilIface])) ((((w9.setCell ⟨w.heap.size + 2, 0, none⟩ (.int .i64 (n.pl : Int))).setCell ⟨w.heap.size + 2, 1, none⟩ (.int .u32 n.age)).setCell ⟨w.heap.size + 2, 2, none⟩ (.int .u32 n.first)).setCell ⟨w.heap.size + 2, 3, none⟩ (.int .u32 n.long))) := by
    refine ⟨F, HF.out, HFR.out, ?_, ?_, ?_⟩
    ·rw [HTX.out, HN.out, HLD.out]; rfl
    ·rw [HTX.out, HN.out, HLD.out]
     exact ((((HD9.out.set head_type X89.out 0 _).set head_type (X89.out.set0 _) 1 _).set head_type (heap_setCell_same _ _ 1 _ _ _ (X89.out.set0 _)) 2 _).set head_type (heap_setCell_same _ _ 2 _ _ _ (heap_setCell_same _ _ 1 _ _ _ (X89.out.set0 _))) 3 _)
    ·exact (((HK9.out.setNew (by show w.heap.size ≤ w.heap.size + 2; omega) 0 _).setNew (by show w.heap.size ≤ w.heap.size + 2; omega) 1 _).setNew (by show w.heap.size ≤ w.heap.size + 2; omega) 2 _).setNew (by show w.heap.size ≤ w.heap.size + 2; omega) 3 _
   clear HD9 XN4 HK9 HLD HTX HN hF
   go_wp2
   exact bodyPost_ret (v := .tuple #[.agg #[.int .i64 (n.pl : Int), .int .u32 n.age, .int .u32 n.first, .int .u32 n.long], .nilIface]) (by simp [results, Tryz.results48, go_sem, y0, y1, y2, y3]) rfl hfin.out

end Go.Proofs.YtnhbfehfipafoaaGreatDoor

/- A region that draws its order: d, err := c.Apply(..) with a variable of one's own for d: q plain operations, the call, and what unpacks it. -/
namespace Go.Proofs.YtnhbfehfipafoaaGreatDoor
open Go.RowKit

def apD (q : Nat) (ps : Nat → List Nat) (i : Nat) : List Nat :=
 if i ≤ q then ps i else if i = q + 1 then [q] else if i = q + 2 then [q + 1] else if i = q + 3 then [q + 1] else if i = q + 4 then [] else if i = q + 5 then [q + 2, q + 4] else if i = q + 6 then [q + 3] else []

theorem apD_1 (q : Nat) (ps : Nat → List Nat) : apD q ps (q + 1) = [q] := by unfold apD; rw [if_neg (by omega), if_pos rfl]
theorem apD_2 (q : Nat) (ps : Nat → List Nat) : apD q ps (q + 2) = [q + 1] := by unfold apD; rw [if_neg (by omega), if_neg (by omega), if_pos rfl]
theorem apD_3 (q : Nat) (ps : Nat → List Nat) : apD q ps (q + 3) = [q + 1] := by unfold apD; rw [if_neg (by omega), if_neg (by omega), if_neg (by omega), if_pos rfl]
theorem apD_4 (q : Nat) (ps : Nat → List Nat) : apD q ps (q + 4) = [] := by unfold apD; rw [if_neg (by omega), if_neg (by omega), if_neg (by omega), if_neg (by omega), if_pos rfl]
theorem apD_5 (q : Nat) (ps : Nat → List Nat) : apD q ps (q + 5) = [q + 2, q + 4] := by unfold apD; rw [if_neg (by omega), if_neg (by omega), if_neg (by omega), if_neg (by omega), if_neg (by omega), if_pos rfl]
theorem apD_6 (q : Nat) (ps : Nat → List Nat) : apD q ps (q + 6) = [q + 3] := by unfold apD; rw [if_neg (by omega), if_neg (by omega), if_neg (by omega), if_neg (by omega), if_neg (by omega), if_neg (by omega), if_pos rfl]

def apS (q : Nat) (Rg : World → Option Addr → Nat → Nat → Value → Prop) (C : Nat) (b : Bool) (i : Nat) (c : Nat → Value) (W : World) : Prop :=
 (i = q → ∃ o l k e, c q = .tuple #[.agg #[.slice o l k], e] ∧ Rg W o l k e) ∧
 (i = q + 1 → c (q + 1) = c q) ∧
 (i = q + 2 → ∃ u e, c (q + 1) = .tuple #[u, e] ∧ c (q + 2) = u) ∧
 (i = q + 3 → ∃ u e, c (q + 1) = .tuple #[u, e] ∧ c (q + 3) = e) ∧
 (i = q + 4 → ∃ B, c (q + 4) = .pointer (some ⟨B, 0, none⟩) ∧ C ≤ B ∧ (b = false → One W B (.slice none 0 0))) ∧
 (i = q + 5 → ∃ B u, c (q + 4) = .pointer (some ⟨B, 0, none⟩) ∧ c (q + 2) = .agg #[u] ∧ C ≤ B ∧ One W B u) ∧
 (i = q + 6 → c (q + 6) = c (q + 3))

section
variable {q : Nat} {Rg : World → Option Addr → Nat → Nat → Value → Prop} {C : Nat} {b : Bool} {c : Nat → Value} {W : World}

theorem apS_p {i : Nat} (hi : i < q) : apS q Rg C b i c W := ⟨fun e => absurd e (by omega), fun e => absurd e (by omega), fun e => absurd e (by omega), fun e => absurd e (by omega), fun e => absurd e (by omega), fun e => absurd e (by omega), fun e => absurd e (by omega)⟩

theorem apS_0 (h : ∃ o l k e, c q = .tuple #[.agg #[.slice o l k], e] ∧ Rg W o l k e) : apS q Rg C b q c W := ⟨fun _ => h, fun e => absurd e (by omega), fun e => absurd e (by omega), fun e => absurd e (by omega), fun e => absurd e (by omega), fun e => absurd e (by omega), fun e => absurd e (by omega)⟩

theorem apS_1 (h : c (q + 1) = c q) : apS q Rg C b (q + 1) c W := ⟨fun e => absurd e (by omega), fun _ => h, fun e => absurd e (by omega), fun e => absurd e (by omega), fun e => absurd e (by omega), fun e => absurd e (by omega), fun e => absurd e (by omega)⟩

theorem apS_2 (h : ∃ u e, c (q + 1) = .tuple #[u, e] ∧ c (q + 2) = u) : apS q Rg C b (q + 2) c W := ⟨fun e => absurd e (by omega), fun e => absurd e (by omega), fun _ => h, fun e => absurd e (by omega), fun e => absurd e (by omega), fun e => absurd e (by omega), fun e => absurd e (by omega)⟩

theorem apS_3 (h : ∃ u e, c (q + 1) = .tuple #[u, e] ∧ c (q + 3) = e) : apS q Rg C b (q + 3) c W := ⟨fun e => absurd e (by omega), fun e => absurd e (by omega), fun e => absurd e (by omega), fun _ => h, fun e => absurd e (by omega), fun e => absurd e (by omega), fun e => absurd e (by omega)⟩

theorem apS_4 (h : ∃ B, c (q + 4) = .pointer (some ⟨B, 0, none⟩) ∧ C ≤ B ∧ (b = false → One W B (.slice none 0 0))) : apS q Rg C b (q + 4) c W := ⟨fun e => absurd e (by omega), fun e => absurd e (by omega), fun e => absurd e (by omega), fun e => absurd e (by omega), fun _ => h, fun e => absurd e (by omega), fun e => absurd e (by omega)⟩

theorem apS_5 (h : ∃ B u, c (q + 4) = .pointer (some ⟨B, 0, none⟩) ∧ c (q + 2) = .agg #[u] ∧ C ≤ B ∧ One W B u) : apS q Rg C b (q + 5) c W := ⟨fun e => absurd e (by omega), fun e => absurd e (by omega), fun e => absurd e (by omega), fun e => absurd e (by omega), fun e => absurd e (by omega), fun _ => h, fun e => absurd e (by omega)⟩

theorem apS_6 (h : c (q + 6) = c (q + 3)) : apS q Rg C b (q + 6) c W := ⟨fun e => absurd e (by omega), fun e => absurd e (by omega), fun e => absurd e (by omega), fun e => absurd e (by omega), fun e => absurd e (by omega), fun e => absurd e (by omega), fun _ => h⟩

end

theorem apStays (q : Nat) (ps : Nat → List Nat) (Rg : World → Option Addr → Nat → Nat → Value → Prop) (hRg : ∀ W W' o l k e, Below W.heap.size W W' → Rg W o l k e → Rg W' o l k e) (C : Nat) (b : Bool) : Stays (apD q ps) (apS q Rg C b) where
 later := fun i c W W' hb h => by
  obtain ⟨h0, h1, h2, h3, h4, h5, h6⟩ := h
  refine ⟨fun e => ?_, h1, h2, h3, fun e => ?_, fun e => ?_, h6⟩
  ·obtain ⟨o, l, k, e', a1, a2⟩ := h0 e
   exact ⟨o, l, k, e', a1, hRg _ _ _ _ _ _ hb a2⟩
  ·obtain ⟨B, a1, a2, a3⟩ := h4 e
   exact ⟨B, a1, a2, fun hf => (a3 hf).later hb⟩
  ·obtain ⟨B, u, a1, a2, a3, a4⟩ := h5 e
   exact ⟨B, u, a1, a2, a3, a4.later hb⟩
 other := fun i j c v W hne hm h => by
  obtain ⟨h0, h1, h2, h3, h4, h5, h6⟩ := h
  refine ⟨fun e => ?_, fun e => ?_, fun e => ?_, fun e => ?_, fun e => ?_, fun e => ?_, fun e => ?_⟩
  ·subst e
   rw [upd_ne _ _ hne]; exact h0 rfl
  ·subst e
   have h : ¬ i = q := by rw [apD_1] at hm; simpa using hm
   rw [upd_ne _ _ hne, upd_ne _ _ (fun e => h e.symm)]; exact h1 rfl
  ·subst e
   have h : ¬ i = q + 1 := by rw [apD_2] at hm; simpa using hm
   rw [upd_ne _ _ hne, upd_ne _ _ (fun e => h e.symm)]; exact h2 rfl
  ·subst e
   have h : ¬ i = q + 1 := by rw [apD_3] at hm; simpa using hm
   rw [upd_ne _ _ hne, upd_ne _ _ (fun e => h e.symm)]; exact h3 rfl
  ·subst e
   rw [upd_ne _ _ hne]; exact h4 rfl
  ·subst e
   have h : ¬ i = q + 2 ∧ ¬ i = q + 4 := by rw [apD_5] at hm; simpa using hm
   rw [upd_ne _ _ (fun e => h.2 e.symm), upd_ne _ _ (fun e => h.1 e.symm)]; exact h5 rfl
  ·subst e
   have h : ¬ i = q + 3 := by rw [apD_6] at hm; simpa using hm
   rw [upd_ne _ _ hne, upd_ne _ _ (fun e => h e.symm)]; exact h6 rfl

theorem ap_fin {q : Nat} {ps : Nat → List Nat} {Rg : World → Option Addr → Nat → Nat → Value → Prop} {C : Nat} {kv : Nat → Option Value} {w : World} {L : Array Bool} {c : Nat → Value} {W : World} (R : FS (apD q ps) kv (apS q Rg C true) w L c W) (hall : ∀ i, i < q + 7 → L.getD i false = true) :
  ∃ B o l k e, c (q + 4) = .pointer (some ⟨B, 0, none⟩) ∧ c (q + 6) = e ∧ C ≤ B ∧ One W B (.slice o l k) ∧ Rg W o l k e := by
 obtain ⟨o, l, k, e, e0, hR⟩ := (R.spec q (hall q (by omega))).1 rfl
 have e1 := (R.spec (q + 1) (hall (q + 1) (by omega))).2.1 rfl
 obtain ⟨u, f, e2, e2'⟩ := (R.spec (q + 2) (hall (q + 2) (by omega))).2.2.1 rfl
 obtain ⟨u3, f3, e3, e3'⟩ := (R.spec (q + 3) (hall (q + 3) (by omega))).2.2.2.1 rfl
 obtain ⟨B, u5, e5, e5', hB, hO⟩ := (R.spec (q + 5) (hall (q + 5) (by omega))).2.2.2.2.2.1 rfl
 have e6 := (R.spec (q + 6) (hall (q + 6) (by omega))).2.2.2.2.2.2 rfl
 rw [e1, e0] at e2 e3
 simp only [Value.tuple.injEq, Array.mk.injEq, List.cons.injEq, and_true] at e2 e3
 obtain ⟨rfl, -⟩ := e2
 obtain ⟨-, rfl⟩ := e3
 rw [e2'] at e5'
 simp only [Value.agg.injEq, Array.mk.injEq, List.cons.injEq, and_true] at e5'
 subst e5'
 exact ⟨B, o, l, k, _, e5, e6.trans e3', hB, hO, hR⟩

def CatG (r : Nat × List Nmd) (W : World) (o : Option Addr) (l k : Nat) (e : Value) : Prop :=
 (r.1 ≠ 0 ∧ o = none ∧ l = 0 ∧ k = 0 ∧ e = errV r.1) ∨ (r.1 = 0 ∧ e = .nilIface ∧ ∃ qs : List Nc, qs.map (·.x) = r.2 ∧ CatN W (.slice o l k) qs)

theorem CatG.later {r : Nat × List Nmd} (W W' : World) (o : Option Addr) (l k : Nat) (e : Value) (hb : Below W.heap.size W W') (h : CatG r W o l k e) : CatG r W' o l k e := by
 rcases h with h | ⟨h1, h2, qs, h3, h4⟩
 ·exact .inl h
 ·exact .inr ⟨h1, h2, qs, h3, h4.below hb⟩

theorem CatG.put {r : Nat × List Nmd} (hr : r.1 = 0 → ∀ x ∈ r.2, NmOk x) {W : World} {B : Nat} {o : Option Addr} {l k : Nat} {e : Value} (hB : One W B (.slice none 0 0)) (x : Value) (h : CatG r W o l k e) : CatG r (W.setCell ⟨B, 0, none⟩ x) o l k e := by
 rcases h with h | ⟨h1, h2, qs, h3, h4⟩
 ·exact .inl h
 ·exact .inr ⟨h1, h2, qs, h3, h4.setOne (nonE_of_ok (by rw [h3]; exact hr h1)) hB.1 x⟩

theorem catN_noRow {W : World} {u : Value} {ps : List Nc} (h : CatN W u ps) {g : List Int} (hg : g ≠ []) : ¬ RowS W u g := fun hr => by
 obtain ⟨ao, cap, e, -, hh⟩ := h
 obtain ⟨bo, cap', e2, -, -, hh2⟩ := hr
 rw [e] at e2
 simp only [Value.slice.injEq] at e2
 obtain ⟨rfl, hl, -⟩ := e2
 have h0 : 0 < g.length := List.length_pos_iff.2 hg
 obtain ⟨b, off, rfl, -, hc⟩ := hh (by omega)
 obtain ⟨b', off', e3, -, hc2⟩ := hh2 h0
 simp only [Option.some.injEq, Addr.mk.injEq, and_true] at e3
 obtain ⟨rfl, rfl⟩ := e3
 have k1 := (hc 0 ps[0] (List.getElem?_eq_getElem (by omega))).1
 have k2 := hc2 0 h0
 rw [Nat.zero_mul, Nat.add_zero] at k1
 rw [Nat.add_zero, k1] at k2
 cases k2

theorem RowS.setVar {W : World} {v : Value} {ks : List Int} (h : RowS W v ks) {p : Addr} {o : Option Addr} {l c : Nat} (hc : W.cell? p = some (.slice o l c)) (x : Value) : RowS (W.setCell p x) v ks := by
 obtain ⟨ao, cap, e, hn, h6, hh⟩ := h
 refine ⟨ao, cap, e, hn, h6, fun h0 => ?_⟩
 obtain ⟨b, off, e', hlt, hcell⟩ := hh h0
 refine ⟨b, off, e', by simpa using hlt, fun i hi => (World.cell?_setCell_other _ _ _ _ fun e => ?_).trans (hcell i hi)⟩
 have := hcell i hi
 rw [← e, hc] at this; cases this

theorem CatN.setVar {W : World} {v : Value} {qs : List Nc} (h : CatN W v qs) (hne : NonE qs) {B : Nat} {u : Value} {ps : List Nc} (hc : W.cell? ⟨B, 0, none⟩ = some u) (hu : CatN W u ps) (x : Value) : CatN (W.setCell ⟨B, 0, none⟩ x) v qs := by
 have hno := fun g (hg : g ≠ []) => catN_noRow (g := g) hu hg
 obtain ⟨uo, uc, rfl, -⟩ := hu
 obtain ⟨ao, cap, e, hn, hh⟩ := h
 refine ⟨ao, cap, e, hn, fun h0 => ?_⟩
 obtain ⟨b, off, e', hlt, hcell⟩ := hh h0
 refine ⟨b, off, e', hlt.set _ _, fun i q hi => ?_⟩
 obtain ⟨h1, h2, h3, h4⟩ := hcell i q hi
 refine ⟨(World.cell?_setCell_other _ _ _ _ fun e => ?_).trans h1, (World.cell?_setCell_other _ _ _ _ fun e => ?_).trans h2, (World.cell?_setCell_other _ _ _ _ fun e => ?_).trans h3, ?_⟩
 ·rw [← e, hc] at h1; cases h1
 ·rw [← e, hc] at h2; cases h2
 ·have := congrArg Addr.off e
  simp at this
 ·have hq := hne q (List.mem_of_getElem? hi)
  refine GensIn.set h4 ?_ (fun r hr u hu => by rw [hc] at hu; obtain rfl := Option.some.inj hu; exact hno r (hq r hr))
  obtain ⟨⟨go, gc, ge, gn, gh⟩, -⟩ := h4
  refine ⟨go, gc, ge, gn, fun g0 => ?_⟩
  obtain ⟨gb, goff, ge', glt, gcell⟩ := gh g0
  refine ⟨gb, goff, ge', by simpa using glt, fun j r hj => ?_⟩
  obtain ⟨u2, hu2, hr2⟩ := gcell j r hj
  refine ⟨u2, (World.cell?_setCell_other _ _ _ _ fun e => ?_).trans hu2, hr2.setVar hc x⟩
  rw [← e, hc] at hu2
  simp only [Option.some.injEq] at hu2
  rw [← hu2] at hr2
  exact hno r (hq r (List.mem_of_getElem? hj)) hr2

theorem catG_of {w w' : World} {r : Nat × List Nmd} {e : Ending} (h : CatRes w r e w') : ∃ o l k ev, e = .returned (.tuple #[.agg #[.slice o l k], ev]) ∧ CatG r w' o l k ev ∧ Below w.heap.size w w' := by
 obtain ⟨h | ⟨h1, u, qs, h2, h3, v, rfl, h4⟩, hb⟩ := h
 ·exact ⟨none, 0, 0, _, h.2, .inl ⟨h.1, rfl, rfl, rfl, rfl⟩, hb⟩
 ·obtain ⟨o, c, rfl, -⟩ := id h4
  exact ⟨o, _, c, _, h2, .inr ⟨h1, rfl, qs, h3, h4⟩, hb⟩

theorem One.write {W : World} {B : Nat} {u : Value} (h : One W B u) (x : Value) : One (W.setCell ⟨B, 0, none⟩ x) B x :=
 ⟨World.cell?_setCell_same (h := h.1) .., by simpa using h.2.1, by simpa using h.2.2⟩

end Go.Proofs.YtnhbfehfipafoaaGreatDoor
