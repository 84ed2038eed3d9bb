/- A log: its deeds are read. -/
import Derived.Test.YtnhbfehfipafoaaGreatDoorWaM
import Derived.Test.YtnhbfehfipafoaaGreatDoorBpZ

namespace Go.Proofs.YtnhbfehfipafoaaGreatDoor
open Go.RowKit

theorem seg_snoc (c : Nat → List UInt8) (fr i : Nat) : seg c fr 0 (i + 1) = seg c fr 0 i ++ [c (fr + i)] := by
 rw [seg_app c fr i 0 1]
 congr 1
 unfold seg
 simp

theorem scan_snoc (f : Int) (c : Nat → List UInt8) (fr i : Nat) : scanS f (seg c fr 0 (i + 1)) = stepS f (scanS f (seg c fr 0 i)) (c (fr + i)) := by
 unfold scanS
 rw [seg_snoc, List.foldl_append]
 rfl

theorem scan_at (f : Int) (c : Nat → List UInt8) (fr i : Nat) : (scanS f (seg c fr 0 i)).i = i := by
 unfold scanS
 rw [fold_i, seg_len]
 show 0 + i = i
 omega

theorem says_stop {f : Int} {c : Nat → List UInt8} {fr mn i : Nat} (hi : i < mn) (h : (stepS f (scanS f (seg c fr 0 i)) (c (fr + i))).stop = true) :
  (saysL f fr mn c).ds = (stepS f (scanS f (seg c fr 0 i)) (c (fr + i))).ds ∧ (saysL f fr mn c).e = (stepS f (scanS f (seg c fr 0 i)) (c (fr + i))).e := by
 have hsp : saysL f fr mn c = (seg c fr (i + 1) (mn - (i + 1))).foldl (stepS f) (scanS f (seg c fr 0 (i + 1))) := by
  have := seg_app c fr (i + 1) 0 (mn - (i + 1))
  rw [show i + 1 + (mn - (i + 1)) = mn by omega, Nat.zero_add] at this
  unfold saysL scanS
  rw [this, List.foldl_append]
 rw [hsp, scan_snoc]
 have := fold_stop f (seg c fr (i + 1) (mn - (i + 1))) _ h
 exact ⟨this.1, this.2.1⟩

theorem below_end {w W : World} {L B : Nat} {fr many first en : Int} {u : Int} (hl : LogM w L B fr many first en) (h : Below w.heap.size (w.setCell ⟨L, 4, none⟩ (.int .i64 u)) W) (v : Int) : Below w.heap.size (w.setCell ⟨L, 4, none⟩ (.int .i64 v)) (W.setCell ⟨L, 4, none⟩ (.int .i64 v)) := by
 refine ⟨h.os, h.tape, h.output, by have := h.size; simpa using this, fun b hb => ?_⟩
 by_cases e : b = L
 ·subst e
  have h1 := h.block b hb
  rw [hl.set u] at h1
  rw [heap_setCell_same W b 4 _ _ _ h1, hl.set v]
  rfl
 ·rw [heap_setCell_other _ _ _ _ e, heap_setCell_other _ _ _ _ e]
  have h1 := h.block b hb
  rw [heap_setCell_other _ _ _ _ e] at h1
  exact h1

theorem below_start {w : World} {L B : Nat} {fr many first en : Int} (hl : LogM w L B fr many first en) : Below w.heap.size (w.setCell ⟨L, 4, none⟩ (.int .i64 en)) w := by
 refine ⟨rfl, rfl, rfl, by simp, fun b _ => ?_⟩
 by_cases e : b = L
 ·subst e
  rw [hl.set en]
  exact hl
 ·rw [heap_setCell_other _ _ _ _ e]

theorem rdSec_len (n : Int) (l : List UInt8) : (rdSec n l).2.length ≤ 58 := by
 unfold rdSec
 split
 ·rename_i h
  show ((l.drop 6).take (bt l 5)).length ≤ 58
  rw [List.length_take]
  omega
 ·exact Nat.zero_le _

theorem step_none {f : Int} {st : St} {s : List UInt8} {b : List UInt8} (h : st.stop = false) (hr : rdSec (f + (st.i : Nat)) s = (111, b)) (hu : unopL b = none) : stepS f st s = { st with i := st.i + 1, stop := true } := by
 unfold stepS
 rw [if_neg (by rw [h]; decide), hr]
 dsimp only
 rw [if_pos rfl, hu]

theorem step_op {f : Int} {st : St} {s : List UInt8} {b : List UInt8} {o : OpV} (h : st.stop = false) (hr : rdSec (f + (st.i : Nat)) s = (111, b)) (hu : unopL b = some o) : stepS f st s = { st with i := st.i + 1, ops := st.ops ++ [o] } := by
 unfold stepS
 rw [if_neg (by rw [h]; decide), hr]
 dsimp only
 rw [if_pos rfl, hu]

theorem step_close {f : Int} {st : St} {s : List UInt8} (h : st.stop = false) (hr : rdSec (f + (st.i : Nat)) s = (99, fourB st.ops.length)) : stepS f st s = ⟨st.i + 1, false, [], st.ds ++ [st.ops], st.i + 1⟩ := by
 unfold stepS
 rw [if_neg (by rw [h]; decide), hr]
 dsimp only
 rw [if_neg (by decide), if_pos ⟨rfl, rfl⟩]

theorem step_bad {f : Int} {st : St} {s : List UInt8} {r : Nat × List UInt8} (h : st.stop = false) (hr : rdSec (f + (st.i : Nat)) s = r) (h1 : r.1 ≠ 111) (h2 : ¬ (r.1 = 99 ∧ r.2 = fourB st.ops.length)) : stepS f st s = { st with i := st.i + 1, stop := true } := by
 unfold stepS
 rw [if_neg (by rw [h]; decide), hr, if_neg h1, if_neg h2]

theorem setCell_sizeW (w : World) (p : Addr) (v : Value) : (w.setCell p v).heap.size = w.heap.size := by simp

def DeedsP (w : World) (L B : Nat) (fr mn : Nat) (first : Int) (F : St) (e : Ending) (w' : World) : Prop :=
 ∃ dv dss, e = .returned (.tuple #[dv, .nilIface]) ∧ DeedsT w.heap.size w' dv dss ∧ dss.map (fun p => p.2.map (·.o)) = F.ds ∧ LogM w' L B fr mn first F.e ∧ Below w.heap.size (w.setCell ⟨L, 4, none⟩ (.int .i64 F.e)) w'

set_option linter.unusedSimpArgs false in
set_option maxRecDepth 100000 in
set_option maxHeartbeats 3200000 in
theorem deeds_any (w : World) (base : Own) (B L : Nat) (D : Dsk) (m fr mn : Nat) (first : Int) (hd : DiskO w base B D) (hl : LogM w L B fr mn first (0 : Nat)) (hm : D.secs.length = m) (hm2 : m ≤ 200) (hin : fr + mn ≤ m) (hf : 0 ≤ first ∧ first ≤ 8589934592) (hdn : D.down = false) :
  Calls Tryz.prog 107 #[.pointer (some ⟨L, 0, none⟩)] w fun e w' => DeedsP w L B fr mn first (saysL first fr mn (cont D)) e w' := by
 obtain ⟨F, hF⟩ : ∃ F, saysL first fr mn (cont D) = F := ⟨_, rfl⟩
 rw [hF]
 have HF := hide hF; have HD := hide hd; have HL := hide hl; have HDN := hide hdn; have HM := hide hm
 have hmn200 : mn ≤ 200 := by omega
 have HIN := hide hin
 obtain ⟨-, -, c2, -, -, -⟩ := hl.cells
 have HB0 := hide (below_start hl)
 clear hd hl hdn hF hm hin
 go_enter Tryz.func107, Tryz.ntmps107
 go_wp2_with fail
 clear c2
 go_loopw [4, 5, 16] (fun du ov ix wr => ∃ (i : Nat) (dv : Value) (st : St) (dss : List (Value × List OpC)) (os2 : List OpC) (Wb : World), i ≤ mn ∧ ix = .int .i64 i ∧ du = dv ∧ Hid (scanS first (seg (cont D) fr 0 i) = st) ∧ Hid (st.stop = false) ∧ Hid (st.ops = os2.map (·.o)) ∧ Hid (dss.map (fun p => p.2.map (·.o)) = st.ds) ∧ Hid (DeedsT w.heap.size Wb dv dss) ∧ Hid (w.heap.size ≤ Wb.heap.size) ∧ Hid (OpsT Wb.heap.size wr ov os2) ∧ Hid (Below Wb.heap.size Wb wr) ∧ Hid (Below w.heap.size (w.setCell ⟨L, 4, none⟩ (.int .i64 (st.e : Int))) wr) ∧ Hid (LogM wr L B fr mn first st.e) ∧ Hid (os2.length ≤ i ∧ dss.length ≤ i)) (fun _ _ ix _ => mn - (intOf ix).toNat)
 case atStart => exact ⟨0, .slice none 0 0, st0, [], [], w, Nat.zero_le _, rfl, rfl, rfl, rfl, rfl, rfl, deedsT_nil _ _, Nat.le_refl _, opsT_nil _ _, Below.refl _ _, HB0, HL, Nat.le_refl _, Nat.le_refl _⟩
 case round =>
  clear HB0
  obtain ⟨i, dv, st, dss, os2, Wb, hi, rfl, rfl, HST, HSP, HOP, HDS, HDT, HWB, HOT, HBW, HBL, HLM, HLN⟩ := hrel
  obtain ⟨oo, oc, rfl⟩ := HOT.out.form
  obtain ⟨dvo, dvc, rfl⟩ := HDT.out.form
  have HDISK : Hid (DiskO wr base B D) := (HD.out.setLog HL.out (.int .i64 (st.e : Int))).later (by rw [setCell_sizeW]; exact HBL.out)
  have HWR : Hid (w.heap.size ≤ wr.heap.size) := by have := HBL.out.size; rw [setCell_sizeW] at this; exact this
  have HSI : Hid (st.i = i) := by show _ = _; rw [← HST.out]; exact scan_at _ _ _ _
  by_cases hil : i < mn
  ·have HRET : Hid (∀ w3, Below wr.heap.size wr w3 → (stepS first st (cont D (fr + i))).stop = true → (stepS first st (cont D (fr + i))).ds = st.ds → (stepS first st (cont D (fr + i))).e = st.e → DeedsP w L B fr mn first F (.returned (.tuple #[.slice dvo dss.length dvc, .nilIface])) w3) := fun w3 hb h1 h2 h3 => by
    obtain ⟨k1, k2⟩ := says_stop (f := first) (c := cont D) (fr := fr) hil (by rw [HST.out]; exact h1)
    rw [HF.out, HST.out, h2] at k1
    rw [HF.out, HST.out, h3] at k2
    refine ⟨_, dss, rfl, (HDT.out.later HBW.out).later hb, by rw [k1]; exact HDS.out, by rw [k2]; exact HLM.out.later hb, by rw [k2]; exact HBL.out.trans (hb.mono HWR.out)⟩
   have HNX : Hid (scanS first (seg (cont D) fr 0 (i + 1)) = stepS first st (cont D (fr + i))) := by show _ = _; rw [scan_snoc, HST.out]
   obtain ⟨⟨K, bd⟩, hrd⟩ : ∃ r, rdSec (first + (i : Nat)) (cont D (fr + i)) = r := ⟨_, rfl⟩
   have hbd : bd.length ≤ 58 := by have := rdSec_len (first + (i : Nat)) (cont D (fr + i)); rw [hrd] at this; exact this
   have hrR : rdR D first fr i = (K, bd) := by unfold rdR; rw [if_neg (by rw [HDN.out]; decide)]; exact hrd
   have hdE : downE D = .nilIface := by unfold downE; rw [if_neg (by rw [HDN.out]; decide)]
   have hrd' : rdSec (first + (st.i : Nat)) (cont D (fr + i)) = (K, bd) := by rw [HSI.out]; exact hrd
   have hlr := logRead_any wr base B L D fr i mn first st.e HDISK.out HLM.out (by rw [HM.out]; have := HIN.out; omega) (by rw [HM.out]; exact hm2) hf
   rw [hrR, hdE] at hlr
   have HLR := hide hlr; have HRD := hide hrd'; have HBD := hide hbd
   clear hrd hrR hdE hrd' hlr hbd
   go_wp2_with fail
   refine HLR.out.mono ?_
   rintro e w1 ⟨rfl, hb1⟩
   have HB1 := hide hb1
   clear hb1 HLR HDISK
   by_cases hK : K = 111
   ·subst hK
    go_wp2_with fail
    refine (unop_any w1 (secB bd) (by show bd.toArray.size ≤ 1000000; rw [List.size_toArray]; have := HBD.out; omega)).mono ?_
    rintro e w2 ⟨⟨hno, rfl⟩ | ⟨o, vo, vc, hfo, hbo, rfl, base2, hb2, hrow⟩, hbl2⟩
    ·have HNO : Hid (unopL bd = none) := unopL_none hno
     have hbA := alloc_below w2 (.cells #[.int .i64 0, .string ⟨#[]⟩, .int .i64 0, .slice none 0 0] 43)
     have HBA := hide (HB1.out.trans ((hbl2.mono HB1.out.size).trans (hbA.mono (Nat.le_trans HB1.out.size hbl2.size))))
     have HX := hide (step_none HSP.out HRD.out HNO.out)
     clear hno hbl2 hbA
     have e5 : errV 5 = .iface 80 (.int .i64 5) := rfl
     rw [e5]
     clear e5
     go_wp2
     exact bodyPost_ret (v := .tuple #[.slice dvo dss.length dvc, .nilIface]) (by simp [results, Tryz.results107, go_sem]) rfl (HRET.out _ HBA.out (by rw [HX.out]) (by rw [HX.out]) (by rw [HX.out]))
    ·have HUN : Hid (unopL bd = some o) := unopL_iff.2 ⟨hfo, hbo⟩
     have hbA := alloc_below w2 (.cells #[.int .i64 o.kind, .string o.name, .int .i64 o.n, .slice vo o.v.length vc] 43)
     have hw12 := HB1.out.trans (hbl2.mono HB1.out.size)
     have HBA := hide (hw12.trans (hbA.mono hw12.size))
     have X10 := hide (BoxQ.new w2 (.int .i64 o.kind) (.string o.name) (.int .i64 o.n) (.slice vo o.v.length vc) 43)
     have HX := hide (step_op HSP.out HRD.out HUN.out)
     have hqr : RowAt 0 (w2.alloc (.cells #[.int .i64 o.kind, .string o.name, .int .i64 o.n, .slice vo o.v.length vc] 43)) vo o.v.length vc o.v := RowAt.later ⟨ownsLess hrow.1 (Nat.zero_le _), hrow.2⟩ hbA
     have hlog := (HLM.out.later HBA.out)
     obtain ⟨oo', oc', W', hr, hot', hbW', hkW'⟩ := (HOT.out.later HBA.out).snoc (Nat.le_trans HBW.out.size HBA.out.size) ⟨o, vo, vc⟩ hqr (by have := HLN.out; omega)
     dsimp only [OpC.row] at hr
     have hsz2 : (w2.alloc (.cells #[.int .i64 o.kind, .string o.name, .int .i64 o.n, .slice vo o.v.length vc] 43)).heap.size = w2.heap.size + 1 := by simp
     rw [hsz2] at hr
     have HR := hide hr
     have HOT2 := hide hot'
     have HLM2 : Hid (LogM W' L B fr mn first st.e) := (hkW' L _ _ _ hlog (by decide)).trans hlog
     have HBW2 := hide (HBW.out.trans ((HBA.out.mono HBW.out.size).trans hbW'))
     have HBL2 := hide (HBL.out.trans ((HBA.out.mono HWR.out).trans (hbW'.mono HWB.out)))
     obtain ⟨⟨e0, e1, e2, e3, -⟩, -⟩ := X10.out
     clear hsz2 hbA hw12 hqr hlog hr hot' hkW' hbW' hfo hbo hrow hb2 hbl2
     go_wp2_with (show wpList _ _ _ ({ dst := some 44, op := _, type := _, pos := _, after := _, guard := _ } :: _) _ _; refine Lib.wpList_append_run _ rfl _ _ _ _ rfl _ _ rfl rfl _ _ HR.out ?_)
     go_roundw
     case rel => exact ⟨i + 1, _, _, dss, os2 ++ [(⟨o, vo, vc⟩ : OpC)], Wb, by omega, by go_num, rfl, HNX.out, by rw [HX.out]; exact HSP.out, by rw [HX.out, HOP.out, List.map_append]; rfl, by rw [HX.out]; exact HDS.out, HDT.out, HWB.out, HOT2, HBW2.out, by rw [HX.out]; exact HBL2.out, by rw [HX.out]; exact HLM2.out, ⟨by have := HLN.out; rw [List.length_append]; show os2.length + 1 ≤ i + 1; omega, by have := HLN.out; omega⟩⟩
     case measure => simp [intOf]; omega
   ·obtain ⟨n, hn⟩ : ∃ n, os2.length = n := ⟨_, rfl⟩
    have hopl : st.ops.length = n := by rw [HOP.out, List.length_map]; exact hn
    have g1 : ((K : Int) == 111) = false := beq_eq_false_iff_ne.2 (by omega)
    by_cases h99 : K = 99
    ·subst h99
     have hn200 : n ≤ 200 := by have := HLN.out; omega
     have gU : IntKind.u32.wrap (n : Int) = (n : Int) := by show (n : Int) % 2 ^ 32 = _; omega
     have gM : (n : Int) % 4294967296 = (n : Int) := by omega
     have HNN := hide hn; have HOL := hide hopl
     rw [hn] at HOT
     rw [hn]
     clear hn hopl
     go_wp2_with fail
     refine (four_any w1 (n : Int) (by omega) (by omega)).mono ?_
     rintro e w3 ⟨rfl, hb3⟩
     have HB3 := hide (HB1.out.trans (hb3.mono HB1.out.size))
     clear hb3 HB1
     by_cases hbf : bd = fourB (n : Int)
     ·have HX := hide (step_close (f := first) (st := st) (s := cont D (fr + i)) HSP.out (by rw [HOL.out, ← hbf]; exact HRD.out))
      subst hbf
      have q1 : ((secB (fourB (n : Int))).toList == fourB (n : Int)) = true := by
       rw [Lib.toList_data]
       exact beq_self_eq_true _
      have hdt3 := (HDT.out.later HBW.out).later HB3.out
      have hot3 : OpsT 0 w3 (.slice oo n oc) os2 := by
       have h := HOT.out.later HB3.out
       exact ⟨ownsLess h.1 (Nat.zero_le _), h.2⟩
      have hlog := HLM.out.later HB3.out
      obtain ⟨do', dc', W', hr, hdt', hbW', hkW'⟩ := hdt3.snoc (Nat.le_trans HWR.out HB3.out.size) (.slice oo n oc) os2 hot3 (by have := HLN.out; omega)
      have HR := hide hr
      have hlogW : LogM W' L B fr mn first st.e := (hkW' L _ _ _ hlog (by decide)).trans hlog
      obtain ⟨I1, hI1⟩ : ∃ I1, i + 1 = I1 := ⟨_, rfl⟩
      have hci : (i : Int) + 1 = (I1 : Int) := by omega
      have hwi : IntKind.i64.wrap (I1 : Int) = (I1 : Int) := wrap_small (by omega) (by omega)
      have HDT2 : Hid (DeedsT w.heap.size (W'.setCell ⟨L, 4, none⟩ (.int .i64 (I1 : Int))) (.slice do' (dss.length + 1) dc') (dss ++ [(.slice oo n oc, os2)])) := hdt'.keep fun b cs t fz hx ht => heap_setCell_other _ _ _ _ (fun e => by
       subst e
       rw [hlogW] at hx
       simp only [Option.some.injEq, Obj.cells.injEq] at hx
       rw [← hx.2.1] at ht
       unfold listT at ht
       exact absurd ht (by decide))
      have HLM2 : Hid (LogM (W'.setCell ⟨L, 4, none⟩ (.int .i64 (I1 : Int))) L B fr mn first (I1 : Int)) := hlogW.set _
      have HBL2 := hide (below_end HL.out (HBL.out.trans ((HB3.out.mono HWR.out).trans hbW')) (I1 : Int))
      have HWB2 : Hid (w.heap.size ≤ (W'.setCell ⟨L, 4, none⟩ (.int .i64 (I1 : Int))).heap.size) := by
       have h1 := HBL2.out.size
       rw [setCell_sizeW] at h1
       exact h1
      obtain ⟨-, -, -, -, c4, c5⟩ := LogM.cells hlogW
      have HI1 := hide hI1
      clear hdt3 hot3 hlog hr hdt' hbW' hkW' hlogW hI1 HDT
      go_wp2_with (show wpList _ _ _ ({ dst := some 57, op := _, type := _, pos := _, after := _, guard := _ } :: _) _ _; refine Lib.wpList_append_run _ rfl _ _ _ _ rfl _ _ rfl rfl _ _ HR.out ?_)
      go_roundw
      case rel => exact ⟨I1, _, _, dss ++ [(.slice oo n oc, os2)], [], _, by have := HI1.out; omega, rfl, rfl, by rw [← HI1.out]; exact HNX.out, by rw [HX.out]; rfl, by rw [HX.out]; rfl, by rw [HX.out, List.map_append, HDS.out, HOP.out]; rfl, HDT2, HWB2.out, opsT_nil _ _, Below.refl _ _, by rw [HX.out, HSI.out, HI1.out]; exact HBL2.out, by rw [HX.out, HSI.out, HI1.out]; exact HLM2.out, ⟨Nat.zero_le _, by have := HLN.out; have := HI1.out; rw [List.length_append]; show dss.length + 1 ≤ I1; omega⟩⟩
      case measure =>
       have h1 := HI1.out
       show mn - (I1 : Int).toNat < mn - (i : Int).toNat
       rw [Int.toNat_natCast, Int.toNat_natCast]
       omega
     ·have q1 : ((secB bd).toList == fourB (n : Int)) = false := by
       rw [Lib.toList_data]
       exact beq_eq_false_iff_ne.2 hbf
      have HX := hide (step_bad (f := first) (st := st) (s := cont D (fr + i)) HSP.out HRD.out (show (99 : Nat) ≠ 111 by decide) (fun h => hbf (by have := h.2; rw [HOL.out] at this; exact this)))
      clear hbf
      go_wp2
      exact bodyPost_ret (v := .tuple #[.slice dvo dss.length dvc, .nilIface]) (by simp [results, Tryz.results107, go_sem]) rfl (HRET.out _ HB3.out (by rw [HX.out]) (by rw [HX.out]) (by rw [HX.out]))
    ·have g2 : ((K : Int) == 99) = false := beq_eq_false_iff_ne.2 (by omega)
     have HX := hide (step_bad (f := first) (st := st) (s := cont D (fr + i)) HSP.out HRD.out hK (fun h => h99 h.1))
     clear hK h99 hn hopl
     go_wp2
     exact bodyPost_ret (v := .tuple #[.slice dvo dss.length dvc, .nilIface]) (by simp [results, Tryz.results107, go_sem]) rfl (HRET.out _ HB1.out (by rw [HX.out]) (by rw [HX.out]) (by rw [HX.out]))
  ·obtain rfl : i = mn := by omega
   have HFE : Hid (F = st) := by show _ = _; rw [← HF.out, ← HST.out]; rfl
   have HFIN : Hid (DeedsP w L B fr i first F (.returned (.tuple #[.slice dvo dss.length dvc, .nilIface])) wr) := by
    refine ⟨_, dss, rfl, HDT.out.later HBW.out, by rw [HFE.out]; exact HDS.out, by rw [HFE.out]; exact HLM.out, by rw [HFE.out]; exact HBL.out⟩
   go_wp2
   exact bodyPost_ret (v := .tuple #[.slice dvo dss.length dvc, .nilIface]) (by simp [results, Tryz.results107, go_sem]) rfl HFIN.out

end Go.Proofs.YtnhbfehfipafoaaGreatDoor

/- A log is opened. -/
namespace Go.Proofs.YtnhbfehfipafoaaGreatDoor
open Go.RowKit

def mayB (m : Nat) (fr many first : Int) : Bool := decide (0 ≤ fr) && decide (1 ≤ many) && decide (1 ≤ first) && decide (many ≤ m - fr)

set_option linter.unusedSimpArgs false in
set_option maxRecDepth 100000 in
set_option maxHeartbeats 1600000 in
theorem mayBe_any (w : World) (base : Own) (B : Nat) (D : Dsk) (m : Nat) (fr many first : Int) (hd : DiskO w base B D) (hm : D.secs.length = m) (hm2 : m ≤ 200) (hfr : fr ≤ 9223372036854775807) :
  Calls Tryz.prog 89 #[.pointer (some ⟨B, 0, none⟩), .int .i64 fr, .int .i64 many, .int .i64 first] w fun e w' => e = .returned (.bool (mayB m fr many first)) ∧ Below w.heap.size w w' := by
 have hs := sectors_any w base B D hd
 rw [hm] at hs
 have HS := hide hs
 clear hd hs hm
 unfold mayB
 by_cases h1 : 0 ≤ fr
 ·have hw : IntKind.i64.wrap ((m : Int) - fr) = (m : Int) - fr := wrap_small (by omega) (by omega)
  rw [decide_eq_true h1]
  have g1 : decide (0 ≤ fr) = true := decide_eq_true h1
  obtain ⟨b2, h2⟩ : ∃ b, decide (1 ≤ many) = b := ⟨_, rfl⟩
  obtain ⟨b3, h3⟩ : ∃ b, decide (1 ≤ first) = b := ⟨_, rfl⟩
  obtain ⟨b4, h4⟩ : ∃ b, decide (many ≤ (m : Int) - fr) = b := ⟨_, rfl⟩
  rw [h2, h3, h4]
  cases b2 with
  | false =>
   go_enter Tryz.func89, Tryz.ntmps89
   go_wp2
   go_ret
   exact ⟨rfl, Below.refl _ _⟩
  | true =>
   cases b3 with
   | false =>
    go_enter Tryz.func89, Tryz.ntmps89
    go_wp2
    go_ret
    exact ⟨rfl, Below.refl _ _⟩
   | true =>
    go_enter Tryz.func89, Tryz.ntmps89
    go_wp2_with fail
    refine HS.out.mono ?_
    rintro e w1 ⟨rfl, hb⟩
    go_wp2
    go_ret
    exact ⟨rfl, hb⟩
 ·rw [decide_eq_false h1]
  have g1 : decide (0 ≤ fr) = false := decide_eq_false h1
  go_enter Tryz.func89, Tryz.ntmps89
  go_wp2
  go_ret
  exact ⟨rfl, Below.refl _ _⟩

def OpenP (w : World) (B : Nat) (fr mn : Nat) (first : Int) (F : St) (e : Ending) (w' : World) : Prop :=
 ∃ L dv dss, e = .returned (.tuple #[.pointer (some ⟨L, 0, none⟩), dv, .nilIface]) ∧ w.heap.size ≤ L ∧ DeedsT w.heap.size w' dv dss ∧ dss.map (fun p => p.2.map (·.o)) = F.ds ∧ LogM w' L B fr mn first F.e ∧ Below w.heap.size w w'

set_option linter.unusedSimpArgs false in
set_option maxRecDepth 100000 in
set_option maxHeartbeats 1600000 in
theorem logOpen_any (w : World) (base : Own) (B : Nat) (D : Dsk) (m fr mn : Nat) (first : Int) (hd : DiskO w base B D) (hm : D.secs.length = m) (hm2 : m ≤ 200) (hin : fr + mn ≤ m) (h1 : 1 ≤ mn) (hf : 1 ≤ first ∧ first ≤ 8589934592) (hdn : D.down = false) :
  Calls Tryz.prog 73 #[.pointer (some ⟨B, 0, none⟩), .int .i64 (fr : Int), .int .i64 (mn : Int), .int .i64 first] w fun e w' => OpenP w B fr mn first (saysL first fr mn (cont D)) e w' := by
 have HMB := hide (mayBe_any w base B D m fr mn first hd hm hm2 (by omega))
 have hmb : mayB m fr mn first = true := by
  unfold mayB
  rw [decide_eq_true (by omega), decide_eq_true (by omega), decide_eq_true (by omega), decide_eq_true (by omega)]
  rfl
 rw [hmb] at HMB
 have HD := hide hd; have HM := hide hm; have HIN := hide hin; have HDN := hide hdn
 clear hd hm hin hdn h1 hmb
 go_enter Tryz.func73, Tryz.ntmps73
 go_wp2_with fail
 refine HMB.out.mono ?_
 rintro e w1 ⟨rfl, hb1⟩
 have hbA := alloc_below w1 (.cells #[.pointer (some ⟨B, 0, none⟩), .int .i64 (fr : Int), .int .i64 (mn : Int), .int .i64 first, .int .i64 0] 132)
 have HL : Hid (LogM (w1.alloc (.cells #[.pointer (some ⟨B, 0, none⟩), .int .i64 (fr : Int), .int .i64 (mn : Int), .int .i64 first, .int .i64 0] 132)) w1.heap.size B fr mn first (0 : Nat)) := heap_alloc_new w1 _
 have HB := hide hb1
 have HW := hide (hb1.trans (hbA.mono hb1.size))
 have HDD := hide ((HD.out.later hb1).later hbA)
 have hsz : (w1.alloc (.cells #[.pointer (some ⟨B, 0, none⟩), .int .i64 (fr : Int), .int .i64 (mn : Int), .int .i64 first, .int .i64 0] 132)).heap.size = w1.heap.size + 1 := by simp
 have HSZ := hide hsz
 clear hb1 hbA HMB HD hsz
 go_wp2_with fail
 generalize w1.alloc (.cells #[.pointer (some ⟨B, 0, none⟩), .int .i64 (fr : Int), .int .i64 (mn : Int), .int .i64 first, .int .i64 0] 132) = W2 at *
 refine (deeds_any W2 base B w1.heap.size D m fr mn first HDD.out HL.out HM.out hm2 HIN.out (by omega) HDN.out).mono ?_
 rintro e w3 ⟨dv, dss, rfl, hdt, hds, hlm, hbl⟩
 have HFIN : Hid (OpenP w B fr mn first (saysL first fr mn (cont D)) (.returned (.tuple #[.pointer (some ⟨w1.heap.size, 0, none⟩), dv, .nilIface])) w3) := by
  refine ⟨w1.heap.size, dv, dss, rfl, HB.out.size, ⟨ownsLess hdt.1 HW.out.size, hdt.2⟩, hds, hlm, ?_⟩
  have h1 : Below w.heap.size W2 (W2.setCell ⟨w1.heap.size, 4, none⟩ (.int .i64 ((saysL first fr mn (cont D)).e : Int))) := (Below.refl _ _).setCell HB.out.size _
  have h2 := hbl
  exact HW.out.trans (h1.trans (h2.mono HW.out.size))
 clear hdt hds hlm hbl
 go_wp2
 exact bodyPost_ret (v := .tuple #[.pointer (some ⟨w1.heap.size, 0, none⟩), dv, .nilIface]) (by simp [results, Tryz.results73, go_sem]) rfl HFIN.out

end Go.Proofs.YtnhbfehfipafoaaGreatDoor

/- Generators: what is wrong with one, are two the same? -/
namespace Go.Proofs.YtnhbfehfipafoaaGreatDoor
open Go.RowKit

theorem RowS.form {w : World} {v : Value} {ks : List Int} (h : RowS w v ks) : ∃ ao cap, v = .slice ao ks.length cap := by
 obtain ⟨ao, cap, e, -⟩ := h
 exact ⟨ao, cap, e⟩

theorem RowS.cellAt {w : World} {ao : Option Addr} {cap : Nat} {ks : List Int} (h : RowS w (.slice ao ks.length cap) ks) (k : Nat) (hk : k < ks.length) : ∃ b off, ao = some ⟨b, off, none⟩ ∧ b < w.heap.size ∧ w.cell? ⟨b, off + k, none⟩ = some (.int .i64 (ks.getD k 0)) := by
 obtain ⟨ao', cap', e, -, -, h⟩ := h
 simp only [Value.slice.injEq, true_and] at e
 obtain ⟨rfl, rfl⟩ := e
 obtain ⟨b, off, rfl, hlt, hc⟩ := h (by omega)
 exact ⟨b, off, rfl, hlt, hc k hk⟩

theorem genF_at {v : List Int} {n : Int} {k : Nat} (hn : (v.length : Int) = n) (hk : k < v.length) (h : v.getD k 0 < -999 ∨ 999 < v.getD k 0) : genF v n = 1 := by
 unfold genF
 rw [if_pos hn, if_neg]
 rw [List.all_eq_true]
 intro h'
 have := h' v[k] (List.getElem_mem hk)
 have e : v.getD k 0 = v[k] := by rw [List.getD_eq_getElem?_getD, List.getElem?_eq_getElem hk]; rfl
 rw [e] at h
 simp at this
 omega

theorem genF_all {v : List Int} {n : Int} (hn : (v.length : Int) = n) (h : ∀ k, k < v.length → -999 ≤ v.getD k 0 ∧ v.getD k 0 ≤ 999) : genF v n = 0 := by
 refine genF_ok.2 ⟨hn, fun z hz => ?_⟩
 obtain ⟨k, hk, rfl⟩ := List.getElem_of_mem hz
 have := h k hk
 rwa [List.getD_eq_getElem?_getD, List.getElem?_eq_getElem hk] at this

set_option linter.unusedSimpArgs false in
set_option maxRecDepth 100000 in
set_option maxHeartbeats 1600000 in
theorem checkGen_any (w : World) (v : Value) (ks : List Int) (n : Int) (hv : RowS w v ks) (hl6 : ks.length ≤ 1000000) : Calls Tryz.prog 100 #[v, .int .i64 n] w fun e w' => e = .returned (errV (genF ks n)) ∧ w' = w := by
 have HV := hide hv
 obtain ⟨ao, cap, rfl⟩ := hv.form
 clear hv
 by_cases hn : (ks.length : Int) = n
 ·have g1 : ((ks.length : Int) != n) = false := by rw [bne_eq_false_iff_eq]; exact hn
  have HN := hide hn
  generalize hr : genF ks n = r
  have HR := hide hr
  clear hr hn
  go_enter Tryz.func100, Tryz.ntmps100
  go_wp2
  go_loopw [13] (fun i wr => ∃ k : Nat, k ≤ ks.length ∧ i = .int .i64 k ∧ Hid (∀ j, j < k → -999 ≤ ks.getD j 0 ∧ ks.getD j 0 ≤ 999) ∧ wr = w) (fun i _ => ks.length - (intOf i).toNat)
  case atStart => exact ⟨0, Nat.zero_le _, rfl, hide (fun j hj => absurd hj (by omega)), rfl⟩
  case round =>
   obtain ⟨k, hk, rfl, HA, hw⟩ := hrel
   subst wr
   by_cases hkl : k < ks.length
   ·obtain ⟨b, off, rfl, hlt, hc⟩ := HV.out.cellAt k hkl
    have HG : Hid ((ks.getD k 0 < -999 ∨ 999 < ks.getD k 0) → r = 1) := fun h => HR.out.symm.trans (genF_at HN.out hkl h)
    have HA' : Hid ((-999 ≤ ks.getD k 0 ∧ ks.getD k 0 ≤ 999) → ∀ j, j < k + 1 → -999 ≤ ks.getD j 0 ∧ ks.getD j 0 ≤ 999) := fun h j hj => by
     by_cases e : j < k
     ·exact HA.out j e
     ·obtain rfl : j = k := by omega
      exact h
    generalize ks.getD k 0 = z at *
    by_cases h1 : z < -999
    ·have e1 : decide (z < -999) = true := decide_eq_true h1
     obtain rfl := HG.out (.inl h1)
     clear h1
     go_wp2
     go_ret
     exact ⟨rfl, rfl⟩
    ·have e1 : decide (z < -999) = false := decide_eq_false h1
     by_cases h2 : 999 < z
     ·have e2 : decide (999 < z) = true := decide_eq_true h2
      obtain rfl := HG.out (.inr h2)
      clear h1 h2
      go_wp2
      go_ret
      exact ⟨rfl, rfl⟩
     ·have e2 : decide (999 < z) = false := decide_eq_false h2
      have HA2 := hide (HA'.out ⟨by omega, by omega⟩)
      clear h1 h2
      go_wp2
      go_roundw
      case rel => exact ⟨k + 1, by omega, by go_num, HA2, by first | rfl | trivial⟩
      case measure => simp [intOf]; omega
   ·obtain rfl : k = ks.length := by omega
    obtain rfl : 0 = r := (genF_all HN.out HA.out).symm.trans HR.out
    go_wp2
    go_ret
    exact ⟨rfl, rfl⟩
 ·have g1 : ((ks.length : Int) != n) = true := by rw [bne_iff_ne]; exact hn
  have hr : genF ks n = 6 := by unfold genF; rw [if_neg hn]
  rw [hr]
  clear hn
  go_enter Tryz.func100, Tryz.ntmps100
  go_wp2
  go_ret
  exact ⟨rfl, rfl⟩

set_option linter.unusedSimpArgs false in
set_option maxRecDepth 100000 in
set_option maxHeartbeats 1600000 in
theorem genFault_any (w : World) (v : Value) (ks : List Int) (n : Int) (hv : RowS w v ks) (hl6 : ks.length ≤ 1000000) : Calls Tryz.prog 78 #[v, .int .i64 n] w fun e w' => e = .returned (.int .i64 ((genF ks n : Nat) : Int)) ∧ w' = w := by
 have HV := hide hv
 obtain ⟨ao, cap, rfl⟩ := hv.form
 clear hv
 by_cases hn : (ks.length : Int) = n
 ·have g1 : ((ks.length : Int) != n) = false := by rw [bne_eq_false_iff_eq]; exact hn
  have HN := hide hn
  generalize hr : genF ks n = r
  have HR := hide hr
  clear hr hn
  go_enter Tryz.func78, Tryz.ntmps78
  go_wp2
  go_loopw [5] (fun i wr => ∃ k : Nat, k ≤ ks.length ∧ i = .int .i64 k ∧ Hid (∀ j, j < k → -999 ≤ ks.getD j 0 ∧ ks.getD j 0 ≤ 999) ∧ wr = w) (fun i _ => ks.length - (intOf i).toNat)
  case atStart => exact ⟨0, Nat.zero_le _, rfl, hide (fun j hj => absurd hj (by omega)), rfl⟩
  case round =>
   obtain ⟨k, hk, rfl, HA, hw⟩ := hrel
   subst wr
   by_cases hkl : k < ks.length
   ·obtain ⟨b, off, rfl, hlt, hc⟩ := HV.out.cellAt k hkl
    have HG : Hid ((ks.getD k 0 < -999 ∨ 999 < ks.getD k 0) → r = 1) := fun h => HR.out.symm.trans (genF_at HN.out hkl h)
    have HA' : Hid ((-999 ≤ ks.getD k 0 ∧ ks.getD k 0 ≤ 999) → ∀ j, j < k + 1 → -999 ≤ ks.getD j 0 ∧ ks.getD j 0 ≤ 999) := fun h j hj => by
     by_cases e : j < k
     ·exact HA.out j e
     ·obtain rfl : j = k := by omega
      exact h
    generalize ks.getD k 0 = z at *
    by_cases h1 : z < -999
    ·have e1 : decide (z < -999) = true := decide_eq_true h1
     obtain rfl := HG.out (.inl h1)
     clear h1
     go_wp2
     go_ret
     exact ⟨rfl, rfl⟩
    ·have e1 : decide (z < -999) = false := decide_eq_false h1
     by_cases h2 : 999 < z
     ·have e2 : decide (999 < z) = true := decide_eq_true h2
      obtain rfl := HG.out (.inr h2)
      clear h1 h2
      go_wp2
      go_ret
      exact ⟨rfl, rfl⟩
     ·have e2 : decide (999 < z) = false := decide_eq_false h2
      have HA2 := hide (HA'.out ⟨by omega, by omega⟩)
      clear h1 h2
      go_wp2
      go_roundw
      case rel => exact ⟨k + 1, by omega, by go_num, HA2, by first | rfl | trivial⟩
      case measure => simp [intOf]; omega
   ·obtain rfl : k = ks.length := by omega
    obtain rfl : 0 = r := (genF_all HN.out HA.out).symm.trans HR.out
    go_wp2
    go_ret
    exact ⟨rfl, rfl⟩
 ·have g1 : ((ks.length : Int) != n) = true := by rw [bne_iff_ne]; exact hn
  have hr : genF ks n = 6 := by unfold genF; rw [if_neg hn]
  rw [hr]
  clear hn
  go_enter Tryz.func78, Tryz.ntmps78
  go_wp2
  go_ret
  exact ⟨rfl, rfl⟩

set_option linter.unusedSimpArgs false in
set_option maxRecDepth 100000 in
set_option maxHeartbeats 1600000 in
theorem sameNumbers_any (w : World) (va vb : Value) (xs ys : List Int) (ha : RowS w va xs) (hb : RowS w vb ys) (hl6 : xs.length ≤ 1000000) : Calls Tryz.prog 74 #[va, vb] w fun e w' => e = .returned (.bool (decide (xs = ys))) ∧ Below w.heap.size w w' := by
 have HA := hide ha; have HB := hide hb
 obtain ⟨ao, acap, rfl⟩ := ha.form
 obtain ⟨bo, bcap, rfl⟩ := hb.form
 clear ha hb
 by_cases hl : xs.length = ys.length
 ·have g1 : ((xs.length : Int) != (ys.length : Int)) = false := by rw [bne_eq_false_iff_eq]; omega
  have HL := hide hl
  generalize hr : decide (xs = ys) = r
  have HR := hide hr
  clear hr hl
  go_enter Tryz.func74, Tryz.ntmps74
  go_wp2
  go_loopw [5] (fun i wr => ∃ k : Nat, k ≤ xs.length ∧ i = .int .i64 k ∧ Hid (∀ j, j < k → xs.getD j 0 = ys.getD j 0) ∧ Hid (Below w.heap.size w wr)) (fun i _ => xs.length - (intOf i).toNat)
  case atStart => exact ⟨0, Nat.zero_le _, rfl, hide (fun j hj => absurd hj (by omega)), hide (Below.refl _ _)⟩
  case round =>
   obtain ⟨k, hk, rfl, HE, HBE⟩ := hrel
   by_cases hkl : k < xs.length
   ·have hky : k < ys.length := by have := HL.out; omega
    obtain ⟨b1, o1, rfl, hlt1, c1⟩ := (HA.out.below HBE.out (Nat.le_refl _)).cellAt k hkl
    obtain ⟨b2, o2, rfl, hlt2, c2⟩ := (HB.out.below HBE.out (Nat.le_refl _)).cellAt k hky
    have HNE : Hid (xs.getD k 0 ≠ ys.getD k 0 → r = false) := fun h => by
     rw [← HR.out]; exact decide_eq_false fun e => h (by rw [e])
    have HE' : Hid (xs.getD k 0 = ys.getD k 0 → ∀ j, j < k + 1 → xs.getD j 0 = ys.getD j 0) := fun h j hj => by
     by_cases e : j < k
     ·exact HE.out j e
     ·obtain rfl : j = k := by omega
      exact h
    generalize xs.getD k 0 = z at *
    generalize ys.getD k 0 = y at *
    have HBD := hide (HBE.out.drew)
    go_wp2_with fail
    go_region_held3 (fun w' => w'.cell? ⟨b1, o1 + k, none⟩ = some (.int .i64 z) ∧ w'.cell? ⟨b2, o2 + k, none⟩ = some (.int .i64 y)) (go_keep) (fail)
    by_cases hz : z = y
    ·have e1 : (z != y) = false := by rw [bne_eq_false_iff_eq]; exact hz
     have HE2 := hide (HE'.out hz)
     clear hz
     go_wp2
     go_roundw
     case rel => exact ⟨k + 1, by omega, by go_num, HE2, by first | exact HBD | exact HBE⟩
     case measure => simp [intOf]; omega
    ·have e1 : (z != y) = true := by rw [bne_iff_ne]; exact hz
     obtain rfl := HNE.out hz
     clear hz
     go_wp2
     go_ret
     exact ⟨rfl, by first | exact HBD.out | exact HBE.out⟩
   ·obtain rfl : k = xs.length := by omega
    obtain rfl : true = r := by
     rw [← HR.out]
     refine (decide_eq_true ?_).symm
     apply List.ext_getElem HL.out
     intro j h1 h2
     have := HE.out j h1
     rwa [List.getD_eq_getElem?_getD, List.getD_eq_getElem?_getD, List.getElem?_eq_getElem h1, List.getElem?_eq_getElem h2] at this
    go_wp2
    go_ret
    exact ⟨rfl, HBE.out⟩
 ·have g1 : ((xs.length : Int) != (ys.length : Int)) = true := by rw [bne_iff_ne]; omega
  have hr : decide (xs = ys) = false := decide_eq_false fun e => hl (by rw [e])
  rw [hr]
  clear hr hl
  go_enter Tryz.func74, Tryz.ntmps74
  go_wp2
  go_ret
  exact ⟨rfl, Below.refl _ _⟩

set_option linter.unusedSimpArgs false in
set_option maxRecDepth 100000 in
set_option maxHeartbeats 1600000 in
theorem equalI_any (w : World) (va vb : Value) (xs ys : List Int) (ha : RowS w va xs) (hb : RowS w vb ys) (hl6 : xs.length ≤ 1000000) : Calls Tryz.prog 127 #[va, vb] w fun e w' => e = .returned (.bool (decide (xs = ys))) ∧ Below w.heap.size w w' := by
 have HA := hide ha; have HB := hide hb
 obtain ⟨ao, acap, rfl⟩ := ha.form
 obtain ⟨bo, bcap, rfl⟩ := hb.form
 clear ha hb
 by_cases hl : xs.length = ys.length
 ·have g1 : ((xs.length : Int) != (ys.length : Int)) = false := by rw [bne_eq_false_iff_eq]; omega
  have HL := hide hl
  generalize hr : decide (xs = ys) = r
  have HR := hide hr
  clear hr hl
  go_enter Tryz.func127, Tryz.ntmps127
  go_wp2
  go_loopw [13] (fun i wr => ∃ k : Nat, k ≤ xs.length ∧ i = .int .i64 k ∧ Hid (∀ j, j < k → xs.getD j 0 = ys.getD j 0) ∧ Hid (Below w.heap.size w wr)) (fun i _ => xs.length - (intOf i).toNat)
  case atStart => exact ⟨0, Nat.zero_le _, rfl, hide (fun j hj => absurd hj (by omega)), hide (Below.refl _ _)⟩
  case round =>
   obtain ⟨k, hk, rfl, HE, HBE⟩ := hrel
   by_cases hkl : k < xs.length
   ·have hky : k < ys.length := by have := HL.out; omega
    obtain ⟨b1, o1, rfl, hlt1, c1⟩ := (HA.out.below HBE.out (Nat.le_refl _)).cellAt k hkl
    obtain ⟨b2, o2, rfl, hlt2, c2⟩ := (HB.out.below HBE.out (Nat.le_refl _)).cellAt k hky
    have HNE : Hid (xs.getD k 0 ≠ ys.getD k 0 → r = false) := fun h => by
     rw [← HR.out]; exact decide_eq_false fun e => h (by rw [e])
    have HE' : Hid (xs.getD k 0 = ys.getD k 0 → ∀ j, j < k + 1 → xs.getD j 0 = ys.getD j 0) := fun h j hj => by
     by_cases e : j < k
     ·exact HE.out j e
     ·obtain rfl : j = k := by omega
      exact h
    generalize xs.getD k 0 = z at *
    generalize ys.getD k 0 = y at *
    have HBD := hide (HBE.out.drew)
    go_wp2_with fail
    go_region_held3 (fun w' => w'.cell? ⟨b1, o1 + k, none⟩ = some (.int .i64 z) ∧ w'.cell? ⟨b2, o2 + k, none⟩ = some (.int .i64 y)) (go_keep) (fail)
    by_cases hz : z = y
    ·have e1 : (z != y) = false := by rw [bne_eq_false_iff_eq]; exact hz
     have HE2 := hide (HE'.out hz)
     clear hz
     go_wp2
     go_roundw
     case rel => exact ⟨k + 1, by omega, by go_num, HE2, by first | exact HBD | exact HBE⟩
     case measure => simp [intOf]; omega
    ·have e1 : (z != y) = true := by rw [bne_iff_ne]; exact hz
     obtain rfl := HNE.out hz
     clear hz
     go_wp2
     go_ret
     exact ⟨rfl, by first | exact HBD.out | exact HBE.out⟩
   ·obtain rfl : k = xs.length := by omega
    obtain rfl : true = r := by
     rw [← HR.out]
     refine (decide_eq_true ?_).symm
     apply List.ext_getElem HL.out
     intro j h1 h2
     have := HE.out j h1
     rwa [List.getD_eq_getElem?_getD, List.getD_eq_getElem?_getD, List.getElem?_eq_getElem h1, List.getElem?_eq_getElem h2] at this
    go_wp2
    go_ret
    exact ⟨rfl, HBE.out⟩
 ·have g1 : ((xs.length : Int) != (ys.length : Int)) = true := by rw [bne_iff_ne]; omega
  have hr : decide (xs = ys) = false := decide_eq_false fun e => hl (by rw [e])
  rw [hr]
  clear hr hl
  go_enter Tryz.func127, Tryz.ntmps127
  go_wp2
  go_ret
  exact ⟨rfl, Below.refl _ _⟩

end Go.Proofs.YtnhbfehfipafoaaGreatDoor
