/- The reference: the deeds that sectors say. -/
import Derived.Test.YtlkenhfhnpohhaaWcD
import Derived.Test.YtlkenhfhnpohhaaWaQ
import Derived.Test.YtlkenhfhnpohhaaRegions
import Derived.Test.YtlkenhfhnpohhaaDkN

namespace Go.Proofs.Ytlkenhfhnpohhaa
open Go.RowKit

theorem numL_four {l : List UInt8} (h : 5 ≤ l.length) (N : Int) : (l.take 5).drop 1 = fourB N ↔ numL l = N % 4294967296 := by
 obtain ⟨a0, t0, rfl⟩ : ∃ a t, l = a :: t := by
  cases l with
  | nil => simp at h
  | cons a t => exact ⟨a, t, rfl⟩
 obtain ⟨a1, t1, rfl⟩ : ∃ a t, t0 = a :: t := by
  cases t0 with
  | nil => simp at h
  | cons a t => exact ⟨a, t, rfl⟩
 obtain ⟨a2, t2, rfl⟩ : ∃ a t, t1 = a :: t := by
  cases t1 with
  | nil => simp at h
  | cons a t => exact ⟨a, t, rfl⟩
 obtain ⟨a3, t3, rfl⟩ : ∃ a t, t2 = a :: t := by
  cases t2 with
  | nil => simp at h
  | cons a t => exact ⟨a, t, rfl⟩
 obtain ⟨a4, t4, rfl⟩ : ∃ a t, t3 = a :: t := by
  cases t3 with
  | nil => simp at h
  | cons a t => exact ⟨a, t, rfl⟩
 have e1 : ((a0 :: a1 :: a2 :: a3 :: a4 :: t4).take 5).drop 1 = [a1, a2, a3, a4] := rfl
 have b1 := a1.toNat_lt; have b2 := a2.toNat_lt; have b3 := a3.toNat_lt; have b4 := a4.toNat_lt
 have c1 := lowB_nat N; have c2 := lowB_nat (N / 256); have c3 := lowB_nat (N / 65536); have c4 := lowB_nat (N / 16777216)
 have e2 : numL (a0 :: a1 :: a2 :: a3 :: a4 :: t4) = (a1.toNat : Int) + 256 * (a2.toNat : Int) + 65536 * (a3.toNat : Int) + 16777216 * (a4.toNat : Int) := rfl
 rw [e1, e2]
 unfold fourB
 simp only [List.cons.injEq, and_true, ← UInt8.toNat_inj]
 constructor
 ·rintro ⟨d1, d2, d3, d4⟩
  omega
 ·intro d
  refine ⟨?_, ?_, ?_, ?_⟩ <;> omega

def ClosedP (w : World) (F : St) (e : Ending) (w' : World) : Prop :=
 ∃ dv dss, e = .returned (.tuple #[dv, .int .i64 (F.e : Int)]) ∧ DeedsT w.heap.size w' dv dss ∧ opsD dss = F.ds ∧ Below w.heap.size w w'

def TxtS (w : World) (v : Value) (mn fr : Nat) (c : Nat → List UInt8) : Prop :=
 ∃ ao cap, v = .slice ao mn cap ∧ mn ≤ cap ∧ (0 < mn → ∃ b off, ao = some ⟨b, off, none⟩ ∧ b < w.heap.size ∧ ∀ i, i < mn → w.cell? ⟨b, off + i, none⟩ = some (.string (secB (c (fr + i)))))

set_option linter.unusedSimpArgs false in
set_option maxRecDepth 100000 in
set_option maxHeartbeats 3200000 in
theorem closed_any (w : World) (v : Value) (fr mn : Nat) (first : Int) (c : Nat → List UInt8) (hv : TxtS w v mn fr c) (hm : mn ≤ 1000) (hf : 0 ≤ first ∧ first ≤ 8589934592) (h64 : ∀ i, i < mn → (c (fr + i)).length = 64) :
  Calls Try.prog 13 #[v, .int .i64 first] w fun e w' => ClosedP w (saysL first fr mn c) e w' := by
 obtain ⟨F, hF⟩ : ∃ F, saysL first fr mn c = F := ⟨_, rfl⟩
 rw [hF]
 have HF := hide hF; have HV := hide hv; have H64 := hide h64
 obtain ⟨ao, cap, rfl, -⟩ := hv
 clear hF h64
 go_enter Try.func13, Try.ntmps13
 go_wp2_with fail
 go_loopw [6, 7, 8, 9] (fun du ov us ix wr => ∃ (i : Nat) (dv : Value) (st : St) (dss : List (Value × List OpC)) (os2 : List OpC) (Wb : World), i ≤ mn ∧ ix = .int .i64 i ∧ du = dv ∧ us = .int .i64 (st.e : Int) ∧ Hid (scanS first (seg c fr 0 i) = st) ∧ Hid (st.stop = false) ∧ Hid (st.ops = os2.map (·.o)) ∧ Hid (opsD dss = st.ds) ∧ Hid (DeedsT w.heap.size Wb dv dss) ∧ Hid (w.heap.size ≤ Wb.heap.size) ∧ Hid (OpsT Wb.heap.size wr ov os2) ∧ Hid (Below Wb.heap.size Wb wr) ∧ Hid (Below w.heap.size w wr) ∧ Hid (os2.length ≤ i ∧ dss.length ≤ i)) (fun _ _ _ ix _ => mn - (intOf ix).toNat)
 case atStart => exact ⟨0, .slice none 0 0, st0, [], [], w, Nat.zero_le _, rfl, rfl, rfl, rfl, rfl, rfl, rfl, deedsT_nil _ _, Nat.le_refl _, opsT_nil _ _, Below.refl _ _, Below.refl _ _, Nat.le_refl _, Nat.le_refl _⟩
 case round =>
  obtain ⟨i, dv, st, dss, os2, Wb, hi, rfl, rfl, rfl, HST, HSP, HOP, HDS, HDT, HWB, HOT, HBW, HBL, HLN⟩ := hrel
  obtain ⟨oo, oc, rfl⟩ := HOT.out.form
  obtain ⟨dvo, dvc, rfl⟩ := HDT.out.form
  have HWR : Hid (w.heap.size ≤ wr.heap.size) := HBL.out.size
  have HSI : Hid (st.i = i) := by show _ = _; rw [← HST.out]; exact scan_at _ _ _ _
  by_cases hil : i < mn
  ·have HRET : Hid (∀ w3, Below wr.heap.size wr w3 → (stepS first st (c (fr + i))).stop = true → (stepS first st (c (fr + i))).ds = st.ds → (stepS first st (c (fr + i))).e = st.e → ClosedP w F (.returned (.tuple #[.slice dvo dss.length dvc, .int .i64 (st.e : Int)])) w3) := fun w3 hb h1 h2 h3 => by
    obtain ⟨k1, k2⟩ := says_stop (f := first) (c := c) (fr := fr) hil (by rw [HST.out]; exact h1)
    rw [HF.out, HST.out, h2] at k1
    rw [HF.out, HST.out, h3] at k2
    refine ⟨_, dss, by rw [k2], (HDT.out.later HBW.out).later hb, by rw [k1]; exact HDS.out, HBL.out.trans (hb.mono HWR.out)⟩
   have HNX : Hid (scanS first (seg c fr 0 (i + 1)) = stepS first st (c (fr + i))) := by show _ = _; rw [scan_snoc, HST.out]
   obtain ⟨_, _, e, -, hh⟩ := HV.out
   simp only [Value.slice.injEq, true_and] at e
   obtain ⟨rfl, rfl⟩ := e
   obtain ⟨b, off, rfl, hlt, hc⟩ := hh (by omega)
   have cs := (HBL.out.cell (p := ⟨b, off + i, none⟩) hlt).trans (hc i hil)
   have hl64 := H64.out i hil
   clear hh hc
   obtain ⟨r, hrd⟩ : ∃ r, rdSec (first + (i : Nat)) (c (fr + i)) = r := ⟨_, rfl⟩
   have hrd' : rdSec (first + (st.i : Nat)) (c (fr + i)) = r := by rw [HSI.out]; exact hrd
   have HRD := hide hrd; have HRS := hide hrd'
   clear hrd hrd'
   generalize hl : c (fr + i) = l at *
   obtain ⟨N, hN⟩ : ∃ N : Int, first + (i : Int) = N := ⟨_, rfl⟩
   have hN0 : 0 ≤ N := by omega
   have hN1 : N ≤ 4611686018427387904 := by omega
   have wN : IntKind.i64.wrap N = N := wrap_small (by omega) (by omega)
   have hsz : (secB l).size = 64 := by show l.toArray.size = 64; rw [List.size_toArray]; exact hl64
   have hp5 : 5 < (secB l).size := by omega
   have hp0 : 0 < (secB l).size := by omega
   have q5 := byt_eq (s := secB l) (k := 5) hp5
   have q0 := byt_eq (s := secB l) (k := 0) hp0
   rw [byt_sec] at q5 q0
   have h5 := bt_le l 5; have h0 := bt_le l 0
   have HLQ := hide hl; have HL64 := hide hl64
   have hs5 : 5 ≤ (secB l).size := by omega
   clear hl hl64
   by_cases hn : numL l = N % 4294967296
   ·have q1 : (((secB l).extract 1 5).toList == fourB N) = true := by
     rw [extract_sec, Lib.toList_data]
     show (((l.take 5).drop 1) == fourB N) = true
     rw [(numL_four (by rw [HL64.out]; decide) N).2 hn]
     exact beq_self_eq_true _
    have HNM := hide hn
    clear hn
    by_cases hlong : bt l 5 ≤ 58
    ·have g58 : decide (58 < (bt l 5 : Int)) = false := decide_eq_false (by omega)
     obtain ⟨M, hM⟩ : ∃ M : Nat, M = 6 + bt l 5 := ⟨_, rfl⟩
     have gE : (6 : Int) + (bt l 5 : Int) = (M : Int) := by omega
     have gW : IntKind.i64.wrap (M : Int) = (M : Int) := wrap_small (by omega) (by omega)
     have hM6 : (6 : Int) ≤ (M : Int) := by omega
     have hMs : M ≤ (secB l).size := by omega
     have hM6' : 6 ≤ M := by omega
     obtain ⟨bd, hbd⟩ : ∃ bd, (l.drop 6).take (bt l 5) = bd := ⟨_, rfl⟩
     have hext : (secB l).extract 6 M = secB bd := by
      rw [extract_sec, ← hbd, List.drop_take]
      congr 2
      omega
     have hbl : bd.length ≤ 58 := by rw [← hbd, List.length_take]; omega
     have hr1 : (bt l 0 = 111 ∨ bt l 0 = 99) → r = (bt l 0, bd) := fun hk => by rw [← HRD.out, ← hbd]; unfold rdSec; rw [if_pos ⟨hk, by rw [HNM.out, hN], hlong⟩]
     have hr0 : ¬ (bt l 0 = 111 ∨ bt l 0 = 99) → r = (0, []) := fun hk => by rw [← HRD.out]; unfold rdSec; rw [if_neg (fun h => hk h.1)]
     have HR1 := hide hr1; have HR0 := hide hr0; have HBL2 := hide hbl
     clear hlong hM hbd hr1 hr0 hbl
     go_wp2_with fail
     refine wp_region_held_drew (S := (fun w' => Below wr.heap.size wr w')) (by kernel_rfl) (Below.refl _ _).drew (fun hHeld => ?_)
     refine held_run (v := ?_) 0 28 rfl rfl (by kernel_rfl) (by kernel_rfl) (by kernel_rfl) (fun _ _ _ h => h) (by rfl) ?_ (Below.refl _ _).drew ?_
     rotate_left
     ·(intro w hSw; (try dsimp only at hSw); go_simp; with_reducible rfl)
     simp only [Act.put, List.setIfInBounds_toArray, List.set_cons_zero, List.set_cons_succ]
     refine held_run (v := ?_) 1 29 rfl rfl (by kernel_rfl) (by kernel_rfl) (by kernel_rfl) (fun _ _ _ h => h) (by rfl) ?_ (Below.refl _ _).drew ?_
     rotate_left
     ·(intro w hSw; (try dsimp only at hSw); go_simp; with_reducible rfl)
     simp only [Act.put, List.setIfInBounds_toArray, List.set_cons_zero, List.set_cons_succ]
     refine held_run (v := ?_) 2 30 rfl rfl (by kernel_rfl) (by kernel_rfl) (by kernel_rfl) (fun _ _ _ h => h) (by rfl) ?_ (Below.refl _ _).drew ?_
     rotate_left
     ·(intro w hSw; (try dsimp only at hSw); go_simp; with_reducible rfl)
     simp only [Act.put, List.setIfInBounds_toArray, List.set_cons_zero, List.set_cons_succ]
     refine held_run (v := ?_) 3 31 rfl rfl (by kernel_rfl) (by kernel_rfl) (by kernel_rfl) (fun _ _ _ h => h) (by rfl) ?_ (Below.refl _ _).drew ?_
     rotate_left
     ·(intro w hSw; (try dsimp only at hSw); go_simp; with_reducible rfl)
     simp only [Act.put, List.setIfInBounds_toArray, List.set_cons_zero, List.set_cons_succ]
     refine held_run (v := ?_) 4 32 rfl rfl (by kernel_rfl) (by kernel_rfl) (by kernel_rfl) (fun _ _ _ h => h) (by rfl) ?_ (Below.refl _ _).drew ?_
     rotate_left
     ·(intro w hSw; (try dsimp only at hSw); go_simp; with_reducible rfl)
     simp only [Act.put, List.setIfInBounds_toArray, List.set_cons_zero, List.set_cons_succ]
     refine wpAnyH_ready (rs := [5]) (by kernel_rfl) (by simp) (AllReadyH.cons (o := _) rfl (fun K hK => ?_) AllReadyH.nil)
     go_simp
     refine (fourR_any _ N hN0 hN1).mono ?_
     rintro e w3 ⟨rfl, hb3⟩
     have hb4 : Below wr.heap.size wr w3 := (Below.refl _ _).drew.trans (hb3.mono (Nat.le_refl _))
     clear hb3
     go_wp2_with fail
     refine hK.out _ _ hb4 (fun hHeld => ?_)
     clear hK K
     try simp only [Act.put, List.setIfInBounds_toArray, List.set_cons_zero, List.set_cons_succ]
     refine held_run (v := ?_) 6 34 rfl rfl (by kernel_rfl) (by kernel_rfl) (by kernel_rfl) (fun _ _ _ h => h) (by rfl) ?_ hb4 ?_
     rotate_left
     ·(intro w hSw; (try dsimp only at hSw); go_simp; with_reducible rfl)
     simp only [Act.put, List.setIfInBounds_toArray, List.set_cons_zero, List.set_cons_succ]
     refine held_run (v := ?_) 7 35 rfl rfl (by kernel_rfl) (by kernel_rfl) (by kernel_rfl) (fun _ _ _ h => h) (by rfl) ?_ hb4 ?_
     rotate_left
     ·(intro w hSw; (try dsimp only at hSw); go_simp; with_reducible rfl)
     simp only [Act.put, List.setIfInBounds_toArray, List.set_cons_zero, List.set_cons_succ]
     refine held_run (v := ?_) 8 36 rfl rfl (by kernel_rfl) (by kernel_rfl) (by kernel_rfl) (fun _ _ _ h => h) (by rfl) ?_ hb4 ?_
     rotate_left
     ·(intro w hSw; (try dsimp only at hSw); go_simp; with_reducible rfl)
     simp only [Act.put, List.setIfInBounds_toArray, List.set_cons_zero, List.set_cons_succ]
     refine held_run (v := ?_) 9 37 rfl rfl (by kernel_rfl) (by kernel_rfl) (by kernel_rfl) (fun _ _ _ h => h) (by rfl) ?_ hb4 ?_
     rotate_left
     ·(intro w hSw; (try dsimp only at hSw); go_simp; with_reducible rfl)
     simp only [Act.put, List.setIfInBounds_toArray, List.set_cons_zero, List.set_cons_succ]
     refine held_run (v := ?_) 10 38 rfl rfl (by kernel_rfl) (by kernel_rfl) (by kernel_rfl) (fun _ _ _ h => h) (by rfl) ?_ hb4 ?_
     rotate_left
     ·(intro w hSw; (try dsimp only at hSw); go_simp; with_reducible rfl)
     simp only [Act.put, List.setIfInBounds_toArray, List.set_cons_zero, List.set_cons_succ]
     refine wpAnyH_done (by kernel_rfl) ?_ _
     obtain ⟨n, hn⟩ : ∃ n, os2.length = n := ⟨_, rfl⟩
     have hopl : st.ops.length = n := by rw [HOP.out, List.length_map]; exact hn
     have hn200 : n ≤ 1000 := by have := HLN.out.1; omega
     have HNN := hide hn; have HOL := hide hopl
     rw [hn] at HOT
     rw [hn]
     clear hn hopl
     by_cases h99 : bt l 0 = 99
     ·have hr := HR1.out (.inr h99)
      rw [h99] at hr q0
      have HRR := hide hr
      clear hr h99 HR1 HR0 h0
      go_wp2_with fail
      refine (fourR_any w3 (n : Int) (by omega) (by omega)).mono ?_
      rintro e w4 ⟨rfl, hb5⟩
      have HB4 := hide (hb4.trans (hb5.mono hb4.size))
      clear hb5
      by_cases hbf : bd = fourB (n : Int)
      ·have HX := hide (step_close (f := first) (st := st) (s := l) HSP.out (by rw [HOL.out, ← hbf, ← HRR.out]; exact HRS.out))
       subst hbf
       have q2 : ((secB (fourB (n : Int))).toList == fourB (n : Int)) = true := by
        rw [Lib.toList_data]
        exact beq_self_eq_true _
       have hdt3 := (HDT.out.later HBW.out).later HB4.out
       have hot3 : OpsT 0 w4 (.slice oo n oc) os2 := by
        have h := HOT.out.later HB4.out
        exact ⟨ownsLess h.1 (Nat.zero_le _), h.2⟩
       obtain ⟨do', dc', W', hr, hdt', hbW', -⟩ := hdt3.snoc (Nat.le_trans HWR.out HB4.out.size) (.slice oo n oc) os2 hot3 (by have := HLN.out; omega)
       have HR := hide hr
       have HDT2 := hide hdt'
       have HBL3 := hide (HBL.out.trans ((HB4.out.mono HWR.out).trans hbW'))
       clear hdt3 hot3 hr hdt' hbW' hb4 HDT
       go_wp2_with (show wpList _ _ _ ({ dst := some 56, op := _, type := _, pos := _, after := _, guard := _ } :: _) _ _; refine Lib.wpList_append_run _ rfl _ _ _ _ rfl _ _ rfl rfl _ _ HR.out ?_)
       go_roundw
       case rel => exact ⟨i + 1, _, stepS first st l, dss ++ [(.slice oo n oc, os2)], [], _, by omega, by go_num, rfl, by rw [HX.out]; show Value.int .i64 ((i : Int) + 1) = .int .i64 ((st.i + 1 : Nat) : Int); rw [HSI.out]; go_num, HNX.out, by rw [HX.out]; rfl, by rw [HX.out]; rfl, by rw [HX.out]; unfold opsD; rw [List.map_append]; unfold opsD at HDS; rw [HDS.out, HOP.out]; rfl, HDT2, HBL3.out.size, opsT_nil _ _, Below.refl _ _, HBL3.out, ⟨Nat.zero_le _, by have := HLN.out; rw [List.length_append]; show dss.length + 1 ≤ i + 1; omega⟩⟩
       case measure => simp [intOf]; omega
      ·have q2 : ((secB bd).toList == fourB (n : Int)) = false := by
        rw [Lib.toList_data]
        exact beq_eq_false_iff_ne.2 hbf
       have HX := hide (step_bad (f := first) (st := st) (s := l) HSP.out (HRS.out.trans HRR.out) (show (99 : Nat) ≠ 111 by decide) (fun h => hbf (by have := h.2; rw [HOL.out] at this; exact this)))
       clear hbf
       go_wp2
       go_ret2
       exact HRET.out _ HB4.out (by rw [HX.out]) (by rw [HX.out]) (by rw [HX.out])
     ·have g1 : ((bt l 0 : Int) == 99) = false := beq_eq_false_iff_ne.2 (by omega)
      by_cases h111 : bt l 0 = 111
      ·have hr := HR1.out (.inl h111)
       rw [h111] at hr q0
       have HRR := hide hr
       have HB1 := hide hb4
       clear hr h99 h111 HR1 HR0 h0 g1 hb4
       go_wp2_with fail
       refine (opOfR_any w3 (secB bd) (by show bd.toArray.size ≤ 1000000; rw [List.size_toArray]; have := HBL2.out; omega)).mono ?_
       rintro e w2 ⟨⟨hno, rfl⟩ | ⟨o, vo, vc, hfo, hbo, rfl, base2, hb2, hrow⟩, hbl2⟩
       ·have HNO : Hid (unopL bd = none) := unopL_none hno
        have hbA := alloc_below w2 (.cells #[.int .i64 0, .string ⟨#[]⟩, .int .i64 0, .slice none 0 0] 46)
        have HBA := hide (HB1.out.trans ((hbl2.mono HB1.out.size).trans (hbA.mono (Nat.le_trans HB1.out.size hbl2.size))))
        have HX := hide (step_none HSP.out (HRS.out.trans HRR.out) HNO.out)
        clear hno hbl2 hbA
        go_wp2
        go_ret2
        exact HRET.out _ HBA.out (by rw [HX.out]) (by rw [HX.out]) (by rw [HX.out])
       ·have HUN : Hid (unopL bd = some o) := unopL_iff.2 ⟨hfo, hbo⟩
        have hbA := alloc_below w2 (.cells #[.int .i64 o.kind, .string o.name, .int .i64 o.n, .slice vo o.v.length vc] 46)
        have hw12 := HB1.out.trans (hbl2.mono HB1.out.size)
        have HBA := hide (hw12.trans (hbA.mono hw12.size))
        have X10 := hide (BoxQ.new w2 (.int .i64 o.kind) (.string o.name) (.int .i64 o.n) (.slice vo o.v.length vc) 46)
        have HX := hide (step_op HSP.out (HRS.out.trans HRR.out) HUN.out)
        have hqr : RowAt 0 (w2.alloc (.cells #[.int .i64 o.kind, .string o.name, .int .i64 o.n, .slice vo o.v.length vc] 46)) vo o.v.length vc o.v := RowAt.later ⟨ownsLess hrow.1 (Nat.zero_le _), hrow.2⟩ hbA
        rw [← HNN.out] at HOT
        obtain ⟨oo', oc', W', hr, hot', hbW', -⟩ := (HOT.out.later HBA.out).snoc (Nat.le_trans HBW.out.size HBA.out.size) ⟨o, vo, vc⟩ hqr (by have := HLN.out; omega)
        dsimp only [OpC.row] at hr
        rw [HNN.out] at hr hot' HOT
        have hsz2 : (w2.alloc (.cells #[.int .i64 o.kind, .string o.name, .int .i64 o.n, .slice vo o.v.length vc] 46)).heap.size = w2.heap.size + 1 := by simp
        rw [hsz2] at hr
        have HR := hide hr
        have HOT2 := hide hot'
        have HBW2 := hide (HBW.out.trans ((HBA.out.mono HBW.out.size).trans hbW'))
        have HBL3 := hide (HBL.out.trans ((HBA.out.mono HWR.out).trans (hbW'.mono HWB.out)))
        obtain ⟨⟨e0, e1, e2, e3, -⟩, -⟩ := X10.out
        clear hsz2 hbA hw12 hqr hr hot' hbW' hfo hbo hrow hb2 hbl2
        go_wp2_with (show wpList _ _ _ ({ dst := some 72, op := _, type := _, pos := _, after := _, guard := _ } :: _) _ _; refine Lib.wpList_append_run _ rfl _ _ _ _ rfl _ _ rfl rfl _ _ HR.out ?_)
        go_roundw
        case rel => exact ⟨i + 1, _, stepS first st l, dss, os2 ++ [(⟨o, vo, vc⟩ : OpC)], Wb, by omega, by go_num, rfl, by rw [HX.out], HNX.out, by rw [HX.out]; exact HSP.out, by rw [HX.out, HOP.out, List.map_append]; rfl, by rw [HX.out]; exact HDS.out, HDT.out, HWB.out, HOT2, HBW2.out, HBL3.out, ⟨by have := HLN.out; rw [List.length_append]; show os2.length + 1 ≤ i + 1; omega, by have := HLN.out; omega⟩⟩
        case measure => simp [intOf]; omega
      ·have hr := HR0.out (fun h => by omega)
       subst hr
       have g2 : ((bt l 0 : Int) != 111) = true := by rw [bne_iff_ne]; omega
       have HX := hide (step_bad (f := first) (st := st) (s := l) HSP.out HRS.out (show (0 : Nat) ≠ 111 by decide) (fun h => absurd h.1 (show (0 : Nat) ≠ 99 by decide)))
       clear h99 h111
       go_wp2
       go_ret2
       exact HRET.out _ hb4 (by rw [HX.out]) (by rw [HX.out]) (by rw [HX.out])
    ·have g58 : decide (58 < (bt l 5 : Int)) = true := decide_eq_true (by omega)
     have hr0 : r = (0, []) := by rw [← HRD.out]; unfold rdSec; rw [if_neg (fun h => hlong h.2.2)]
     subst hr0
     have HX := hide (step_bad (f := first) (st := st) (s := l) HSP.out HRS.out (show (0 : Nat) ≠ 111 by decide) (fun h => absurd h.1 (show (0 : Nat) ≠ 99 by decide)))
     clear hlong
     go_wp2_with fail
     refine wp_region_held_drew (S := (fun w' => Below wr.heap.size wr w')) (by kernel_rfl) (Below.refl _ _).drew (fun hHeld => ?_)
     refine held_run (v := ?_) 0 28 rfl rfl (by kernel_rfl) (by kernel_rfl) (by kernel_rfl) (fun _ _ _ h => h) (by rfl) ?_ (Below.refl _ _).drew ?_
     rotate_left
     ·(intro w hSw; (try dsimp only at hSw); go_simp; with_reducible rfl)
     simp only [Act.put, List.setIfInBounds_toArray, List.set_cons_zero, List.set_cons_succ]
     refine held_run (v := ?_) 1 29 rfl rfl (by kernel_rfl) (by kernel_rfl) (by kernel_rfl) (fun _ _ _ h => h) (by rfl) ?_ (Below.refl _ _).drew ?_
     rotate_left
     ·(intro w hSw; (try dsimp only at hSw); go_simp; with_reducible rfl)
     simp only [Act.put, List.setIfInBounds_toArray, List.set_cons_zero, List.set_cons_succ]
     refine held_run (v := ?_) 2 30 rfl rfl (by kernel_rfl) (by kernel_rfl) (by kernel_rfl) (fun _ _ _ h => h) (by rfl) ?_ (Below.refl _ _).drew ?_
     rotate_left
     ·(intro w hSw; (try dsimp only at hSw); go_simp; with_reducible rfl)
     simp only [Act.put, List.setIfInBounds_toArray, List.set_cons_zero, List.set_cons_succ]
     refine held_run (v := ?_) 3 31 rfl rfl (by kernel_rfl) (by kernel_rfl) (by kernel_rfl) (fun _ _ _ h => h) (by rfl) ?_ (Below.refl _ _).drew ?_
     rotate_left
     ·(intro w hSw; (try dsimp only at hSw); go_simp; with_reducible rfl)
     simp only [Act.put, List.setIfInBounds_toArray, List.set_cons_zero, List.set_cons_succ]
     refine held_run (v := ?_) 4 32 rfl rfl (by kernel_rfl) (by kernel_rfl) (by kernel_rfl) (fun _ _ _ h => h) (by rfl) ?_ (Below.refl _ _).drew ?_
     rotate_left
     ·(intro w hSw; (try dsimp only at hSw); go_simp; with_reducible rfl)
     simp only [Act.put, List.setIfInBounds_toArray, List.set_cons_zero, List.set_cons_succ]
     refine wpAnyH_ready (rs := [5]) (by kernel_rfl) (by simp) (AllReadyH.cons (o := _) rfl (fun K hK => ?_) AllReadyH.nil)
     go_simp
     refine (fourR_any _ N hN0 hN1).mono ?_
     rintro e w3 ⟨rfl, hb3⟩
     have hb4 : Below wr.heap.size wr w3 := (Below.refl _ _).drew.trans (hb3.mono (Nat.le_refl _))
     clear hb3
     go_wp2_with fail
     refine hK.out _ _ hb4 (fun hHeld => ?_)
     clear hK K
     try simp only [Act.put, List.setIfInBounds_toArray, List.set_cons_zero, List.set_cons_succ]
     refine held_run (v := ?_) 6 34 rfl rfl (by kernel_rfl) (by kernel_rfl) (by kernel_rfl) (fun _ _ _ h => h) (by rfl) ?_ hb4 ?_
     rotate_left
     ·(intro w hSw; (try dsimp only at hSw); go_simp; with_reducible rfl)
     simp only [Act.put, List.setIfInBounds_toArray, List.set_cons_zero, List.set_cons_succ]
     refine held_run (v := ?_) 7 35 rfl rfl (by kernel_rfl) (by kernel_rfl) (by kernel_rfl) (fun _ _ _ h => h) (by rfl) ?_ hb4 ?_
     rotate_left
     ·(intro w hSw; (try dsimp only at hSw); go_simp; with_reducible rfl)
     simp only [Act.put, List.setIfInBounds_toArray, List.set_cons_zero, List.set_cons_succ]
     refine held_run (v := ?_) 8 36 rfl rfl (by kernel_rfl) (by kernel_rfl) (by kernel_rfl) (fun _ _ _ h => h) (by rfl) ?_ hb4 ?_
     rotate_left
     ·(intro w hSw; (try dsimp only at hSw); go_simp; with_reducible rfl)
     simp only [Act.put, List.setIfInBounds_toArray, List.set_cons_zero, List.set_cons_succ]
     refine held_run (v := ?_) 9 37 rfl rfl (by kernel_rfl) (by kernel_rfl) (by kernel_rfl) (fun _ _ _ h => h) (by rfl) ?_ hb4 ?_
     rotate_left
     ·(intro w hSw; (try dsimp only at hSw); go_simp; with_reducible rfl)
     simp only [Act.put, List.setIfInBounds_toArray, List.set_cons_zero, List.set_cons_succ]
     refine held_run (v := ?_) 10 38 rfl rfl (by kernel_rfl) (by kernel_rfl) (by kernel_rfl) (fun _ _ _ h => h) (by rfl) ?_ hb4 ?_
     rotate_left
     ·(intro w hSw; (try dsimp only at hSw); go_simp; with_reducible rfl)
     simp only [Act.put, List.setIfInBounds_toArray, List.set_cons_zero, List.set_cons_succ]
     refine wpAnyH_done (by kernel_rfl) ?_ _
     go_wp2
     go_ret2
     exact HRET.out _ hb4 (by rw [HX.out]) (by rw [HX.out]) (by rw [HX.out])
   ·have q1 : (((secB l).extract 1 5).toList == fourB N) = false := by
     rw [extract_sec, Lib.toList_data]
     exact beq_eq_false_iff_ne.2 (fun e => hn ((numL_four (by rw [HL64.out]; decide) N).1 e))
    have hr0 : r = (0, []) := by rw [← HRD.out]; unfold rdSec; rw [if_neg (fun h => hn (by rw [h.2.1, hN]))]
    subst hr0
    have HX := hide (step_bad (f := first) (st := st) (s := l) HSP.out HRS.out (show (0 : Nat) ≠ 111 by decide) (fun h => absurd h.1 (show (0 : Nat) ≠ 99 by decide)))
    clear hn
    go_wp2_with fail
    refine wp_region_held_drew (S := (fun w' => Below wr.heap.size wr w')) (by kernel_rfl) (Below.refl _ _).drew (fun hHeld => ?_)
    refine held_run (v := ?_) 0 28 rfl rfl (by kernel_rfl) (by kernel_rfl) (by kernel_rfl) (fun _ _ _ h => h) (by rfl) ?_ (Below.refl _ _).drew ?_
    rotate_left
    ·(intro w hSw; (try dsimp only at hSw); go_simp; with_reducible rfl)
    simp only [Act.put, List.setIfInBounds_toArray, List.set_cons_zero, List.set_cons_succ]
    refine held_run (v := ?_) 1 29 rfl rfl (by kernel_rfl) (by kernel_rfl) (by kernel_rfl) (fun _ _ _ h => h) (by rfl) ?_ (Below.refl _ _).drew ?_
    rotate_left
    ·(intro w hSw; (try dsimp only at hSw); go_simp; with_reducible rfl)
    simp only [Act.put, List.setIfInBounds_toArray, List.set_cons_zero, List.set_cons_succ]
    refine held_run (v := ?_) 2 30 rfl rfl (by kernel_rfl) (by kernel_rfl) (by kernel_rfl) (fun _ _ _ h => h) (by rfl) ?_ (Below.refl _ _).drew ?_
    rotate_left
    ·(intro w hSw; (try dsimp only at hSw); go_simp; with_reducible rfl)
    simp only [Act.put, List.setIfInBounds_toArray, List.set_cons_zero, List.set_cons_succ]
    refine held_run (v := ?_) 3 31 rfl rfl (by kernel_rfl) (by kernel_rfl) (by kernel_rfl) (fun _ _ _ h => h) (by rfl) ?_ (Below.refl _ _).drew ?_
    rotate_left
    ·(intro w hSw; (try dsimp only at hSw); go_simp; with_reducible rfl)
    simp only [Act.put, List.setIfInBounds_toArray, List.set_cons_zero, List.set_cons_succ]
    refine held_run (v := ?_) 4 32 rfl rfl (by kernel_rfl) (by kernel_rfl) (by kernel_rfl) (fun _ _ _ h => h) (by rfl) ?_ (Below.refl _ _).drew ?_
    rotate_left
    ·(intro w hSw; (try dsimp only at hSw); go_simp; with_reducible rfl)
    simp only [Act.put, List.setIfInBounds_toArray, List.set_cons_zero, List.set_cons_succ]
    refine wpAnyH_ready (rs := [5]) (by kernel_rfl) (by simp) (AllReadyH.cons (o := _) rfl (fun K hK => ?_) AllReadyH.nil)
    go_simp
    refine (fourR_any _ N hN0 hN1).mono ?_
    rintro e w3 ⟨rfl, hb3⟩
    have hb4 : Below wr.heap.size wr w3 := (Below.refl _ _).drew.trans (hb3.mono (Nat.le_refl _))
    clear hb3
    go_wp2_with fail
    refine hK.out _ _ hb4 (fun hHeld => ?_)
    clear hK K
    try simp only [Act.put, List.setIfInBounds_toArray, List.set_cons_zero, List.set_cons_succ]
    refine held_run (v := ?_) 6 34 rfl rfl (by kernel_rfl) (by kernel_rfl) (by kernel_rfl) (fun _ _ _ h => h) (by rfl) ?_ hb4 ?_
    rotate_left
    ·(intro w hSw; (try dsimp only at hSw); go_simp; with_reducible rfl)
    simp only [Act.put, List.setIfInBounds_toArray, List.set_cons_zero, List.set_cons_succ]
    refine held_run (v := ?_) 7 35 rfl rfl (by kernel_rfl) (by kernel_rfl) (by kernel_rfl) (fun _ _ _ h => h) (by rfl) ?_ hb4 ?_
    rotate_left
    ·(intro w hSw; (try dsimp only at hSw); go_simp; with_reducible rfl)
    simp only [Act.put, List.setIfInBounds_toArray, List.set_cons_zero, List.set_cons_succ]
    refine held_skip 8 36 rfl rfl (by kernel_rfl) (by kernel_rfl) (by kernel_rfl) (fun _ _ _ h => h) (by rfl) hb4 ?_
    simp only [Act.put, List.setIfInBounds_toArray, List.set_cons_zero, List.set_cons_succ]
    refine held_skip 9 37 rfl rfl (by kernel_rfl) (by kernel_rfl) (by kernel_rfl) (fun _ _ _ h => h) (by rfl) hb4 ?_
    simp only [Act.put, List.setIfInBounds_toArray, List.set_cons_zero, List.set_cons_succ]
    refine held_run (v := ?_) 10 38 rfl rfl (by kernel_rfl) (by kernel_rfl) (by kernel_rfl) (fun _ _ _ h => h) (by rfl) ?_ hb4 ?_
    rotate_left
    ·(intro w hSw; (try dsimp only at hSw); go_simp; with_reducible rfl)
    simp only [Act.put, List.setIfInBounds_toArray, List.set_cons_zero, List.set_cons_succ]
    refine wpAnyH_done (by kernel_rfl) ?_ _
    go_wp2
    go_ret2
    exact HRET.out _ hb4 (by rw [HX.out]) (by rw [HX.out]) (by rw [HX.out])
  ·obtain rfl : i = mn := by omega
   have HFE : Hid (F = st) := by show _ = _; rw [← HF.out, ← HST.out]; rfl
   have HFIN : Hid (ClosedP w F (.returned (.tuple #[.slice dvo dss.length dvc, .int .i64 (st.e : Int)])) wr) := by
    refine ⟨_, dss, by rw [HFE.out], HDT.out.later HBW.out, by rw [HFE.out]; exact HDS.out, HBL.out⟩
   go_wp2
   go_ret2
   exact HFIN.out

end Go.Proofs.Ytlkenhfhnpohhaa

/- Errors that are the same. -/
namespace Go.Proofs.Ytlkenhfhnpohhaa
open Go.RowKit

theorem Try.asErrnoB (v : Value) (w : World) : (Instr.typeAssert (.iface 58 v) 28 58 true).run Try.prog w = .ok (.tuple #[v, .bool true]) w := by kernel_rfl

set_option maxRecDepth 100000 in
theorem sameI_any (n : Int) (hn : 0 < n) (w : World) : Calls Try.prog 11 #[.iface 58 (.int .i64 n), .int .i64 n] w fun e w' => e = .returned (.bool true) ∧ w' = w := by
 have has := Try.asErrnoB
 have e1 : decide (0 < n) = true := decide_eq_true hn
 go_enter Try.func11, Try.ntmps11
 go_wp2
 go_ret
 exact ⟨by simp, rfl⟩

set_option maxRecDepth 100000 in
theorem sameV_any (k : Nat) (w : World) : Calls Try.prog 11 #[errV k, .int .i64 ((k : Nat) : Int)] w fun e w' => e = .returned (.bool true) ∧ w' = w := by
 by_cases h : k = 0
 ·subst h
  have e0 : errV 0 = .nilIface := rfl
  rw [e0]
  go_enter Try.func11, Try.ntmps11
  go_wp2
  go_ret
  exact ⟨rfl, rfl⟩
 ·have e0 : errV k = .iface 58 (.int .i64 (k : Int)) := if_neg h
  rw [e0]
  exact sameI_any (k : Int) (by omega) w

end Go.Proofs.Ytlkenhfhnpohhaa

/- A disk that isn't armed: a deed is always added. Lists of deeds that came in, put together anew. -/
namespace Go.Proofs.Ytlkenhfhnpohhaa
open Go.RowKit

def Free (D : Dsk) : Prop := D.down = false ∧ D.left < 0

theorem Free.steps {D : Dsk} (h : Free D) : D.steps = true := by
 unfold Dsk.steps
 rw [h.1, decide_eq_false (by have := h.2; omega)]
 rfl

theorem Free.stepped {D : Dsk} (h : Free D) : D.stepped = D := by
 unfold Dsk.stepped
 rw [if_neg (by have := h.2; omega), if_neg (fun h' => by have := h.2; omega)]

theorem Free.put {D : Dsk} (h : Free D) (at' : Int) (t : ByteArray) : Free (putD D at' t) := by
 unfold putD
 split
 ·rw [if_pos h.steps, h.stepped]
  exact h
 ·exact h

theorem Free.flush {D : Dsk} (h : Free D) : Free (flushD D) := by
 unfold flushD
 rw [if_pos h.steps, h.stepped]
 exact h

theorem wipes_free (f : Int) (fr : Nat) : ∀ (c i : Nat) (D : Dsk) (wp : Bool), Free D → (wipesD f fr c i D wp).2.1 = true ∧ Free (wipesD f fr c i D wp).1
 | 0, _, _, _, h => ⟨rfl, h⟩
 | c + 1, i, D, wp, h => by
  unfold wipesD
  rw [if_neg (by rw [h.1]; decide)]
  split
  ·rw [if_pos h.steps]
   exact wipes_free f fr c (i + 1) _ _ (h.put _ _)
  ·exact wipes_free f fr c (i + 1) _ _ h

theorem writes_free (f : Int) (fr : Nat) : ∀ (bs : List ByteArray) (i : Nat) (D : Dsk), Free D → (writesD f fr i bs D).2 = true ∧ Free (writesD f fr i bs D).1
 | [], _, _, h => ⟨rfl, h⟩
 | b :: t, i, D, h => by
  unfold writesD
  rw [if_pos h.steps]
  exact writes_free f fr t (i + 1) _ (h.put _ _)

theorem uncloseB_free {R : Dsk × Bool × Bool} (h1 : R.2.1 = true) (h2 : Free R.1) : uncloseB R = true ∧ Free (uncloseR R).2 := by
 obtain ⟨D, ok, wp⟩ := R
 dsimp only at h1 h2
 subst h1
 cases wp with
 | false => exact ⟨rfl, h2⟩
 | true => exact ⟨by unfold uncloseB; simp [h2.steps], h2.flush⟩

theorem andB_free {D : Dsk} (h : Free D) : andB D true = true ∧ Free (andFlush D true).2 := ⟨by unfold andB; rw [h.steps]; rfl, h.flush⟩

theorem addD_free {f : Int} {fr en mn : Nat} {os : List OpV} {D : Dsk} (h : Free D) : (addD f fr en mn os D).2 = true ∧ Free (addD f fr en mn os D).1 := by
 obtain ⟨w1, w2⟩ := wipes_free f fr (mn - en) en D false h
 obtain ⟨u1, u2⟩ := uncloseB_free w1 w2
 obtain ⟨x1, x2⟩ := writes_free f fr (os.map opS) en _ u2
 obtain ⟨y1, y2⟩ := andB_free x2
 unfold addD
 rw [if_neg (by rw [u1]; decide), x1, if_neg (by rw [y1]; decide), y2.steps]
 exact andB_free (y2.put _ _)

theorem restart_free (D : Dsk) (keep : Int) : Free { D.settled keep with left := -1, down := false } := ⟨rfl, by show (-1 : Int) < 0; decide⟩

def WantT (w W : World) (v : Value) (dss : List (Value × List OpC)) : Prop := W.ownsRow 0 47 1 v dss.length (dss.map (·.1)) ∧ (∀ p ∈ dss, OpsN w p.1 p.2) ∧ Below w.heap.size w W

theorem WantT.later {w W W' : World} {v : Value} {dss : List (Value × List OpC)} (h : WantT w W v dss) (hb : Below W.heap.size W W') : WantT w W' v dss :=
 ⟨ownsKeep h.1 (fun b _ _ hx => hb.block b (heap_lt hx)), h.2.1, h.2.2.trans (hb.mono h.2.2.size)⟩

theorem list_notLog {t : TypeId} (h : listT t) : ¬ logT t := by
 unfold listT at h
 unfold logT diskT
 rcases h with rfl | rfl | rfl <;> decide

theorem WantT.keptW {w W W' : World} {base : Nat} {v : Value} {dss : List (Value × List OpC)} (h : WantT w W v dss) (hk : KeptW base W W') (hb : w.heap.size ≤ base) (hW : base ≤ W.heap.size) : WantT w W' v dss :=
 ⟨ownsKeep h.1 (fun b _ _ hx => hk.block b (heap_lt hx) (.inr fun cs' t' fz' hx' => by
  rw [hx] at hx'
  simp only [Option.some.injEq, Obj.cells.injEq] at hx'
  rw [← hx'.2.1]
  exact list_notLog (.inl rfl))), h.2.1, h.2.2.trans ((hk.below hW).mono hb)⟩

theorem DeedsT.keptW {W W' : World} {base base' : Nat} {v : Value} {dss : List (Value × List OpC)} (h : DeedsT base W v dss) (hk : KeptW base' W W') : DeedsT base W' v dss :=
 h.keep fun b _ _ _ hx ht => hk.block b (heap_lt hx) (.inr fun cs' t' fz' hx' => by
  rw [hx] at hx'
  simp only [Option.some.injEq, Obj.cells.injEq] at hx'
  rw [← hx'.2.1]
  exact list_notLog ht)

theorem owns_at {W : World} {base : Nat} {e : TypeId} {o : Option Addr} {n c : Nat} {xs : List Value} (h : W.ownsRow base e 1 (.slice o n c) n xs) (h0 : 0 < n) : ∃ b, o = some ⟨b, 0, none⟩ ∧ b < W.heap.size ∧ n ≤ c ∧ ∀ i x, xs[i]? = some x → W.cell? ⟨b, 0 + i, none⟩ = some x := by
 rcases h.2 with ⟨e', rfl⟩ | ⟨g, cap, cur, e', -, hg, hle, -⟩
 ·omega
 ·simp only [Value.slice.injEq, true_and] at e'
  obtain ⟨rfl, rfl⟩ := e'
  refine ⟨g, rfl, heap_lt hg, hle, fun i x hx => ?_⟩
  have := World.ownsRow.cells (g := g) h rfl i x hx
  rw [Go.WideShapes.add_plain] at this
  exact this

theorem deedsN_of_owns {W : World} {base : Nat} {v : Value} {dss : List (Value × List OpC)} (h : W.ownsRow base 47 1 v dss.length (dss.map (·.1))) (hp : ∀ p ∈ dss, OpsN W p.1 p.2) : DeedsN W v dss := by
 obtain ⟨o, c, rfl, hle⟩ := owns_form h
 refine ⟨o, c, rfl, hle, fun h0 => ?_⟩
 obtain ⟨b, rfl, hlt, -, hc⟩ := owns_at h h0
 exact ⟨b, 0, rfl, hlt, fun i p hi => ⟨hc i p.1 (by rw [List.getElem?_map, hi]; rfl), hp p (List.mem_of_getElem? hi)⟩⟩

theorem WantT.read {w W : World} {v : Value} {dss : List (Value × List OpC)} (h : WantT w W v dss) : DeedsN W v dss := deedsN_of_owns h.1 fun p hp => (h.2.1 p hp).below h.2.2

theorem ops_at : ∀ (os : List OpC) (i : Nat) (q : OpC), os[i]? = some q → ∀ j, j < 4 → (os.flatMap OpC.cells)[i * 4 + j]? = q.cells[j]?
 | o :: t, 0, q, h, j, hj => by
  obtain rfl : o = q := by simpa using h
  rw [List.flatMap_cons, Nat.zero_mul, Nat.zero_add, List.getElem?_append_left (by show j < 4; exact hj)]
 | o :: t, i + 1, q, h, j, hj => by
  rw [List.flatMap_cons, List.getElem?_append_right (by show 4 ≤ _; omega)]
  have := ops_at t i q (by simpa using h) j hj
  rw [← this]
  congr 1
  show (i + 1) * 4 + j - 4 = _
  omega

theorem OpsT.read {base : Nat} {W : World} {v : Value} {os : List OpC} (h : OpsT base W v os) : OpsN W v os := by
 obtain ⟨o, c, rfl, hle⟩ := owns_form h.1
 refine ⟨o, c, rfl, hle, fun h0 => ?_⟩
 rcases h.1.2 with ⟨e', e0⟩ | ⟨g, cap, cur, e', -, hg, -⟩
 ·omega
 ·simp only [Value.slice.injEq, true_and] at e'
  obtain ⟨rfl, rfl⟩ := e'
  refine ⟨g, 0, rfl, heap_lt hg, fun i q hi => ?_⟩
  have hc : ∀ j, j < 4 → W.cell? ⟨g, 0 + i * 4 + j, none⟩ = q.cells[j]? := fun j hj => by
   have h1 := ops_at os i q hi j hj
   obtain ⟨x, hx⟩ : ∃ x, q.cells[j]? = some x := ⟨_, List.getElem?_eq_getElem (show j < 4 from hj)⟩
   rw [hx] at h1 ⊢
   have := World.ownsRow.cells (g := g) h.1 rfl (i * 4 + j) x h1
   rw [Go.WideShapes.add_plain] at this
   rw [Nat.add_assoc]
   exact this
  exact ⟨hc 0 (by decide), hc 1 (by decide), hc 2 (by decide), hc 3 (by decide), (h.2 q (List.mem_of_getElem? hi)).row⟩

theorem DeedsT.read {base : Nat} {W : World} {v : Value} {dss : List (Value × List OpC)} (h : DeedsT base W v dss) : DeedsN W v dss := deedsN_of_owns h.1 fun p hp => (h.2 p hp).read

end Go.Proofs.Ytlkenhfhnpohhaa
