/- TopAbort. -/
import Derived.Test.YtnhbfehfipafoaaGreatDoorSrV
import Derived.Test.YtnhbfehfipafoaaGreatDoorWaV
import Derived.Test.YtnhbfehfipafoaaGreatDoorBpZ
import Derived.Test.YtnhbfehfipafoaaGreatDoorJoins
import Derived.ProofKit
import Derived.Lib.SmallJoins
import Derived.ChangeOld
import Derived.Test.YtnhbfehfipafoaaGreatDoorWaJ
import Derived.Test.YtnhbfehfipafoaaGreatDoorBgC
import Derived.Deep.SlicePairs
import Derived.Test.YtnhbfehfipafoaaGreatDoorSrW

namespace Go.Proofs.YtnhbfehfipafoaaGreatDoor
open Go.RowKit

theorem ButB.toE {M : Nat} {W W' : World} (h : ButB W.heap.size M W W') : ButE (fun b => b = M) W W' := ⟨h.os, h.tape, h.output, h.size, fun b hb hn => h.block b hb hn⟩

set_option linter.unusedSimpArgs false in
set_option maxRecDepth 100000 in
set_option maxHeartbeats 6400000 in
theorem topAbort_any (w : World) (v1 v2 : Value) (o1 o2 : List OpC) (h1 : OpsN w v1 o1) (h2 : OpsN w v2 o2) (ht : TabP w) (hx : MaxL w) :
  Calls Tryz.prog 7 #[v1, v2] w fun e w' => e = .returned (.bool true) ∧ Below w.heap.size w w' := by
 obtain ⟨a1, k1, rfl, -⟩ := id h1
 obtain ⟨a2, k2, rfl, -⟩ := id h2
 obtain ⟨N, hN⟩ : ∃ N, o1.length = N := ⟨_, rfl⟩
 obtain ⟨M, hM⟩ : ∃ M, o2.length = M := ⟨_, rfl⟩
 rw [hN] at h1 ⊢
 rw [hM] at h2 ⊢
 have HO1 := hide h1; have HO2 := hide h2; have HT := hide ht; have HX := hide hx; have HN := hide hN; have HM := hide hM
 clear h1 h2 ht hx hN hM
 go_enter Tryz.func7, Tryz.ntmps7
 go_wp2_with fail
 refine (kept_any w HT.out HX.out).mono ?_
 rintro e w1 ⟨rfl, hb1⟩
 have HB1 := hide hb1
 clear hb1
 go_wp2_with fail
 refine (stored_any w1 120 (by decide) (by decide) (HT.out.below HB1.out) (HX.out.below HB1.out)).mono ?_
 rintro e w2 ⟨S0, D, h, rfl, hS, hp2, hf2, hb2⟩
 obtain ⟨B, hB⟩ : ∃ B, w1.heap.size = B := ⟨_, rfl⟩
 have HBB : Hid (w.heap.size ≤ B) := by show _ ≤ _; rw [← hB]; exact HB1.out.size
 have HBS : Hid (B ≤ w2.heap.size) := by show _ ≤ _; rw [← hB]; exact hb2.size
 rw [hB] at hp2 hS ⊢
 have HP2 := hide hp2; have HF2 := hide hf2; have HB2 := hide (HB1.out.trans (hb2.mono HB1.out.size))
 clear hp2 hf2 hb2 hB HB1 hS
 go_wp2_with fail
 refine (lightOps_any w2 _ o1 30 (HO1.out.below HB2.out) (by decide)).mono ?_
 rintro e w3 ⟨rfl, hw3⟩
 subst hw3
 by_cases hl1 : lightL o1 30 = true
 rotate_left
 ·have hl1' : lightL o1 30 = false := by simpa using hl1
  rw [hl1']
  clear hl1 hl1'
  go_wp2
  go_ret
  exact ⟨rfl, HB2.out⟩
 rw [hl1]
 have HL1 : Hid (∀ q ∈ o1, q.o.v.length ≤ 20) := fun q hq => by have := ((lightL_ok hl1).2 q hq).2; omega
 have HN2 : Hid (N ≤ 30) := by show _ ≤ _; rw [← HN.out]; exact (lightL_ok hl1).1
 clear hl1
 go_wp2_with fail
 refine (lightOps_any _ _ o2 20 (HO2.out.below HB2.out) (by decide)).mono ?_
 rintro e w4 ⟨rfl, hw4⟩
 subst hw4
 by_cases hl2 : lightL o2 20 = true
 rotate_left
 ·have hl2' : lightL o2 20 = false := by simpa using hl2
  rw [hl2']
  clear hl2 hl2'
  go_wp2
  go_ret
  exact ⟨rfl, HB2.out⟩
 rw [hl2]
 have HL2 : Hid (∀ q ∈ o2, q.o.v.length ≤ 20) := fun q hq => by have := ((lightL_ok hl2).2 q hq).2; omega
 have HM2 : Hid (M ≤ 20) := by show _ ≤ _; rw [← HM.out]; exact (lightL_ok hl2).1
 clear hl2
 go_wp2_with fail
 refine (xopen_any _ B B D 120 h [] 0 HP2.out.disk HP2.out.says (by decide) (by decide) (HT.out.below HB2.out) (HX.out.below HB2.out) HBS.out).mono ?_
 rintro e w5 ⟨X, S, rfl, hX, hs5, hp5, hb5⟩
 have HXL : Hid (w.heap.size ≤ X) := Nat.le_trans HB2.out.size hX
 have HS5 := hide hs5; have HP5 := hide hp5; have HB5 := hide (HB2.out.trans (hb5.mono HB2.out.size))
 have HBS5 : Hid (B ≤ w5.heap.size) := Nat.le_trans HBS.out hb5.size
 have hN2 := HN2.out; have hM2 := HM2.out
 clear hX hs5 hp5 hb5 HP2 HB2 HBS
 go_wp2_with fail
 go_loopw [10] (fun ix wr => ∃ (k : Nat) (D : Dsk) (h : Hd) (l : List Nmd) (en : Nat), k ≤ N ∧ ix = .int .i64 k ∧ Hid (StoreP wr B S B D 120 h l en) ∧ Hid (Free D) ∧ Hid (SesB wr X S (.pointer none)) ∧ Hid (Below w.heap.size w wr) ∧ Hid (B ≤ wr.heap.size)) (fun ix _ => N - (intOf ix).toNat)
 case atStart => exact ⟨0, D, h, [], 0, Nat.zero_le _, rfl, HP5, HF2, HS5, HB5, HBS5⟩
 case round =>
  clear HP5 HF2 HS5 HB5 HBS5
  obtain ⟨k, D, h, l, en, hk, rfl, HP, HF, HS, HBW, HBS⟩ := hrel
  by_cases hkl : k < N
  ·skip
   have hkd : k < o1.length := by rw [HN.out]; exact hkl
   obtain ⟨b, off, cap', e, hlt, c0, c1, c2, c3, hrow, -⟩ := HO1.out.at (List.getElem?_eq_getElem hkd)
   simp only [Value.slice.injEq] at e
   obtain ⟨rfl, -, rfl⟩ := e
   have HV := hide (HL1.out o1[k] (List.getElem_mem hkd))
   generalize o1[k] = q at *
   obtain ⟨⟨kd, nm, nn, vs⟩, vo, vc⟩ := q
   simp only [OpC.row] at c3 hrow
   dsimp only at c0 c1 c2 c3 hrow HV
   have z0 := (HBW.out.cell (p := ⟨b, off + k * 4, none⟩) hlt).trans c0
   have z1 := (HBW.out.cell (p := ⟨b, off + k * 4 + 1, none⟩) hlt).trans c1
   have z2 := (HBW.out.cell (p := ⟨b, off + k * 4 + 2, none⟩) hlt).trans c2
   have z3 := (HBW.out.cell (p := ⟨b, off + k * 4 + 3, none⟩) hlt).trans c3
   have HROW := hide hrow
   clear c0 c1 c2 c3 hrow hkd
   go_wp2_with fail
   refine (do0_any _ X B S B D 120 h l en ⟨kd, nm, nn, vs⟩ vo vc HS.out HP.out (by decide) (by decide) (HT.out.below HBW.out) HBS.out (fun W hk => HROW.out.below (hk.below HBW.out HBB.out HBW.out.size) (Nat.le_refl _)) HV.out).mono ?_
   rintro e w6 hcm
   obtain ⟨D6, h6, rfl, hp6, hf6, hk6⟩ := hcm.free HF.out
   obtain ⟨l6, hl6⟩ : ∃ x, comL l [⟨kd, nm, nn, vs⟩] 120 = x := ⟨_, rfl⟩
   obtain ⟨n6, hn6⟩ : ∃ x, comN l [⟨kd, nm, nn, vs⟩] 120 en = x := ⟨_, rfl⟩
   obtain ⟨F6, hF6⟩ : ∃ x, errV (comF l [⟨kd, nm, nn, vs⟩] 120) = x := ⟨_, rfl⟩
   rw [hl6, hn6] at hp6
   rw [hF6]
   have HP6 := hide hp6; have HF6 := hide hf6; have HS6 := hide (HS.out.keptS hk6); have HB6 := hide (hk6.below HBW.out HBB.out HBW.out.size)
   have HBS6 : Hid (B ≤ w6.heap.size) := Nat.le_trans HBS.out hk6.size
   clear hcm hp6 hf6 hk6 hl6 hn6 hF6 z0 z1 z2 z3 HROW HP HF HS HBW HBS
   go_wp2
   go_roundw
   case rel => exact ⟨k + 1, D6, h6, l6, n6, by omega, by go_num, HP6, HF6, HS6, HB6, HBS6⟩
   case measure => simp [intOf]; omega
  ·obtain rfl : k = N := by omega
   obtain ⟨⟨L6, o6, n6, c6, q6, hx6, hc6, hq6, -⟩, -, hi6⟩ := id HP.out
   have X6 := hide hx6; have C6 := hide hc6; have Q6 := hide hq6; have OK6 := hide hi6.says.ok
   clear hx6 hc6 hq6 hi6
   go_wp2_with fail
   refine (view0_any _ X S B h o6 n6 c6 _ HS.out X6.out).mono ?_
   rintro e w8 ⟨rfl, hb8⟩
   have C8 := hide (C6.out.below hb8); have X8 := hide (X6.out.later hb8); have HS8 := hide (HS.out.later hb8); have HP8 := hide (HP.out.later hb8); have HB8 := hide (HBW.out.trans (hb8.mono HBW.out.size))
   have HBS8 : Hid (B ≤ w8.heap.size) := Nat.le_trans HBS.out hb8.size
   have hq8 : q6.length ≤ 100 := by have := OK6.out.few; rw [← Q6.out, List.length_map] at this; omega
   clear hb8 C6 X6 HS HP HBW HBS
   go_wp2_with fail
   refine (lattices_any2 w8 _ q6 ⟨_, rfl, C8.out⟩ hq8 (by rw [Q6.out]; exact OK6.out.all)).mono ?_
   rintro e w9 ⟨u, rs, rfl, hc9, hm9, hb9⟩
   obtain ⟨o9, k9, rfl, -⟩ := id hc9
   have HRS : Hid (rs.map (·.x) = l) := by show _ = _; rw [hm9]; exact Q6.out
   obtain ⟨rn, hrn⟩ : ∃ rn, rs.length = rn := ⟨_, rfl⟩
   rw [hrn] at hc9 ⊢
   have C9 := hide (C8.out.below hb9); have X9 := hide (X8.out.later hb9); have HS9 := hide (HS8.out.later hb9); have HP9 := hide (HP8.out.later hb9); have HB9 := hide (HB8.out.trans (hb9.mono HB8.out.size)); have HC9 := hide hc9
   have HBS9 : Hid (B ≤ w9.heap.size) := Nat.le_trans HBS8.out hb9.size
   clear hc9 hm9 hb9 hq8 hrn C8 X8 HS8 HP8 HB8 HBS8
   go_wp2_with fail
   refine (begin0_any w9 X S B h o6 n6 c6 _ HS9.out X9.out).mono ?_
   rintro e w10 ⟨T, rfl, hT, hs10, hd10, hk10⟩
   have HI10 : Hid (InP w10 B X S [] l) := ⟨T, none, 0, 0, o6, n6, c6, q6, hs10, hd10, opsT_nil _ _, rfl, by omega, C9.out.keepK (keepK_but HS9.out ses_kin hk10), Q6.out, OK6.out, Nat.le_trans HBS9.out hT⟩
   have HP10 := hide (HP9.out.but HS9.out ses_sto ses_kin hk10); have HC10 := hide (HC9.out.keepK (keepK_but HS9.out ses_kin hk10)); have HB10 := hide (hk10.toE.below HB9.out HB9.out.size (fun b hb => by subst hb; exact HXL.out))
   have HBS10 : Hid (B ≤ w10.heap.size) := Nat.le_trans HBS9.out hk10.size
   have HOKL := hide OK6.out
   clear hT hs10 hd10 hk10 C9 X9 HS9 HP9 HB9 HC9 HBS9 Q6 OK6 HF
   go_wp2_with fail
   go_loopw [12] (fun ix wr => ∃ (k : Nat) (os : List OpC) (made : List Nmd), k ≤ M ∧ ix = .int .i64 k ∧ Hid (InP wr B X S os made) ∧ Hid (StoreP wr B S B D 120 h l en) ∧ Hid (CatN wr (.slice o9 rn k9) rs) ∧ Hid (Below w.heap.size w wr) ∧ Hid (B ≤ wr.heap.size)) (fun ix _ => M - (intOf ix).toNat)
   case atStart => exact ⟨0, [], l, Nat.zero_le _, rfl, HI10, HP10, HC10, HB10, HBS10⟩
   case round =>
    clear HI10 HP10 HC10 HB10 HBS10
    obtain ⟨k, os, made, hk, rfl, HI, HP, HC, HBW, HBS⟩ := hrel
    by_cases hkl : k < M
    ·skip
     have hkd : k < o2.length := by rw [HM.out]; exact hkl
     obtain ⟨b, off, cap', e, hlt, c0, c1, c2, c3, hrow, -⟩ := HO2.out.at (List.getElem?_eq_getElem hkd)
     simp only [Value.slice.injEq] at e
     obtain ⟨rfl, -, rfl⟩ := e
     have HV := hide (HL2.out o2[k] (List.getElem_mem hkd))
     generalize o2[k] = q at *
     obtain ⟨⟨kd, nm, nn, vs⟩, vo, vc⟩ := q
     simp only [OpC.row] at c3 hrow
     dsimp only at c0 c1 c2 c3 hrow HV
     have z0 := (HBW.out.cell (p := ⟨b, off + k * 4, none⟩) hlt).trans c0
     have z1 := (HBW.out.cell (p := ⟨b, off + k * 4 + 1, none⟩) hlt).trans c1
     have z2 := (HBW.out.cell (p := ⟨b, off + k * 4 + 2, none⟩) hlt).trans c2
     have z3 := (HBW.out.cell (p := ⟨b, off + k * 4 + 3, none⟩) hlt).trans c3
     have HROW := hide hrow
     clear c0 c1 c2 c3 hrow hkd
     go_wp2_with fail
     have h12 : os.length ≤ 12 := by
      obtain ⟨_, _, _, _, _, _, _, _, -, -, -, h1, h2, -⟩ := HI.out
      omega
     refine (do1_any _ X B S os made ⟨kd, nm, nn, vs⟩ vo vc HI.out HBS.out (HROW.out.below HBW.out (Nat.le_refl _)) HV.out h12).mono ?_
     rintro e w6 ⟨rfl, os', hi6, -, ex, hk6, hx6, hlo6⟩
     obtain ⟨F6, hF6⟩ : ∃ x, errV (addO made os.length ⟨kd, nm, nn, vs⟩) = x := ⟨_, rfl⟩
     obtain ⟨m6, hm6⟩ : ∃ x, (if addO made os.length ⟨kd, nm, nn, vs⟩ = 0 then (applyC made ⟨kd, nm, nn, vs⟩).2 else made) = x := ⟨_, rfl⟩
     rw [hm6] at hi6
     rw [hF6]
     have HI6 := hide hi6; have HP6 := hide (HP.out.butE hk6 hx6); have HC6 := hide (HC.out.keepK (hk6.keepK hx6)); have HB6 := hide (hk6.below HBW.out HBW.out.size (fun b hb => Nat.le_trans HBB.out (hlo6 b hb)))
     have HBS6 : Hid (B ≤ w6.heap.size) := Nat.le_trans HBS.out hk6.size
     clear hi6 hk6 hx6 hlo6 hF6 hm6 z0 z1 z2 z3 HROW HP HI HC HBW HBS h12
     go_wp2
     go_roundw
     case rel => exact ⟨k + 1, os', m6, by omega, by go_num, HI6, HP6, HC6, HB6, HBS6⟩
     case measure => simp [intOf]; omega
    ·obtain rfl : k = M := by omega
     go_wp2_with fail
     refine (xopen_any _ B B D 120 h l en HP.out.disk HP.out.says (by decide) (by decide) (HT.out.below HBW.out) (HX.out.below HBW.out) HBS.out).mono ?_
     rintro e w11 ⟨Y, S2, rfl, hY, hs11, hp11, hb11⟩
     have HY11 := hide hs11; have HZ11 := hide hp11; have HI11 := hide (HI.out.later hb11); have HP11 := hide (HP.out.later hb11); have HC11 := hide (HC.out.below hb11); have HB11 := hide (HBW.out.trans (hb11.mono HBW.out.size))
     have HBS11 : Hid (B ≤ w11.heap.size) := Nat.le_trans HBS.out hb11.size
     clear hY hs11 hp11 hb11 HI HP HC HBW HBS
     obtain ⟨⟨L7, o7, n7, c7, q7, hx7, hc7, hq7, -⟩, -, -⟩ := id HZ11.out
     have X7 := hide hx7; have C7 := hide hc7; have Q7 := hide hq7
     clear hx7 hc7 hq7 HZ11
     go_wp2_with fail
     refine (view0_any w11 Y S2 B h o7 n7 c7 _ HY11.out X7.out).mono ?_
     rintro e w12 ⟨rfl, hb12⟩
     have C12 := hide (C7.out.below hb12); have HI12 := hide (HI11.out.later hb12); have HP12 := hide (HP11.out.later hb12); have HC12 := hide (HC11.out.below hb12); have HB12 := hide (HB11.out.trans (hb12.mono HB11.out.size))
     have HBS12 : Hid (B ≤ w12.heap.size) := Nat.le_trans HBS11.out hb12.size
     have hq12 : q7.length ≤ 100 := by have := HOKL.out.few; rw [← Q7.out, List.length_map] at this; omega
     clear hb12 C7 X7 HY11 HI11 HP11 HC11 HB11 HBS11
     go_wp2_with fail
     refine (lattices_any2 w12 _ q7 ⟨_, rfl, C12.out⟩ hq12 (by rw [Q7.out]; exact HOKL.out.all)).mono ?_
     rintro e w13 ⟨u, ss, rfl, hc13, hm13, hb13⟩
     obtain ⟨o13, k13, rfl, -⟩ := id hc13
     have HSS : Hid (ss.map (·.x) = l) := by show _ = _; rw [hm13]; exact Q7.out
     have hsl : ss.length ≤ 1000 := by have := congrArg List.length hm13; rw [List.length_map, List.length_map] at this; omega
     have HSZ : Hid (∀ p ∈ ss, p.x.gens.length ≤ 1000 ∧ ∀ g ∈ p.x.gens, g.length ≤ 1000000) := fun p hp => nm_sizesC (HOKL.out.all p.x (by rw [← HSS.out]; exact List.mem_map.2 ⟨p, hp, rfl⟩))
     have HI13 := hide (HI12.out.later hb13); have HP13 := hide (HP12.out.later hb13); have HC13 := hide (HC12.out.below hb13); have HB13 := hide (HB12.out.trans (hb13.mono HB12.out.size)); have HD13 := hide hc13
     have HBS13 : Hid (B ≤ w13.heap.size) := Nat.le_trans HBS12.out hb13.size
     clear hc13 hm13 hb13 hq12 C12 Q7 HI12 HP12 HC12 HB12 HBS12
     have HSM := hide (sameCatalog_any w13 _ _ ss rs HD13.out HC13.out hsl HSZ.out true (by rw [HSS.out, HRS.out]; simp))
     clear HSZ HSS hsl HD13
     go_wp2_with fail
     refine HSM.out.mono ?_
     rintro e w14 ⟨rfl, hb14⟩
     have HI14 := hide (HI13.out.later hb14); have HP14 := hide (HP13.out.later hb14); have HC14 := hide (HC13.out.below hb14); have HB14 := hide (HB13.out.trans (hb14.mono HB13.out.size))
     have HBS14 : Hid (B ≤ w14.heap.size) := Nat.le_trans HBS13.out hb14.size
     clear hb14 HSM HI13 HP13 HC13 HB13 HBS13
     obtain ⟨T2, _, _, _, _, _, _, _, hs14, -⟩ := id HI14.out
     have HS14 := hide hs14
     clear hs14 HI14
     go_wp2_with fail
     refine (abort1_any w14 X S T2 HS14.out).mono ?_
     rintro e w15 ⟨rfl, hs15, hk15⟩
     have HS15 := hide hs15; have HP15 := hide (HP14.out.but HS14.out ses_sto ses_kin hk15); have HC15 := hide (HC14.out.keepK (keepK_but HS14.out ses_kin hk15)); have HB15 := hide (hk15.toE.below HB14.out HB14.out.size (fun b hb => by subst hb; exact HXL.out))
     clear hs15 hk15 HS14 HP14 HC14 HB14 HBS14
     obtain ⟨⟨L8, o8, n8, c8, q8, hx8, hc8, hq8, -⟩, -, -⟩ := id HP15.out
     have X8 := hide hx8; have C8 := hide hc8; have Q8 := hide hq8
     clear hx8 hc8 hq8 HP15
     go_wp2_with fail
     refine (view0_any w15 X S B h o8 n8 c8 _ HS15.out X8.out).mono ?_
     rintro e w16 ⟨rfl, hb16⟩
     have C16 := hide (C8.out.below hb16); have HS16 := hide (HS15.out.later hb16); have HC16 := hide (HC15.out.below hb16); have HB16 := hide (HB15.out.trans (hb16.mono HB15.out.size))
     have hq16 : q8.length ≤ 100 := by have := HOKL.out.few; rw [← Q8.out, List.length_map] at this; omega
     clear hb16 C8 X8 HS15 HC15 HB15
     go_wp2_with fail
     refine (lattices_any2 w16 _ q8 ⟨_, rfl, C16.out⟩ hq16 (by rw [Q8.out]; exact HOKL.out.all)).mono ?_
     rintro e w17 ⟨u, ts, rfl, hc17, hm17, hb17⟩
     obtain ⟨o17, k17, rfl, -⟩ := id hc17
     have HTS : Hid (ts.map (·.x) = l) := by show _ = _; rw [hm17]; exact Q8.out
     have htl : ts.length ≤ 1000 := by have := congrArg List.length hm17; rw [List.length_map, List.length_map] at this; omega
     have HSZ : Hid (∀ p ∈ ts, p.x.gens.length ≤ 1000 ∧ ∀ g ∈ p.x.gens, g.length ≤ 1000000) := fun p hp => nm_sizesC (HOKL.out.all p.x (by rw [← HTS.out]; exact List.mem_map.2 ⟨p, hp, rfl⟩))
     have HSM := hide (sameCatalog_any w17 _ _ ts rs hc17 (HC16.out.below hb17) htl HSZ.out true (by rw [HTS.out, HRS.out]; simp))
     have HS17 := hide (HS16.out.later hb17); have HB17 := hide (HB16.out.trans (hb17.mono HB16.out.size))
     clear hc17 hm17 hb17 hq16 C16 Q8 HS16 HC16 HB16 HSZ HTS htl
     go_wp2_with fail
     refine HSM.out.mono ?_
     rintro e w18 ⟨rfl, hb18⟩
     have HS18 := hide (HS17.out.later hb18); have HB18 := hide (HB17.out.trans (hb18.mono HB17.out.size))
     clear hb18 HSM HS17 HB17
     go_wp2_with fail
     refine (begun_any w18 X S _ false HS18.out (.inl ⟨rfl, rfl⟩)).mono ?_
     rintro e w19 ⟨rfl, hw19⟩
     subst hw19
     go_wp2
     go_ret
     exact ⟨rfl, HB18.out⟩

end Go.Proofs.YtnhbfehfipafoaaGreatDoor

/- Whole numbers that came in, in a row: as they read. -/
namespace Go.Proofs.YtnhbfehfipafoaaGreatDoor
open Go.ChangeShapes Go.WideShapes Go.ChangeAt Go.RowKit Go.Joins Limbs

theorem Tryz.cellsIntS : Tryz.prog.cellsOf 41 = 1 := by kernel_rfl
theorem Tryz.cellsInt : Tryz.prog.cellsOf 3 = 1 := by kernel_rfl

set_option maxRecDepth 100000 in
theorem open_rowS {H : Type} {enc : TypeId × Value → H} {W : World} {n : Nat} {v : Value} {y : DataW H × List MemPlace}
  (h : DataW.trod enc Tryz.prog W 0 (fun _ => true) true n 41 [v] = some y) : ∃ ks, RowS W v ks := by
 rcases open_ints Tryz.underlying41 Tryz.underlying3 Tryz.cellsInt h with ⟨hcs, _⟩ | ⟨x, l, c, zs, hcs, _, hl, hm, hz, _, hcell, hwz⟩
 ·simp only [List.cons.injEq, and_true] at hcs
  subst hcs
  exact ⟨[], none, 0, rfl, Nat.le_refl _, fun i => by simp, fun h => absurd h (by simp)⟩
 ·simp only [List.cons.injEq, and_true] at hcs
  subst hcs
  have hz' : zs.length = c := by simpa using hz
  have hlen : (zs.take l).length = l := by rw [List.length_take]; omega
  refine ⟨zs.take l, some x, c, by rw [hlen], by rw [hlen]; exact hl, fun i => ?_, fun h0 => ?_⟩
  ·by_cases hi : i < (zs.take l).length
   ·rw [List.getD_eq_getElem?_getD, List.getElem?_eq_getElem hi, Option.getD_some]
    have := hwz _ (List.mem_of_mem_take (List.getElem_mem hi))
    simp [Lit.wf, IntKind.min, IntKind.max, IntKind.signed, IntKind.bits] at this
    rw [List.getElem_take]
    omega
   ·rw [List.getD_eq_getElem?_getD, List.getElem?_eq_none (by omega)]
    simp
  ·obtain ⟨blk, off, spot⟩ := x
   rw [hlen] at h0
   have h00 := hcell 0 (by omega)
   have hspot : spot = none := by simpa [Addr.add] using World.cell?_spot h00
   subst hspot
   refine ⟨blk, off, rfl, World.block_lt_of_cell? W _ h00, fun i hi => ?_⟩
   rw [hlen] at hi
   have := hcell i (by omega)
   rw [getD_take zs l i (by omega)]
   by_cases hi0 : i = 0
   ·subst hi0; simpa [Addr.add] using this
   ·simpa [Addr.add, hi0] using this

end Go.Proofs.YtnhbfehfipafoaaGreatDoor

/- Operations that came in, as they read: all four cells. -/
namespace Go.Proofs.YtnhbfehfipafoaaGreatDoor
open Go.ChangeShapes Go.WideShapes Go.ChangeAt Go.RowKit Go.Joins

theorem Tryz.cellsOpF : Tryz.prog.cellsOf 43 = 4 := by kernel_rfl
theorem Tryz.cellsStrF : Tryz.prog.cellsOf 9 = 1 := by kernel_rfl

instance : Inhabited OpC := ⟨⟨⟨0, ⟨#[]⟩, 0, []⟩, none, 0⟩⟩

section
variable {H : Type} {enc : TypeId × Value → H} {W : World}

set_option maxRecDepth 100000 in
theorem open_opF {n : Nat} {cs : List Value} {y : DataW H × List MemPlace} (h : DataW.trod enc Tryz.prog W 0 (fun _ => true) true n 43 cs = some y) :
  ∃ q : OpC, cs[0]? = some (.int .i64 q.o.kind) ∧ cs[1]? = some (.string q.o.name) ∧ cs[2]? = some (.int .i64 q.o.n) ∧ cs[3]? = some q.row ∧ RowS W q.row q.o.v := by
 obtain ⟨xs, k, -, -, hl, hxl, hf⟩ := DataW.trod_struct Tryz.underlying43 h
 rw [Tryz.cellsOpF] at hl
 match cs, hl with
 | [v0, v1, v2, v3], _ =>
  match xs, hxl with
  | [x0, x1, x2, x3], _ =>
   have g0 : DataW.trod enc Tryz.prog W 0 (fun _ => true) true k 3 (([v0, v1, v2, v3].drop 0).take (Tryz.prog.cellsOf 3)) = [x0, x1, x2, x3][0]? := hf 0 _ rfl
   have g1 : DataW.trod enc Tryz.prog W 0 (fun _ => true) true k 9 (([v0, v1, v2, v3].drop 1).take (Tryz.prog.cellsOf 9)) = [x0, x1, x2, x3][1]? := hf 1 _ rfl
   have g2 : DataW.trod enc Tryz.prog W 0 (fun _ => true) true k 3 (([v0, v1, v2, v3].drop 2).take (Tryz.prog.cellsOf 3)) = [x0, x1, x2, x3][2]? := hf 2 _ rfl
   have g3 : DataW.trod enc Tryz.prog W 0 (fun _ => true) true k 41 (([v0, v1, v2, v3].drop 3).take (Tryz.prog.cellsOf 41)) = [x0, x1, x2, x3][3]? := hf 3 _ rfl
   rw [Tryz.cellsInt] at g0 g2
   rw [Tryz.cellsStrF] at g1
   rw [Tryz.cellsIntS] at g3
   obtain ⟨kd, e0, -, -⟩ := DataW.trod_int Tryz.underlying3 g0
   obtain ⟨name, e1, -, -⟩ := DataW.trod_string Tryz.underlying9 g1
   obtain ⟨nn, e2, -, -⟩ := DataW.trod_int Tryz.underlying3 g2
   obtain ⟨ks, hr⟩ := open_rowS (v := v3) g3
   have e0' : v0 = .int .i64 kd := by simpa using e0
   have e1' : v1 = .string name := by simpa using e1
   have e2' : v2 = .int .i64 nn := by simpa using e2
   obtain ⟨vo, vc, e3'⟩ := RowS.form hr
   subst e0' e1' e2' e3'
   exact ⟨⟨⟨kd, name, nn, ks⟩, vo, vc⟩, rfl, rfl, rfl, rfl, hr⟩

set_option maxRecDepth 100000 in
theorem open_opsN {n : Nat} {v : Value} {y : DataW H × List MemPlace} (h : DataW.trod enc Tryz.prog W 0 (fun _ => true) true n 44 [v] = some y) : ∃ os, OpsN W v os := by
 rcases Go.Deep.open_slice Tryz.underlying44 h with ⟨e, -⟩ | ⟨a, l, c, m, n, D, Pl, e, -, hl, hm, hmm, -, hc⟩
 ·have e' : v = .slice none 0 0 := by simpa using e
  exact ⟨[], none, 0, e', by decide, fun h => absurd h (by decide)⟩
 ·have e' : v = .slice (some a) l c := by simpa using e
  have hm' : l ≤ m := by simp at hmm; omega
  have each : ∀ i, i < l → ∃ q : OpC, W.cell? (a.add (i * 4 + 0)) = some (.int .i64 q.o.kind) ∧ W.cell? (a.add (i * 4 + 1)) = some (.string q.o.name) ∧ W.cell? (a.add (i * 4 + 2)) = some (.int .i64 q.o.n) ∧ W.cell? (a.add (i * 4 + 3)) = some q.row ∧ RowS W q.row q.o.v := fun i hi => by
   obtain ⟨cs, h1, h2⟩ := hc i (by omega)
   rw [Tryz.cellsOpF] at h1
   obtain ⟨-, hlen, hcell⟩ := World.cells?_some h1
   obtain ⟨q, e0, e1, e2, e3, hr⟩ := open_opF h2
   have c0 := hcell 0 (by omega)
   have c1 := hcell 1 (by omega)
   have c2 := hcell 2 (by omega)
   have c3 := hcell 3 (by omega)
   rw [Go.Deep.add_add, e0] at c0
   rw [Go.Deep.add_add, e1] at c1
   rw [Go.Deep.add_add, e2] at c2
   rw [Go.Deep.add_add, e3] at c3
   exact ⟨q, c0, c1, c2, c3, hr⟩
  obtain ⟨q, hq⟩ := Go.Deep.choose_lt each
  have hlen : ((List.range l).map q).length = l := by simp
  refine ⟨(List.range l).map q, some a, c, by rw [hlen]; exact e', by rw [hlen]; exact hl, fun h0 => ?_⟩
  rw [hlen] at h0
  obtain ⟨k0, -⟩ := hq 0 h0
  obtain ⟨blk, off, spot⟩ := a
  have hsp : spot = none := by simpa [Addr.add] using World.cell?_spot k0
  subst hsp
  refine ⟨blk, off, rfl, by simpa [Addr.add] using World.block_lt_of_cell? W _ k0, fun i r hi => ?_⟩
  obtain ⟨hi', e⟩ := List.getElem?_eq_some_iff.1 hi
  rw [hlen] at hi'
  have e2 : r = q i := by simpa using e.symm
  obtain ⟨c0, c1, c2, c3, hr⟩ := hq i hi'
  rw [Go.WideShapes.add_plain] at c0 c1 c2 c3
  rw [e2]
  refine ⟨by simpa using c0, ?_, ?_, ?_, hr⟩
  ·rw [Nat.add_assoc]; exact c1
  ·rw [Nat.add_assoc]; exact c2
  ·rw [Nat.add_assoc]; exact c3

set_option maxRecDepth 100000 in
theorem open_opsV {r : Reach} {b0 : Nat} {v : Value} {d : DataW H} {p : List MemPlace} (hv : Value.okWide Tryz.prog W r b0 44 v) (h : DataW.Trod enc Tryz.prog W 0 (fun _ => true) true 44 v d p) : ∃ os, OpsN W v os := by
 obtain ⟨a0, len, cap, rfl⟩ := okWide_slice Tryz.underlying44 hv
 obtain ⟨fuel, hf⟩ := h
 exact open_opsN (v := .slice a0 len cap) hf

end

end Go.Proofs.YtnhbfehfipafoaaGreatDoor

/- Acts with all their parts, and texts, that came in: as they read. -/
namespace Go.Proofs.YtnhbfehfipafoaaGreatDoor
open Go.ChangeShapes Go.WideShapes Go.ChangeAt Go.RowKit Go.Joins

theorem Tryz.cellsActW : Tryz.prog.cellsOf 46 = 9 := by kernel_rfl
theorem Tryz.cellsU64 : Tryz.prog.cellsOf 40 = 1 := by kernel_rfl
theorem Tryz.cellsOpsW : Tryz.prog.cellsOf 44 = 1 := by kernel_rfl

def TxtsN (w : World) (v : Value) (ss : List ByteArray) : Prop :=
 ∃ ao cap, v = .slice ao ss.length cap ∧ ss.length ≤ cap ∧ (0 < ss.length → ∃ b off, ao = some ⟨b, off, none⟩ ∧ b < w.heap.size ∧ ∀ i s, ss[i]? = some s → w.cell? ⟨b, off + i, none⟩ = some (.string s))

theorem TxtsN.below {w w' : World} {v : Value} {ss : List ByteArray} (h : TxtsN w v ss) (hb : Below w.heap.size w w') : TxtsN w' v ss := by
 obtain ⟨ao, cap, e, hn, h⟩ := h
 refine ⟨ao, cap, e, hn, fun h0 => ?_⟩
 obtain ⟨b, off, e, hlt, h⟩ := h h0
 exact ⟨b, off, e, Nat.lt_of_lt_of_le hlt hb.size, fun i p hp => (hb.cell (p := ⟨b, off + i, none⟩) hlt).trans (h i p hp)⟩

instance : Inhabited ActW := ⟨⟨⟨#[]⟩, 0, ⟨#[]⟩, 0, default, .bool false, []⟩⟩

section
variable {H : Type} {enc : TypeId × Value → H} {W : World}

end

end Go.Proofs.YtnhbfehfipafoaaGreatDoor
