/- TopCrash. -/
import Derived.Test.YtnhbfehfipafoaaGreatDoorSrU
import Derived.Test.YtnhbfehfipafoaaGreatDoorWaV
import Derived.Test.YtnhbfehfipafoaaGreatDoorBgB
import Derived.Test.YtnhbfehfipafoaaGreatDoorJoins
import Derived.ProofKit
import Derived.Lib.SmallJoins
import Derived.ChangeOld
import Derived.Test.YtnhbfehfipafoaaGreatDoorWaJ
import Derived.Test.YtnhbfehfipafoaaGreatDoorBgC
import Derived.Deep.SlicePairs
import Derived.Test.YtnhbfehfipafoaaGreatDoorDetRg

namespace Go.Proofs.YtnhbfehfipafoaaGreatDoor
open Go.RowKit

theorem nm_sizesC {x : Nmd} (h : NmOk x) : x.gens.length ≤ 1000 ∧ ∀ g ∈ x.gens, g.length ≤ 1000000 := by
 refine ⟨by have := h.few; omega, fun g hg => ?_⟩
 have h1 := (genF_ok.1 (h.gens g hg)).1
 have h2 := h.n
 omega

set_option linter.unusedSimpArgs false in
set_option maxRecDepth 100000 in
set_option maxHeartbeats 6400000 in
theorem topCrash_any (w : World) (v : Value) (dss : List (Value × List OpC)) (fuse keep again : Int) (hds : DeedsN w v dss) (ht : TabP w) (hx : MaxL w) :
  Calls Tryz.prog 6 #[v, .int .i64 fuse, .int .u64 keep, .int .i64 again] w fun e w' => e = .returned (.bool true) ∧ Below w.heap.size w w' := by
 have HDS := hide hds; have HT := hide ht; have HX := hide hx
 obtain ⟨ao, acap, rfl, -⟩ := id hds
 obtain ⟨N, hN⟩ : ∃ N, dss.length = N := ⟨_, rfl⟩
 have HN := hide hN
 rw [hN]
 clear hds ht hx hN
 go_enter Tryz.func6, Tryz.ntmps6
 go_wp2_with fail
 refine (kept_any w HT.out HX.out).mono ?_
 rintro e w1 ⟨rfl, hb1⟩
 have HB1 := hide hb1
 clear hb1
 go_wp2_with fail
 refine (stored_any w1 100 (by decide) (by decide) (HT.out.below HB1.out) (HX.out.below HB1.out)).mono ?_
 rintro e w2 ⟨S, D, h, rfl, hS, hp2, -, hb2⟩
 obtain ⟨B, hB⟩ : ∃ B, w1.heap.size = B := ⟨_, rfl⟩
 have HBB : Hid (w.heap.size ≤ B) := by show _ ≤ _; rw [← hB]; exact HB1.out.size
 have HBS : Hid (B ≤ w2.heap.size) := by show _ ≤ _; rw [← hB]; exact hb2.size
 rw [hB] at hp2 hS ⊢
 have HP2 := hide hp2; have HB2 := hide (HB1.out.trans (hb2.mono HB1.out.size))
 clear hp2 hb2 hB HB1 hS
 by_cases h25 : 25 < N
 ·have g25 : decide (25 < (N : Int)) = true := decide_eq_true (by omega)
  go_wp2
  go_ret
  exact ⟨rfl, HB2.out⟩
 have g25 : decide (25 < (N : Int)) = false := decide_eq_false (by omega)
 go_wp2_with fail
 obtain ⟨F, hF⟩ : ∃ F, min (max fuse (-1)) 400 = F := ⟨_, rfl⟩
 have hF2 : -1 ≤ F ∧ F ≤ 400 := by omega
 rw [hF]
 refine (arm_any w2 B B D F HP2.out.disk (by omega)).mono ?_
 rintro e w3 ⟨rfl, hd3, hk3⟩
 have HP3 : Hid (StoreP w3 B S B { D with left := F } 100 h [] 0) := ⟨HP2.out.mem.kept hk3, hd3, HP2.out.says.arm F⟩
 have HB3 := hide ((KeptS.of_kept hk3).below HB2.out HBB.out HB2.out.size)
 have HBS3 : Hid (B ≤ w3.heap.size) := Nat.le_trans HBS.out hk3.size
 clear hd3 hk3 HP2 HB2 HBS hF
 go_upto_block 0 with fail
 go_cut [12, 13] from 14 to 83 (fun v1 v2 wc => ∃ (D : Dsk) (l1 l2 : List Nmd) (o1 : Option Addr) (n1 k1 : Nat) (q1 : List Nc) (o2 : Option Addr) (n2 k2 : Nat) (q2 : List Nc), v1 = .slice o1 n1 k1 ∧ v2 = .slice o2 n2 k2 ∧ DiskO wc B B D ∧ StoZ D 100 l1 l2 ∧ CatN wc (.slice o1 n1 k1) q1 ∧ q1.map (·.x) = l1 ∧ CatN wc (.slice o2 n2 k2) q2 ∧ q2.map (·.x) = l2 ∧ Below w.heap.size w wc ∧ B ≤ wc.heap.size)
 case first =>
  go_wp2_with fail
  go_loopw [12, 13, 14] (fun wv lv ix wr => ∃ (k : Nat) (D : Dsk) (h : Hd) (l : List Nmd) (en : Nat) (co : Option Addr) (cl ck : Nat) (qs : List Nc), wv = .slice co cl ck ∧ lv = .slice co cl ck ∧ k ≤ N ∧ ix = .int .i64 k ∧ Hid (StoreP wr B S B D 100 h l en) ∧ Hid (CatN wr (.slice co cl ck) qs) ∧ Hid (qs.map (·.x) = l) ∧ Hid (Below w.heap.size w wr) ∧ Hid (B ≤ wr.heap.size)) (fun _ _ ix _ => N - (intOf ix).toNat)
  case atStart => exact ⟨0, _, h, [], 0, none, 0, 0, [], rfl, rfl, Nat.zero_le _, rfl, HP3, catN_nil _, rfl, HB3, HBS3⟩
  case round =>
   clear HP3 HB3 HBS3
   obtain ⟨k, D, h, l, en, co, cl, ck, qs, rfl, rfl, hk, rfl, HP, HC, HQ, HBW, HBS⟩ := hrel
   by_cases hkl : k < N
   ·have hkd : k < dss.length := by rw [HN.out]; exact hkl
    obtain ⟨b, off, cap', e, hlt, cd, hop⟩ := HDS.out.at hkd
    simp only [Value.slice.injEq] at e
    obtain ⟨rfl, -, rfl⟩ := e
    generalize dss[k].2 = os at *
    obtain ⟨xo, xc, hov, -⟩ := id hop
    rw [hov] at cd hop
    have HOP := hide hop
    have cz0 := (HBW.out.cell (p := ⟨b, off + k, none⟩) hlt).trans cd
    clear hov hop
    go_wp2_with fail
    refine (lightOps_any wr _ os 14 (HOP.out.below HBW.out) (by decide)).mono ?_
    rintro e w4 ⟨rfl, rfl⟩
    by_cases hll : lightL os 14 = true
    rotate_left
    ·have hll' : lightL os 14 = false := by simpa using hll
     rw [hll']
     go_wp2
     go_ret
     exact ⟨rfl, HBW.out⟩
    rw [hll]
    have hlo := lightL_ok hll
    have HLN : Hid (os.length ≤ 1000000) := by show _ ≤ _; have := hlo.1; omega
    have HLN2 : Hid (os.length ≤ 9223372036854775807) := by show _ ≤ _; have := hlo.1; omega
    have HV20 : Hid (∀ q ∈ os, q.o.v.length ≤ 20) := fun q hq => by have := (hlo.2 q hq).2; omega
    clear hll hlo cz0
    by_cases h5 : (k : Int) % 5 = 4
    ·have g5 : ((k : Int) % 5 == 4) = true := beq_iff_eq.2 h5
     clear h5
     go_wp2_with fail
     refine (checkpoint_any _ B S B D 100 h l en HP.out (by decide) (by decide) (HT.out.below HBW.out) HBS.out).mono ?_
     rintro e wz ⟨D5, b5, rfl, hd5, hk5, hok5, hno5, -⟩
     have HC5 := hide (HC.out.keepK (keepK_keptS hk5)); have HB5 := hide (hk5.below HBW.out HBB.out HBW.out.size)
     have HBS5 : Hid (B ≤ wz.heap.size) := Nat.le_trans HBS.out hk5.size
     clear HP HC HBW HBS hk5
     cases b5 with
     | false =>
      have HZ := hide (hno5 rfl); have HD5 := hide hd5
      clear hok5 hno5 hd5
      go_wp2_with fail
      refine (number_err false _).mono ?_
      rintro e w7 ⟨rfl, rfl⟩
      go_wp2
      go_meet
      case rel => exact ⟨D5, l, l, co, cl, ck, qs, co, cl, ck, qs, rfl, rfl, HD5.out, HZ.out, HC5.out, HQ.out, HC5.out, HQ.out, HB5.out, HBS5.out⟩
     | true =>
      obtain ⟨h5, hp5⟩ := hok5 rfl
      have HP5 := hide hp5
      clear hok5 hno5 hd5 hp5
      go_wp2_with fail
      refine (number_err true _).mono ?_
      rintro e w7 ⟨rfl, hw7⟩
      subst hw7
      have HP := HP5; have HC := HC5; have HBW := HB5; have HBS := HBS5
      clear HP5 HC5 HB5 HBS5
      obtain ⟨en, hen⟩ : ∃ en : Nat, en = 0 := ⟨_, rfl⟩
      obtain ⟨h, hh⟩ : ∃ h, h = h5 := ⟨_, rfl⟩
      obtain ⟨D, hD⟩ : ∃ D, D = D5 := ⟨_, rfl⟩
      rw [← hen, ← hh, ← hD] at HP
      clear hen hh hD
      have hb := HBW.out.cell (p := ⟨b, off + k, none⟩) hlt
      have cz := hb.trans cd
      have HOZ := hide (HOP.out.below HBW.out)
      obtain ⟨⟨rc, ln⟩, hr⟩ : ∃ r, allC l (os.map (·.o)) = r := ⟨_, rfl⟩
      have HR := hide hr
      have HOKL := hide HP.out.says.says.ok
      clear hb hr
      go_wp2_with fail
      refine (allR_any _ _ _ qs os HC.out (by rw [HQ.out]; exact HOKL.out) HOZ.out HV20.out HLN2.out (rc, ln) (by rw [HQ.out]; exact HR.out)).mono ?_
      rintro e w5 hres
      obtain ⟨m2, l2, k2, rfl, HM2, hb5⟩ := refRes_formS hres
      have HP5 := hide (HP.out.later hb5); have HC5 := hide (HC.out.below hb5); have HB5 := hide (HBW.out.trans (hb5.mono HBW.out.size))
      have HBS5 : Hid (B ≤ w5.heap.size) := Nat.le_trans HBS.out hb5.size
      have c5 := (hb5.cell (p := ⟨b, off + k, none⟩) (Nat.lt_of_lt_of_le hlt HBW.out.size)).trans cz
      clear hb5 hres HP HC HBW HBS HOZ cz
      go_wp2_with fail
      refine (commit_any w5 B S B D 100 h l en _ os HP5.out (by decide) (by decide) (HT.out.below HB5.out) HBS5.out (fun W hk => HOP.out.below (hk.below HB5.out HBB.out HB5.out.size)) HV20.out HLN.out _ rfl).mono ?_
      rintro e w6 ⟨hcm, hk6⟩
      have HB6 := hide (hk6.below HB5.out HBB.out HB5.out.size)
      have HBS6 : Hid (B ≤ w6.heap.size) := Nat.le_trans HBS5.out hk6.size
      have HC6 := hide (HC5.out.keepK (keepK_keptS hk6))
      have HM6 : Hid (rc = 0 → ∃ p2 : List Nc, CatN w6 (.slice m2 l2 k2) p2 ∧ p2.map (·.x) = ln) := fun h0 => by
       obtain ⟨p2, h1, h2⟩ := HM2.out h0
       exact ⟨p2, h1.keepK (keepK_keptS hk6), h2⟩
      clear hk6 HP5 HC5 HB5 HBS5 HM2 c5
      rcases hcm with ⟨hne, rfl, h6, hp6⟩ | ⟨h0, D6, b6, rfl, hd6, hok6, hno6, -⟩
      ·have hn9 := comF_ne9 l (os.map (·.o)) 100
       obtain ⟨F, hF⟩ : ∃ F, comF l (os.map (·.o)) 100 = F := ⟨_, rfl⟩
       rw [hF] at hne hn9 ⊢
       have HPn := hide hp6
       have g9 : (((F : Nat) : Int) == 9) = false := beq_eq_false_iff_ne.2 (by omega)
       clear hF hp6
       go_wp2_with fail
       refine (number_errno _ _).mono ?_
       rintro e w7 ⟨rfl, rfl⟩
       go_wp2
       go_roundw
       case rel => exact ⟨k + 1, D, h6, l, en, co, cl, ck, qs, rfl, rfl, by omega, by go_num, HPn, HC6, HQ, HB6, HBS6⟩
       case measure => simp [intOf]; omega
      ·have hrc : rc = 0 := by
        unfold comF at h0
        rw [HR.out] at h0
        split at h0
        ·cases h0
        ·split at h0
         ·exact h0
         ·rename_i h1
          exact Classical.not_not.1 h1
       subst hrc
       obtain ⟨p2, hp2, hq2⟩ := HM6.out rfl
       rw [HR.out] at hok6 hno6
       have HC2 := hide hp2; have HQ2 := hide hq2; have HD6 := hide hd6
       clear hp2 hq2 hd6 h0 HM6
       cases b6 with
       | true =>
        obtain ⟨h6, hp6⟩ := hok6 rfl
        obtain ⟨n6, hn6⟩ : ∃ x, comE (os.map (·.o)) 100 en = x := ⟨_, rfl⟩
        rw [hn6] at hp6
        have HPn := hide hp6
        clear hok6 hno6 hp6 hn6
        rw [show okV true = .nilIface from rfl]
        go_wp2
        go_roundw
        case rel => exact ⟨k + 1, D6, h6, ln, n6, m2, l2, k2, p2, rfl, rfl, by omega, by go_num, HPn, HC2, HQ2, HB6, HBS6⟩
        case measure => simp [intOf]; omega
       | false =>
        have HZ := hide (hno6 rfl)
        clear hok6 hno6
        rw [show okV false = errno 9 from rfl]
        go_wp2_with fail
        refine (number_errno _ _).mono ?_
        rintro e w7 ⟨rfl, rfl⟩
        go_wp2
        go_meet
        case rel => exact ⟨D6, l, ln, co, cl, ck, qs, m2, l2, k2, p2, rfl, rfl, HD6.out, HZ.out, HC6.out, HQ.out, HC2.out, HQ2.out, HB6.out, HBS6.out⟩
    ·have g5 : ((k : Int) % 5 == 4) = false := beq_eq_false_iff_ne.2 h5
     clear h5
     have hb := HBW.out.cell (p := ⟨b, off + k, none⟩) hlt
     have cz := hb.trans cd
     have HOZ := hide (HOP.out.below HBW.out)
     obtain ⟨⟨rc, ln⟩, hr⟩ : ∃ r, allC l (os.map (·.o)) = r := ⟨_, rfl⟩
     have HR := hide hr
     have HOKL := hide HP.out.says.says.ok
     clear hb hr
     go_wp2_with fail
     refine (allR_any _ _ _ qs os HC.out (by rw [HQ.out]; exact HOKL.out) HOZ.out HV20.out HLN2.out (rc, ln) (by rw [HQ.out]; exact HR.out)).mono ?_
     rintro e w5 hres
     obtain ⟨m2, l2, k2, rfl, HM2, hb5⟩ := refRes_formS hres
     have HP5 := hide (HP.out.later hb5); have HC5 := hide (HC.out.below hb5); have HB5 := hide (HBW.out.trans (hb5.mono HBW.out.size))
     have HBS5 : Hid (B ≤ w5.heap.size) := Nat.le_trans HBS.out hb5.size
     have c5 := (hb5.cell (p := ⟨b, off + k, none⟩) (Nat.lt_of_lt_of_le hlt HBW.out.size)).trans cz
     clear hb5 hres HP HC HBW HBS HOZ cz
     go_wp2_with fail
     refine (commit_any w5 B S B D 100 h l en _ os HP5.out (by decide) (by decide) (HT.out.below HB5.out) HBS5.out (fun W hk => HOP.out.below (hk.below HB5.out HBB.out HB5.out.size)) HV20.out HLN.out _ rfl).mono ?_
     rintro e w6 ⟨hcm, hk6⟩
     have HB6 := hide (hk6.below HB5.out HBB.out HB5.out.size)
     have HBS6 : Hid (B ≤ w6.heap.size) := Nat.le_trans HBS5.out hk6.size
     have HC6 := hide (HC5.out.keepK (keepK_keptS hk6))
     have HM6 : Hid (rc = 0 → ∃ p2 : List Nc, CatN w6 (.slice m2 l2 k2) p2 ∧ p2.map (·.x) = ln) := fun h0 => by
      obtain ⟨p2, h1, h2⟩ := HM2.out h0
      exact ⟨p2, h1.keepK (keepK_keptS hk6), h2⟩
     clear hk6 HP5 HC5 HB5 HBS5 HM2 c5
     rcases hcm with ⟨hne, rfl, h6, hp6⟩ | ⟨h0, D6, b6, rfl, hd6, hok6, hno6, -⟩
     ·have hn9 := comF_ne9 l (os.map (·.o)) 100
      obtain ⟨F, hF⟩ : ∃ F, comF l (os.map (·.o)) 100 = F := ⟨_, rfl⟩
      rw [hF] at hne hn9 ⊢
      have HPn := hide hp6
      have g9 : (((F : Nat) : Int) == 9) = false := beq_eq_false_iff_ne.2 (by omega)
      clear hF hp6
      go_wp2_with fail
      refine (number_errno _ _).mono ?_
      rintro e w7 ⟨rfl, rfl⟩
      go_wp2
      go_roundw
      case rel => exact ⟨k + 1, D, h6, l, en, co, cl, ck, qs, rfl, rfl, by omega, by go_num, HPn, HC6, HQ, HB6, HBS6⟩
      case measure => simp [intOf]; omega
     ·have hrc : rc = 0 := by
       unfold comF at h0
       rw [HR.out] at h0
       split at h0
       ·cases h0
       ·split at h0
        ·exact h0
        ·rename_i h1
         exact Classical.not_not.1 h1
      subst hrc
      obtain ⟨p2, hp2, hq2⟩ := HM6.out rfl
      rw [HR.out] at hok6 hno6
      have HC2 := hide hp2; have HQ2 := hide hq2; have HD6 := hide hd6
      clear hp2 hq2 hd6 h0 HM6
      cases b6 with
      | true =>
       obtain ⟨h6, hp6⟩ := hok6 rfl
       obtain ⟨n6, hn6⟩ : ∃ x, comE (os.map (·.o)) 100 en = x := ⟨_, rfl⟩
       rw [hn6] at hp6
       have HPn := hide hp6
       clear hok6 hno6 hp6 hn6
       rw [show okV true = .nilIface from rfl]
       go_wp2
       go_roundw
       case rel => exact ⟨k + 1, D6, h6, ln, n6, m2, l2, k2, p2, rfl, rfl, by omega, by go_num, HPn, HC2, HQ2, HB6, HBS6⟩
       case measure => simp [intOf]; omega
      | false =>
       have HZ := hide (hno6 rfl)
       clear hok6 hno6
       rw [show okV false = errno 9 from rfl]
       go_wp2_with fail
       refine (number_errno _ _).mono ?_
       rintro e w7 ⟨rfl, rfl⟩
       go_wp2
       go_meet
       case rel => exact ⟨D6, l, ln, co, cl, ck, qs, m2, l2, k2, p2, rfl, rfl, HD6.out, HZ.out, HC6.out, HQ.out, HC2.out, HQ2.out, HB6.out, HBS6.out⟩
   ·obtain rfl : k = N := by omega
    have HZ := hide (HP.out.says.full l)
    have HDK := hide HP.out.disk
    clear HP
    go_wp2
    go_meet
    case rel => exact ⟨D, l, l, co, cl, ck, qs, co, cl, ck, qs, rfl, rfl, HDK.out, HZ.out, HC.out, HQ.out, HC.out, HQ.out, HBW.out, HBS.out⟩
 case rest =>
  obtain ⟨E, l1, l2, o1, n1, k1, q1, o2, n2, k2, q2, rfl, rfl, hd, hz, hc1, hq1, hc2, hq2, hbw, hbs⟩ := hcut
  apply_assumption
  clear HP3 HB3 HBS3
  have HD0 := hide hd; have HZ0 := hide hz; have HC1 := hide hc1; have HQ1 := hide hq1; have HC2 := hide hc2; have HQ2 := hide hq2; have HBc := hide hbw; have HBSc := hide hbs
  clear hd hz hc1 hq1 hc2 hq2 hbw hbs
  go_wp2_with fail
  refine (restart_any wc B B E keep HD0.out (by obtain ⟨k, hk⟩ := HZ0.out.well; rw [hk.len]; decide)).mono ?_
  rintro e w4 ⟨rfl, hd4, hk4⟩
  obtain ⟨h4, l4, n4, hl4, hi4, hf4⟩ := HZ0.out.back keep
  have HD4 : Hid (DiskO w4 B B (backD E keep)) := hd4
  have HI4 := hide hi4; have HL4 := hide hl4
  have HC14 := hide (HC1.out.keepK (keepK_kept hk4)); have HC24 := hide (HC2.out.keepK (keepK_kept hk4)); have HB4 := hide ((KeptS.of_kept hk4).below HBc.out HBB.out HBc.out.size)
  have HBS4 : Hid (B ≤ w4.heap.size) := Nat.le_trans HBSc.out hk4.size
  clear hd4 hi4 hf4 hl4 hk4 HD0 HZ0 HC1 HC2 HBc HBSc
  obtain ⟨G, hG⟩ : ∃ G, min (max again (-1)) 400 = G := ⟨_, rfl⟩
  have hG2 : -1 ≤ G ∧ G ≤ 400 := by omega
  go_wp2_with fail
  try rw [hG]
  clear hG
  refine (arm_any w4 B B _ G HD4.out (by omega)).mono ?_
  rintro e w5 ⟨rfl, hd5, hk5⟩
  obtain ⟨E5, hE5⟩ : ∃ E5, ({ backD E keep with left := G } : Dsk) = E5 := ⟨_, rfl⟩
  have hi5 := HI4.out.arm G
  rw [hE5] at hd5 hi5
  have HD5 := hide hd5; have HI5 := hide hi5
  have HC15 := hide (HC14.out.keepK (keepK_kept hk5)); have HC25 := hide (HC24.out.keepK (keepK_kept hk5)); have HB5 := hide ((KeptS.of_kept hk5).below HB4.out HBB.out HB4.out.size)
  have HBS5 : Hid (B ≤ w5.heap.size) := Nat.le_trans HBS4.out hk5.size
  clear hd5 hi5 hk5 hE5 HD4 HI4 HC14 HC24 HB4 HBS4
  go_wp2_with fail
  refine (open_any w5 B B E5 100 h4 l4 n4 HD5.out HI5.out (by decide) (by decide) (HT.out.below HB5.out) (HX.out.below HB5.out) HBS5.out).mono ?_
  rintro e w6 ⟨S6, rfl, -, hp6, hb6⟩
  have HP6 := hide hp6; have HC16 := hide (HC15.out.below hb6); have HC26 := hide (HC25.out.below hb6); have HB6 := hide (HB5.out.trans (hb6.mono HB5.out.size))
  have HBS6 : Hid (B ≤ w6.heap.size) := Nat.le_trans HBS5.out hb6.size
  clear hp6 hb6 HD5 HI5 HC15 HC25 HB5 HBS5
  go_wp2_with fail
  refine (number_err true _).mono ?_
  rintro e w7 ⟨rfl, hw7⟩
  subst hw7
  obtain ⟨⟨L6, o6, n6, c6, q6, hx6, hc6, hq6, -⟩, -, hi6⟩ := id HP6.out
  have X6 := hide hx6; have C6 := hide hc6; have Q6 := hide hq6; have OK6 := hide hi6.says.ok
  clear hx6 hc6 hq6 hi6
  go_wp2_with fail
  refine (scat_any _ S6 B h4 o6 n6 c6 _ X6.out).mono ?_
  rintro e w8 ⟨rfl, hb8⟩
  have C8 := hide (C6.out.below hb8); have HP8 := hide (HP6.out.later hb8); have HC18 := hide (HC16.out.below hb8); have HC28 := hide (HC26.out.below hb8); have HB8 := hide (HB6.out.trans (hb8.mono HB6.out.size))
  have HBS8 : Hid (B ≤ w8.heap.size) := Nat.le_trans HBS6.out hb8.size
  have hq8 : q6.length ≤ 100 := by have := OK6.out.few; rw [← Q6.out, List.length_map] at this; omega
  clear hb8 C6 X6 HP6 HC16 HC26 HB6 HBS6
  go_wp2_with fail
  refine (lattices_any2 w8 _ q6 ⟨_, rfl, C8.out⟩ hq8 (by rw [Q6.out]; exact OK6.out.all)).mono ?_
  rintro e w9 ⟨u, rs, rfl, hc9, hm9, hb9⟩
  obtain ⟨o9, k9, rfl, -⟩ := id hc9
  have HRS : Hid (rs.map (·.x) = l4) := by show _ = _; rw [hm9]; exact Q6.out
  have hrl : rs.length ≤ 1000 := by have := congrArg List.length hm9; rw [List.length_map, List.length_map] at this; omega
  obtain ⟨rn, hrn⟩ : ∃ rn, rs.length = rn := ⟨_, rfl⟩
  rw [hrn] at hc9 ⊢
  have HC9 := hide hc9; have HP9 := hide (HP8.out.later hb9); have HC19 := hide (HC18.out.below hb9); have HC29 := hide (HC28.out.below hb9); have HB9 := hide (HB8.out.trans (hb9.mono HB8.out.size))
  have HBS9 : Hid (B ≤ w9.heap.size) := Nat.le_trans HBS8.out hb9.size
  have HSZ : Hid (∀ p ∈ rs, p.x.gens.length ≤ 1000 ∧ ∀ g ∈ p.x.gens, g.length ≤ 1000000) := fun p hp => nm_sizesC (OK6.out.all p.x (by rw [← HRS.out]; exact List.mem_map.2 ⟨p, hp, rfl⟩))
  clear hc9 hm9 hb9 hq8 C8 Q6 HP8 HC18 HC28 HB8 HBS8 hrn
  go_upto_region 36 with fail
  go_cut [126] from 117 to 125 (fun v wx => v = .bool false ∧ Below w9.heap.size w9 wx)
  case first =>
   have hrl2 := HRS.out
   by_cases h1 : l4 = l1
   ·have HSM := hide (sameCatalog_any w9 _ _ rs q1 HC9.out HC19.out hrl HSZ.out true (by rw [HRS.out, HQ1.out]; simp [h1]))
    clear h1
    go_wp2_with fail
    refine HSM.out.mono ?_
    rintro e wx ⟨rfl, hbx⟩
    have HBX := hide hbx
    clear hbx HSM
    go_wp2
    go_meet
    case rel => exact ⟨rfl, HBX.out⟩
   ·have h2 : l4 = l2 := HL4.out.resolve_left h1
    have HSM := hide (sameCatalog_any w9 _ _ rs q1 HC9.out HC19.out hrl HSZ.out false (by rw [HRS.out, HQ1.out]; simp [h1]))
    have HSN := hide (fun W (hb : Below w9.heap.size w9 W) => sameCatalog_any W _ _ rs q2 (HC9.out.below hb) (HC29.out.below hb) hrl HSZ.out true (by rw [HRS.out, HQ2.out]; simp [h2]))
    clear h1 h2
    go_wp2_with fail
    refine HSM.out.mono ?_
    rintro e wx ⟨rfl, hbx⟩
    have HBX := hide hbx
    clear hbx HSM
    go_wp2_with fail
    refine (HSN.out _ HBX.out).mono ?_
    rintro e wy ⟨rfl, hby⟩
    have HBY := hide (HBX.out.trans (hby.mono HBX.out.size))
    clear hby HSN
    go_wp2
    go_meet
    case rel => exact ⟨rfl, HBY.out⟩
  case rest =>
   obtain ⟨rfl, hbx⟩ := hcut
   apply_assumption
   have HP10 := hide (HP9.out.later hbx); have HC10 := hide (HC9.out.below hbx); have HB10 := hide (HB9.out.trans (hbx.mono HB9.out.size))
   have HBS10 : Hid (B ≤ wc.heap.size) := Nat.le_trans HBS9.out hbx.size
   clear hbx HP9 HC9 HB9 HBS9 HC19 HC29
   go_wp2_with fail
   refine (arm_any wc B B E5 (-1) HP10.out.disk (by decide)).mono ?_
   rintro e w11 ⟨rfl, hd11, hk11⟩
   obtain ⟨D11, hD11⟩ : ∃ D11, ({ E5 with left := (-1) } : Dsk) = D11 := ⟨_, rfl⟩
   have hi11 := HP10.out.says.arm (-1)
   have hf11 : Free ({ E5 with left := (-1) } : Dsk) := ⟨HP10.out.says.up, by show (-1 : Int) < 0; decide⟩
   rw [hD11] at hd11 hi11 hf11
   have HP11 : Hid (StoreP w11 B S6 B D11 100 h4 l4 n4) := ⟨HP10.out.mem.kept hk11, hd11, hi11⟩
   have HF11 := hide hf11; have HC11 := hide (HC10.out.keepK (keepK_kept hk11)); have HB11 := hide ((KeptS.of_kept hk11).below HB10.out HBB.out HB10.out.size)
   have HBS11 : Hid (B ≤ w11.heap.size) := Nat.le_trans HBS10.out hk11.size
   clear hd11 hi11 hf11 hk11 hD11 HP10 HC10 HB10 HBS10
   have hbA := alloc_below w11 (.cells #[] 43)
   have HP12 := hide (HP11.out.later hbA); have HC12 := hide (HC11.out.below hbA); have HB12 := hide (HB11.out.trans (hbA.mono HB11.out.size))
   have HBS12 : Hid (B ≤ (w11.alloc (.cells #[] 43)).heap.size) := Nat.le_trans HBS11.out hbA.size
   clear hbA HP11 HC11 HB11 HBS11
   go_wp2_with fail
   generalize w11.alloc (.cells #[] 43) = w12 at *
   refine (commit_any w12 B S6 B D11 100 h4 l4 n4 _ [] HP12.out (by decide) (by decide) (HT.out.below HB12.out) HBS12.out (fun W _ => ⟨_, _, rfl, Nat.zero_le _, fun h => absurd h (by simp)⟩) (fun q hq => by cases hq) (by decide) [] rfl).mono ?_
   rintro e w13 hcm
   obtain ⟨D13, h13, rfl, hp13, hf13, hk13⟩ := hcm.free HF11.out
   rw [show comF l4 [] 100 = 0 from rfl, show comL l4 [] 100 = l4 from rfl] at *
   obtain ⟨n13, hn13⟩ : ∃ x, comN l4 [] 100 n4 = x := ⟨_, rfl⟩
   rw [hn13] at hp13
   have HP13 := hide hp13; have HF13 := hide hf13; have HC13 := hide (HC12.out.keepK (keepK_keptS hk13)); have HB13 := hide (hk13.below HB12.out HBB.out HB12.out.size)
   have HBS13 : Hid (B ≤ w13.heap.size) := Nat.le_trans HBS12.out hk13.size
   clear hcm hp13 hf13 hk13 hn13 HP12 HC12 HB12 HBS12 HF11
   rw [show errV 0 = .nilIface from rfl]
   go_wp2_with fail
   refine (checkpoint_any w13 B S6 B D13 100 h13 l4 n13 HP13.out (by decide) (by decide) (HT.out.below HB13.out) HBS13.out).mono ?_
   rintro e w14 ⟨D14, b14, rfl, -, hk14, hok14, -, hfr14⟩
   obtain ⟨rfl, -⟩ := hfr14 HF13.out
   obtain ⟨h14, hp14⟩ := hok14 rfl
   have HP14 := hide hp14; have HC14 := hide (HC13.out.keepK (keepK_keptS hk14)); have HB14 := hide (hk14.below HB13.out HBB.out HB13.out.size)
   have HBS14 : Hid (B ≤ w14.heap.size) := Nat.le_trans HBS13.out hk14.size
   clear hp14 hk14 hok14 hfr14 HP13 HC13 HB13 HBS13 HF13
   rw [show okV true = .nilIface from rfl]
   go_wp2_with fail
   refine (open_any w14 B B D14 100 h14 l4 0 HP14.out.disk HP14.out.says (by decide) (by decide) (HT.out.below HB14.out) (HX.out.below HB14.out) HBS14.out).mono ?_
   rintro e w15 ⟨S15, rfl, -, hp15, hb15⟩
   obtain ⟨⟨L15, o15, n15, c15, q15, hx15, hc15, hq15, -⟩, -, -⟩ := hp15
   have X15 := hide hx15; have C15 := hide hc15; have Q15 := hide hq15; have HC15 := hide (HC14.out.below hb15); have HB15 := hide (HB14.out.trans (hb15.mono HB14.out.size))
   clear hx15 hc15 hq15 hb15 HP14 HC14 HB14 HBS14
   go_wp2_with fail
   refine (scat_any _ S15 B h14 o15 n15 c15 _ X15.out).mono ?_
   rintro e w16 ⟨rfl, hb16⟩
   have C16 := hide (C15.out.below hb16); have HC16 := hide (HC15.out.below hb16); have HB16 := hide (HB15.out.trans (hb16.mono HB15.out.size))
   have hq16 : q15.length ≤ 100 := by have := OK6.out.few; rw [← Q15.out, List.length_map] at this; omega
   clear hb16 C15 X15 HC15 HB15
   go_wp2_with fail
   refine (lattices_any2 w16 _ q15 ⟨_, rfl, C16.out⟩ hq16 (by rw [Q15.out]; exact OK6.out.all)).mono ?_
   rintro e w17 ⟨u, ts, rfl, hc17, hm17, hb17⟩
   obtain ⟨o17, k17, rfl, -⟩ := id hc17
   have HTS : Hid (ts.map (·.x) = l4) := by show _ = _; rw [hm17]; exact Q15.out
   have HC17 := hide hc17; have HG17 := hide (HC16.out.below hb17); have HB17 := hide (HB16.out.trans (hb17.mono HB16.out.size))
   have htl : ts.length ≤ 1000 := by have := congrArg List.length hm17; rw [List.length_map, List.length_map] at this; omega
   have HSZ2 : Hid (∀ p ∈ ts, p.x.gens.length ≤ 1000 ∧ ∀ g ∈ p.x.gens, g.length ≤ 1000000) := fun p hp => nm_sizesC (OK6.out.all p.x (by rw [← HTS.out]; exact List.mem_map.2 ⟨p, hp, rfl⟩))
   clear hc17 hm17 hb17 hq16 C16 HC16 HB16
   go_wp2_with fail
   refine (sameCatalog_any w17 _ _ ts rs HC17.out HG17.out htl HSZ2.out true (by rw [HTS.out, HRS.out]; simp)).mono ?_
   rintro e w18 ⟨rfl, hb18⟩
   have HB18 := hide (HB17.out.trans (hb18.mono HB17.out.size))
   clear hb18
   go_wp2
   go_ret
   exact ⟨rfl, HB18.out⟩

end Go.Proofs.YtnhbfehfipafoaaGreatDoor

/- Whole numbers that came in, in a row: as they read. -/
namespace Go.Proofs.YtnhbfehfipafoaaGreatDoor
open Go.ChangeShapes Go.WideShapes Go.ChangeAt Go.RowKit Go.Joins Limbs

theorem Tryz.cellsIntS : Tryz.prog.cellsOf 41 = 1 := by kernel_rfl
theorem Tryz.cellsInt : Tryz.prog.cellsOf 3 = 1 := by kernel_rfl

set_option maxRecDepth 100000 in
theorem open_rowS {H : Type} {enc : TypeId × Value → H} {W : World} {n : Nat} {v : Value} {y : DataW H × List MemPlace}
  (h : DataW.trod enc Tryz.prog W 0 (fun _ => true) true n 41 [v] = some y) : ∃ ks, RowS W v ks := by
 rcases open_ints Tryz.underlying41 Tryz.underlying3 Tryz.cellsInt h with ⟨hcs, _⟩ | ⟨x, l, c, zs, hcs, _, hl, hm, hz, _, hcell, hwz⟩
 ·simp only [List.cons.injEq, and_true] at hcs
  subst hcs
  exact ⟨[], none, 0, rfl, Nat.le_refl _, fun i => by simp, fun h => absurd h (by simp)⟩
 ·simp only [List.cons.injEq, and_true] at hcs
  subst hcs
  have hz' : zs.length = c := by simpa using hz
  have hlen : (zs.take l).length = l := by rw [List.length_take]; omega
  refine ⟨zs.take l, some x, c, by rw [hlen], by rw [hlen]; exact hl, fun i => ?_, fun h0 => ?_⟩
  ·by_cases hi : i < (zs.take l).length
   ·rw [List.getD_eq_getElem?_getD, List.getElem?_eq_getElem hi, Option.getD_some]
    have := hwz _ (List.mem_of_mem_take (List.getElem_mem hi))
    simp [Lit.wf, IntKind.min, IntKind.max, IntKind.signed, IntKind.bits] at this
    rw [List.getElem_take]
    omega
   ·rw [List.getD_eq_getElem?_getD, List.getElem?_eq_none (by omega)]
    simp
  ·obtain ⟨blk, off, spot⟩ := x
   rw [hlen] at h0
   have h00 := hcell 0 (by omega)
   have hspot : spot = none := by simpa [Addr.add] using World.cell?_spot h00
   subst hspot
   refine ⟨blk, off, rfl, World.block_lt_of_cell? W _ h00, fun i hi => ?_⟩
   rw [hlen] at hi
   have := hcell i (by omega)
   rw [getD_take zs l i (by omega)]
   by_cases hi0 : i = 0
   ·subst hi0; simpa [Addr.add] using this
   ·simpa [Addr.add, hi0] using this

end Go.Proofs.YtnhbfehfipafoaaGreatDoor

/- Operations that came in, as they read: all four cells. -/
namespace Go.Proofs.YtnhbfehfipafoaaGreatDoor
open Go.ChangeShapes Go.WideShapes Go.ChangeAt Go.RowKit Go.Joins

theorem Tryz.cellsOpF : Tryz.prog.cellsOf 43 = 4 := by kernel_rfl
theorem Tryz.cellsStrF : Tryz.prog.cellsOf 9 = 1 := by kernel_rfl

instance : Inhabited OpC := ⟨⟨⟨0, ⟨#[]⟩, 0, []⟩, none, 0⟩⟩

section
variable {H : Type} {enc : TypeId × Value → H} {W : World}

set_option maxRecDepth 100000 in
theorem open_opF {n : Nat} {cs : List Value} {y : DataW H × List MemPlace} (h : DataW.trod enc Tryz.prog W 0 (fun _ => true) true n 43 cs = some y) :
  ∃ q : OpC, cs[0]? = some (.int .i64 q.o.kind) ∧ cs[1]? = some (.string q.o.name) ∧ cs[2]? = some (.int .i64 q.o.n) ∧ cs[3]? = some q.row ∧ RowS W q.row q.o.v := by
 obtain ⟨xs, k, -, -, hl, hxl, hf⟩ := DataW.trod_struct Tryz.underlying43 h
 rw [Tryz.cellsOpF] at hl
 match cs, hl with
 | [v0, v1, v2, v3], _ =>
  match xs, hxl with
  | [x0, x1, x2, x3], _ =>
   have g0 : DataW.trod enc Tryz.prog W 0 (fun _ => true) true k 3 (([v0, v1, v2, v3].drop 0).take (Tryz.prog.cellsOf 3)) = [x0, x1, x2, x3][0]? := hf 0 _ rfl
   have g1 : DataW.trod enc Tryz.prog W 0 (fun _ => true) true k 9 (([v0, v1, v2, v3].drop 1).take (Tryz.prog.cellsOf 9)) = [x0, x1, x2, x3][1]? := hf 1 _ rfl
   have g2 : DataW.trod enc Tryz.prog W 0 (fun _ => true) true k 3 (([v0, v1, v2, v3].drop 2).take (Tryz.prog.cellsOf 3)) = [x0, x1, x2, x3][2]? := hf 2 _ rfl
   have g3 : DataW.trod enc Tryz.prog W 0 (fun _ => true) true k 41 (([v0, v1, v2, v3].drop 3).take (Tryz.prog.cellsOf 41)) = [x0, x1, x2, x3][3]? := hf 3 _ rfl
   rw [Tryz.cellsInt] at g0 g2
   rw [Tryz.cellsStrF] at g1
   rw [Tryz.cellsIntS] at g3
   obtain ⟨kd, e0, -, -⟩ := DataW.trod_int Tryz.underlying3 g0
   obtain ⟨name, e1, -, -⟩ := DataW.trod_string Tryz.underlying9 g1
   obtain ⟨nn, e2, -, -⟩ := DataW.trod_int Tryz.underlying3 g2
   obtain ⟨ks, hr⟩ := open_rowS (v := v3) g3
   have e0' : v0 = .int .i64 kd := by simpa using e0
   have e1' : v1 = .string name := by simpa using e1
   have e2' : v2 = .int .i64 nn := by simpa using e2
   obtain ⟨vo, vc, e3'⟩ := RowS.form hr
   subst e0' e1' e2' e3'
   exact ⟨⟨⟨kd, name, nn, ks⟩, vo, vc⟩, rfl, rfl, rfl, rfl, hr⟩

set_option maxRecDepth 100000 in
theorem open_opsN {n : Nat} {v : Value} {y : DataW H × List MemPlace} (h : DataW.trod enc Tryz.prog W 0 (fun _ => true) true n 44 [v] = some y) : ∃ os, OpsN W v os := by
 rcases Go.Deep.open_slice Tryz.underlying44 h with ⟨e, -⟩ | ⟨a, l, c, m, n, D, Pl, e, -, hl, hm, hmm, -, hc⟩
 ·have e' : v = .slice none 0 0 := by simpa using e
  exact ⟨[], none, 0, e', by decide, fun h => absurd h (by decide)⟩
 ·have e' : v = .slice (some a) l c := by simpa using e
  have hm' : l ≤ m := by simp at hmm; omega
  have each : ∀ i, i < l → ∃ q : OpC, W.cell? (a.add (i * 4 + 0)) = some (.int .i64 q.o.kind) ∧ W.cell? (a.add (i * 4 + 1)) = some (.string q.o.name) ∧ W.cell? (a.add (i * 4 + 2)) = some (.int .i64 q.o.n) ∧ W.cell? (a.add (i * 4 + 3)) = some q.row ∧ RowS W q.row q.o.v := fun i hi => by
   obtain ⟨cs, h1, h2⟩ := hc i (by omega)
   rw [Tryz.cellsOpF] at h1
   obtain ⟨-, hlen, hcell⟩ := World.cells?_some h1
   obtain ⟨q, e0, e1, e2, e3, hr⟩ := open_opF h2
   have c0 := hcell 0 (by omega)
   have c1 := hcell 1 (by omega)
   have c2 := hcell 2 (by omega)
   have c3 := hcell 3 (by omega)
   rw [Go.Deep.add_add, e0] at c0
   rw [Go.Deep.add_add, e1] at c1
   rw [Go.Deep.add_add, e2] at c2
   rw [Go.Deep.add_add, e3] at c3
   exact ⟨q, c0, c1, c2, c3, hr⟩
  obtain ⟨q, hq⟩ := Go.Deep.choose_lt each
  have hlen : ((List.range l).map q).length = l := by simp
  refine ⟨(List.range l).map q, some a, c, by rw [hlen]; exact e', by rw [hlen]; exact hl, fun h0 => ?_⟩
  rw [hlen] at h0
  obtain ⟨k0, -⟩ := hq 0 h0
  obtain ⟨blk, off, spot⟩ := a
  have hsp : spot = none := by simpa [Addr.add] using World.cell?_spot k0
  subst hsp
  refine ⟨blk, off, rfl, by simpa [Addr.add] using World.block_lt_of_cell? W _ k0, fun i r hi => ?_⟩
  obtain ⟨hi', e⟩ := List.getElem?_eq_some_iff.1 hi
  rw [hlen] at hi'
  have e2 : r = q i := by simpa using e.symm
  obtain ⟨c0, c1, c2, c3, hr⟩ := hq i hi'
  rw [Go.WideShapes.add_plain] at c0 c1 c2 c3
  rw [e2]
  refine ⟨by simpa using c0, ?_, ?_, ?_, hr⟩
  ·rw [Nat.add_assoc]; exact c1
  ·rw [Nat.add_assoc]; exact c2
  ·rw [Nat.add_assoc]; exact c3

end

end Go.Proofs.YtnhbfehfipafoaaGreatDoor

/- Deeds that came in, as they read. -/
namespace Go.Proofs.YtnhbfehfipafoaaGreatDoor
open Go.ChangeShapes Go.WideShapes Go.ChangeAt Go.RowKit Go.Joins

theorem Tryz.cellsOpsD : Tryz.prog.cellsOf 44 = 1 := by kernel_rfl

instance : Inhabited (Value × List OpC) := ⟨(.bool false, [])⟩

set_option maxRecDepth 100000 in
theorem open_deeds {H : Type} {enc : TypeId × Value → H} {W : World} {r : Reach} {b0 : Nat} {v : Value} {d : DataW H} {p : List MemPlace}
  (hv : Value.okWide Tryz.prog W r b0 69 v) (h : DataW.Trod enc Tryz.prog W 0 (fun _ => true) true 69 v d p) :
  ∃ dss, DeedsN W v dss := by
 obtain ⟨a0, len, cap, rfl⟩ := okWide_slice Tryz.underlying69 hv
 obtain ⟨fuel, hf⟩ := h
 rcases Go.Deep.open_slice1 Tryz.underlying69 Tryz.cellsOpsD hf with ⟨hcs, _⟩ | ⟨a, l, c, m, n, V, D, Pl, hcs, _, hl, hm, hmm, _, hc⟩
 ·simp [Value.cells] at hcs
  obtain ⟨rfl, rfl, rfl⟩ := hcs
  exact ⟨[], none, 0, rfl, by simp, fun h => absurd h (by simp)⟩
 ·simp [Value.cells] at hcs
  obtain ⟨rfl, rfl, rfl⟩ := hcs
  have hm' : len ≤ m := by simp at hmm; omega
  have each : ∀ i, i < len → ∃ p : Value × List OpC, p.1 = V i ∧ OpsN W (V i) p.2 := fun i hi => by
   obtain ⟨os, ho⟩ := open_opsN (hc i (by omega)).2
   exact ⟨(V i, os), rfl, ho⟩
  obtain ⟨q, hq⟩ := Go.Deep.choose_lt each
  have hlen : ((List.range len).map q).length = len := by simp
  refine ⟨(List.range len).map q, some a, cap, by rw [hlen], by rw [hlen]; exact hl, fun h0 => ?_⟩
  rw [hlen] at h0
  obtain ⟨k0, -⟩ := hc 0 (by omega)
  obtain ⟨blk, off, spot⟩ := a
  have hsp : spot = none := by simpa [Addr.add] using World.cell?_spot k0
  subst hsp
  refine ⟨blk, off, rfl, by simpa [Addr.add] using World.block_lt_of_cell? W _ k0, fun i r hi => ?_⟩
  obtain ⟨hi', e⟩ := List.getElem?_eq_some_iff.1 hi
  rw [hlen] at hi'
  have e' : r = q i := by simpa using e.symm
  obtain ⟨c0, -⟩ := hc i (by omega)
  obtain ⟨q0, q1⟩ := hq i hi'
  rw [Go.WideShapes.add_plain] at c0
  rw [e', q0]
  exact ⟨c0, q1⟩

end Go.Proofs.YtnhbfehfipafoaaGreatDoor
