/- TopHermite: the one form, and its own one. -/
import Derived.Test.YtjblidoilphifacDoorTHD
import Derived.Deep.Cut
namespace Go.Proofs.YtjblidoilphifacDoor
open Go.RowKit Limbs

set_option linter.unusedSimpArgs false in
set_option maxRecDepth 100000 in
set_option maxHeartbeats 6400000 in
theorem topHermite_C (w W : World) (mo : Option Addr) (mcap : Nat) (nI iv jv : Int) (rss : List (List Raw)) (kn : Bool) (ko : Option Addr) (kc : Nat) (kz : List Int) (r : Bool) (hbe : Below w.heap.size w W) (hC : MatC w (.slice mo rss.length mcap) rss) (hr : r = true ↔ LightP rss nI) (hkl : kz.length ≤ 9223372036854775807) (hkc : kz.length ≤ 1000000 → Lim w (.slice ko kz.length kc) kz) (hkb : Box W w.heap.size (.bool kn) (.slice ko kz.length kc)) (hks : w.heap.size < W.heap.size) (sl4 sl5 sl6 sl7 sl8 sl10 sl11 sl12 sl14 sl15 sl16 sl17 sl18 sl19 sl20 sl21 sl22 sl23 sl24 sl25 sl26 sl27 sl28 sl29 sl30 sl31 sl32 sl33 sl34 sl35 sl36 sl37 sl38 sl39 sl40 sl41 sl42 sl43 sl44 sl45 sl46 sl47 sl48 sl49 sl50 sl51 sl52 sl53 sl54 sl55 sl56 sl57 sl58 sl59 sl60 sl61 sl62 sl63 sl64 sl65 sl66 sl67 sl68 sl69 sl70 sl71 sl72 sl73 sl74 sl75 sl76 sl77 sl78 sl79 sl80 sl81 sl82 sl83 sl84 sl85 sl86 sl87 sl88 sl89 sl90 sl91 sl92 sl93 sl94 sl95 sl96 sl97 sl98 sl99 sl100 sl101 sl102 sl103 sl104 sl105 sl106 sl107 sl108 sl109 sl110 sl111 sl112 sl113 sl114 sl115 sl116 sl117 sl118 sl119 sl120 sl121 sl122 sl123 sl124 sl125 sl126 sl127 sl128 sl129 sl130 sl131 sl132 sl133 sl134 sl135 sl136 sl137 sl138 sl139 sl140 sl141 sl142 sl143 sl144 sl145 sl146 sl147 sl148 sl149 sl150 sl151 sl152 sl153 sl154 sl155 sl156 sl157 sl158 sl159 sl160 sl161 sl162 sl163 sl164 sl165 sl166 sl167 sl168 sl169 sl170 sl171 sl172 sl173 sl174 sl175 sl176 sl177 sl178 sl179 : Value) :
    (Code.tl (Code.tl (Code.tl (Code.tl ((Tryd.f4.body).getD .skip))))).wp Tryd.prog (bodyPost Tryd.prog Tryd.f4 (fun e w' => e = .returned (.bool true) ∧ Below w.heap.size w w')) ⟨#[(.slice mo rss.length mcap), (.int .i64 nI), (.int .i64 iv), (.int .i64 jv), sl4, sl5, sl6, sl7, sl8, (.pointer (some ⟨w.heap.size, 0, none⟩)), sl10, sl11, sl12, (.bool r), sl14, sl15, sl16, sl17, sl18, sl19, sl20, sl21, sl22, sl23, sl24, sl25, sl26, sl27, sl28, sl29, sl30, sl31, sl32, sl33, sl34, sl35, sl36, sl37, sl38, sl39, sl40, sl41, sl42, sl43, sl44, sl45, sl46, sl47, sl48, sl49, sl50, sl51, sl52, sl53, sl54, sl55, sl56, sl57, sl58, sl59, sl60, sl61, sl62, sl63, sl64, sl65, sl66, sl67, sl68, sl69, sl70, sl71, sl72, sl73, sl74, sl75, sl76, sl77, sl78, sl79, sl80, sl81, sl82, sl83, sl84, sl85, sl86, sl87, sl88, sl89, sl90, sl91, sl92, sl93, sl94, sl95, sl96, sl97, sl98, sl99, sl100, sl101, sl102, sl103, sl104, sl105, sl106, sl107, sl108, sl109, sl110, sl111, sl112, sl113, sl114, sl115, sl116, sl117, sl118, sl119, sl120, sl121, sl122, sl123, sl124, sl125, sl126, sl127, sl128, sl129, sl130, sl131, sl132, sl133, sl134, sl135, sl136, sl137, sl138, sl139, sl140, sl141, sl142, sl143, sl144, sl145, sl146, sl147, sl148, sl149, sl150, sl151, sl152, sl153, sl154, sl155, sl156, sl157, sl158, sl159, sl160, sl161, sl162, sl163, sl164, sl165, sl166, sl167, sl168, sl169, sl170, sl171, sl172, sl173, sl174, sl175, sl176, sl177, sl178, sl179], []⟩ W := by
  simp only [Code.tl, Tryd.f4, Option.getD_some]
  have HC := hide hC; have HR := hide hr; have HKC := hide hkc; have HKB := hide hkb; have HBE := hide hbe
  clear hC hr hkc hbe
  obtain ⟨k0, k1, -, -⟩ := hkb
  cases r
  · clear HR
    go_wp2
    go_ret
    exact ⟨rfl, HBE.out⟩
  · obtain ⟨hlm, h6, hck⟩ := HR.out.1 rfl
    clear HR
    by_cases hk3 : 3 < kz.length
    · have hk3' : decide ((3 : Int) < (kz.length : Int)) = true := decide_eq_true (by omega)
      go_wp2
      go_ret
      exact ⟨rfl, HBE.out⟩
    · have hk3' : decide ((3 : Int) < (kz.length : Int)) = false := decide_eq_false (by omega)
      have HL := hide (HKC.out (by omega))
      have HCH := hide (check_any W kn _ kz (HL.out.below HBE.out (Nat.le_refl _)))
      cases hnum : isNum kn kz
      · rw [hnum] at HCH
        have e3 : checked false = .iface 79 (.int .i64 3) := rfl
        rw [e3] at HCH
        clear hnum e3
        go_wp2_with fail
        refine HCH.out.mono ?_
        rintro e w1 ⟨rfl, hb1⟩
        have HB1 := hide (HBE.out.trans (hb1.mono HBE.out.size))
        clear hb1 HCH
        go_wp2
        go_ret
        exact ⟨rfl, HB1.out⟩
      · rw [hnum] at HCH
        have e3 : checked true = .nilIface := rfl
        rw [e3] at HCH
        obtain ⟨hn1, hn8, -, hrs⟩ := checkedM_nil.1 hck
        obtain ⟨n, rfl⟩ : ∃ n : Nat, nI = (n : Int) := ⟨nI.toNat, by omega⟩
        have hlv := (lightM_parts hlm).2
        have HK := hide (NumL.of_isNum hnum HL.out (show kz.length ≤ 3 by omega))
        have hMN := (HC.out.light hlv).toN (n := 8) (fun rs h => (hrs rs h).2) (fun rs h => lightV_eight (hlv rs h))
        obtain ⟨ms, hms⟩ : ∃ ms, rss.map (·.map Raw.z) = ms := ⟨_, rfl⟩
        have hlen : rss.length = ms.length := by rw [← hms, List.length_map]
        have hml : ∀ us ∈ ms, us.length = n := fun us h => by
          rw [← hms] at h
          obtain ⟨rs, h1, rfl⟩ := List.mem_map.1 h
          rw [List.length_map]
          have := (hrs rs h1).1
          omega
        rw [hms, hlen] at hMN
        rw [hlen]
        have hm6 : ms.length ≤ 6 := by omega
        have HM := hide hMN; have HML := hide hml
        clear hms hlen hlv hlm h6 hck hrs hnum e3 HC HKC HL hMN hml
        replace hn1 : 1 ≤ n := by omega
        replace hn8 : n ≤ 8 := by omega
        generalize sg kn (lv kz) = z at *
        generalize hkzl : kz.length = kl at *
        clear hkzl hkl hk3
        go_wp2_with fail
        refine HCH.out.mono ?_
        rintro e w0 ⟨rfl, hb0⟩
        have HB0 := hide (HBE.out.trans (hb0.mono HBE.out.size))
        have HKB0 := hide (HKB.out.later hb0 hks)
        have hks0 : w.heap.size < w0.heap.size := Nat.lt_of_lt_of_le hks hb0.size
        have HHE := hide (hermite_any w0 _ ms n 8 (HM.out.below HB0.out (Nat.le_refl _)) HML.out hn1 hn8 (by omega) (nb_ok n (by omega)).1)
        clear hb0 HCH HKB HBE hks k0 k1
        have HKB := HKB0; have HBE := HB0; have hks := hks0
        clear HKB0 HB0 hks0
        go_wp2_with fail
        refine HHE.out.mono ?_
        rintro e w1 ⟨vh, hs, p, rfl, h1, h2, h3, h4, h5⟩
        have HH1 := hide h1; have HF := hide h4; have HA := hide h5; have HB1 := hide h3
        have hlr := h4.len
        have HH2 := hide (hermite_any w1 vh hs n (n * 8 + 2) h1 hlr hn1 hn8 (by omega) (nb_ok n (by omega)).2.1)
        have HLR := hide hlr
        clear h3 h4 h5 HHE hlr
        obtain ⟨ho, hcap, rfl, -, -⟩ := h1
        go_wp2_with fail
        refine HH2.out.mono ?_
        rintro e w2 ⟨vg, gs, p2, rfl, g1, g2, g3, g4, g5⟩
        obtain rfl : gs = hs := formL_one g4 HF.out g5
        have HB2 := hide g3; have HG := hide g1
        have HFT := hide (form_any w2 _ gs n _ p (HH1.out.below g3 (Nat.le_refl _)) HF.out (by omega) (by omega))
        clear g2 g3 g4 g5 HH2
        obtain ⟨go, gcap, rfl, -, -⟩ := g1
        go_wp2_with fail
        refine HFT.out.mono ?_
        rintro e w3 ⟨rfl, hb3⟩
        have HB3 := hide hb3
        have HH3 := hide ((HH1.out.below HB2.out (Nat.le_refl _)).below hb3 (Nat.le_refl _))
        have HG3 := hide (HG.out.below hb3 (Nat.le_refl _))
        have HSM : Hid (∀ w', Below w3.heap.size w3 w' → Calls Tryd.prog 22 #[.slice go gs.length gcap, .slice ho gs.length hcap] w' fun e w'' => e = .returned (.bool true) ∧ Below w'.heap.size w' w'') := fun w' hb =>
          same_any w' _ _ gs gs _ _ (HG3.out.below hb (Nat.le_refl _)) (HH3.out.below hb (Nat.le_refl _)) (by omega) (fun zs hz => by rw [HLR.out zs hz]; omega) true (by simp)
        have HBW := hide (HBE.out.trans (((HB1.out.trans (HB2.out.mono HB1.out.size)).trans (hb3.mono (Nat.le_trans HB1.out.size HB2.out.size))).mono HBE.out.size))
        have HKB3 := hide (((HKB.out.later HB1.out hks).later HB2.out (Nat.lt_of_lt_of_le hks HB1.out.size)).later hb3 (Nat.lt_of_lt_of_le hks (Nat.le_trans HB1.out.size HB2.out.size)))
        have hks3 : w.heap.size < w3.heap.size := Nat.lt_of_lt_of_le hks (Nat.le_trans HB1.out.size (Nat.le_trans HB2.out.size hb3.size))
        clear hb3 HFT HB1 HB2 HB3 HH1 HG HG3 HKB HBE hks
        by_cases hm0 : ms.length = 0
        · have hz1 : ((ms.length : Int) == 0) = true := by rw [beq_iff_eq]; omega
          go_wp2_with fail
          refine (HSM.out w3 (Below.refl _ _)).mono ?_
          rintro e w4 ⟨rfl, hb4⟩
          have HB4 := hide hb4
          clear hb4
          go_wp2_with fail
          refine (HSM.out w4 HB4.out).mono ?_
          rintro e w5 ⟨rfl, hb5⟩
          have HB5 := hide (HBW.out.trans ((HB4.out.trans (hb5.mono HB4.out.size)).mono HBW.out.size))
          clear hb5
          go_wp2
          go_ret
          exact ⟨rfl, HB5.out⟩
        · have hz1 : ((ms.length : Int) == 0) = false := by rw [beq_eq_false_iff_ne]; omega
          obtain ⟨a, ea, hal⟩ := place iv ms.length (by omega)
          go_upto_region 14 with (go_at_call 22; refine (HSM.out w3 (Below.refl _ _)).mono ?_; rintro e w4 ⟨rfl, hb4⟩; have HB4 := hide hb4; clear hb4)
          go_cut [17] from 25 (fun v wc => v = .int .i64 (a : Int) ∧ wc = w4)
          case first =>
            go_wp2
            go_meet
            case rel => exact ⟨rfl, rfl⟩
          case rest =>
          obtain ⟨rfl, rfl⟩ := hcut
          apply_assumption
          exact topHermite_D w _ mo mcap n a jv _ ms gs p kn ko kl kc z (HBW.out.trans (HB4.out.mono HBW.out.size)) HM.out HML.out hn1 hn8 (by omega) hm6 HK.out (HKB3.out.later HB4.out hks3) (Nat.lt_of_lt_of_le hks3 HB4.out.size) (HH3.out.below HB4.out (Nat.le_refl _)) HF.out HA.out h2 hal _ _ _ _ _ _ _ _ _ _ _ _ _ _ _ _ _ _ _ _ _ _ _ _ _ _ _ _ _ _ _ _ _ _ _ _ _ _ _ _ _ _ _ _ _ _ _ _ _ _ _ _ _ _ _ _ _ _ _ _ _ _ _ _ _ _ _ _ _ _ _ _ _ _ _ _ _ _ _ _ _ _ _ _ _ _ _ _ _ _ _ _ _ _ _ _ _ _ _ _ _ _ _ _ _ _ _ _ _ _ _ _ _ _ _ _ _ _ _ _ _ _ _ _ _ _ _ _ _ _ _ _ _ _ _ _ _ _ _ _ _ _ _ _ _ _ _ _ _ _ _ _ _ _ _ _ _ _ _ _ _ _ _ _ _ _ _ _ _ _ _ _ _ _

end Go.Proofs.YtjblidoilphifacDoor
