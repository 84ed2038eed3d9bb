/- DetSays, walked: what is made of rows is what the document's words say. -/
import Derived.Test.YtdedolkgcdlmeaaGreatDoorTurnL
import Derived.Test.YtdedolkgcdlmeaaGreatDoorFormB
import Derived.Test.YtdedolkgcdlmeaaGreatDoorDetZ
import Derived.Test.YtdedolkgcdlmeaaGreatDoorMatLt
namespace Go.Proofs.YtdedolkgcdlmeaaGreatDoor
open Go.RowKit Limbs Digs

set_option linter.unusedSimpArgs false in
set_option maxRecDepth 100000 in
set_option maxHeartbeats 3200000 in
theorem det_bad (w : World) (v : Value) (rss : List (List Raw)) (c : Int) (hv : MatL w v rss) (hc : checkedM rss (rss.length : Int) = .iface 102 (.int .i64 c)) :
    Calls Tryz.prog 12 #[v] w fun e w' => e = .returned (.tuple #[.agg #[.bool false, .slice none 0 0], .iface 102 (.int .i64 c)]) ∧ Below w.heap.size w w' := by
  have HB0 := hide (below_new w (.cells #[.bool false, .slice none 0 0] 29))
  have HX0 := hide (BoxL.new w (.bool false) (.slice none 0 0) 29)
  have HC := hide (checkM_any (w.alloc (.cells #[.bool false, .slice none 0 0] 29)) v rss (rss.length : Int) (hv.below HB0.out (Nat.le_refl _)))
  rw [hc] at HC
  obtain ⟨ao, cap, rfl, -, -⟩ := hv
  clear hc
  go_enter Tryz.func12, Tryz.ntmps12
  go_wp2_with fail
  refine HC.out.mono ?_
  rintro e w1 ⟨rfl, hb1⟩
  have HX1 := hide (HX0.out.later hb1)
  have HB1 := hide (HB0.out.trans (hb1.mono HB0.out.size))
  have HB2 := hide ((HB1.out.setCell (p := ⟨w.heap.size, 0, none⟩) (Nat.le_refl _) (.bool false)).setCell (p := ⟨w.heap.size, 1, none⟩) (Nat.le_refl _) (.slice none 0 0))
  have Z := hide (HX1.out.1.write (.bool false) (.slice none 0 0))
  obtain ⟨x0, x1, x2, x3⟩ := HX1.out.1
  obtain ⟨z0, z1, -, -⟩ := Z.out
  clear hb1 HC
  go_wp2
  exact bodyPost_ret (v := .tuple #[.agg #[.bool false, .slice none 0 0], .iface 102 (.int .i64 c)]) (by simp [results, Tryz.results12, go_sem, z0, z1]) rfl ⟨rfl, HB2.out⟩

theorem nought_num (w : World) : NumL w (.agg #[.bool false, .slice none 0 0]) 0 1 := NumL.nought w 1

set_option linter.unusedSimpArgs false in
set_option maxRecDepth 100000 in
set_option maxHeartbeats 6400000 in
theorem detSays_any (w : World) (ht : Tab w) (vm : Value) {rss : List (List Raw)} (hC : MatC w vm rss) :
    Calls Tryz.prog 3 #[vm] w fun e w' => e = .returned (.bool true) ∧ Below w.heap.size w w' := by
  have HT := hide ht; have HC := hide hC
  obtain ⟨mo, mcap, rfl, -, -, -⟩ := hC
  clear ht
  go_enter Tryz.func3, Tryz.ntmps3
  go_wp2_with fail
  refine (mats_any w HT.out).mono ?_
  rintro e w1 ⟨rfl, hb1⟩
  have HB1 := hide hb1
  have HLM := hide (lightM_any w1 _ rss 40 (HC.out.below hb1) (lightM rss 40) rfl)
  clear hb1
  cases hlm : lightM rss 40
  · rw [hlm] at HLM
    clear hlm
    go_wp2_with fail
    refine HLM.out.mono ?_
    rintro e w1' ⟨rfl, rfl⟩
    go_wp2
    go_ret
    exact ⟨rfl, HB1.out⟩
  · rw [hlm] at HLM
    obtain ⟨h14, hlv⟩ := lightM_parts hlm
    have HML := hide (HC.out.light hlv)
    by_cases h9 : 9 < rss.length
    · have g9 : decide ((9 : Int) < (rss.length : Int)) = true := decide_eq_true (by omega)
      clear hlm
      go_wp2_with fail
      refine HLM.out.mono ?_
      rintro e w1' ⟨rfl, rfl⟩
      go_wp2
      go_ret
      exact ⟨rfl, HB1.out⟩
    · have g9 : decide ((9 : Int) < (rss.length : Int)) = false := decide_eq_false (by omega)
      go_wp2_with fail
      refine HLM.out.mono ?_
      rintro e w1' ⟨rfl, rfl⟩
      go_wp2_with fail
      refine (matFault_any _ _ rss (rss.length : Int) (HML.out.below HB1.out (Nat.le_refl _))).mono ?_
      rintro e w2 ⟨rfl, hb2⟩
      have HB2 := hide (HB1.out.trans (hb2.mono HB1.out.size))
      clear hb2 HLM
      rcases fault_same rss (rss.length : Int) with ⟨hc0, hf0⟩ | ⟨c, hc0, hck, hfk⟩
      · rw [hf0]
        obtain ⟨hn1, hn8, -, hrs⟩ := checkedM_nil.1 hc0
        have hMN := HML.out.toN (n := 8) (fun rs h => (hrs rs h).2) (fun rs h => lightV_eight (hlv rs h))
        obtain ⟨ms, hms⟩ : ∃ ms, rss.map (·.map Raw.z) = ms := ⟨_, rfl⟩
        have hlen : rss.length = ms.length := by rw [← hms, List.length_map]
        have hml : ∀ us ∈ ms, us.length = ms.length := fun us h => by
          rw [← hms] at h
          obtain ⟨rs, h1, rfl⟩ := List.mem_map.1 h
          rw [List.length_map]
          have := (hrs rs h1).1
          omega
        rw [hms, hlen] at hMN
        have hm1 : 1 ≤ ms.length := by omega
        have hm8 : ms.length ≤ 8 := by omega
        rw [hlen]
        have HM := hide hMN; have HRL := hide hml
        clear hms hlen hlv hlm h14 hrs HC HML hMN hml hc0 hf0 hn1 hn8 h9 g9
        go_wp2_with fail
        refine (det_start w2 _ ms ms.length 8 (HM.out.below HB2.out (Nat.le_refl _)) rfl HRL.out hm1 hm8 (by omega)).mono ?_
        rintro e w3 ⟨v3, rfl, hv3, hb3⟩
        obtain ⟨⟨dn, dO, dL, dC⟩, rfl⟩ := hv3.nm
        have hN3 := below_new w3 (.cells #[.bool dn, .slice dO dL dC] 29)
        have HD4 := hide (BoxL.new w3 (.bool dn) (.slice dO dL dC) 29); have ND4 := hide (hv3.below hN3 (Nat.le_refl _))
        have HB4 := hide (HB2.out.trans ((hb3.trans (hN3.mono hb3.size)).mono HB2.out.size))
        clear hv3 hb3 hN3
        go_wp2_with fail
        generalize (w3.alloc (.cells #[.bool dn, .slice dO dL dC] 29)) = W4 at *
        generalize w3.heap.size = DB at *
        refine (same_zero W4).mono ?_
        rintro e w4' ⟨rfl, rfl⟩
        by_cases h5 : 5 < ms.length
        · have g5 : decide ((5 : Int) < (ms.length : Int)) = true := decide_eq_true (by omega)
          go_wp2
          go_ret
          exact ⟨rfl, HB4.out⟩
        · have g5 : decide ((5 : Int) < (ms.length : Int)) = false := decide_eq_false (by omega)
          have HDD := hide (dD_five ms.length (by omega))
          obtain ⟨d0, d1, -, -⟩ := HD4.out.1
          have ld := HD4.out.2
          go_upto_region 10 with fail
          go_region_held3 (fun w' => w'.cell? ⟨DB, 0, none⟩ = some (.bool dn) ∧ w'.cell? ⟨DB, 1, none⟩ = some (.slice dO dL dC)) (go_keep)
            (first
              | (go_at_call 18; refine (fromMat_any _ _ ms 8 (by exact (HM.out.below HB4.out (Nat.le_refl _)).below (Below.refl w4'.heap.size w4').drew (Nat.le_refl _)) (by decide) (by omega) (fun zs h => by rw [HRL.out zs h]; omega)).mono ?_; rintro e w5 ⟨u5, rfl, hu5, hb5'⟩; have hb5 : Below w4'.heap.size w4' w5 := (Below.refl _ _).drew.trans (hb5'.mono (by simp)); have p0 := (hb5.cell (p := ⟨DB, 0, none⟩) ld).trans d0; have p1 := (hb5.cell (p := ⟨DB, 1, none⟩) ld).trans d1; have HU5 := hide hu5; have HB5 := hide hb5; clear hu5 hb5 hb5')
              | (go_at_call 17; refine (detR_any 24 (by decide) (by decide) ms.length (by omega) w5 _ ms (by exact HU5.out) rfl HRL.out).mono ?_; rintro e w6 ⟨u6, rfl, hu6, hb6'⟩; have hb6 : Below w4'.heap.size w4' w6 := HB5.out.trans (hb6'.mono HB5.out.size); have k0 := (hb6.cell (p := ⟨DB, 0, none⟩) ld).trans d0; have k1 := (hb6.cell (p := ⟨DB, 1, none⟩) ld).trans d1; have NU6 := hide hu6; have HB6 := hide hb6; clear hu6 hb6 hb6')
              | (go_at_call 16; refine (intR_any w6 _ _ _ (by exact NU6.out) (by have := HDD.out; omega)).mono ?_; rintro e w7 ⟨u7, rfl, hu7, hb7'⟩; have hb7 : Below w4'.heap.size w4' w7 := HB6.out.trans (hb7'.mono HB6.out.size); have q0 := (hb7.cell (p := ⟨DB, 0, none⟩) ld).trans d0; have q1 := (hb7.cell (p := ⟨DB, 1, none⟩) ld).trans d1; have NU7 := hide hu7; have HB7 := hide hb7; clear hu7 hb7 hb7')
              | (go_at_call 15; refine (sameInt_true w7 _ _ (det ms.length (ent ms)) _ _ (by exact ND4.out.below HB7.out (Nat.le_refl _)) (by exact NU7.out)).mono ?_; rintro e w8 ⟨rfl, hb8'⟩; have hb8 : Below w4'.heap.size w4' w8 := HB7.out.trans (hb8'.mono HB7.out.size); have o0 := (hb8.cell (p := ⟨DB, 0, none⟩) ld).trans d0; have o1 := (hb8.cell (p := ⟨DB, 1, none⟩) ld).trans d1; have HB8 := hide (HB4.out.trans (hb8.mono HB4.out.size)); clear hb8 hb8'))
          go_wp2
          go_ret
          exact ⟨rfl, HB8.out⟩
      · rw [hfk]
        have HDB := hide (det_bad w2 _ rss c (HML.out.below HB2.out (Nat.le_refl _)) hck)
        clear hfk hck hlv hlm
        go_wp2_with fail
        refine HDB.out.mono ?_
        rintro e w3 ⟨rfl, hb3⟩
        have hN3 := below_new w3 (.cells #[.bool false, .slice none 0 0] 29)
        have HD4 := hide (BoxL.new w3 (.bool false) (.slice none 0 0) 29)
        have HB4 := hide (HB2.out.trans ((hb3.trans (hN3.mono hb3.size)).mono HB2.out.size))
        clear hb3 hN3 HDB
        go_wp2_with fail
        generalize (w3.alloc (.cells #[.bool false, .slice none 0 0] 29)) = W4 at *
        generalize w3.heap.size = DB at *
        refine (same_of c hc0 W4).mono ?_
        rintro e w4' ⟨rfl, rfl⟩
        have g0 : decide ((0 : Int) < c) = true := decide_eq_true (by omega)
        have g1 : (c == 0) = false := by rw [beq_eq_false_iff_ne]; omega
        obtain ⟨d0, d1, -, -⟩ := HD4.out.1
        go_wp2_with fail
        refine (zero_any w4' _ 0 1 (nought_num w4')).mono ?_
        rintro e w5 ⟨rfl, hb5⟩
        have HB5 := hide (HB4.out.trans (hb5.mono HB4.out.size))
        clear hb5
        go_wp2
        go_ret
        exact ⟨rfl, HB5.out⟩

end Go.Proofs.YtdedolkgcdlmeaaGreatDoor
