/- TopMember: a vector lies in a lattice just if putting it in changes nothing; it is just so much of each row. -/
import Derived.Test.YtjblidoilphifadGreatDoorLatU
import Derived.Test.YtjblidoilphifadGreatDoorCombine
import Derived.Test.YtjblidoilphifadGreatDoorMatRaw
import Derived.Test.YtjblidoilphifadGreatDoorLatK
import Derived.Deep.SlicePairs

namespace Go.Proofs.YtjblidoilphifadGreatDoor
open Go.RowKit Limbs Digs

/-- A vector. -/
structure VecG (W : World) (v : Value) (zs : List Int) (n : Nat) : Prop where
  vec : VecN W v zs n

theorem VecG.later {W W' : World} {v : Value} {zs : List Int} {n : Nat} (h : VecG W v zs n) (hb : Below W.heap.size W W') : VecG W' v zs n := ⟨h.vec.below hb (Nat.le_refl _)⟩

theorem psum_sum (ks : List Int) (zss : List (List Int)) (j : Nat) : ∀ r, psum ks zss j r = sumN r (fun k => ks.getD k 0 * (zss.getD k []).getD j 0)
  | 0 => rfl
  | r + 1 => by
    show psum ks zss j r + _ = sumN r _ + _
    rw [psum_sum ks zss j r]

theorem combo_much {n : Nat} {hs : List (List Int)} {p : Nat → Nat} (hF : FormL n hs p) {zs : List Int} (hz : zs.length = n) (h : Gens n (InL hs) zs) : combo (muchL hs p zs) hs n = zs := by
  apply list_ext ((combo_len ..).trans hz.symm)
  intro j hj
  rw [combo_len] at hj
  rw [combo_at _ _ _ _ hj, psum_sum, ← much_sum hF hz ((lat_gens hF.len hz).2 h) j hj]

theorem combo_sum (ks : List Int) (hs : List (List Int)) (n : Nat) : ∀ b, b < n → (combo ks hs n).getD b 0 = sumN hs.length (fun k => ks.getD k 0 * (hs.getD k []).getD b 0) := fun b hb => by rw [combo_at _ _ _ _ hb, psum_sum]

theorem combo_gens {n : Nat} {hs : List (List Int)} {p : Nat → Nat} (hF : FormL n hs p) (ks : List Int) : Gens n (InL hs) (combo ks hs n) :=
  (lat_gens hF.len (combo_len ..)).1 ⟨fun k => ks.getD k 0, fun b hb => combo_sum ks hs n b hb⟩

theorem much_combo {n : Nat} {hs : List (List Int)} {p : Nat → Nat} (hF : FormL n hs p) {ks : List Int} (hk : ks.length = hs.length) : muchL hs p (combo ks hs n) = ks :=
  much_one hF (combo_len ..) hk (combo_sum ks hs n)

set_option linter.unusedSimpArgs false in
set_option maxRecDepth 100000 in
set_option maxHeartbeats 6400000 in
theorem topMember_any (w : World) (ht : Tab w) (nI : Int) (go : Option Addr) (gcap : Nat) (rs : List (List Int)) (hr : RowsS w (.slice go rs.length gcap) rs) (vo : Option Addr) (vcap : Nat) (vs : List Int) (hv : RowS w (.slice vo vs.length vcap) vs) (ko : Option Addr) (kcap : Nat) (ks : List Int) (hk : RowS w (.slice ko ks.length kcap) ks) :
    Calls Tryz.prog 5 #[.agg #[.int .i64 nI, .slice go rs.length gcap], .slice vo vs.length vcap, .slice ko ks.length kcap] w fun e w' => e = .returned (.bool true) ∧ Below w.heap.size w w' := by
  have HT := hide ht; have HR := hide hr; have HV := hide hv; have HK := hide hk
  clear ht hr hv hk
  have XG := hide (BoxL.new w (.int .i64 nI) (.slice go rs.length gcap) 57)
  have HBW := hide (below_new w (.cells #[.int .i64 nI, .slice go rs.length gcap] 57))
  go_enter Tryz.func5, Tryz.ntmps5
  go_wp2_with fail
  generalize w.alloc (.cells #[.int .i64 nI, .slice go rs.length gcap] 57) = W0 at *
  refine (ready_any W0 (HT.out.below HBW.out)).mono ?_
  rintro e w1 ⟨rfl, hb1⟩
  have XG' := hide (XG.out.later hb1)
  clear XG
  have XG := XG'
  clear XG'
  have HBW' := hide (HBW.out.trans (hb1.mono HBW.out.size))
  clear HBW
  have HBW := HBW'
  clear HBW'
  clear hb1
  obtain ⟨a0, a1, a2, a3⟩ := XG.out.1
  go_wp2_with fail
  clear a0 a1 a2 a3
  refine (made_one_shape w1 nI go gcap rs (HR.out.below HBW.out)).mono ?_
  rintro e w2 ⟨hb2, i1, bo, l1, bc, m1, ok, rfl, hg1⟩
  have HG1 := hide hg1
  clear hg1
  have XG' := hide (XG.out.later hb2)
  clear XG
  have XG := XG'
  clear XG'
  have HBW' := hide (HBW.out.trans (hb2.mono HBW.out.size))
  clear HBW
  have HBW := HBW'
  clear HBW'
  clear hb2
  have hN1 := below_new w2 (.cells #[.int .i64 i1, .slice bo l1 bc] 25)
  have X8 := hide (BoxL.new w2 (.int .i64 i1) (.slice bo l1 bc) 25)
  have XG' := hide (XG.out.later hN1)
  have HG1' := hide (HG1.out.later hN1)
  clear XG HG1
  have XG := XG'
  have HG1 := HG1'
  clear XG' HG1'
  have HBW' := hide (HBW.out.trans (hN1.mono HBW.out.size))
  clear HBW
  have HBW := HBW'
  clear HBW'
  clear hN1
  obtain ⟨a0, a1, a2, a3⟩ := XG.out.1
  cases ok with
  | false =>
    go_wp2
    go_ret
    exact ⟨rfl, HBW.out⟩
  | true =>
    rcases HG1.out with ⟨h, -⟩ | ⟨-, hga, e1, hs, hx, -⟩
    · cases h
    obtain ⟨h14, -⟩ := good_parts' hga
    obtain ⟨n, hn⟩ := Int.eq_ofNat_of_zero_le (show 0 ≤ nI by omega)
    subst hn e1
    have h1 : 1 ≤ n := by omega
    have h4 : n ≤ 4 := by omega
    rw [Int.toNat_natCast] at hx
    have hll : l1 = hs.length := by
      obtain ⟨⟨u, e, ⟨_, _, rfl, -, -⟩⟩, -⟩ := hx
      simp only [Value.agg.injEq, Array.mk.injEq, List.cons.injEq, Value.slice.injEq, and_true, true_and] at e
      exact e.2.1
    subst hll
    have LB := hide (LatG.mk hx)
    obtain ⟨p, hF⟩ := hx.2
    have HF := hide hF
    have hsh := hF.short
    clear hx hga hF HG1 h14
    by_cases hlv : vs.length = n
    · by_cases hk8 : ks.length ≤ 8
      · have HLV := hide hlv
        have f1 : ((vs.length : Int) == (n : Int)) = true := by rw [beq_iff_eq]; omega
        have f2 : ((vs.length : Int) != (n : Int)) = false := by rw [bne_eq_false_iff_eq]; omega
        have f3 : decide (8 < (ks.length : Int)) = false := decide_eq_false (by omega)
        have hvb : vs.length ≤ 8 := by omega
        clear hlv
        go_wp2
        clear f1 f2 f3
        clear a0 a1 a2 a3
        have hN2 := below_new (w2.alloc (.cells #[.int .i64 (n : Int), .slice bo hs.length bc] 25)) (.cells #[.slice vo vs.length vcap, .slice ko ks.length kcap] 62)
        have X47 := hide (BoxL.new (w2.alloc (.cells #[.int .i64 (n : Int), .slice bo hs.length bc] 25)) (.slice vo vs.length vcap) (.slice ko ks.length kcap) 62)
        have HS1 : Hid ((w2.alloc (.cells #[.int .i64 (n : Int), .slice bo hs.length bc] 25)).heap.size = w2.heap.size + 1) := by show _ = _; simp
        rw [HS1.out] at X47
        clear HS1
        have XG' := hide (XG.out.later hN2)
        have X8' := hide (X8.out.later hN2)
        have LB' := hide (LB.out.later hN2)
        clear XG X8 LB
        have XG := XG'
        have X8 := X8'
        have LB := LB'
        clear XG' X8' LB'
        have HBW' := hide (HBW.out.trans (hN2.mono HBW.out.size))
        clear HBW
        have HBW := HBW'
        clear HBW'
        clear hN2
        generalize ((w2.alloc (.cells #[.int .i64 (n : Int), .slice bo hs.length bc] 25)).alloc (.cells #[.slice vo vs.length vcap, .slice ko ks.length kcap] 62)) = W3 at *
        generalize w2.heap.size = B8 at *
        go_loopw [49] (fun i wr => ∃ q : Nat, q ≤ 2 ∧ i = .int .i64 q ∧ wr = W3) (fun i _ => 2 - (intOf i).toNat)
        case atStart => exact ⟨0, Nat.zero_le _, rfl, rfl⟩
        case round =>
          obtain ⟨q, hq, rfl, hw⟩ := hrel
          subst wr
          rcases (by omega : q = 0 ∨ q = 1 ∨ q = 2) with rfl | rfl | rfl
          · have c0 := X47.out.1.1
            have f1 := X47.out.2
            go_wp2
            go_loopw [12] (fun i wr => ∃ k : Nat, k ≤ vs.length ∧ i = .int .i64 k ∧ wr = W3) (fun i _ => vs.length - (intOf i).toNat)
            case atStart => exact ⟨0, Nat.zero_le _, rfl, rfl⟩
            case round =>
              obtain ⟨k, hk, rfl, hw⟩ := hrel
              subst wr
              by_cases hkl : k < vs.length
              · have hrow := HV.out.below HBW.out (Nat.le_refl _)
                obtain ⟨ao, cap, e, -, -, hcell⟩ := hrow
                simp only [Value.slice.injEq, true_and] at e
                obtain ⟨rfl, rfl⟩ := e
                obtain ⟨lb, loff, rfl, llt, hcell⟩ := hcell (by omega)
                have cz := hcell k hkl
                generalize vs.getD k 0 = z at *
                clear hcell c0
                by_cases g1 : z < -1000000
                · have g2 : decide (z < -1000000) = true := decide_eq_true g1
                  go_wp2
                  go_ret
                  exact ⟨rfl, HBW.out⟩
                · have g2 : decide (z < -1000000) = false := decide_eq_false g1
                  by_cases g3 : 1000000 < z
                  · have g4 : decide (1000000 < z) = true := decide_eq_true g3
                    go_wp2
                    go_ret
                    exact ⟨rfl, HBW.out⟩
                  · have g4 : decide (1000000 < z) = false := decide_eq_false g3
                    go_wp2
                    go_roundw
                    case rel => exact ⟨k + 1, by omega, by go_num, by first | rfl | trivial⟩
                    case measure => simp [intOf]; omega
              · obtain rfl : k = vs.length := by omega
                clear c0
                go_wp2
                go_roundw
                case rel => exact ⟨1, by omega, by first | rfl | go_num, by first | rfl | trivial⟩
                case measure => simp [intOf]
          · have c0 := X47.out.1.2.1
            have f1 := X47.out.2
            go_wp2
            go_loopw [12] (fun i wr => ∃ k : Nat, k ≤ ks.length ∧ i = .int .i64 k ∧ wr = W3) (fun i _ => ks.length - (intOf i).toNat)
            case atStart => exact ⟨0, Nat.zero_le _, rfl, rfl⟩
            case round =>
              obtain ⟨k, hk, rfl, hw⟩ := hrel
              subst wr
              by_cases hkl : k < ks.length
              · have hrow := HK.out.below HBW.out (Nat.le_refl _)
                obtain ⟨ao, cap, e, -, -, hcell⟩ := hrow
                simp only [Value.slice.injEq, true_and] at e
                obtain ⟨rfl, rfl⟩ := e
                obtain ⟨lb, loff, rfl, llt, hcell⟩ := hcell (by omega)
                have cz := hcell k hkl
                generalize ks.getD k 0 = z at *
                clear hcell c0
                by_cases g1 : z < -1000000
                · have g2 : decide (z < -1000000) = true := decide_eq_true g1
                  go_wp2
                  go_ret
                  exact ⟨rfl, HBW.out⟩
                · have g2 : decide (z < -1000000) = false := decide_eq_false g1
                  by_cases g3 : 1000000 < z
                  · have g4 : decide (1000000 < z) = true := decide_eq_true g3
                    go_wp2
                    go_ret
                    exact ⟨rfl, HBW.out⟩
                  · have g4 : decide (1000000 < z) = false := decide_eq_false g3
                    go_wp2
                    go_roundw
                    case rel => exact ⟨k + 1, by omega, by go_num, by first | rfl | trivial⟩
                    case measure => simp [intOf]; omega
              · obtain rfl : k = ks.length := by omega
                clear c0
                go_wp2
                go_roundw
                case rel => exact ⟨2, by omega, by first | rfl | go_num, by first | rfl | trivial⟩
                case measure => simp [intOf]
          · go_wp2_with fail
            refine (ofV_any W3 _ vs (HV.out.below HBW.out (Nat.le_refl _)) (by omega)).mono ?_
            rintro e w4 ⟨P4, rfl, ho4⟩
            have VO := hide (VecG.mk ho4.vec)
            have hb4 := ho4.below
            clear ho4
            have XG' := hide (XG.out.later hb4)
            have X8' := hide (X8.out.later hb4)
            have LB' := hide (LB.out.later hb4)
            clear XG X8 LB
            have XG := XG'
            have X8 := X8'
            have LB := LB'
            clear XG' X8' LB'
            have HBW' := hide (HBW.out.trans (hb4.mono HBW.out.size))
            clear HBW
            have HBW := HBW'
            clear HBW'
            clear hb4 X47
            obtain ⟨b0, b1, b2, b3⟩ := X8.out.1
            go_wp2_with fail
            clear b0 b1 b2 b3
            refine (member_ok w4 _ _ n 6 2 hs p vs (by exact LB.out.lat.1) HF.out (by exact VO.out.vec) HLV.out h1 h4 (by omega)).mono ?_
            rintro e w5 ⟨hb5, hcase⟩
            have XG' := hide (XG.out.later hb5)
            have X8' := hide (X8.out.later hb5)
            have LB' := hide (LB.out.later hb5)
            have VO' := hide (VO.out.later hb5)
            clear XG X8 LB VO
            have XG := XG'
            have X8 := X8'
            have LB := LB'
            have VO := VO'
            clear XG' X8' LB' VO'
            have HBW' := hide (HBW.out.trans (hb5.mono HBW.out.size))
            clear HBW
            have HBW := HBW'
            clear HBW'
            clear hb5
            have hNB := nb6 n (by omega)
            rcases hcase with ⟨hg, P5, rfl, ho5⟩ | ⟨hg, rfl⟩
            · have HGV := hide hg
              have VC := hide (VecG.mk (by have h := ho5.vec; rw [muchL_len] at h; exact h))
              clear hg ho5
              obtain ⟨b0, b1, b2, b3⟩ := X8.out.1
              go_wp2_with fail
              clear b0 b1 b2 b3
              refine (insertL_ok w5 _ _ n 6 hs vs (by exact LB.out.lat) (by exact VO.out.vec.mono (by decide)) HLV.out h1 h4 hNB).mono ?_
              rintro e w6 ⟨v6, ts, rfl, hl6, hb6, ha6, -⟩
              have LM := hide (LatG.mk hl6)
              obtain ⟨p6, hF6⟩ := hl6.2
              have HSA := hide (insert_same HF.out hF6 HLV.out ha6)
              obtain ⟨⟨u6, rfl, ⟨o6, k6, rfl, -, -⟩⟩, -⟩ := hl6
              clear hF6 ha6
              have XG' := hide (XG.out.later hb6)
              have X8' := hide (X8.out.later hb6)
              have LB' := hide (LB.out.later hb6)
              have VO' := hide (VO.out.later hb6)
              have VC' := hide (VC.out.later hb6)
              clear XG X8 LB VO VC
              have XG := XG'
              have X8 := X8'
              have LB := LB'
              have VO := VO'
              have VC := VC'
              clear XG' X8' LB' VO' VC'
              have HBW' := hide (HBW.out.trans (hb6.mono HBW.out.size))
              clear HBW
              have HBW := HBW'
              clear HBW'
              clear hb6
              have hN1 := below_new w6 (.cells #[.int .i64 (n : Int), .slice o6 ts.length k6] 25)
              have X17 := hide (BoxL.new w6 (.int .i64 (n : Int)) (.slice o6 ts.length k6) 25)
              have XG' := hide (XG.out.later hN1)
              have X8' := hide (X8.out.later hN1)
              have LB' := hide (LB.out.later hN1)
              have VO' := hide (VO.out.later hN1)
              have VC' := hide (VC.out.later hN1)
              have LM' := hide (LM.out.later hN1)
              clear XG X8 LB VO VC LM
              have XG := XG'
              have X8 := X8'
              have LB := LB'
              have VO := VO'
              have VC := VC'
              have LM := LM'
              clear XG' X8' LB' VO' VC' LM'
              have HBW' := hide (HBW.out.trans (hN1.mono HBW.out.size))
              clear HBW
              have HBW := HBW'
              clear HBW'
              clear hN1
              obtain ⟨b0, b1, b2, b3⟩ := X8.out.1
              obtain ⟨c0, c1, c2, c3⟩ := X17.out.1
              go_wp2_with fail
              clear b0 b1 b2 b3 c0 c1 c2 c3
              generalize w6.alloc (.cells #[.int .i64 (n : Int), .slice o6 ts.length k6] 25) = W7 at *
              generalize w6.heap.size = B17 at *
              refine (alikeB_any W7 _ _ n (n * 6 + 2) 6 ts hs (by exact LM.out.lat) (by exact LB.out.lat) (by omega)).mono ?_
              rintro e w7 ⟨rfl, hb7⟩
              rw [decide_eq_true (HSA.out.2 HGV.out)]
              have XG' := hide (XG.out.later hb7)
              have X8' := hide (X8.out.later hb7)
              have LB' := hide (LB.out.later hb7)
              have VO' := hide (VO.out.later hb7)
              have VC' := hide (VC.out.later hb7)
              clear XG X8 LB VO VC
              have XG := XG'
              have X8 := X8'
              have LB := LB'
              have VO := VO'
              have VC := VC'
              clear XG' X8' LB' VO' VC'
              have HBW' := hide (HBW.out.trans (hb7.mono HBW.out.size))
              clear HBW
              have HBW := HBW'
              clear HBW'
              clear hb7 X17 LM HSA
              obtain ⟨a0, a1, a2, a3⟩ := XG.out.1
              obtain ⟨b0, b1, b2, b3⟩ := X8.out.1
              go_wp2_with fail
              clear a0 a1 a2 a3 b0 b1 b2 b3
              refine (combine_any w7 _ _ (muchL hs p vs) hs n (2 + hs.length * (6 + 2) + 1) 6 (by exact VC.out.vec) (by obtain ⟨u, e, h⟩ := LB.out.lat.1; simp only [Value.agg.injEq, Array.mk.injEq, List.cons.injEq, and_true, true_and] at e; rw [e]; exact h) (muchL_len ..) HF.out.len (by omega) (by omega) (by omega) (by omega)).mono ?_
              rintro e w8 ⟨P8, rfl, ho8⟩
              have VX := hide (VecG.mk (by have h := ho8.vec; rw [combo_len] at h; exact h))
              have hb8 := ho8.below
              clear ho8 VC
              have XG' := hide (XG.out.later hb8)
              have X8' := hide (X8.out.later hb8)
              have LB' := hide (LB.out.later hb8)
              have VO' := hide (VO.out.later hb8)
              clear XG X8 LB VO
              have XG := XG'
              have X8 := X8'
              have LB := LB'
              have VO := VO'
              clear XG' X8' LB' VO'
              have HBW' := hide (HBW.out.trans (hb8.mono HBW.out.size))
              clear HBW
              have HBW := HBW'
              clear HBW'
              clear hb8
              go_wp2_with fail
              refine (alike_any w8 _ _ (combo (muchL hs p vs) hs n) vs _ 2 (by exact VX.out.vec) (by exact VO.out.vec) (by rw [combo_len]; omega) true (by rw [combo_much HF.out HLV.out HGV.out]; simp)).mono ?_
              rintro e wq ⟨rfl, hbq⟩
              have XG' := hide (XG.out.later hbq)
              have X8' := hide (X8.out.later hbq)
              have LB' := hide (LB.out.later hbq)
              clear XG X8 LB
              have XG := XG'
              have X8 := X8'
              have LB := LB'
              clear XG' X8' LB'
              have HBW' := hide (HBW.out.trans (hbq.mono HBW.out.size))
              clear HBW
              have HBW := HBW'
              clear HBW'
              clear hbq VX VO
              obtain ⟨a0, a1, a2, a3⟩ := XG.out.1
              obtain ⟨b0, b1, b2, b3⟩ := X8.out.1
              by_cases hlk : ks.length = hs.length
              · have HLK := hide hlk
                clear hlk
                have g1 : ((ks.length : Int) == (hs.length : Int)) = true := by rw [beq_iff_eq]; have := HLK.out; omega
                have g2 : ((ks.length : Int) != (hs.length : Int)) = false := by rw [bne_eq_false_iff_eq]; have := HLK.out; omega
                go_wp2_with fail
                clear g1 g2
                go_region_held3 (fun w' => w'.cell? ⟨w.heap.size, 0, none⟩ = some (.int .i64 (n : Int)) ∧ w'.cell? ⟨B8, 1, none⟩ = some (.slice bo hs.length bc)) (go_keep)
                  (first
                    | (go_at_call 29; refine (ofV_any _ _ ks (by exact (HK.out.below HBW.out (Nat.le_refl _)).below (Below.refl _ _).drew (Nat.le_refl _)) (by omega)).mono ?_; rintro e wa ⟨PA, rfl, hoa⟩; have HBA := hide (show Below wq.heap.size wq wa from (Below.refl _ _).drew.trans (hoa.below.mono (by simp))); have VK := hide (VecG.mk hoa.vec); have XGa := hide (XG.out.later HBA.out); have X8a := hide (X8.out.later HBA.out); have LBa := hide (LB.out.later HBA.out); obtain ⟨p0, -, -, -⟩ := XGa.out.1; obtain ⟨-, p1, -, -⟩ := X8a.out.1; clear hoa)
                    | (go_at_call 31; refine (combine_any _ _ _ ks hs n 2 6 (by exact VK.out.vec) (by obtain ⟨u, e, h⟩ := LBa.out.lat.1; simp only [Value.agg.injEq, Array.mk.injEq, List.cons.injEq, and_true, true_and] at e; rw [e]; exact h) HLK.out HF.out.len (by omega) (by omega) (by omega) (by omega)).mono ?_; rintro e wb ⟨PB, rfl, hob⟩; have HBB := hide hob.below; have VX := hide (VecG.mk (by have h := hob.vec; rw [combo_len] at h; exact h)); have XGb := hide (XGa.out.later HBB.out); have X8b := hide (X8a.out.later HBB.out); have LBb := hide (LBa.out.later HBB.out); obtain ⟨p2, -, -, -⟩ := XGb.out.1; obtain ⟨-, p3, -, -⟩ := X8b.out.1; clear hob))
                have HBQ := hide (HBW.out.trans ((HBA.out.trans (HBB.out.mono HBA.out.size)).mono HBW.out.size))
                clear p0 p1 p2 p3 a0 a1 a2 a3 b0 b1 b2 b3 XGa X8a LBa HBA HBB VK XG X8 LB XGb
                obtain ⟨b0, b1, b2, b3⟩ := X8b.out.1
                go_wp2_with fail
                clear b0 b1 b2 b3
                refine (member_ok wb _ _ n 6 (2 + 6 + hs.length) hs p (combo ks hs n) (by exact LBb.out.lat.1) HF.out (by exact VX.out.vec) (combo_len ..) h1 h4 (by omega)).mono ?_
                rintro e wc ⟨hbc, hcc⟩
                have HBR := hide (HBQ.out.trans (hbc.mono HBQ.out.size))
                rcases hcc with ⟨-, PC, rfl, hoc⟩ | ⟨hno, -⟩
                rotate_left
                · exact absurd (combo_gens HF.out ks) hno
                have VC2 := hide (VecG.mk (by have h := hoc.vec; rw [muchL_len] at h; exact h))
                clear hbc hoc HBQ X8b LBb VX
                go_wp2_with fail
                refine (ofV_any wc _ ks (HK.out.below HBR.out (Nat.le_refl _)) (by omega)).mono ?_
                rintro e wd ⟨PD, rfl, hod⟩
                have VC3 := hide (VC2.out.later hod.below)
                have VD := hide (VecG.mk hod.vec)
                have HBS := hide (HBR.out.trans (hod.below.mono HBR.out.size))
                clear hod HBR VC2
                go_wp2_with fail
                refine (alike_any wd _ _ (muchL hs p (combo ks hs n)) ks _ 2 (by exact VC3.out.vec) (by exact VD.out.vec) (by rw [muchL_len]; omega) true (by rw [much_combo HF.out HLK.out]; simp)).mono ?_
                rintro e we ⟨rfl, hbe⟩
                have HBE := hide (HBS.out.trans (hbe.mono HBS.out.size))
                clear hbe HBS VC3 VD
                go_wp2
                go_ret
                exact ⟨rfl, HBE.out⟩
              · have g1 : ((ks.length : Int) == (hs.length : Int)) = false := beq_false_of_ne (by omega)
                have g2 : ((ks.length : Int) != (hs.length : Int)) = true := by rw [bne, g1]; rfl
                go_wp2
                go_ret
                exact ⟨rfl, HBW.out⟩
            · have HGV := hide hg
              clear hg
              obtain ⟨b0, b1, b2, b3⟩ := X8.out.1
              go_wp2_with fail
              clear b0 b1 b2 b3
              refine (insertL_ok w5 _ _ n 6 hs vs (by exact LB.out.lat) (by exact VO.out.vec.mono (by decide)) HLV.out h1 h4 hNB).mono ?_
              rintro e w6 ⟨v6, ts, rfl, hl6, hb6, ha6, -⟩
              have LM := hide (LatG.mk hl6)
              obtain ⟨p6, hF6⟩ := hl6.2
              have HSA := hide (insert_same HF.out hF6 HLV.out ha6)
              obtain ⟨⟨u6, rfl, ⟨o6, k6, rfl, -, -⟩⟩, -⟩ := hl6
              clear hF6 ha6
              have XG' := hide (XG.out.later hb6)
              have X8' := hide (X8.out.later hb6)
              have LB' := hide (LB.out.later hb6)
              have VO' := hide (VO.out.later hb6)
              clear XG X8 LB VO
              have XG := XG'
              have X8 := X8'
              have LB := LB'
              have VO := VO'
              clear XG' X8' LB' VO'
              have HBW' := hide (HBW.out.trans (hb6.mono HBW.out.size))
              clear HBW
              have HBW := HBW'
              clear HBW'
              clear hb6
              have hN1 := below_new w6 (.cells #[.int .i64 (n : Int), .slice o6 ts.length k6] 25)
              have X17 := hide (BoxL.new w6 (.int .i64 (n : Int)) (.slice o6 ts.length k6) 25)
              have XG' := hide (XG.out.later hN1)
              have X8' := hide (X8.out.later hN1)
              have LB' := hide (LB.out.later hN1)
              have VO' := hide (VO.out.later hN1)
              have LM' := hide (LM.out.later hN1)
              clear XG X8 LB VO LM
              have XG := XG'
              have X8 := X8'
              have LB := LB'
              have VO := VO'
              have LM := LM'
              clear XG' X8' LB' VO' LM'
              have HBW' := hide (HBW.out.trans (hN1.mono HBW.out.size))
              clear HBW
              have HBW := HBW'
              clear HBW'
              clear hN1
              obtain ⟨b0, b1, b2, b3⟩ := X8.out.1
              obtain ⟨c0, c1, c2, c3⟩ := X17.out.1
              go_wp2_with fail
              clear b0 b1 b2 b3 c0 c1 c2 c3
              generalize w6.alloc (.cells #[.int .i64 (n : Int), .slice o6 ts.length k6] 25) = W7 at *
              generalize w6.heap.size = B17 at *
              refine (alikeB_any W7 _ _ n (n * 6 + 2) 6 ts hs (by exact LM.out.lat) (by exact LB.out.lat) (by omega)).mono ?_
              rintro e w7 ⟨rfl, hb7⟩
              rw [decide_eq_false (fun h => HGV.out (HSA.out.1 h))]
              have XG' := hide (XG.out.later hb7)
              have X8' := hide (X8.out.later hb7)
              have LB' := hide (LB.out.later hb7)
              have VO' := hide (VO.out.later hb7)
              clear XG X8 LB VO
              have XG := XG'
              have X8 := X8'
              have LB := LB'
              have VO := VO'
              clear XG' X8' LB' VO'
              have HBW' := hide (HBW.out.trans (hb7.mono HBW.out.size))
              clear HBW
              have HBW := HBW'
              clear HBW'
              clear hb7 X17 LM HSA
              obtain ⟨a0, a1, a2, a3⟩ := XG.out.1
              obtain ⟨b0, b1, b2, b3⟩ := X8.out.1
              generalize w7 = wq at *
              clear VO
              by_cases hlk : ks.length = hs.length
              · have HLK := hide hlk
                clear hlk
                have g1 : ((ks.length : Int) == (hs.length : Int)) = true := by rw [beq_iff_eq]; have := HLK.out; omega
                have g2 : ((ks.length : Int) != (hs.length : Int)) = false := by rw [bne_eq_false_iff_eq]; have := HLK.out; omega
                go_wp2_with fail
                clear g1 g2
                go_region_held3 (fun w' => w'.cell? ⟨w.heap.size, 0, none⟩ = some (.int .i64 (n : Int)) ∧ w'.cell? ⟨B8, 1, none⟩ = some (.slice bo hs.length bc)) (go_keep)
                  (first
                    | (go_at_call 29; refine (ofV_any _ _ ks (by exact (HK.out.below HBW.out (Nat.le_refl _)).below (Below.refl _ _).drew (Nat.le_refl _)) (by omega)).mono ?_; rintro e wa ⟨PA, rfl, hoa⟩; have HBA := hide (show Below wq.heap.size wq wa from (Below.refl _ _).drew.trans (hoa.below.mono (by simp))); have VK := hide (VecG.mk hoa.vec); have XGa := hide (XG.out.later HBA.out); have X8a := hide (X8.out.later HBA.out); have LBa := hide (LB.out.later HBA.out); obtain ⟨p0, -, -, -⟩ := XGa.out.1; obtain ⟨-, p1, -, -⟩ := X8a.out.1; clear hoa)
                    | (go_at_call 31; refine (combine_any _ _ _ ks hs n 2 6 (by exact VK.out.vec) (by obtain ⟨u, e, h⟩ := LBa.out.lat.1; simp only [Value.agg.injEq, Array.mk.injEq, List.cons.injEq, and_true, true_and] at e; rw [e]; exact h) HLK.out HF.out.len (by omega) (by omega) (by omega) (by omega)).mono ?_; rintro e wb ⟨PB, rfl, hob⟩; have HBB := hide hob.below; have VX := hide (VecG.mk (by have h := hob.vec; rw [combo_len] at h; exact h)); have XGb := hide (XGa.out.later HBB.out); have X8b := hide (X8a.out.later HBB.out); have LBb := hide (LBa.out.later HBB.out); obtain ⟨p2, -, -, -⟩ := XGb.out.1; obtain ⟨-, p3, -, -⟩ := X8b.out.1; clear hob))
                have HBQ := hide (HBW.out.trans ((HBA.out.trans (HBB.out.mono HBA.out.size)).mono HBW.out.size))
                clear p0 p1 p2 p3 a0 a1 a2 a3 b0 b1 b2 b3 XGa X8a LBa HBA HBB VK XG X8 LB XGb
                obtain ⟨b0, b1, b2, b3⟩ := X8b.out.1
                go_wp2_with fail
                clear b0 b1 b2 b3
                refine (member_ok wb _ _ n 6 (2 + 6 + hs.length) hs p (combo ks hs n) (by exact LBb.out.lat.1) HF.out (by exact VX.out.vec) (combo_len ..) h1 h4 (by omega)).mono ?_
                rintro e wc ⟨hbc, hcc⟩
                have HBR := hide (HBQ.out.trans (hbc.mono HBQ.out.size))
                rcases hcc with ⟨-, PC, rfl, hoc⟩ | ⟨hno, -⟩
                rotate_left
                · exact absurd (combo_gens HF.out ks) hno
                have VC2 := hide (VecG.mk (by have h := hoc.vec; rw [muchL_len] at h; exact h))
                clear hbc hoc HBQ X8b LBb VX
                go_wp2_with fail
                refine (ofV_any wc _ ks (HK.out.below HBR.out (Nat.le_refl _)) (by omega)).mono ?_
                rintro e wd ⟨PD, rfl, hod⟩
                have VC3 := hide (VC2.out.later hod.below)
                have VD := hide (VecG.mk hod.vec)
                have HBS := hide (HBR.out.trans (hod.below.mono HBR.out.size))
                clear hod HBR VC2
                go_wp2_with fail
                refine (alike_any wd _ _ (muchL hs p (combo ks hs n)) ks _ 2 (by exact VC3.out.vec) (by exact VD.out.vec) (by rw [muchL_len]; omega) true (by rw [much_combo HF.out HLK.out]; simp)).mono ?_
                rintro e we ⟨rfl, hbe⟩
                have HBE := hide (HBS.out.trans (hbe.mono HBS.out.size))
                clear hbe HBS VC3 VD
                go_wp2
                go_ret
                exact ⟨rfl, HBE.out⟩
              · have g1 : ((ks.length : Int) == (hs.length : Int)) = false := beq_false_of_ne (by omega)
                have g2 : ((ks.length : Int) != (hs.length : Int)) = true := by rw [bne, g1]; rfl
                go_wp2
                go_ret
                exact ⟨rfl, HBW.out⟩
      · have f1 : ((vs.length : Int) == (n : Int)) = true := by rw [beq_iff_eq]; omega
        have f2 : ((vs.length : Int) != (n : Int)) = false := by rw [bne_eq_false_iff_eq]; omega
        have f3 : decide (8 < (ks.length : Int)) = true := decide_eq_true (by omega)
        clear hlv
        go_wp2
        go_ret
        exact ⟨rfl, HBW.out⟩
    · have f1 : ((vs.length : Int) == (n : Int)) = false := beq_false_of_ne (by omega)
      have f2 : ((vs.length : Int) != (n : Int)) = true := by rw [bne, f1]; rfl
      go_wp2
      go_ret
      exact ⟨rfl, HBW.out⟩

end Go.Proofs.YtjblidoilphifadGreatDoor

/- Rows of whole numbers that came in, in a struct: as they read. -/
namespace Go.Proofs.YtjblidoilphifadGreatDoor
open Go.ChangeShapes Go.WideShapes Go.ChangeAt Go.RowKit Go.Joins Limbs

theorem Tryz.cellsGens : Tryz.prog.cellsOf 57 = 2 := by kernel_rfl
theorem Tryz.cellsIntS : Tryz.prog.cellsOf 62 = 1 := by kernel_rfl
theorem Tryz.cellsInt : Tryz.prog.cellsOf 3 = 1 := by kernel_rfl

set_option maxRecDepth 100000 in
theorem open_rowS {H : Type} {enc : TypeId × Value → H} {W : World} {n : Nat} {v : Value} {y : DataW H × List MemPlace}
    (h : DataW.trod enc Tryz.prog W 0 (fun _ => true) true n 62 [v] = some y) : ∃ ks, RowS W v ks := by
  rcases open_ints Tryz.underlying62 Tryz.underlying3 Tryz.cellsInt h with ⟨hcs, _⟩ | ⟨x, l, c, zs, hcs, _, hl, hm, hz, _, hcell, hwz⟩
  · simp only [List.cons.injEq, and_true] at hcs
    subst hcs
    exact ⟨[], none, 0, rfl, Nat.le_refl _, fun i => by simp, fun h => absurd h (by simp)⟩
  · simp only [List.cons.injEq, and_true] at hcs
    subst hcs
    have hz' : zs.length = c := by simpa using hz
    have hlen : (zs.take l).length = l := by rw [List.length_take]; omega
    refine ⟨zs.take l, some x, c, by rw [hlen], by rw [hlen]; exact hl, fun i => ?_, fun h0 => ?_⟩
    · by_cases hi : i < (zs.take l).length
      · rw [List.getD_eq_getElem?_getD, List.getElem?_eq_getElem hi, Option.getD_some]
        have := hwz _ (List.mem_of_mem_take (List.getElem_mem hi))
        simp [Lit.wf, IntKind.min, IntKind.max, IntKind.signed, IntKind.bits] at this
        rw [List.getElem_take]
        omega
      · rw [List.getD_eq_getElem?_getD, List.getElem?_eq_none (by omega)]
        simp
    · obtain ⟨blk, off, spot⟩ := x
      rw [hlen] at h0
      have h00 := hcell 0 (by omega)
      have hspot : spot = none := by simpa [Addr.add] using World.cell?_spot h00
      subst hspot
      refine ⟨blk, off, rfl, World.block_lt_of_cell? W _ h00, fun i hi => ?_⟩
      rw [hlen] at hi
      have := hcell i (by omega)
      rw [getD_take zs l i (by omega)]
      by_cases hi0 : i = 0
      · subst hi0; simpa [Addr.add] using this
      · simpa [Addr.add, hi0] using this

set_option maxRecDepth 100000 in
theorem open_gens {H : Type} {enc : TypeId × Value → H} {W : World} {r : Reach} {b0 : Nat} {v : Value} {d : DataW H} {p : List MemPlace}
    (hv : Value.okWide Tryz.prog W r b0 57 v) (h : DataW.Trod enc Tryz.prog W 0 (fun _ => true) true 57 v d p) :
    ∃ nI go gcap rs, v = .agg #[.int .i64 nI, .slice go rs.length gcap] ∧ RowsS W (.slice go rs.length gcap) rs := by
  obtain ⟨c0, c1, y0, y1, m, rfl, rfl, rfl, hy0, hy1⟩ := open_agg2 Tryz.underlying57 (by kernel_rfl) Tryz.cellsGens hv h
  obtain ⟨nI, e0, -, -⟩ := DataW.trod_int Tryz.underlying3 hy0
  simp only [List.cons.injEq, and_true] at e0
  subst e0
  rcases Go.Deep.open_slice1 Tryz.underlying55 Tryz.cellsIntS hy1 with ⟨hcs, _⟩ | ⟨a, l, c, m, n, V, D, Pl, hcs, _, hl, hm, hmm, _, hc⟩
  · simp only [List.cons.injEq, and_true] at hcs
    subst hcs
    exact ⟨nI, none, 0, [], rfl, none, 0, rfl, by simp, fun h => absurd h (by simp)⟩
  · simp only [List.cons.injEq, and_true] at hcs
    subst hcs
    have hm' : l ≤ m := by simp at hmm; omega
    have each : ∀ i, i < l → ∃ ks : List Int, RowS W (V i) ks := fun i hi => open_rowS (hc i (by omega)).2
    obtain ⟨q, hq⟩ := Go.Deep.choose_lt each
    have hlen : ((List.range l).map q).length = l := by simp
    refine ⟨nI, some a, c, (List.range l).map q, by rw [hlen], some a, c, rfl, by rw [hlen]; exact hl, fun h0 => ?_⟩
    rw [hlen] at h0
    obtain ⟨k0, -⟩ := hc 0 (by omega)
    obtain ⟨blk, off, spot⟩ := a
    have hsp : spot = none := by simpa [Addr.add] using World.cell?_spot k0
    subst hsp
    refine ⟨blk, off, rfl, by simpa [Addr.add] using World.block_lt_of_cell? W _ k0, fun i rs hi => ?_⟩
    obtain ⟨hi', e⟩ := List.getElem?_eq_some_iff.1 hi
    rw [hlen] at hi'
    have e' : rs = q i := by simpa using e.symm
    obtain ⟨c0, -⟩ := hc i (by omega)
    rw [Go.WideShapes.add_plain] at c0
    rw [e']
    exact ⟨_, c0, hq i hi'⟩

end Go.Proofs.YtjblidoilphifadGreatDoor
