/- One step of a division of limbs, walked. -/
import Derived.Test.YtdedolkgcdlmeaaGreatDoorStep
namespace Go.Proofs.YtdedolkgcdlmeaaGreatDoor
open Go.RowKit Limbs

/-- How often, and what is left. -/
def StepPost (w : World) (g : Nat) (zs : List Int) (off : Nat) (b : List Int) (e : Ending) (w' : World) : Prop :=
  ∃ (q : Int) (ys : List Int), e = .returned (.int .u32 q) ∧ 0 ≤ q ∧ q < 4294967296 ∧ Part w w' g zs ys off (b.length + 1) ∧
    seg zs off (b.length + 1) = q * lv b + seg ys off (b.length + 1) ∧ seg ys off (b.length + 1) < lv b

theorem prod_small {G nx : Int} (hG : 0 ≤ G ∧ G < 4294967296) (hn : 0 ≤ nx ∧ nx < 4294967296) : 0 ≤ G * nx ∧ G * nx < 18446744073709551616 := by
  have := mul_le_limbs hG hn
  omega

theorem Part.of_drewN {w w' : World} {n g : Nat} {zs ys : List Int} {off k : Nat} (h : Part (w.drewN n) w' g zs ys off k) : Part w w' g zs ys off k :=
  ⟨h.row, (grown_drewN (World.grownBy.refl w (some g)) n).trans h.grown, h.only⟩

theorem step_same {A V G S : Int} (hv : S + G * V = A) (hu : A < (G + 1) * V) : A = G * V + S ∧ S < V := by
  rw [Int.add_mul, Int.one_mul] at hu
  omega

theorem step_less {A V G S P S2 c : Int} (hv : S + G * V = A + P) (hS : S < P) (hx : G * V < A + V) (hv2 : S2 + P * c = S + V) (hS2 : S2 < P) (hc0 : 0 ≤ c) (hc1 : c ≤ 1) (hA : 0 ≤ A) (hV : 0 < V ∧ V < P) :
    1 ≤ G ∧ A = (G - 1) * V + S2 ∧ S2 < V := by
  have hg : 1 ≤ G := by
    rcases Int.lt_or_le G 1 with h | h
    · have : G * V ≤ 0 * V := Int.mul_le_mul_of_nonneg_right (by omega) (by omega)
      omega
    · exact h
  rw [Int.sub_mul, Int.one_mul]
  rcases (by omega : c = 0 ∨ c = 1) with rfl | rfl
  · omega
  · rw [Int.mul_one] at hv2
    exact ⟨hg, by omega, by omega⟩

set_option maxRecDepth 100000 in
set_option maxHeartbeats 1600000 in
theorem divStep_any (w : World) (g h cap bcap off m : Nat) (zs b : List Int) (hr : Row w g zs) (hb : Row w h b) (hbc : b.length ≤ bcap) (hne : h ≠ g) (hoff : off + b.length + 1 ≤ zs.length) (hl : zs.length ≤ 1000000)
    (hm : b.length = m + 2) (ht : b.getD (m + 1) 0 ≠ 0) (hlt : seg zs off (b.length + 1) < lv b * 4294967296) :
    Calls Tryz.prog 143 #[.slice (some ⟨g, off, none⟩) (b.length + 1) cap, .slice (some ⟨h, 0, none⟩) b.length bcap] w fun e w' => StepPost w g zs off b e w' := by
  have HB := hide hb
  have HR := hide hr
  have hlb := hr.2.1
  have hT := tops_of (off := off) hr.2.1 hb.2.1 hm ht
  obtain ⟨c0, -⟩ := hr.2.2 (off + (m + 2)) (by omega)
  obtain ⟨c1, -⟩ := hr.2.2 (off + (m + 1)) (by omega)
  obtain ⟨c2, -⟩ := hr.2.2 (off + m) (by omega)
  obtain ⟨d1, -⟩ := hb.2.2 (m + 1) (by omega)
  obtain ⟨d2, -⟩ := hb.2.2 m (by omega)
  clear hr hb ht
  have HM := hide hm
  have hbl : (b.length : Int) = (m : Int) + 2 := by omega
  clear hm
  have htk := fun (W : World) (G : Int) hr hb hT => takeTimes_any W g h cap bcap off zs b G hr hb hne hoff hl hT
  have hgb := fun (W : World) (ys : List Int) hr hb hoff hl => giveBack_any W g h cap bcap off ys b hr hb hbc hne hoff hl
  have HTK := hide htk
  have HGB := hide hgb
  clear htk hgb
  generalize zs.getD (off + (m + 2)) 0 = a0 at *
  generalize zs.getD (off + (m + 1)) 0 = a1 at *
  generalize zs.getD (off + m) 0 = a2 at *
  generalize b.getD (m + 1) 0 = hi at *
  generalize b.getD m 0 = nx at *
  have HT := hide hT
  have HL := hide hlt
  have hvp := hide (show 0 < lv b ∧ lv b < bp (b.length + 1) by
    have h1 := hT.vpos; have h2 := hT.p0; have h3 := lv_lt HB.out.2.1; have h4 : bp b.length ≤ bp (b.length + 1) := bp_mono (by omega); omega)
  have hf := hT.first hlt
  obtain ⟨-, -, -, -, -, -, -, ra0, ra1, ra2, rhi, rnx⟩ := hT
  clear hlt
  have hor := or_join a0 a1 ra0.1 ra0.2 ra1.1 ra1.2
  have hsh := shl_join a0 a1 ra0.1 ra0.2 ra1.1 ra1.2
  have HQ := hide (HT.out.start)
  have q0 : 0 ≤ (a0 * 4294967296 + a1) / hi := Int.ediv_nonneg (by omega) (by omega)
  have q1 : (a0 * 4294967296 + a1) / hi ≤ a0 * 4294967296 + a1 := Int.ediv_le_self _ (by omega)
  have m0 := Int.emod_nonneg (a0 * 4294967296 + a1) (show hi ≠ 0 by omega)
  have m1 := Int.emod_lt_of_pos (a0 * 4294967296 + a1) (show 0 < hi by omega)
  have hh1 : (hi != 0) = true := by rw [bne_iff_ne]; omega
  have hh2 : (hi == 0) = false := by rw [beq_eq_false_iff_ne]; omega
  have HD := hide (show (a0 * 4294967296 + a1) / hi * hi + (a0 * 4294967296 + a1) % hi = a0 * 4294967296 + a1 by rw [Int.mul_comm]; exact Int.mul_ediv_add_emod _ _)
  go_enter Tryz.func143, Tryz.ntmps143
  go_wp2
  go_quiet (fail)
  go_wp2
  go_quiet (fail)
  go_wp2
  go_quiet (fail)
  go_wp2
  go_loopw [9, 10] (fun gv rv wr => ∃ (G R : Int) (nq : Nat), gv = .int .u64 G ∧ rv = .int .u64 R ∧ wr = w.drewN nq ∧ 0 ≤ G ∧ G < 18446744073709551616 ∧ 0 ≤ R ∧ R < 8589934592 ∧ Hid (G * hi + R = a0 * 4294967296 + a1) ∧ Hid (seg zs off (b.length + 1) < (G + 1) * lv b)) (fun gv _ _ => (intOf gv).toNat)
  case atStart => exact ⟨_, _, _, rfl, rfl, by rw [World.drewN_drewN, World.drewN_drewN], q0, by omega, m0, by omega, HD, HQ⟩
  case round =>
    obtain ⟨G, R, nq, rfl, rfl, rfl, hG0, hG1, hR0, hR1, HE, HU⟩ := hrel
    by_cases hR : R < 4294967296
    · have hor2 := or_join R a2 hR0 hR ra2.1 ra2.2
      have hsh2 := shl_join R a2 hR0 hR ra2.1 ra2.2
      by_cases hG : G < 4294967296
      · have hpr := prod_small ⟨hG0, hG⟩ rnx
        by_cases hgt : R * 4294967296 + a2 < G * nx
        · have HU' := hide (HT.out.less hG0 HE.out hgt)
          have hg1 : 1 ≤ G := by
            rcases Int.lt_or_le G 1 with h | h
            · have : G = 0 := by omega
              subst this
              omega
            · exact h
          have HE' := hide (show (G - 1) * hi + (R + hi) = a0 * 4294967296 + a1 by have := HE.out; rw [Int.sub_mul, Int.one_mul]; omega)
          go_wp2
          go_roundw
          case rel => exact ⟨_, _, _, _, _, _, _, _, _, _, _, _, _, _, _, _, _, _, _, _, _, _, _, _, _, _, _, _, _, _, ⟨G - 1, R + hi, nq, rfl, rfl, rfl, by omega, by omega, by omega, by omega, HE', by rw [Int.sub_add_cancel]; exact HU'⟩, rfl⟩
          case measure => show (G - 1).toNat < G.toNat; omega
        · have HX := hide (HT.out.stop ⟨hG0, hG⟩ HE.out (by omega))
          go_wp2_with fail
          refine (HTK.out _ G (HR.out.drewN nq) (HB.out.drewN nq) ⟨hG0, hG⟩).mono ?_
          rintro e w1 ⟨s, ys, rfl, hp, hv⟩
          replace hp := hp.of_drewN
          have hS := seg_lt hp.row.2.1 off (b.length + 1)
          cases s
          · have HF := hide (step_same (G := G) (V := lv b) (by simpa using hv) HU.out)
            clear hv hS
            go_wp2
            go_ret
            exact ⟨G, ys, rfl, hG0, hG, hp, HF.out.1, HF.out.2⟩
          · rw [if_pos rfl] at hv
            have hlen := hp.only.len
            go_wp2_with fail
            refine (HGB.out w1 ys hp.row (HB.out.far hp.grown hne) (by rw [hlen]; exact hoff) (by rw [hlen]; exact hl)).mono ?_
            rintro e w2 ⟨c, xs, rfl, hc0, hc1, hp2, hv2⟩
            replace hp := hp.trans hp2
            have hS2 := seg_lt hp.row.2.1 off (b.length + 1)
            have hA := seg_nonneg hlb off (b.length + 1)
            obtain ⟨hg1, hF1, hF2⟩ := step_less hv hS HX.out hv2 hS2 hc0 hc1 hA (hvp.out)
            have HF1 := hide hF1; have HF2 := hide hF2
            clear hv hv2 hS hS2 hA hF1 hF2
            go_wp2
            go_ret
            exact ⟨G - 1, xs, rfl, by omega, by omega, hp, HF1.out, HF2.out⟩
      · have HU' := hide (show seg zs off (b.length + 1) < G * lv b by
          have h1 := HL.out
          have h2 := HT.out.vpos
          have h3 := HT.out.p0
          have h4 : 4294967296 * lv b ≤ G * lv b := Int.mul_le_mul_of_nonneg_right (by omega) (by omega)
          omega)
        have HE' := hide (show (G - 1) * hi + (R + hi) = a0 * 4294967296 + a1 by have := HE.out; rw [Int.sub_mul, Int.one_mul]; omega)
        go_wp2
        go_roundw
        case rel => exact ⟨⟨nq, rfl⟩, by omega, by omega, by omega, by omega⟩
        case measure => simp [intOf]; omega
    · have hfar := HT.out.stop_far HL.out hG0 HE.out (by omega)
      have HX := hide (HT.out.stop ⟨hG0, hfar.1⟩ HE.out hfar.2)
      go_wp2_with fail
      refine (HTK.out _ G (HR.out.drewN nq) (HB.out.drewN nq) ⟨hG0, hfar.1⟩).mono ?_
      rintro e w1 ⟨s, ys, rfl, hp, hv⟩
      replace hp := hp.of_drewN
      have hS := seg_lt hp.row.2.1 off (b.length + 1)
      cases s
      · have HF := hide (step_same (G := G) (V := lv b) (by simpa using hv) HU.out)
        clear hv hS
        go_wp2
        go_ret
        exact ⟨G, ys, rfl, hG0, hfar.1, hp, HF.out.1, HF.out.2⟩
      · rw [if_pos rfl] at hv
        have hlen := hp.only.len
        go_wp2_with fail
        refine (HGB.out w1 ys hp.row (HB.out.far hp.grown hne) (by rw [hlen]; exact hoff) (by rw [hlen]; exact hl)).mono ?_
        rintro e w2 ⟨c, xs, rfl, hc0, hc1, hp2, hv2⟩
        replace hp := hp.trans hp2
        have hS2 := seg_lt hp.row.2.1 off (b.length + 1)
        have hA := seg_nonneg hlb off (b.length + 1)
        obtain ⟨hg1, hF1, hF2⟩ := step_less hv hS HX.out hv2 hS2 hc0 hc1 hA (hvp.out)
        have HF1 := hide hF1; have HF2 := hide hF2
        clear hv hv2 hS hS2 hA hF1 hF2
        go_wp2
        go_ret
        exact ⟨G - 1, xs, rfl, by omega, by omega, hp, HF1.out, HF2.out⟩

end Go.Proofs.YtdedolkgcdlmeaaGreatDoor
