/- One step of a division of limbs. -/
import Derived.Test.YtofegldopgkikaaGreatDoorTake
import Derived.Shelf.Small.Bits
import Derived.Shelf.Small.Wraps
import Derived.Shelf.Strings.BuilderK
import Derived.Shelf.Strconv.Itoa3
import Derived.Test.YtofegldopgkikaaGreatDoorProg

namespace Go.Proofs.YtofegldopgkikaaGreatDoor
open Go.RowKit Limbs

/-- The two numbers by their highest limbs: what is below is less than p. -/
structure Tops (A V p la lb a0 a1 a2 hi nx : Int) : Prop where
  ea : A = la + p * (a2 + 4294967296 * (a0 * 4294967296 + a1))
  ev : V = lb + p * (nx + 4294967296 * hi)
  p0 : 0 < p
  la0 : 0 ≤ la
  la1 : la < p
  lb0 : 0 ≤ lb
  lb1 : lb < p
  ra0 : 0 ≤ a0 ∧ a0 < 4294967296
  ra1 : 0 ≤ a1 ∧ a1 < 4294967296
  ra2 : 0 ≤ a2 ∧ a2 < 4294967296
  rhi : 1 ≤ hi ∧ hi < 4294967296
  rnx : 0 ≤ nx ∧ nx < 4294967296

theorem Tops.vpos {A V p la lb a0 a1 a2 hi nx : Int} (h : Tops A V p la lb a0 a1 a2 hi nx) : 4294967296 * p ≤ V := by
  obtain ⟨ea, ev, p0, la0, la1, lb0, lb1, ra0, ra1, ra2, rhi, rnx⟩ := h
  have : p * 4294967296 ≤ p * (nx + 4294967296 * hi) := Int.mul_le_mul_of_nonneg_left (by omega) (by omega)
  omega

theorem Tops.first {A V p la lb a0 a1 a2 hi nx : Int} (h : Tops A V p la lb a0 a1 a2 hi nx) (hlt : A < V * 4294967296) : a0 ≤ hi := by
  obtain ⟨ea, ev, p0, la0, la1, lb0, lb1, ra0, ra1, ra2, rhi, rnx⟩ := h
  have h1 : p * (a2 + 4294967296 * (a0 * 4294967296 + a1)) < p * ((nx + 4294967296 * hi + 1) * 4294967296) := by
    have e : p * ((nx + 4294967296 * hi + 1) * 4294967296) = (p * (nx + 4294967296 * hi) + p) * 4294967296 := by rw [← Int.mul_assoc, Int.mul_add p _ 1, Int.mul_one]
    rw [e]
    generalize p * (nx + 4294967296 * hi) = X at *
    generalize p * (a2 + 4294967296 * (a0 * 4294967296 + a1)) = Y at *
    omega
  have h2 := Int.lt_of_mul_lt_mul_left h1 (by omega)
  omega

/-- So many times it is too much. -/
theorem Tops.above {A V p la lb a0 a1 a2 hi nx : Int} (h : Tops A V p la lb a0 a1 a2 hi nx) {G : Int} (hG : 0 ≤ G) (hle : a2 + 4294967296 * (a0 * 4294967296 + a1) + 1 ≤ G * (nx + 4294967296 * hi)) : A < G * V := by
  obtain ⟨ea, ev, p0, la0, la1, lb0, lb1, ra0, ra1, ra2, rhi, rnx⟩ := h
  have h1 : p * (a2 + 4294967296 * (a0 * 4294967296 + a1) + 1) ≤ p * (G * (nx + 4294967296 * hi)) := Int.mul_le_mul_of_nonneg_left hle (by omega)
  have h2 : 0 ≤ G * lb := Int.mul_nonneg hG lb0
  have e : G * V = G * lb + p * (G * (nx + 4294967296 * hi)) := by rw [ev, Int.mul_add, Int.mul_left_comm]
  rw [Int.mul_add, Int.mul_one] at h1
  omega

theorem Tops.start {A V p la lb a0 a1 a2 hi nx : Int} (h : Tops A V p la lb a0 a1 a2 hi nx) : A < ((a0 * 4294967296 + a1) / hi + 1) * V := by
  have h' := h
  obtain ⟨ea, ev, p0, la0, la1, lb0, lb1, ra0, ra1, ra2, rhi, rnx⟩ := h'
  have q0 : 0 ≤ (a0 * 4294967296 + a1) / hi := Int.ediv_nonneg (by omega) (by omega)
  have d := Int.mul_ediv_add_emod (a0 * 4294967296 + a1) hi
  have m1 := Int.emod_lt_of_pos (a0 * 4294967296 + a1) (show 0 < hi by omega)
  refine h.above (by omega) ?_
  generalize (a0 * 4294967296 + a1) / hi = q at *
  have e : (q + 1) * (nx + 4294967296 * hi) = (q + 1) * nx + 4294967296 * (hi * q + hi) := by rw [Int.mul_add, Int.mul_left_comm (q + 1), Int.mul_comm (q + 1) hi, Int.mul_add hi, Int.mul_one]
  have n0 : 0 ≤ (q + 1) * nx := Int.mul_nonneg (by omega) rnx.1
  rw [e]
  generalize hi * q = z at *
  omega

theorem Tops.less {A V p la lb a0 a1 a2 hi nx : Int} (h : Tops A V p la lb a0 a1 a2 hi nx) {G R : Int} (hG : 0 ≤ G) (hR : G * hi + R = a0 * 4294967296 + a1) (hgt : R * 4294967296 + a2 < G * nx) : A < G * V := by
  refine h.above hG ?_
  have e : G * (nx + 4294967296 * hi) = G * nx + 4294967296 * (G * hi) := by rw [Int.mul_add, Int.mul_left_comm]
  rw [e, ← hR]
  omega

/-- Where the guess stands: it is at most one too much. -/
theorem Tops.stop {A V p la lb a0 a1 a2 hi nx : Int} (h : Tops A V p la lb a0 a1 a2 hi nx) {G R : Int} (hG : 0 ≤ G ∧ G < 4294967296) (hR : G * hi + R = a0 * 4294967296 + a1) (hle : G * nx ≤ R * 4294967296 + a2) : G * V < A + V := by
  have hv := h.vpos
  obtain ⟨ea, ev, p0, la0, la1, lb0, lb1, ra0, ra1, ra2, rhi, rnx⟩ := h
  have e : G * (nx + 4294967296 * hi) = G * nx + 4294967296 * (G * hi) := by rw [Int.mul_add, Int.mul_left_comm]
  have h1 : p * (G * (nx + 4294967296 * hi)) ≤ p * (a2 + 4294967296 * (a0 * 4294967296 + a1)) := Int.mul_le_mul_of_nonneg_left (by rw [e, ← hR]; omega) (by omega)
  have e2 : G * V = G * lb + p * (G * (nx + 4294967296 * hi)) := by rw [ev, Int.mul_add, Int.mul_left_comm]
  have h2 : G * lb ≤ 4294967295 * lb := Int.mul_le_mul_of_nonneg_right (by omega) lb0
  omega

theorem Tops.stop_far {A V p la lb a0 a1 a2 hi nx : Int} (h : Tops A V p la lb a0 a1 a2 hi nx) (hlt : A < V * 4294967296) {G R : Int} (hG : 0 ≤ G) (hR : G * hi + R = a0 * 4294967296 + a1) (hfar : 4294967296 ≤ R) : G < 4294967296 ∧ G * nx ≤ R * 4294967296 + a2 := by
  have hf := h.first hlt
  obtain ⟨ea, ev, p0, la0, la1, lb0, lb1, ra0, ra1, ra2, rhi, rnx⟩ := h
  have hg : G < 4294967296 := by
    rcases Int.lt_or_le G 4294967296 with h | h
    · exact h
    · have : 4294967296 * hi ≤ G * hi := Int.mul_le_mul_of_nonneg_right h (by omega)
      omega
  have h1 : G * nx ≤ 4294967295 * 4294967295 := Int.mul_le_mul (by omega) (by omega) rnx.1 (by decide)
  exact ⟨hg, by omega⟩

theorem tops_of {zs b : List Int} {off m : Nat} (hz : LB zs) (hb : LB b) (hm : b.length = m + 2) (ht : b.getD (m + 1) 0 ≠ 0) :
    Tops (seg zs off (b.length + 1)) (lv b) (bp m) (seg zs off m) (lv (b.take m)) (zs.getD (off + (m + 2)) 0) (zs.getD (off + (m + 1)) 0) (zs.getD (off + m) 0) (b.getD (m + 1) 0) (b.getD m 0) where
  ea := by
    rw [hm, seg_succ, seg_succ, seg_succ]
    simp only [bp, Int.mul_add]
    have e1 : 4294967296 * (4294967296 * bp m) * zs.getD (off + (m + 2)) 0 = bp m * (4294967296 * (zs.getD (off + (m + 2)) 0 * 4294967296)) := by ac_rfl
    have e2 : 4294967296 * bp m * zs.getD (off + (m + 1)) 0 = bp m * (4294967296 * zs.getD (off + (m + 1)) 0) := by ac_rfl
    rw [e1, e2]
    omega
  ev := by
    have e : lv b = lv (b.take (m + 2)) := by rw [lv_take_ge b (by omega)]
    rw [e, lv_take_succ, lv_take_succ]
    simp only [bp, Int.mul_add]
    have e2 : 4294967296 * bp m * b.getD (m + 1) 0 = bp m * (4294967296 * b.getD (m + 1) 0) := by ac_rfl
    rw [e2]
    omega
  p0 := bp_pos m
  la0 := seg_nonneg hz off m
  la1 := seg_lt hz off m
  lb0 := lv_take_nonneg hb m
  lb1 := lv_take_lt hb m
  ra0 := hz _
  ra1 := hz _
  ra2 := hz _
  rhi := by have := hb (m + 1); omega
  rnx := hb _

end Go.Proofs.YtofegldopgkikaaGreatDoor

/- One step of a division of limbs, walked. -/
namespace Go.Proofs.YtofegldopgkikaaGreatDoor
open Go.RowKit Limbs

/-- How often, and what is left. -/
def StepPost (w : World) (g : Nat) (zs : List Int) (off : Nat) (b : List Int) (e : Ending) (w' : World) : Prop :=
  ∃ (q : Int) (ys : List Int), e = .returned (.int .u32 q) ∧ 0 ≤ q ∧ q < 4294967296 ∧ Part w w' g zs ys off (b.length + 1) ∧
    seg zs off (b.length + 1) = q * lv b + seg ys off (b.length + 1) ∧ seg ys off (b.length + 1) < lv b

theorem prod_small {G nx : Int} (hG : 0 ≤ G ∧ G < 4294967296) (hn : 0 ≤ nx ∧ nx < 4294967296) : 0 ≤ G * nx ∧ G * nx < 18446744073709551616 := by
  have := mul_le_limbs hG hn
  omega

theorem Part.of_drewN {w w' : World} {n g : Nat} {zs ys : List Int} {off k : Nat} (h : Part (w.drewN n) w' g zs ys off k) : Part w w' g zs ys off k :=
  ⟨h.row, (grown_drewN (World.grownBy.refl w (some g)) n).trans h.grown, h.only⟩

theorem step_same {A V G S : Int} (hv : S + G * V = A) (hu : A < (G + 1) * V) : A = G * V + S ∧ S < V := by
  rw [Int.add_mul, Int.one_mul] at hu
  omega

theorem step_less {A V G S P S2 c : Int} (hv : S + G * V = A + P) (hS : S < P) (hx : G * V < A + V) (hv2 : S2 + P * c = S + V) (hS2 : S2 < P) (hc0 : 0 ≤ c) (hc1 : c ≤ 1) (hA : 0 ≤ A) (hV : 0 < V ∧ V < P) :
    1 ≤ G ∧ A = (G - 1) * V + S2 ∧ S2 < V := by
  have hg : 1 ≤ G := by
    rcases Int.lt_or_le G 1 with h | h
    · have : G * V ≤ 0 * V := Int.mul_le_mul_of_nonneg_right (by omega) (by omega)
      omega
    · exact h
  rw [Int.sub_mul, Int.one_mul]
  rcases (by omega : c = 0 ∨ c = 1) with rfl | rfl
  · omega
  · rw [Int.mul_one] at hv2
    exact ⟨hg, by omega, by omega⟩

set_option maxRecDepth 100000 in
set_option maxHeartbeats 1600000 in
theorem divStep_any (w : World) (g h cap bcap off m : Nat) (zs b : List Int) (hr : Row w g zs) (hb : Row w h b) (hbc : b.length ≤ bcap) (hne : h ≠ g) (hoff : off + b.length + 1 ≤ zs.length) (hl : zs.length ≤ 1000000)
    (hm : b.length = m + 2) (ht : b.getD (m + 1) 0 ≠ 0) (hlt : seg zs off (b.length + 1) < lv b * 4294967296) :
    Calls Tryz.prog 92 #[.slice (some ⟨g, off, none⟩) (b.length + 1) cap, .slice (some ⟨h, 0, none⟩) b.length bcap] w fun e w' => StepPost w g zs off b e w' := by
  have HB := hide hb
  have HR := hide hr
  have hlb := hr.2.1
  have hT := tops_of (off := off) hr.2.1 hb.2.1 hm ht
  obtain ⟨c0, -⟩ := hr.2.2 (off + (m + 2)) (by omega)
  obtain ⟨c1, -⟩ := hr.2.2 (off + (m + 1)) (by omega)
  obtain ⟨c2, -⟩ := hr.2.2 (off + m) (by omega)
  obtain ⟨d1, -⟩ := hb.2.2 (m + 1) (by omega)
  obtain ⟨d2, -⟩ := hb.2.2 m (by omega)
  clear hr hb ht
  have HM := hide hm
  have hbl : (b.length : Int) = (m : Int) + 2 := by omega
  clear hm
  have htk := fun (W : World) (G : Int) hr hb hT => takeTimes_any W g h cap bcap off zs b G hr hb hne hoff hl hT
  have hgb := fun (W : World) (ys : List Int) hr hb hoff hl => giveBack_any W g h cap bcap off ys b hr hb hbc hne hoff hl
  have HTK := hide htk
  have HGB := hide hgb
  clear htk hgb
  generalize zs.getD (off + (m + 2)) 0 = a0 at *
  generalize zs.getD (off + (m + 1)) 0 = a1 at *
  generalize zs.getD (off + m) 0 = a2 at *
  generalize b.getD (m + 1) 0 = hi at *
  generalize b.getD m 0 = nx at *
  have HT := hide hT
  have HL := hide hlt
  have hvp := hide (show 0 < lv b ∧ lv b < bp (b.length + 1) by
    have h1 := hT.vpos; have h2 := hT.p0; have h3 := lv_lt HB.out.2.1; have h4 : bp b.length ≤ bp (b.length + 1) := bp_mono (by omega); omega)
  have hf := hT.first hlt
  obtain ⟨-, -, -, -, -, -, -, ra0, ra1, ra2, rhi, rnx⟩ := hT
  clear hlt
  have hor := or_join a0 a1 ra0.1 ra0.2 ra1.1 ra1.2
  have hsh := shl_join a0 a1 ra0.1 ra0.2 ra1.1 ra1.2
  have HQ := hide (HT.out.start)
  have q0 : 0 ≤ (a0 * 4294967296 + a1) / hi := Int.ediv_nonneg (by omega) (by omega)
  have q1 : (a0 * 4294967296 + a1) / hi ≤ a0 * 4294967296 + a1 := Int.ediv_le_self _ (by omega)
  have m0 := Int.emod_nonneg (a0 * 4294967296 + a1) (show hi ≠ 0 by omega)
  have m1 := Int.emod_lt_of_pos (a0 * 4294967296 + a1) (show 0 < hi by omega)
  have hh1 : (hi != 0) = true := by rw [bne_iff_ne]; omega
  have hh2 : (hi == 0) = false := by rw [beq_eq_false_iff_ne]; omega
  have HD := hide (show (a0 * 4294967296 + a1) / hi * hi + (a0 * 4294967296 + a1) % hi = a0 * 4294967296 + a1 by rw [Int.mul_comm]; exact Int.mul_ediv_add_emod _ _)
  go_enter Tryz.func92, Tryz.ntmps92
  go_wp2
  go_quiet (fail)
  go_wp2
  go_quiet (fail)
  go_wp2
  go_quiet (fail)
  go_wp2
  go_loopw [9, 10] (fun gv rv wr => ∃ (G R : Int) (nq : Nat), gv = .int .u64 G ∧ rv = .int .u64 R ∧ wr = w.drewN nq ∧ 0 ≤ G ∧ G < 18446744073709551616 ∧ 0 ≤ R ∧ R < 8589934592 ∧ Hid (G * hi + R = a0 * 4294967296 + a1) ∧ Hid (seg zs off (b.length + 1) < (G + 1) * lv b)) (fun gv _ _ => (intOf gv).toNat)
  case atStart => exact ⟨_, _, _, rfl, rfl, by rw [World.drewN_drewN, World.drewN_drewN], q0, by omega, m0, by omega, HD, HQ⟩
  case round =>
    obtain ⟨G, R, nq, rfl, rfl, rfl, hG0, hG1, hR0, hR1, HE, HU⟩ := hrel
    by_cases hR : R < 4294967296
    · have hor2 := or_join R a2 hR0 hR ra2.1 ra2.2
      have hsh2 := shl_join R a2 hR0 hR ra2.1 ra2.2
      by_cases hG : G < 4294967296
      · have hpr := prod_small ⟨hG0, hG⟩ rnx
        by_cases hgt : R * 4294967296 + a2 < G * nx
        · have HU' := hide (HT.out.less hG0 HE.out hgt)
          have hg1 : 1 ≤ G := by
            rcases Int.lt_or_le G 1 with h | h
            · have : G = 0 := by omega
              subst this
              omega
            · exact h
          have HE' := hide (show (G - 1) * hi + (R + hi) = a0 * 4294967296 + a1 by have := HE.out; rw [Int.sub_mul, Int.one_mul]; omega)
          go_wp2
          go_roundw
          case rel => exact ⟨_, _, _, _, _, _, _, _, _, _, _, _, _, _, _, _, _, _, _, _, _, _, _, _, _, _, _, _, _, _, ⟨G - 1, R + hi, nq, rfl, rfl, rfl, by omega, by omega, by omega, by omega, HE', by rw [Int.sub_add_cancel]; exact HU'⟩, rfl⟩
          case measure => show (G - 1).toNat < G.toNat; omega
        · have HX := hide (HT.out.stop ⟨hG0, hG⟩ HE.out (by omega))
          go_wp2_with fail
          refine (HTK.out _ G (HR.out.drewN nq) (HB.out.drewN nq) ⟨hG0, hG⟩).mono ?_
          rintro e w1 ⟨s, ys, rfl, hp, hv⟩
          replace hp := hp.of_drewN
          have hS := seg_lt hp.row.2.1 off (b.length + 1)
          cases s
          · have HF := hide (step_same (G := G) (V := lv b) (by simpa using hv) HU.out)
            clear hv hS
            go_wp2
            go_ret
            exact ⟨G, ys, rfl, hG0, hG, hp, HF.out.1, HF.out.2⟩
          · rw [if_pos rfl] at hv
            have hlen := hp.only.len
            go_wp2_with fail
            refine (HGB.out w1 ys hp.row (HB.out.far hp.grown hne) (by rw [hlen]; exact hoff) (by rw [hlen]; exact hl)).mono ?_
            rintro e w2 ⟨c, xs, rfl, hc0, hc1, hp2, hv2⟩
            replace hp := hp.trans hp2
            have hS2 := seg_lt hp.row.2.1 off (b.length + 1)
            have hA := seg_nonneg hlb off (b.length + 1)
            obtain ⟨hg1, hF1, hF2⟩ := step_less hv hS HX.out hv2 hS2 hc0 hc1 hA (hvp.out)
            have HF1 := hide hF1; have HF2 := hide hF2
            clear hv hv2 hS hS2 hA hF1 hF2
            go_wp2
            go_ret
            exact ⟨G - 1, xs, rfl, by omega, by omega, hp, HF1.out, HF2.out⟩
      · have HU' := hide (show seg zs off (b.length + 1) < G * lv b by
          have h1 := HL.out
          have h2 := HT.out.vpos
          have h3 := HT.out.p0
          have h4 : 4294967296 * lv b ≤ G * lv b := Int.mul_le_mul_of_nonneg_right (by omega) (by omega)
          omega)
        have HE' := hide (show (G - 1) * hi + (R + hi) = a0 * 4294967296 + a1 by have := HE.out; rw [Int.sub_mul, Int.one_mul]; omega)
        go_wp2
        go_roundw
        case rel => exact ⟨⟨nq, rfl⟩, by omega, by omega, by omega, by omega⟩
        case measure => simp [intOf]; omega
    · have hfar := HT.out.stop_far HL.out hG0 HE.out (by omega)
      have HX := hide (HT.out.stop ⟨hG0, hfar.1⟩ HE.out hfar.2)
      go_wp2_with fail
      refine (HTK.out _ G (HR.out.drewN nq) (HB.out.drewN nq) ⟨hG0, hfar.1⟩).mono ?_
      rintro e w1 ⟨s, ys, rfl, hp, hv⟩
      replace hp := hp.of_drewN
      have hS := seg_lt hp.row.2.1 off (b.length + 1)
      cases s
      · have HF := hide (step_same (G := G) (V := lv b) (by simpa using hv) HU.out)
        clear hv hS
        go_wp2
        go_ret
        exact ⟨G, ys, rfl, hG0, hfar.1, hp, HF.out.1, HF.out.2⟩
      · rw [if_pos rfl] at hv
        have hlen := hp.only.len
        go_wp2_with fail
        refine (HGB.out w1 ys hp.row (HB.out.far hp.grown hne) (by rw [hlen]; exact hoff) (by rw [hlen]; exact hl)).mono ?_
        rintro e w2 ⟨c, xs, rfl, hc0, hc1, hp2, hv2⟩
        replace hp := hp.trans hp2
        have hS2 := seg_lt hp.row.2.1 off (b.length + 1)
        have hA := seg_nonneg hlb off (b.length + 1)
        obtain ⟨hg1, hF1, hF2⟩ := step_less hv hS HX.out hv2 hS2 hc0 hc1 hA (hvp.out)
        have HF1 := hide hF1; have HF2 := hide hF2
        clear hv hv2 hS hS2 hA hF1 hF2
        go_wp2
        go_ret
        exact ⟨G - 1, xs, rfl, by omega, by omega, hp, HF1.out, HF2.out⟩

end Go.Proofs.YtofegldopgkikaaGreatDoor

/- Library functions' contracts, laid at this translation: strconv.Itoa, bits.LeadingZeros32, strings.CutPrefix, the Builder's writes and its text. -/
namespace Go.Proofs
open Go.Shelf Go.RowKit Go.Sort
def Tryz.lays171_ren : Go.Shelf.Ren := ⟨fun | 171 => 48 | 243 => 63 | 246 => 75 | 283 => 85 | 284 => 86 | 285 => 87 | 286 => 88 | 129 => 100 | 317 => 99 | 318 => 101 | 319 => 102 | 320 => 103 | 337 => 109 | 338 => 110 | n => n, fun | 3 => 3 | 9 => 9 | 2 => 2 | 4 => 4 | 171 => 120 | 0 => 0 | 53 => 70 | 37 => 83 | 5 => 5 | 173 => 123 | 212 => 133 | 51 => 69 | 20 => 20 | 213 => 134 | 46 => 79 | 232 => 142 | 233 => 143 | n => n, fun | 17 => 2 | 18 => 3 | 19 => 4 | n => n⟩
theorem Tryz.lays171 : Go.Proofs.Lays.n171 Tryz.prog Tryz.lays171_ren := {
  mixed := by kernel_rfl
  f129 := Tryz.func100.trans (congrArg some (by kernel_rfl))
  f171 := Tryz.func48.trans (congrArg some (by kernel_rfl))
  f243 := Tryz.func63.trans (congrArg some (by kernel_rfl))
  f246 := Tryz.func75.trans (congrArg some (by kernel_rfl))
  f283 := Tryz.func85.trans (congrArg some (by kernel_rfl))
  f284 := Tryz.func86.trans (congrArg some (by kernel_rfl))
  f285 := Tryz.func87.trans (congrArg some (by kernel_rfl))
  f286 := Tryz.func88.trans (congrArg some (by kernel_rfl))
  f317 := Tryz.func99.trans (congrArg some (by kernel_rfl))
  f318 := Tryz.func101.trans (congrArg some (by kernel_rfl))
  f319 := Tryz.func102.trans (congrArg some (by kernel_rfl))
  f320 := Tryz.func103.trans (congrArg some (by kernel_rfl))
  f337 := Tryz.func109.trans (congrArg some (by kernel_rfl))
  f338 := Tryz.func110.trans (congrArg some (by kernel_rfl))
  t0 := Tryz.underlying0
  a0 := Tryz.isAgg0
  z0 := Tryz.sizeOf0
  v0 := Tryz.zeroValue0
  t2 := Tryz.underlying2
  a2 := Tryz.isAgg2
  z2 := Tryz.sizeOf2
  v2 := Tryz.zeroValue2
  t3 := Tryz.underlying3
  a3 := Tryz.isAgg3
  z3 := Tryz.sizeOf3
  v3 := Tryz.zeroValue3
  t4 := Tryz.underlying4
  a4 := Tryz.isAgg4
  z4 := Tryz.sizeOf4
  v4 := Tryz.zeroValue4
  t5 := Tryz.underlying5
  a5 := Tryz.isAgg5
  z5 := Tryz.sizeOf5
  v5 := Tryz.zeroValue5
  t9 := Tryz.underlying9
  a9 := Tryz.isAgg9
  z9 := Tryz.sizeOf9
  v9 := Tryz.zeroValue9
  t20 := Tryz.underlying20
  a20 := Tryz.isAgg20
  z20 := Tryz.sizeOf20
  v20 := Tryz.zeroValue20
  t37 := Tryz.underlying83
  a37 := Tryz.isAgg83
  z37 := Tryz.sizeOf83
  v37 := Tryz.zeroValue83
  t46 := Tryz.underlying79
  a46 := Tryz.isAgg79
  z46 := Tryz.sizeOf79
  v46 := Tryz.zeroValue79
  t51 := Tryz.underlying69
  a51 := Tryz.isAgg69
  z51 := Tryz.sizeOf69
  v51 := Tryz.zeroValue69
  t53 := Tryz.underlying70
  a53 := Tryz.isAgg70
  z53 := Tryz.sizeOf70
  v53 := Tryz.zeroValue70
  t171 := Tryz.underlying120
  a171 := Tryz.isAgg120
  z171 := Tryz.sizeOf120
  v171 := Tryz.zeroValue120
  t173 := Tryz.underlying123
  a173 := Tryz.isAgg123
  z173 := Tryz.sizeOf123
  v173 := Tryz.zeroValue123
  t212 := Tryz.underlying133
  a212 := Tryz.isAgg133
  z212 := Tryz.sizeOf133
  v212 := Tryz.zeroValue133
  t213 := Tryz.underlying134
  a213 := Tryz.isAgg134
  z213 := Tryz.sizeOf134
  t232 := Tryz.underlying142
  a232 := Tryz.isAgg142
  z232 := Tryz.sizeOf142
  v232 := Tryz.zeroValue142
  t233 := Tryz.underlying143
  a233 := Tryz.isAgg143
  z233 := Tryz.sizeOf143
  v233 := Tryz.zeroValue143
  g17 := by kernel_rfl
  g18 := by kernel_rfl
  g19 := by kernel_rfl }
open Go.RowKit Go.Sort Go.Lib in
theorem Tryz.strconv_Itoa_small (i : Nat) (hi : i < 100) (w : World) :
    Calls Tryz.prog 48 #[.int .i64 i] w fun e w' => e = .returned (.string ⟨(Lib.decDigits i).toArray⟩) ∧ w' = w := Any.strconv_Itoa_small Tryz.lays171 i hi w

def Tryz.lays133_ren : Go.Shelf.Ren := ⟨fun | 133 => 90 | 128 => 106 | n => n, fun | 51 => 69 | 3 => 3 | 4 => 4 | 46 => 79 | 5 => 5 | 9 => 9 | n => n, fun | n => n⟩
theorem Tryz.lays133 : Go.Proofs.Lays.n133 Tryz.prog Tryz.lays133_ren := {
  mixed := by kernel_rfl
  f128 := Tryz.func106.trans (congrArg some (by kernel_rfl))
  f133 := Tryz.func90.trans (congrArg some (by kernel_rfl))
  t3 := Tryz.underlying3
  a3 := Tryz.isAgg3
  z3 := Tryz.sizeOf3
  v3 := Tryz.zeroValue3
  t4 := Tryz.underlying4
  a4 := Tryz.isAgg4
  z4 := Tryz.sizeOf4
  v4 := Tryz.zeroValue4
  t5 := Tryz.underlying5
  a5 := Tryz.isAgg5
  z5 := Tryz.sizeOf5
  v5 := Tryz.zeroValue5
  t9 := Tryz.underlying9
  a9 := Tryz.isAgg9
  z9 := Tryz.sizeOf9
  v9 := Tryz.zeroValue9
  t46 := Tryz.underlying79
  a46 := Tryz.isAgg79
  z46 := Tryz.sizeOf79
  v46 := Tryz.zeroValue79
  t51 := Tryz.underlying69
  a51 := Tryz.isAgg69
  z51 := Tryz.sizeOf69
  v51 := Tryz.zeroValue69 }
theorem Tryz.bits_LeadingZeros32 (x : Int) (w : World) (h0 : 0 ≤ x) (h1 : x ≤ 4294967295) :
    Calls Tryz.prog 90 #[.int .u32 x] w fun e w' => e = .returned (.int .i64 (32 - (Lib.bitLen x.toNat : Int))) ∧ w' = w := Any.bits_LeadingZeros32 Tryz.lays133 x w h0 h1
def Tryz.lays169_ren : Go.Shelf.Ren := ⟨fun | 169 => 49 | n => n, fun | 70 => 82 | 9 => 9 | 0 => 0 | 72 => 85 | 37 => 83 | 127 => 100 | 3 => 3 | 5 => 5 | n => n, fun | n => n⟩
theorem Tryz.lays169 : Go.Proofs.Lays.n169 Tryz.prog Tryz.lays169_ren := {
  mixed := by kernel_rfl
  f169 := Tryz.func49.trans (congrArg some (by kernel_rfl))
  t0 := Tryz.underlying0
  a0 := Tryz.isAgg0
  z0 := Tryz.sizeOf0
  v0 := Tryz.zeroValue0
  t3 := Tryz.underlying3
  a3 := Tryz.isAgg3
  z3 := Tryz.sizeOf3
  v3 := Tryz.zeroValue3
  t9 := Tryz.underlying9
  a9 := Tryz.isAgg9
  z9 := Tryz.sizeOf9
  v9 := Tryz.zeroValue9
  t37 := Tryz.underlying83
  a37 := Tryz.isAgg83
  z37 := Tryz.sizeOf83
  v37 := Tryz.zeroValue83
  t70 := Tryz.underlying82
  a70 := Tryz.isAgg82
  z70 := Tryz.sizeOf82
  v70 := Tryz.zeroValue82
  t72 := Tryz.underlying85
  a72 := Tryz.isAgg85
  z72 := Tryz.sizeOf85
  v72 := Tryz.zeroValue85
  t127 := Tryz.underlying100
  a127 := Tryz.isAgg100
  z127 := Tryz.sizeOf100
  v127 := Tryz.zeroValue100 }
theorem Tryz.Builder_Extra_169 : Builder.Extra Tryz.prog Tryz.lays169_ren := {
  sizeBuilder := by kernel_rfl
  liesBuilder := by kernel_rfl
  t5 := Tryz.underlying5
  a5 := Tryz.isAgg5
  z5 := Tryz.sizeOf5
  v5 := Tryz.zeroValue5
  infoByte := by kernel_rfl
  cellsByte := by kernel_rfl
  sizeByte := by kernel_rfl
  neB5 := by decide }
open Go.RowKit in
theorem Tryz.Builder_String_any_k (B b : Nat) (l : List UInt8) (w : World) (h : Lib.IsBuilderF 85 5 B b (Lib.byteCells l) w) (hBw : B ≤ w.heap.size) :
    Calls Tryz.prog 49 #[.pointer (some ⟨b, 0, none⟩)] w fun e w' => e = .returned (.string ⟨l.toArray⟩) ∧ (Lib.IsBuilderF 85 5 B b (Lib.byteCells l) w' ∧ Below B w w' ∧ Lib.OthersKept 5 (some b) w w') := Any.Builder_String_any_k Tryz.lays169 Tryz.Builder_Extra_169 B b l w h hBw
def Tryz.lays167_ren : Go.Shelf.Ren := ⟨fun | 167 => 46 | 240 => 62 | 276 => 74 | n => n, fun | 0 => 0 | 3 => 3 | 4 => 4 | 5 => 5 | 9 => 9 | 20 => 20 | 37 => 83 | 70 => 82 | 72 => 85 | 75 => 28 | 80 => 90 | 164 => 112 | n => n, fun | n => n⟩
theorem Tryz.lays167 : Go.Proofs.Lays.n167 Tryz.prog Tryz.lays167_ren := {
  mixed := by kernel_rfl
  f167 := Tryz.func46.trans (congrArg some (by kernel_rfl))
  f240 := Tryz.func62.trans (congrArg some (by kernel_rfl))
  f276 := Tryz.func74.trans (congrArg some (by kernel_rfl))
  t0 := Tryz.underlying0
  a0 := Tryz.isAgg0
  z0 := Tryz.sizeOf0
  v0 := Tryz.zeroValue0
  t4 := Tryz.underlying4
  a4 := Tryz.isAgg4
  z4 := Tryz.sizeOf4
  v4 := Tryz.zeroValue4
  t5 := Tryz.underlying5
  a5 := Tryz.isAgg5
  z5 := Tryz.sizeOf5
  v5 := Tryz.zeroValue5
  t9 := Tryz.underlying9
  a9 := Tryz.isAgg9
  z9 := Tryz.sizeOf9
  v9 := Tryz.zeroValue9
  t20 := Tryz.underlying20
  a20 := Tryz.isAgg20
  z20 := Tryz.sizeOf20
  v20 := Tryz.zeroValue20
  t37 := Tryz.underlying83
  a37 := Tryz.isAgg83
  z37 := Tryz.sizeOf83
  v37 := Tryz.zeroValue83
  t70 := Tryz.underlying82
  a70 := Tryz.isAgg82
  z70 := Tryz.sizeOf82
  v70 := Tryz.zeroValue82
  t72 := Tryz.underlying85
  a72 := Tryz.isAgg85
  z72 := Tryz.sizeOf85
  v72 := Tryz.zeroValue85
  t75 := Tryz.underlying28
  a75 := Tryz.isAgg28
  z75 := Tryz.sizeOf28
  v75 := Tryz.zeroValue28
  t164 := Tryz.underlying112
  a164 := Tryz.isAgg112
  z164 := Tryz.sizeOf112
  v164 := Tryz.zeroValue112 }
theorem Tryz.Builder_Extra_167 : Builder.Extra Tryz.prog Tryz.lays167_ren := {
  sizeBuilder := by kernel_rfl
  liesBuilder := by kernel_rfl
  t5 := Tryz.underlying5
  a5 := Tryz.isAgg5
  z5 := Tryz.sizeOf5
  v5 := Tryz.zeroValue5
  infoByte := by kernel_rfl
  cellsByte := by kernel_rfl
  sizeByte := by kernel_rfl
  neB5 := by decide }
open Go.RowKit in
theorem Tryz.Builder_WriteByte_k (B b : Nat) (bs : List Value) (c : Int) (w : World) (h : Lib.IsBuilderF 85 5 B b bs w) (hlen : bs.length + 1 ≤ 140737488355328) (hBw : B ≤ w.heap.size) :
    Calls Tryz.prog 46 #[.pointer (some ⟨b, 0, none⟩), .int .u8 c] w fun e w' => e = .returned .nilIface ∧ (Lib.BuilderAtF 85 5 B b (.pointer (some ⟨b, 0, none⟩)) (bs ++ [.int .u8 c]) w' ∧ Below B w w' ∧ Lib.OthersKept 5 (some b) w w') := Any.Builder_WriteByte_k Tryz.lays167 Tryz.Builder_Extra_167 B b bs c w h hlen hBw
def Tryz.lays166_ren : Go.Shelf.Ren := ⟨fun | 166 => 47 | 240 => 62 | 276 => 74 | n => n, fun | 0 => 0 | 3 => 3 | 4 => 4 | 5 => 5 | 9 => 9 | 20 => 20 | 37 => 83 | 70 => 82 | 72 => 85 | 75 => 28 | 80 => 90 | 164 => 112 | n => n, fun | n => n⟩
theorem Tryz.lays166 : Go.Proofs.Lays.n166 Tryz.prog Tryz.lays166_ren := {
  mixed := by kernel_rfl
  f166 := Tryz.func47.trans (congrArg some (by kernel_rfl))
  f240 := Tryz.func62.trans (congrArg some (by kernel_rfl))
  f276 := Tryz.func74.trans (congrArg some (by kernel_rfl))
  t0 := Tryz.underlying0
  a0 := Tryz.isAgg0
  z0 := Tryz.sizeOf0
  v0 := Tryz.zeroValue0
  t3 := Tryz.underlying3
  a3 := Tryz.isAgg3
  z3 := Tryz.sizeOf3
  v3 := Tryz.zeroValue3
  t4 := Tryz.underlying4
  a4 := Tryz.isAgg4
  z4 := Tryz.sizeOf4
  v4 := Tryz.zeroValue4
  t9 := Tryz.underlying9
  a9 := Tryz.isAgg9
  z9 := Tryz.sizeOf9
  v9 := Tryz.zeroValue9
  t20 := Tryz.underlying20
  a20 := Tryz.isAgg20
  z20 := Tryz.sizeOf20
  v20 := Tryz.zeroValue20
  t37 := Tryz.underlying83
  a37 := Tryz.isAgg83
  z37 := Tryz.sizeOf83
  v37 := Tryz.zeroValue83
  t70 := Tryz.underlying82
  a70 := Tryz.isAgg82
  z70 := Tryz.sizeOf82
  v70 := Tryz.zeroValue82
  t72 := Tryz.underlying85
  a72 := Tryz.isAgg85
  z72 := Tryz.sizeOf85
  v72 := Tryz.zeroValue85
  t75 := Tryz.underlying28
  a75 := Tryz.isAgg28
  z75 := Tryz.sizeOf28
  v75 := Tryz.zeroValue28
  t164 := Tryz.underlying112
  a164 := Tryz.isAgg112
  z164 := Tryz.sizeOf112
  v164 := Tryz.zeroValue112 }
theorem Tryz.Builder_Extra_166 : Builder.Extra Tryz.prog Tryz.lays166_ren := {
  sizeBuilder := by kernel_rfl
  liesBuilder := by kernel_rfl
  t5 := Tryz.underlying5
  a5 := Tryz.isAgg5
  z5 := Tryz.sizeOf5
  v5 := Tryz.zeroValue5
  infoByte := by kernel_rfl
  cellsByte := by kernel_rfl
  sizeByte := by kernel_rfl
  neB5 := by decide }
open Go.RowKit in
theorem Tryz.Builder_WriteString_k (B b : Nat) (bs : List Value) (s : ByteArray) (w : World) (h : Lib.IsBuilderF 85 5 B b bs w) (hlen : bs.length + s.size ≤ 140737488355328) (hBw : B ≤ w.heap.size) :
    Calls Tryz.prog 47 #[.pointer (some ⟨b, 0, none⟩), .string s] w fun e w' => e = .returned (.tuple #[.int .i64 s.size, .nilIface]) ∧ (Lib.BuilderAtF 85 5 B b (.pointer (some ⟨b, 0, none⟩)) (bs ++ Lib.strCells s) w' ∧ Below B w w' ∧ Lib.OthersKept 5 (some b) w w') := Any.Builder_WriteString_k Tryz.lays166 Tryz.Builder_Extra_166 B b bs s w h hlen hBw
end Go.Proofs
