/- Limbs divided by limbs: the long way. -/
import Derived.Test.YtdedolkgcdlmeaaGreatDoorDivL
namespace Go.Proofs.YtdedolkgcdlmeaaGreatDoor
open Go.RowKit Limbs

/-- At the loop's head: from this place on it is done. -/
structure LongInv (w wr : World) (g h f : Nat) (d : List Int) (VAL : Int) (La M p : Nat) (zs qs : List Int) : Prop where
  rest : Row wr g zs
  div : Row wr h d
  often : Row wr f qs
  below : Below w.heap.size w wr
  zlen : zs.length = La + 1
  qlen : qs.length = M
  val : VAL = lv d * (bp p * lv (qs.drop p)) + lv zs
  low : lv (zs.drop p) < lv d

/-- Three rows of one's own. -/
structure Apart (w : World) (g h f : Nat) : Prop where
  gh : h ≠ g
  fg : f ≠ g
  fh : f ≠ h
  gw : w.heap.size ≤ g
  hw : w.heap.size ≤ h
  fw : w.heap.size ≤ f

theorem grown_below {w W : World} (h : Below w.heap.size w W) : w.grownBy W none := ⟨h.os, h.tape, h.output, h.size, fun k hk _ => h.block k hk⟩

theorem grown_one (w : World) (g k : Nat) (u : Value) : w.grownBy (w.setCell ⟨g, k, none⟩ u) (some g) := grown_set (World.grownBy.refl w (some g)) k u

theorem LongInv.step {w wr wr' : World} {g h f : Nat} {d : List Int} {VAL : Int} {La M p n : Nat} {zs qs ys : List Int} (hi : LongInv w wr g h f d VAL La M (p + 1) zs qs) (hp : p < M) (hn : p + n + 1 ≤ La + 1) (hD : lv d ≤ bp n) (hap : Apart w g h f)
    {q : Int} (hq : 0 ≤ q ∧ q < 4294967296) (hpart : Part wr wr' g zs ys p (n + 1)) (hst : seg zs p (n + 1) = q * lv d + seg ys p (n + 1)) (hlt : seg ys p (n + 1) < lv d) :
    LongInv w (wr'.setCell ⟨f, p, none⟩ (.int .u32 q)) g h f d VAL La M p ys (qs.set p q) := by
  have hb' := below_grown hi.below hpart.grown hap.gw hi.below.size
  have hl := long_step hi.rest.2.1 (by rw [hi.zlen]; omega) (by rw [hi.qlen]; exact hp) hi.val hi.low hD hpart.only hst hlt
  exact ⟨hpart.row.kept (grown_one _ _ _ _) (by simp; exact fun e => hap.fg e), (hi.div.far hpart.grown hap.gh).kept (grown_one _ _ _ _) (by simp; exact fun e => hap.fh e), (hi.often.far hpart.grown hap.fg).store (by rw [hi.qlen]; exact hp) hq, hb'.setCell hap.fw _, by rw [hpart.only.len]; exact hi.zlen, by rw [List.length_set]; exact hi.qlen, hl.1, hl.2⟩

theorem divStep_at (w : World) (g h cap bcap off n len : Nat) (zs d : List Int) (hr : Row w g zs) (hd : Row w h d) (hdn : d.length = n) (hlen : len = n + 1) (hbc : n ≤ bcap) (hne : h ≠ g) (hoff : off + n + 1 ≤ zs.length) (hl : zs.length ≤ 1000000)
    (h2 : 2 ≤ n) (ht : d.getD (n - 1) 0 ≠ 0) (hlt : seg zs off (n + 1) < lv d * 4294967296) :
    Calls Tryz.prog 143 #[.slice (some ⟨g, off, none⟩) len cap, .slice (some ⟨h, 0, none⟩) n bcap] w fun e w' => StepPost w g zs off d e w' := by
  subst hdn; subst hlen
  exact divStep_any w g h cap bcap off (d.length - 2) zs d hr hd hbc hne hoff hl (by omega) (by rwa [show d.length - 2 + 1 = d.length - 1 by omega]) hlt

theorem Lim.take' {w : World} {ao : Option Addr} {n cap : Nat} {zs : List Int} (h : Lim w (.slice ao n cap) zs) (m : Nat) (hm : m ≤ n) (hn : zs.length = n) : Lim w (.slice ao m cap) (zs.take m) := by
  subst hn; exact h.take m hm

theorem drewed {B : Nat} {w w' : World} (h : Below B w.drew w') : Below B w w' := ⟨h.os, h.tape, h.output, h.size, h.block⟩

theorem shiftDown_at (w : World) (v : Value) (l : List Int) (n s : Nat) {P Q : Int} (hn : l.length = n) (hl : Lim w v l) (hP : Pow s P Q) :
    Calls Tryz.prog 144 #[v, .int .i64 (s : Int)] w fun e w' => ∃ zs, e = .returned (.slice (some ⟨w.heap.size, 0, none⟩) n n) ∧ zs.length = n ∧ Row w' w.heap.size zs ∧ lv zs = lv l / P ∧ Below w.heap.size w w' := by
  subst hn; exact shiftDown_any w v l s hl hP

set_option maxRecDepth 100000 in
set_option maxHeartbeats 1600000 in
theorem divLimbs_long (w : World) (va vb : Value) (a b : List Int) (ha : Lim w va a) (hb : Lim w vb b) (na : Nrm a) (nb : Nrm b) (hge : lv b ≤ lv a) (h1 : 2 ≤ b.length) (hla : a.length ≤ 900000) :
    Calls Tryz.prog 126 #[va, vb] w fun e w' => DivPost w a b e w' := by
  have HA := hide ha; have HB := hide hb
  obtain ⟨ao, acap, rfl, hacap, halen, halb, -⟩ := ha
  obtain ⟨bo, bcap, rfl, hbcap, hblen, hblb, hbc⟩ := hb
  replace hbc := hbc (by omega)
  obtain ⟨bb, boff, rfl, hbb, hbc⟩ := hbc
  have hble := length_le_of_le halb hblb nb hge
  have hcl := hbc (b.length - 1) (by omega)
  clear hbc
  have hx0 : b.getD (b.length - 1) 0 ≠ 0 := by rcases nb with h | h; omega; exact h
  have hx := hblb (b.length - 1)
  obtain ⟨s, P, Q, hP, hxP, hlz⟩ := lz_any (b.getD (b.length - 1) 0) (by omega) hx.2
  have HXP := hide hxP
  obtain ⟨M, hM⟩ : ∃ M, M + b.length = a.length + 1 := ⟨a.length + 1 - b.length, by omega⟩
  have hmk := run_mk M (by omega)
  have hMi : (M : Int) = (a.length : Int) - (b.length : Int) + 1 := by omega
  rw [hMi] at hmk
  clear hMi
  have hcm : ¬ cmpI (lv a) (lv b) < 0 := by
    by_cases h : lv b < lv a
    · rw [cmpI_gt h]; decide
    · rw [cmpI_eq (by omega)]; decide
  clear hxP
  generalize hxe : b.getD (b.length - 1) 0 = x at *
  have hne1 : ((b.length : Int) == 1) = false := by rw [beq_eq_false_iff_ne]; omega
  go_enter Tryz.func126, Tryz.ntmps126
  go_wp2_with fail
  refine (compareLimbs_any w _ _ a b HA.out HB.out na nb).mono ?_
  rintro e w1 ⟨rfl, hb1⟩
  generalize cmpI (lv a) (lv b) = c at *
  have hcb : w1.cell? ⟨bb, boff + (b.length - 1), none⟩ = some (.int .u32 x) := (hb1.cell (p := ⟨bb, boff + (b.length - 1), none⟩) hbb).trans hcl
  go_wp2_with fail
  refine (hlz _).mono ?_
  rintro e w1 ⟨rfl, rfl⟩
  go_wp2_with fail
  refine (shiftUp_any w1 _ a s (HA.out.below hb1 (Nat.le_refl _)) hP (by omega)).mono ?_
  rintro e w2 ⟨zs, rfl, hzl, hzr, hzv, hb2⟩
  have HZV := hide hzv
  clear hzv
  have hB2 := hb1.trans (hb2.mono hb1.size)
  go_wp2_with fail
  refine (shiftUp_any w2 _ b s (HB.out.below hB2 (Nat.le_refl _)) hP (by omega)).mono ?_
  rintro e w3 ⟨d0, rfl, hdl, hdr, hdv, hb3⟩
  have HDV := hide hdv
  clear hdv
  have hB3 := hB2.trans (hb3.mono hB2.size)
  go_wp2_with fail
  refine (trim_at w3 _ _ d0 (b.length + 1) hdl (by have := hdr.lim (b.length + 1) (by omega) (by omega); rwa [hdl] at this)).mono ?_
  rintro e w4 ⟨m, hm, rfl, hlm, hnm, rfl⟩
  obtain ⟨hdlen, hdlt⟩ := div_len (hdr.take m).2.1 hnm hblb nb (by omega) hP.pos (hlm.trans HDV.out) (by rw [hxe]; exact HXP.out) ⟨Q, hP.co⟩
  obtain rfl : m = b.length := by rw [List.length_take] at hdlen; omega
  have HDV' := hide (hlm.trans HDV.out)
  replace hdr := hdr.take b.length
  generalize d0.take b.length = d at *
  have hap : Apart w w1.heap.size w2.heap.size w4.heap.size := ⟨by have := hb2.size; have := hzr.1; omega, by have := hb3.size; have := hzr.1; omega, by have := hdr.1; omega, hb1.size, hB2.size, hB3.size⟩
  have hst0 : LongInv w (w4.alloc (.cells (madeCells #[.int .u32 0] M) 104)) w1.heap.size w2.heap.size w4.heap.size d (lv a * P) a.length M M zs (List.replicate M 0) :=
    ⟨((hzr.kept (grown_below hb3) (by simp)).kept (World.grownBy_alloc _ _ none) (by simp)), hdr.kept (World.grownBy_alloc _ _ none) (by simp), Row.made w4 M, hB3.alloc hB3.size _, hzl, List.length_replicate,
      by rw [List.drop_eq_nil_of_le (by simp)]; simp [lv, HZV.out], by rw [HDV'.out]; exact long_start hzr.2.1 halb hblb nb (by omega) hM hzl HZV.out hP.pos⟩
  have hdtop : d.getD (b.length - 1) 0 ≠ 0 := by rcases hnm with h | h; omega; rwa [hdlen] at h
  have HST := hide hst0
  have HAP := hide hap
  have HD := hide (Int.le_of_lt hdlt)
  have HT := hide hdtop
  have HDL := hide hdlen
  clear hst0 hap hdlt hdtop hlm hnm hzr hdr hzl hdl HZV HDV hdlen
  go_wp2
  go_loopw [56] (fun i wr => ∃ (k : Nat) (zs qs : List Int), k ≤ M ∧ i = .int .i64 k ∧ LongInv w wr w1.heap.size w2.heap.size w4.heap.size d (lv a * P) a.length M (M - k) zs qs) (fun i _ => M - (intOf i).toNat)
  case atStart => exact ⟨0, zs, _, Nat.zero_le _, rfl, HST.out⟩
  case round =>
    obtain ⟨k, zs, qs, hk, rfl, hinv⟩ := hrel
    by_cases hlt : k < M
    · obtain ⟨p, hp⟩ : ∃ p, p = M - 1 - k := ⟨_, rfl⟩
      have hPi : (M : Int) - 1 - (k : Int) = (p : Int) := by omega
      have hpM : p < M := by omega
      rw [show M - k = p + 1 by omega] at hinv
      have HK := hide (show M - (k + 1) = p by omega)
      have hpn : p + b.length + 1 ≤ a.length + 1 := by omega
      clear hp
      go_wp2_with fail
      refine (divStep_at wr _ _ _ _ p b.length _ zs d hinv.rest hinv.div HDL.out (by omega) (by omega) HAP.out.gh (by rw [hinv.zlen]; omega) (by rw [hinv.zlen]; omega) h1 HT.out (long_pre hinv.rest.2.1 (by rw [hinv.zlen]; omega) hinv.low)).mono ?_
      rintro e wr' ⟨q, ys, rfl, hq0, hq1, hpart, hsv, hsl⟩
      rw [HDL.out] at hpart hsv hsl
      have HS := hide (hinv.step hpM hpn HD.out HAP.out ⟨hq0, hq1⟩ hpart hsv hsl)
      obtain ⟨hcell, hfr⟩ := (hinv.often.far hpart.grown HAP.out.fg).2.2 p (by rw [hinv.qlen]; exact hpM)
      generalize qs.getD p 0 = o at *
      clear hpart hsv hsl
      go_wp2
      go_roundw
      case rel => exact ⟨k + 1, ys, _, by omega, by go_num, by rw [HK.out]; exact HS.out⟩
      case measure => simp [intOf]; omega
    · obtain rfl : k = M := by omega
      rw [Nat.sub_self] at hinv
      have hqa : Lim wr (.slice (some ⟨w4.heap.size, 0, none⟩) k k) qs := by have := hinv.often.lim k (by rw [hinv.qlen]; omega) (by rw [hinv.qlen]; omega); rwa [hinv.qlen] at this
      have hza : Lim wr (.slice (some ⟨w1.heap.size, 0, none⟩) b.length (a.length + 1)) (zs.take b.length) := (hinv.rest.lim (a.length + 1) (by rw [hinv.zlen]; omega) (by rw [hinv.zlen]; omega)).take b.length (by rw [hinv.zlen]; omega)
      have hzt : (zs.take b.length).length = b.length := by rw [List.length_take, hinv.zlen]; omega
      have HV := hide hinv.val
      have HLo := hide hinv.low
      have HZ0 := hide (lv_nonneg hinv.rest.2.1)
      have HTZ := hide (show lv (zs.take b.length) = lv zs by
        have h2 := high_zero (k := 0) (n := b.length) hinv.rest.2.1 (by rw [hinv.zlen]; omega) hinv.low HD.out
        have h3 := lv_split zs b.length (by rw [hinv.zlen]; omega)
        rw [Nat.zero_add] at h2
        rw [h2] at h3
        omega)
      have hql := hinv.qlen
      have hbel := hinv.below
      have hsl1 : (0 : Int) ≤ (b.length : Int) := by omega
      have hsl2 : (b.length : Int) ≤ ((a.length + 1 : Nat) : Int) := by omega
      have hsl3 : (b.length : Int) ≤ (a.length : Int) + 1 := by omega
      have tok1 : True := trivial
      have tok2 : True := trivial
      go_wp2
      go_region_held3 (fun _ => True) (trivial)
        (first
          | (go_at_call 124; have _t := tok1; refine (trim_at _ _ _ qs k hql (by exact hqa)).mono ?_; rintro e wx ⟨m1, hm1, rfl, hl1, hn1, rfl⟩; clear tok1)
          | (go_at_call 144; refine (shiftDown_at _ _ _ b.length s hzt (by exact hza) hP).mono ?_; rintro e wy ⟨rs, rfl, hrl, hrr, hrv, hby⟩)
          | (go_at_call 124; have _t := tok2; refine (trim_at _ _ _ rs b.length hrl (by have := hrr.lim b.length (by omega) (by omega); rwa [hrl] at this)).mono ?_; rintro e wz ⟨m2, hm2, rfl, hl2, hn2, rfl⟩; clear tok2))
      have hend := long_end (A := lv a) (V := lv b) (q := lv qs) (Z := lv zs) hP.pos (by have := HV.out; rw [HDV'.out] at this; simpa [bp] using this) HZ0.out (by have := HLo.out; rw [HDV'.out] at this; simpa using this)
      have hq' := (hqa.take' m1 (by omega) hql).below ((drewed hby)) (Nat.le_refl _)
      have hr' : Lim wz (.slice (some ⟨wr.heap.size, 0, none⟩) m2 b.length) (rs.take m2) := by
        have := (hrr.lim b.length (by omega) (by omega)).take m2 hm2
        exact this
      have hA : lv a = lv b * lv (qs.take m1) + lv (rs.take m2) := by rw [hl1, hl2, hrv, HTZ.out]; exact hend.1
      have hR : lv (rs.take m2) < lv b := by rw [hl2, hrv, HTZ.out]; exact hend.2.2
      have HF := hide (show DivPost w a b (.returned (.tuple #[.slice (some ⟨w4.heap.size, 0, none⟩) m1 k, .slice (some ⟨wr.heap.size, 0, none⟩) m2 b.length])) wz from
        ⟨_, _, _, _, rfl, hq', hr', hn1, hn2, hA, hR, by rw [List.length_take]; omega, by rw [List.length_take]; omega, hbel.trans ((drewed hby).mono hbel.size)⟩)
      clear hq' hr' hA hR hend hrr hrv hl1 hl2 hn1 hn2 hqa hza hby
      go_wp2
      go_ret2
      exact HF.out

end Go.Proofs.YtdedolkgcdlmeaaGreatDoor
