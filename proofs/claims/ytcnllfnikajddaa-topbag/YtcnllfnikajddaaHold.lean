/- Limbs divided by limbs: the long way. -/
import Derived.Test.YtcnllfnikajddaaDivL
import Derived.Test.YtcnllfnikajddaaDivOne

namespace Go.Proofs.Ytcnllfnikajddaa
open Go.RowKit Limbs

structure LongInv (w wr : World) (g h f : Nat) (d : List Int) (VAL : Int) (La M p : Nat) (zs qs : List Int) : Prop where
 rest : Row wr g zs
 div : Row wr h d
 often : Row wr f qs
 below : Below w.heap.size w wr
 zlen : zs.length = La + 1
 qlen : qs.length = M
 val : VAL = lv d * (bp p * lv (qs.drop p)) + lv zs
 low : lv (zs.drop p) < lv d

structure Apart (w : World) (g h f : Nat) : Prop where
 gh : h ≠ g
 fg : f ≠ g
 fh : f ≠ h
 gw : w.heap.size ≤ g
 hw : w.heap.size ≤ h
 fw : w.heap.size ≤ f

theorem grown_below {w W : World} (h : Below w.heap.size w W) : w.grownBy W none := ⟨h.os, h.tape, h.output, h.size, fun k hk _ => h.block k hk⟩

theorem grown_one (w : World) (g k : Nat) (u : Value) : w.grownBy (w.setCell ⟨g, k, none⟩ u) (some g) := grown_set (World.grownBy.refl w (some g)) k u

theorem LongInv.step {w wr wr' : World} {g h f : Nat} {d : List Int} {VAL : Int} {La M p n : Nat} {zs qs ys : List Int} (hi : LongInv w wr g h f d VAL La M (p + 1) zs qs) (hp : p < M) (hn : p + n + 1 ≤ La + 1) (hD : lv d ≤ bp n) (hap : Apart w g h f)
  {q : Int} (hq : 0 ≤ q ∧ q < 4294967296) (hpart : Part wr wr' g zs ys p (n + 1)) (hst : seg zs p (n + 1) = q * lv d + seg ys p (n + 1)) (hlt : seg ys p (n + 1) < lv d) :
  LongInv w (wr'.setCell ⟨f, p, none⟩ (.int .u32 q)) g h f d VAL La M p ys (qs.set p q) := by
 have hb' := below_grown hi.below hpart.grown hap.gw hi.below.size
 have hl := long_step hi.rest.2.1 (by rw [hi.zlen]; omega) (by rw [hi.qlen]; exact hp) hi.val hi.low hD hpart.only hst hlt
 exact ⟨hpart.row.kept (grown_one _ _ _ _) (by simp; exact fun e => hap.fg e), (hi.div.far hpart.grown hap.gh).kept (grown_one _ _ _ _) (by simp; exact fun e => hap.fh e), (hi.often.far hpart.grown hap.fg).store (by rw [hi.qlen]; exact hp) hq, hb'.setCell hap.fw _, by rw [hpart.only.len]; exact hi.zlen, by rw [List.length_set]; exact hi.qlen, hl.1, hl.2⟩

theorem divStep_at (w : World) (g h cap bcap off n len : Nat) (zs d : List Int) (hr : Row w g zs) (hd : Row w h d) (hdn : d.length = n) (hlen : len = n + 1) (hbc : n ≤ bcap) (hne : h ≠ g) (hoff : off + n + 1 ≤ zs.length) (hl : zs.length ≤ 1000000)
  (h2 : 2 ≤ n) (ht : d.getD (n - 1) 0 ≠ 0) (hlt : seg zs off (n + 1) < lv d * 4294967296) :
  Calls Try.prog 70 #[.slice (some ⟨g, off, none⟩) len cap, .slice (some ⟨h, 0, none⟩) n bcap] w fun e w' => StepPost w g zs off d e w' := by
 subst hdn; subst hlen
 exact divStep_any w g h cap bcap off (d.length - 2) zs d hr hd hbc hne hoff hl (by omega) (by rwa [show d.length - 2 + 1 = d.length - 1 by omega]) hlt

theorem Lim.take' {w : World} {ao : Option Addr} {n cap : Nat} {zs : List Int} (h : Lim w (.slice ao n cap) zs) (m : Nat) (hm : m ≤ n) (hn : zs.length = n) : Lim w (.slice ao m cap) (zs.take m) := by
 subst hn; exact h.take m hm

theorem drewed {B : Nat} {w w' : World} (h : Below B w.drew w') : Below B w w' := ⟨h.os, h.tape, h.output, h.size, h.block⟩

theorem shiftDown_at (w : World) (v : Value) (l : List Int) (n s : Nat) {P Q : Int} (hn : l.length = n) (hl : Lim w v l) (hP : Pow s P Q) :
  Calls Try.prog 71 #[v, .int .i64 (s : Int)] w fun e w' => ∃ zs, e = .returned (.slice (some ⟨w.heap.size, 0, none⟩) n n) ∧ zs.length = n ∧ Row w' w.heap.size zs ∧ lv zs = lv l / P ∧ Below w.heap.size w w' := by
 subst hn; exact shiftDown_any w v l s hl hP

set_option maxRecDepth 100000 in
set_option maxHeartbeats 1600000 in
theorem divLimbs_long (w : World) (va vb : Value) (a b : List Int) (ha : Lim w va a) (hb : Lim w vb b) (na : Nrm a) (nb : Nrm b) (hge : lv b ≤ lv a) (h1 : 2 ≤ b.length) (hla : a.length ≤ 900000) :
  Calls Try.prog 57 #[va, vb] w fun e w' => DivPost w a b e w' := by
 have HA := hide ha; have HB := hide hb
 obtain ⟨ao, acap, rfl, hacap, halen, halb, -⟩ := ha
 obtain ⟨bo, bcap, rfl, hbcap, hblen, hblb, hbc⟩ := hb
 replace hbc := hbc (by omega)
 obtain ⟨bb, boff, rfl, hbb, hbc⟩ := hbc
 have hble := length_le_of_le halb hblb nb hge
 have hcl := hbc (b.length - 1) (by omega)
 clear hbc
 have hx0 : b.getD (b.length - 1) 0 ≠ 0 := by rcases nb with h | h; omega; exact h
 have hx := hblb (b.length - 1)
 obtain ⟨s, P, Q, hP, hxP, hlz⟩ := lz_any (b.getD (b.length - 1) 0) (by omega) hx.2
 have HXP := hide hxP
 obtain ⟨M, hM⟩ : ∃ M, M + b.length = a.length + 1 := ⟨a.length + 1 - b.length, by omega⟩
 have hmk := run_mk M (by omega)
 have hMi : (M : Int) = (a.length : Int) - (b.length : Int) + 1 := by omega
 rw [hMi] at hmk
 clear hMi
 have hcm : ¬ cmpI (lv a) (lv b) < 0 := by
  by_cases h : lv b < lv a
  ·rw [cmpI_gt h]; decide
  ·rw [cmpI_eq (by omega)]; decide
 clear hxP
 generalize hxe : b.getD (b.length - 1) 0 = x at *
 have hne1 : ((b.length : Int) == 1) = false := by rw [beq_eq_false_iff_ne]; omega
 go_enter Try.func57, Try.ntmps57
 go_wp2_with fail
 refine (compareLimbs_any w _ _ a b HA.out HB.out na nb).mono ?_
 rintro e w1 ⟨rfl, hb1⟩
 generalize cmpI (lv a) (lv b) = c at *
 have hcb : w1.cell? ⟨bb, boff + (b.length - 1), none⟩ = some (.int .u32 x) := (hb1.cell (p := ⟨bb, boff + (b.length - 1), none⟩) hbb).trans hcl
 go_wp2_with fail
 refine (hlz _).mono ?_
 rintro e w1 ⟨rfl, rfl⟩
 go_wp2_with fail
 refine (shiftUp_any w1 _ a s (HA.out.below hb1 (Nat.le_refl _)) hP (by omega)).mono ?_
 rintro e w2 ⟨zs, rfl, hzl, hzr, hzv, hb2⟩
 have HZV := hide hzv
 clear hzv
 have hB2 := hb1.trans (hb2.mono hb1.size)
 go_wp2_with fail
 refine (shiftUp_any w2 _ b s (HB.out.below hB2 (Nat.le_refl _)) hP (by omega)).mono ?_
 rintro e w3 ⟨d0, rfl, hdl, hdr, hdv, hb3⟩
 have HDV := hide hdv
 clear hdv
 have hB3 := hB2.trans (hb3.mono hB2.size)
 go_wp2_with fail
 refine (trim_at w3 _ _ d0 (b.length + 1) hdl (by have := hdr.lim (b.length + 1) (by omega) (by omega); rwa [hdl] at this)).mono ?_
 rintro e w4 ⟨m, hm, rfl, hlm, hnm, rfl⟩
 obtain ⟨hdlen, hdlt⟩ := div_len (hdr.take m).2.1 hnm hblb nb (by omega) hP.pos (hlm.trans HDV.out) (by rw [hxe]; exact HXP.out) ⟨Q, hP.co⟩
 obtain rfl : m = b.length := by rw [List.length_take] at hdlen; omega
 have HDV' := hide (hlm.trans HDV.out)
 replace hdr := hdr.take b.length
 generalize d0.take b.length = d at *
 have hap : Apart w w1.heap.size w2.heap.size w4.heap.size := ⟨by have := hb2.size; have := hzr.1; omega, by have := hb3.size; have := hzr.1; omega, by have := hdr.1; omega, hb1.size, hB2.size, hB3.size⟩
 have hst0 : LongInv w (w4.alloc (.cells (madeCells #[.int .u32 0] M) 88)) w1.heap.size w2.heap.size w4.heap.size d (lv a * P) a.length M M zs (List.replicate M 0) :=
  ⟨((hzr.kept (grown_below hb3) (by simp)).kept (World.grownBy_alloc _ _ none) (by simp)), hdr.kept (World.grownBy_alloc _ _ none) (by simp), Row.made w4 M, hB3.alloc hB3.size _, hzl, List.length_replicate,
   by rw [List.drop_eq_nil_of_le (by simp)]; simp [lv, HZV.out], by rw [HDV'.out]; exact long_start hzr.2.1 halb hblb nb (by omega) hM hzl HZV.out hP.pos⟩
 have hdtop : d.getD (b.length - 1) 0 ≠ 0 := by rcases hnm with h | h; omega; rwa [hdlen] at h
 have HST := hide hst0
 have HAP := hide hap
 have HD := hide (Int.le_of_lt hdlt)
 have HT := hide hdtop
 have HDL := hide hdlen
 clear hst0 hap hdlt hdtop hlm hnm hzr hdr hzl hdl HZV HDV hdlen
 go_wp2
 go_loopw [56] (fun i wr => ∃ (k : Nat) (zs qs : List Int), k ≤ M ∧ i = .int .i64 k ∧ LongInv w wr w1.heap.size w2.heap.size w4.heap.size d (lv a * P) a.length M (M - k) zs qs) (fun i _ => M - (intOf i).toNat)
 case atStart => exact ⟨0, zs, _, Nat.zero_le _, rfl, HST.out⟩
 case round =>
  obtain ⟨k, zs, qs, hk, rfl, hinv⟩ := hrel
  by_cases hlt : k < M
  ·obtain ⟨p, hp⟩ : ∃ p, p = M - 1 - k := ⟨_, rfl⟩
   have hPi : (M : Int) - 1 - (k : Int) = (p : Int) := by omega
   have hpM : p < M := by omega
   rw [show M - k = p + 1 by omega] at hinv
   have HK := hide (show M - (k + 1) = p by omega)
   have hpn : p + b.length + 1 ≤ a.length + 1 := by omega
   clear hp
   go_wp2_with fail
   refine (divStep_at wr _ _ _ _ p b.length _ zs d hinv.rest hinv.div HDL.out (by omega) (by omega) HAP.out.gh (by rw [hinv.zlen]; omega) (by rw [hinv.zlen]; omega) h1 HT.out (long_pre hinv.rest.2.1 (by rw [hinv.zlen]; omega) hinv.low)).mono ?_
   rintro e wr' ⟨q, ys, rfl, hq0, hq1, hpart, hsv, hsl⟩
   rw [HDL.out] at hpart hsv hsl
   have HS := hide (hinv.step hpM hpn HD.out HAP.out ⟨hq0, hq1⟩ hpart hsv hsl)
   obtain ⟨hcell, hfr⟩ := (hinv.often.far hpart.grown HAP.out.fg).2.2 p (by rw [hinv.qlen]; exact hpM)
   generalize qs.getD p 0 = o at *
   clear hpart hsv hsl
   go_wp2
   go_roundw
   case rel => exact ⟨k + 1, ys, _, by omega, by go_num, by rw [HK.out]; exact HS.out⟩
   case measure => simp [intOf]; omega
  ·obtain rfl : k = M := by omega
   rw [Nat.sub_self] at hinv
   have hqa : Lim wr (.slice (some ⟨w4.heap.size, 0, none⟩) k k) qs := by have := hinv.often.lim k (by rw [hinv.qlen]; omega) (by rw [hinv.qlen]; omega); rwa [hinv.qlen] at this
   have hza : Lim wr (.slice (some ⟨w1.heap.size, 0, none⟩) b.length (a.length + 1)) (zs.take b.length) := (hinv.rest.lim (a.length + 1) (by rw [hinv.zlen]; omega) (by rw [hinv.zlen]; omega)).take b.length (by rw [hinv.zlen]; omega)
   have hzt : (zs.take b.length).length = b.length := by rw [List.length_take, hinv.zlen]; omega
   have HV := hide hinv.val
   have HLo := hide hinv.low
   have HZ0 := hide (lv_nonneg hinv.rest.2.1)
   have HTZ := hide (show lv (zs.take b.length) = lv zs by
    have h2 := high_zero (k := 0) (n := b.length) hinv.rest.2.1 (by rw [hinv.zlen]; omega) hinv.low HD.out
    have h3 := lv_split zs b.length (by rw [hinv.zlen]; omega)
    rw [Nat.zero_add] at h2
    rw [h2] at h3
    omega)
   have hql := hinv.qlen
   have hbel := hinv.below
   have hsl1 : (0 : Int) ≤ (b.length : Int) := by omega
   have hsl2 : (b.length : Int) ≤ ((a.length + 1 : Nat) : Int) := by omega
   have hsl3 : (b.length : Int) ≤ (a.length : Int) + 1 := by omega
   have tok1 : True := trivial
   have tok2 : True := trivial
   go_wp2
   go_region_held3 (fun _ => True) (trivial)
    (first
     | (go_at_call 45; have _t := tok1; refine (trim_at _ _ _ qs k hql (by exact hqa)).mono ?_; rintro e wx ⟨m1, hm1, rfl, hl1, hn1, rfl⟩; clear tok1)
     | (go_at_call 71; refine (shiftDown_at _ _ _ b.length s hzt (by exact hza) hP).mono ?_; rintro e wy ⟨rs, rfl, hrl, hrr, hrv, hby⟩)
     | (go_at_call 45; have _t := tok2; refine (trim_at _ _ _ rs b.length hrl (by have := hrr.lim b.length (by omega) (by omega); rwa [hrl] at this)).mono ?_; rintro e wz ⟨m2, hm2, rfl, hl2, hn2, rfl⟩; clear tok2))
   have hend := long_end (A := lv a) (V := lv b) (q := lv qs) (Z := lv zs) hP.pos (by have := HV.out; rw [HDV'.out] at this; simpa [bp] using this) HZ0.out (by have := HLo.out; rw [HDV'.out] at this; simpa using this)
   have hq' := (hqa.take' m1 (by omega) hql).below ((drewed hby)) (Nat.le_refl _)
   have hr' : Lim wz (.slice (some ⟨wr.heap.size, 0, none⟩) m2 b.length) (rs.take m2) := by
    have := (hrr.lim b.length (by omega) (by omega)).take m2 hm2
    exact this
   have hA : lv a = lv b * lv (qs.take m1) + lv (rs.take m2) := by rw [hl1, hl2, hrv, HTZ.out]; exact hend.1
   have hR : lv (rs.take m2) < lv b := by rw [hl2, hrv, HTZ.out]; exact hend.2.2
   have HF := hide (show DivPost w a b (.returned (.tuple #[.slice (some ⟨w4.heap.size, 0, none⟩) m1 k, .slice (some ⟨wr.heap.size, 0, none⟩) m2 b.length])) wz from
    ⟨_, _, _, _, rfl, hq', hr', hn1, hn2, hA, hR, by rw [List.length_take]; omega, by rw [List.length_take]; omega, hbel.trans ((drewed hby).mono hbel.size)⟩)
   clear hq' hr' hA hR hend hrr hrv hl1 hl2 hn1 hn2 hqa hza hby
   go_wp2
   go_ret2
   exact HF.out

end Go.Proofs.Ytcnllfnikajddaa

/- Numbers divided; what they are without their sign; an error's number. -/
namespace Go.Proofs.Ytcnllfnikajddaa
open Go.RowKit Limbs

theorem divLimbs_any (w : World) (va vb : Value) (a b : List Int) (ha : Lim w va a) (hb : Lim w vb b) (na : Nrm a) (nb : Nrm b) (h0 : b.length ≠ 0) (hla : a.length ≤ 900000) :
  Calls Try.prog 57 #[va, vb] w fun e w' => DivPost w a b e w' := by
 by_cases h1 : lv a < lv b
 ·exact divLimbs_less w va vb a b ha hb na nb h1
 ·by_cases h2 : b.length = 1
  ·exact divLimbs_one w va vb a b ha hb na nb (by omega) h2
  ·exact divLimbs_long w va vb a b ha hb na nb (by omega) (by omega) hla

set_option maxRecDepth 100000 in
set_option maxHeartbeats 800000 in
theorem abs_any (w : World) (va : Value) (x : Int) (n : Nat) (ha : NumL w va x n) (hn : n ≤ 1000000) :
  Calls Try.prog 63 #[va] w fun e w' => NumPost w (if x < 0 then -x else x) n e w' := by
 obtain ⟨an, sa, a, rfl, hla, nra, -, hx, hna⟩ := ha
 have HA := hide hla
 have hlb : LB a := by obtain ⟨_, _, _, _, _, h, _⟩ := hla; exact h
 have e : lv a = if x < 0 then -x else x := by
  have := lv_nonneg hlb
  rw [hx]; split <;> split <;> omega
 obtain ⟨ao, acap, rfl, -⟩ := hla
 rw [← e]
 clear hx e hlb
 go_enter Try.func63, Try.ntmps63
 go_wp2_with fail
 have hT := two w (.bool an) (.slice ao a.length acap) (.bool false) (.slice none 0 0) 75 75
 generalize (w.alloc (.cells #[.bool an, .slice ao a.length acap] 75)).alloc (.cells #[.bool false, .slice none 0 0] 75) = W at *
 refine (freshLimbs_any _ _ a (HA.out.below hT.below (Nat.le_refl _))).mono ?_
 rintro e w1 ⟨rfl, hr1, hb1⟩
 have hT1 := hT.later hb1
 go_wp2_with fail
 refine (signed_any _ _ _ a n (FreshPost.lim hr1 (by omega)) hna).mono ?_
 rintro e w2 ⟨r, rfl, hr, hb2⟩
 have hT2 := hT1.later hb2
 obtain ⟨c0, c1, f0, f1⟩ := hT2.res
 have HR := hide hr
 obtain ⟨rn, rs, rz, rfl, hl, -⟩ := hr
 obtain ⟨ro, rcap, rfl, -⟩ := hl
 rw [if_neg (by decide)] at HR
 have HF := hide (boxed (w := w) HR.out c0 c1 (by simp) (by simp) hT2.below (by omega))
 clear hT hT1 hT2 hb1 hb2 HR hr1
 go_wp2
 exact bodyPost_ret (v := .agg #[.bool rn, .slice ro rz.length rcap]) (by simp [results, Try.results63, go_sem, c0, c1]) rfl HF.out

structure Four (w W : World) (a0 a1 b0 b1 r0 r1 s0 s1 : Value) : Prop where
 fst : Box W w.heap.size a0 a1
 snd : Box W (w.heap.size + 1) b0 b1
 res : Box W (w.heap.size + 2) r0 r1
 sec : Box W (w.heap.size + 3) s0 s1
 below : Below w.heap.size w W
 size : w.heap.size + 3 < W.heap.size

theorem four (w : World) (a0 a1 b0 b1 r0 r1 s0 s1 : Value) (t1 t2 t3 t4 : TypeId) : Four w ((((w.alloc (.cells #[a0, a1] t1)).alloc (.cells #[b0, b1] t2)).alloc (.cells #[r0, r1] t3)).alloc (.cells #[s0, s1] t4)) a0 a1 b0 b1 r0 r1 s0 s1 where
 fst := (three w a0 a1 b0 b1 r0 r1 t1 t2 t3).fst.later ((Below.refl _ _).alloc (by simp) _ : Below (w.heap.size + 3) _ _) (by omega)
 snd := (three w a0 a1 b0 b1 r0 r1 t1 t2 t3).snd.later ((Below.refl _ _).alloc (by simp) _ : Below (w.heap.size + 3) _ _) (by omega)
 res := (three w a0 a1 b0 b1 r0 r1 t1 t2 t3).res.later ((Below.refl _ _).alloc (by simp) _ : Below (w.heap.size + 3) _ _) (by omega)
 sec := box_new _ _ _ _ _ (by simp)
 below := (three w a0 a1 b0 b1 r0 r1 t1 t2 t3).below.alloc (by simp; omega) _
 size := by simp

theorem Four.later {w W W' : World} {a0 a1 b0 b1 r0 r1 s0 s1 : Value} (h : Four w W a0 a1 b0 b1 r0 r1 s0 s1) (hb : Below W.heap.size W W') : Four w W' a0 a1 b0 b1 r0 r1 s0 s1 where
 fst := h.fst.later hb (by have := h.size; omega)
 snd := h.snd.later hb (by have := h.size; omega)
 res := h.res.later hb (by have := h.size; omega)
 sec := h.sec.later hb h.size
 below := h.below.trans (hb.mono h.below.size)
 size := Nat.lt_of_lt_of_le h.size hb.size

theorem Four.drew {w W : World} {a0 a1 b0 b1 r0 r1 s0 s1 : Value} (h : Four w W a0 a1 b0 b1 r0 r1 s0 s1) : Four w W.drew a0 a1 b0 b1 r0 r1 s0 s1 := ⟨h.fst, h.snd, h.res, h.sec, h.below.drew, h.size⟩

def Left (r y : Int) : Prop := (0 < y → 0 ≤ r ∧ r < y) ∧ (y < 0 → y < r ∧ r ≤ 0)

def QuoPost (w : World) (x y : Int) (n m : Nat) (e : Ending) (w' : World) : Prop :=
 ∃ vq vr q r, e = .returned (.tuple #[vq, vr, .nilIface]) ∧ NumL w' vq q (n + 1) ∧ NumL w' vr r m ∧ x = q * y + r ∧ Left r y ∧ Below w.heap.size w w'

theorem quo_plain {A V q r : Int} (an bn : Bool) (h : A = V * q + r) (h0 : 0 ≤ r) (h1 : r < V) (hs : an = bn ∨ r = 0) :
  sg an A = (if (!(an == bn)) = true then -q else q) * sg bn V + (if bn = true then -r else r) ∧ Left (if bn = true then -r else r) (sg bn V) := by
 unfold sg Left
 have e : V * q = q * V := Int.mul_comm _ _
 rw [e] at h
 rcases hs with rfl | rfl
 ·cases an <;> simp [Int.mul_neg] <;> omega
 ·cases an <;> cases bn <;> simp [Int.mul_neg, Int.neg_mul] <;> omega

theorem quo_down {A V q r : Int} (an bn : Bool) (h : A = V * q + r) (h0 : 0 < r) (h1 : r < V) (hs : (an == bn) = false) :
  sg an A = (if (!(an == bn)) = true then -(q + 1) else q + 1) * sg bn V + (if bn = true then -(V - r) else V - r) ∧ Left (if bn = true then -(V - r) else V - r) (sg bn V) := by
 unfold sg Left
 have e : V * q = q * V := Int.mul_comm _ _
 rw [e] at h
 cases an <;> cases bn <;> simp at hs <;> simp [Int.mul_neg, Int.neg_mul, Int.add_mul, Int.neg_add] <;> omega

theorem boxed2 {w w2 : World} {B C : Nat} {q r : Int} {n m : Nat} {qn rn : Bool} {qs rs : Value} {u0 u1 t0 t1 : Value} (hq : NumL w2 (.agg #[.bool qn, qs]) q n) (hr : NumL w2 (.agg #[.bool rn, rs]) r m)
  (c0 : w2.cell? ⟨B, 0, none⟩ = some u0) (c1 : w2.cell? ⟨B, 1, none⟩ = some u1) (d0 : w2.cell? ⟨C, 0, none⟩ = some t0) (d1 : w2.cell? ⟨C, 1, none⟩ = some t1) (hBC : B ≠ C)
  (hu0 : ∀ z, u0 ≠ .int .u32 z) (hu1 : ∀ z, u1 ≠ .int .u32 z) (ht0 : ∀ z, t0 ≠ .int .u32 z) (ht1 : ∀ z, t1 ≠ .int .u32 z) (hb : Below w.heap.size w w2) (hB : w.heap.size ≤ B) (hC : w.heap.size ≤ C) :
  NumL ((((w2.setCell ⟨B, 0, none⟩ (.bool qn)).setCell ⟨B, 1, none⟩ qs).setCell ⟨C, 0, none⟩ (.bool rn)).setCell ⟨C, 1, none⟩ rs) (.agg #[.bool qn, qs]) q n ∧
  NumL ((((w2.setCell ⟨B, 0, none⟩ (.bool qn)).setCell ⟨B, 1, none⟩ qs).setCell ⟨C, 0, none⟩ (.bool rn)).setCell ⟨C, 1, none⟩ rs) (.agg #[.bool rn, rs]) r m ∧
  Below w.heap.size w ((((w2.setCell ⟨B, 0, none⟩ (.bool qn)).setCell ⟨B, 1, none⟩ qs).setCell ⟨C, 0, none⟩ (.bool rn)).setCell ⟨C, 1, none⟩ rs) := by
 have k1 : (w2.setCell ⟨B, 0, none⟩ (.bool qn)).cell? ⟨B, 1, none⟩ = some u1 := Eq.trans (World.cell?_setCell_other (h := fun e => by simp at e) ..) c1
 have k2 : ((w2.setCell ⟨B, 0, none⟩ (.bool qn)).setCell ⟨B, 1, none⟩ qs).cell? ⟨C, 0, none⟩ = some t0 := Eq.trans (World.cell?_setCell_other (h := fun e => by simp at e) ..) (Eq.trans (World.cell?_setCell_other (h := fun e => by simp at e) ..) d0)
 have k3 : (((w2.setCell ⟨B, 0, none⟩ (.bool qn)).setCell ⟨B, 1, none⟩ qs).setCell ⟨C, 0, none⟩ (.bool rn)).cell? ⟨C, 1, none⟩ = some t1 :=
  Eq.trans (World.cell?_setCell_other (h := fun e => by simp at e) ..) (Eq.trans (World.cell?_setCell_other (h := fun e => by simp at e) ..) (Eq.trans (World.cell?_setCell_other (h := fun e => by simp at e) ..) d1))
 exact ⟨(((hq.setCell c0 hu0).setCell k1 hu1).setCell k2 ht0).setCell k3 ht1, (((hr.setCell c0 hu0).setCell k1 hu1).setCell k2 ht0).setCell k3 ht1, (((hb.setCell (by exact hB) _).setCell (by exact hB) _).setCell (by exact hC) _).setCell (by exact hC) _⟩

end Go.Proofs.Ytcnllfnikajddaa

/- Numbers divided, walked. -/
namespace Go.Proofs.Ytcnllfnikajddaa
open Go.RowKit Limbs

set_option maxRecDepth 100000 in
set_option maxHeartbeats 3200000 in
theorem div_any (w : World) (va vb : Value) (x y : Int) (n m : Nat) (ha : NumL w va x n) (hb : NumL w vb y m) (hy : y ≠ 0) (hn : n ≤ 800000) :
  Calls Try.prog 52 #[va, vb] w fun e w' => QuoPost w x y n m e w' := by
 have HB := hide hb
 obtain ⟨an, sa, a, rfl, hla, nra, -, hx, hna⟩ := ha
 obtain ⟨bn, sb, b, rfl, hlb, nrb, -, hyy, hnb⟩ := hb
 have HLA := hide hla
 have HLB := hide hlb
 obtain ⟨ao, acap, rfl, -, -, halb, -⟩ := hla
 obtain ⟨bo, bcap, rfl, -, -, hblb, -⟩ := hlb
 have hb0 : b.length ≠ 0 := fun h => hy (by rw [hyy, List.eq_nil_of_length_eq_zero h]; simp [lv])
 change x = sg an (lv a) at hx
 change y = sg bn (lv b) at hyy
 have HX := hide hx; have HY := hide hyy
 clear hx hyy
 go_enter Try.func52, Try.ntmps52
 go_wp2_with fail
 have hT := four w (.bool an) (.slice ao a.length acap) (.bool bn) (.slice bo b.length bcap) (.bool false) (.slice none 0 0) (.bool false) (.slice none 0 0) 75 75 75 75
 generalize (((w.alloc (.cells #[.bool an, .slice ao a.length acap] 75)).alloc (.cells #[.bool bn, .slice bo b.length bcap] 75)).alloc (.cells #[.bool false, .slice none 0 0] 75)).alloc (.cells #[.bool false, .slice none 0 0] 75) = W at *
 refine (zero_any W _ y m (HB.out.below hT.below (Nat.le_refl _))).mono ?_
 rintro e w1 ⟨rfl, hb1⟩
 rw [decide_eq_false hy]
 have hT1 := hT.later hb1
 obtain ⟨p0, p1, -, -⟩ := hT1.fst
 obtain ⟨q0, q1, -, -⟩ := hT1.snd
 go_wp2_with fail
 refine (divLimbs_any w1 _ _ a b (HLA.out.below hT1.below (Nat.le_refl _)) (HLB.out.below hT1.below (Nat.le_refl _)) nra nrb hb0 (by omega)).mono ?_
 rintro e w2 ⟨v1, v2, qs, rs, rfl, hl1, hl2, hnq, hnr, hval, hlt, hql, hrl, hb2⟩
 have HV := hide hval
 have HLT := hide hlt
 have HL1 := hide hl1
 have HL2 := hide hl2
 have hT2 := hT1.later hb2
 clear p0 p1 q0 q1 hval hlt hT hT1 hb1
 obtain ⟨ro, rcap, rfl, -, -, hrlb, -⟩ := hl2
 have hr0 := lv_nonneg hrlb
 have hrz := lv_zero_iff hrlb hnr
 clear hl1
 obtain ⟨p0, p1, -, -⟩ := hT2.fst
 obtain ⟨q0, q1, -, -⟩ := hT2.snd
 by_cases hpl : an = bn ∨ lv rs = 0
 ·have hfact := quo_plain an bn HV.out hr0 HLT.out hpl
  rw [← HX.out, ← HY.out] at hfact
  rcases (show (an == bn) = true ∨ ((an == bn) = false ∧ rs.length = 0) by
   by_cases h : an = bn
   ·exact .inl (by simp [h])
   ·exact .inr ⟨by simpa using h, hrz.1 (hpl.resolve_left h)⟩) with hab | ⟨hab, hr0'⟩
  ·clear hpl
   rw [hab] at hfact
   have HFA := hide hfact
   clear hfact
   obtain ⟨p0, p1, -, -⟩ := hT2.fst
   obtain ⟨q0, q1, -, -⟩ := hT2.snd
   have tok1 : True := trivial
   have tok2 : True := trivial
   have hn2 : ¬ (w.heap.size + 1 + 1 = w.heap.size) := by omega
   have hn3 : ¬ (w.heap.size = w.heap.size + 1 + 1) := by omega
   have hn4 : ¬ (w.heap.size + 3 = w.heap.size) := by omega
   have hn5 : ¬ (w.heap.size = w.heap.size + 3) := by omega
   have hn6 : ¬ (w.heap.size + 2 = w.heap.size) := by omega
   have hn7 : ¬ (w.heap.size = w.heap.size + 2) := by omega
   go_wp2_with fail
   go_region_held3 (fun w' => w'.cell? ⟨w.heap.size, 0, none⟩ = some (.bool an) ∧ w'.cell? ⟨w.heap.size + 1, 0, none⟩ = some (.bool bn)) (go_keep)
    (first
     | (go_at_call 40; have _t := tok1; refine (signed_any _ _ _ qs (n + 1) (by exact HL1.out) (by omega)).mono ?_; rintro e w8 ⟨r8, rfl, hr8, hb8⟩; have hT8 := hT2.drew.later hb8; obtain ⟨p0', p1', -, -⟩ := hT8.fst; obtain ⟨q0', q1', -, -⟩ := hT8.snd; have HR8 := hide hr8; obtain ⟨rn8, rs8, rz8, rfl, hl8, -⟩ := hr8; obtain ⟨ro8, rcap8, rfl, -⟩ := hl8; clear tok1)
     | (go_at_call 40; have _t := tok2; refine (signed_any _ _ _ rs m ((show Lim _ _ rs from by exact HL2.out).below (drewed hb8) (Nat.le_refl _)) (by omega)).mono ?_; rintro e w9 ⟨r9, rfl, hr9, hb9⟩; have hT9 := hT8.later hb9; obtain ⟨p0'', p1'', -, -⟩ := hT9.fst; obtain ⟨q0'', q1'', -, -⟩ := hT9.snd; obtain ⟨c0, c1, f0, f1⟩ := hT9.res; obtain ⟨d0, d1, g0, g1⟩ := hT9.sec; have HR9 := hide hr9; obtain ⟨rn9, rs9, rz9, rfl, hl9, -⟩ := hr9; obtain ⟨ro9, rcap9, rfl, -⟩ := hl9; have HR8' := hide (HR8.out.below hb9 (Nat.le_refl _)); clear tok2))
   have HF := hide (boxed2 (w := w) HR8'.out HR9.out c0 c1 d0 d1 (by omega) (by simp) (by simp) (by simp) (by simp) hT9.below (by omega) (by omega))
   have HA := hide (HFA.out)
   clear hT8 hT9 hb8 hb9 HR8 HR9 HR8' hT2
   go_wp2
   exact bodyPost_ret (v := .tuple #[.agg #[.bool rn8, .slice ro8 rz8.length rcap8], .agg #[.bool rn9, .slice ro9 rz9.length rcap9], .nilIface]) (by simp [results, Try.results52, go_sem, c0, c1, d0, d1]) rfl ⟨_, _, _, _, rfl, HF.out.1, HF.out.2.1, HA.out.1, HA.out.2, HF.out.2.2⟩
  ·obtain rfl : rs = [] := List.eq_nil_of_length_eq_zero hr0'
   rw [hab] at hfact
   have HFA := hide hfact
   clear hfact hpl hr0' hrz
   obtain ⟨p0, p1, -, -⟩ := hT2.fst
   obtain ⟨q0, q1, -, -⟩ := hT2.snd
   have tok1 : True := trivial
   have tok2 : True := trivial
   have hn2 : ¬ (w.heap.size + 1 + 1 = w.heap.size) := by omega
   have hn3 : ¬ (w.heap.size = w.heap.size + 1 + 1) := by omega
   have hn4 : ¬ (w.heap.size + 3 = w.heap.size) := by omega
   have hn5 : ¬ (w.heap.size = w.heap.size + 3) := by omega
   have hn6 : ¬ (w.heap.size + 2 = w.heap.size) := by omega
   have hn7 : ¬ (w.heap.size = w.heap.size + 2) := by omega
   go_wp2_with fail
   go_region_held3 (fun w' => w'.cell? ⟨w.heap.size, 0, none⟩ = some (.bool an) ∧ w'.cell? ⟨w.heap.size + 1, 0, none⟩ = some (.bool bn)) (go_keep)
    (first
     | (go_at_call 40; have _t := tok1; refine (signed_any _ _ _ qs (n + 1) (by exact HL1.out) (by omega)).mono ?_; rintro e w8 ⟨r8, rfl, hr8, hb8⟩; have hT8 := hT2.drew.later hb8; obtain ⟨p0', p1', -, -⟩ := hT8.fst; obtain ⟨q0', q1', -, -⟩ := hT8.snd; have HR8 := hide hr8; obtain ⟨rn8, rs8, rz8, rfl, hl8, -⟩ := hr8; obtain ⟨ro8, rcap8, rfl, -⟩ := hl8; clear tok1)
     | (go_at_call 40; have _t := tok2; refine (signed_any _ _ _ [] m ((show Lim _ _ [] from by exact HL2.out).below (drewed hb8) (Nat.le_refl _)) (by simp)).mono ?_; rintro e w9 ⟨r9, rfl, hr9, hb9⟩; have hT9 := hT8.later hb9; obtain ⟨p0'', p1'', -, -⟩ := hT9.fst; obtain ⟨q0'', q1'', -, -⟩ := hT9.snd; obtain ⟨c0, c1, f0, f1⟩ := hT9.res; obtain ⟨d0, d1, g0, g1⟩ := hT9.sec; have HR9 := hide hr9; obtain ⟨rn9, rs9, rz9, rfl, hl9, -⟩ := hr9; obtain ⟨ro9, rcap9, rfl, -⟩ := hl9; have HR8' := hide (HR8.out.below hb9 (Nat.le_refl _)); clear tok2))
   have HF := hide (boxed2 (w := w) HR8'.out HR9.out c0 c1 d0 d1 (by omega) (by simp) (by simp) (by simp) (by simp) hT9.below (by omega) (by omega))
   have HA := hide (HFA.out)
   clear hT8 hT9 hb8 hb9 HR8 HR9 HR8' hT2
   go_wp2
   exact bodyPost_ret (v := .tuple #[.agg #[.bool rn8, .slice ro8 rz8.length rcap8], .agg #[.bool rn9, .slice ro9 rz9.length rcap9], .nilIface]) (by simp [results, Try.results52, go_sem, c0, c1, d0, d1]) rfl ⟨_, _, _, _, rfl, HF.out.1, HF.out.2.1, HA.out.1, HA.out.2, HF.out.2.2⟩
 ·have hab : (an == bn) = false := by
   by_cases h : an = bn
   ·exact absurd (.inl h) hpl
   ·simpa using h
  have hrp : 0 < lv rs := by
   have : ¬ lv rs = 0 := fun h => hpl (.inr h)
   omega
  have hrl0 : 0 < rs.length := by
   have : rs.length ≠ 0 := fun h => by have := hrz.2 h; omega
   omega
  have hfact := quo_down an bn HV.out hrp HLT.out hab
  rw [← HX.out, ← HY.out, hab] at hfact
  have HFA := hide hfact
  have hRP := hide hrp
  clear hfact hpl hrp hrz
  go_wp2_with fail
  have hone := row_one w2 1 (by decide)
  have hba := (Below.refl w2.heap.size w2).alloc (Nat.le_refl _) (.cells #[.int .u32 1] 88)
  refine (addLimbs_any _ _ _ qs [1] (HL1.out.below hba (Nat.le_refl _)) (hone.lim 1 (by simp) (by simp)) (by omega) (by simp)).mono ?_
  rintro e w3 ⟨v3, xs, rfl, hl3, hv3, hn3, hb3⟩
  have hT3 := (hT2.later hba).later hb3
  obtain ⟨p0, p1, -, -⟩ := hT3.fst
  obtain ⟨q0, q1, -, -⟩ := hT3.snd
  have HL3 := hide hl3
  have HV3 := hide hv3
  clear hl3 hv3 hone
  go_wp2_with fail
  refine (subLimbs_any w3 _ _ b rs (HLB.out.below hT3.below (Nat.le_refl _)) (HL2.out.below (hba.trans (hb3.mono hba.size)) (Nat.le_refl _)) hnr (by have := HLT.out; omega)).mono ?_
  rintro e w4 ⟨v4, ys, rfl, hl4, hv4, hn4, hb4⟩
  have hT4 := hT3.later hb4
  have HL4 := hide hl4
  have HV4 := hide hv4
  have HL3' := hide (HL3.out.below hb4 (Nat.le_refl _))
  clear hl4 hv4 p0 p1 q0 q1 hT3 HL3 hb4 hb3 hba
  rw [show lv qs + 1 = lv xs by have := HV3.out; simpa [lv] using this.symm, show lv b - lv rs = lv ys from HV4.out.symm] at HFA
  have ha1 : 1 ≤ a.length := by
   rcases Nat.lt_or_ge a.length 1 with h | h
   ·exfalso
    have e0 : lv a = 0 := by have h' : a = [] := List.eq_nil_of_length_eq_zero (by omega); rw [h']; rfl
    have e1 := HV.out
    have e2 := hRP.out
    have e3 := lv_nonneg hblb
    have e4 : LB qs := by obtain ⟨_, _, _, _, _, h, _⟩ := HL1.out; exact h
    have e5 := Int.mul_nonneg e3 (lv_nonneg e4)
    omega
   ·exact h
  have hxl : xs.length ≤ n + 1 := by simp at hn3; omega
  obtain ⟨p0, p1, -, -⟩ := hT4.fst
  obtain ⟨q0, q1, -, -⟩ := hT4.snd
  have tok1 : True := trivial
  have tok2 : True := trivial
  have hn2 : ¬ (w.heap.size + 1 + 1 = w.heap.size) := by omega
  have hn3 : ¬ (w.heap.size = w.heap.size + 1 + 1) := by omega
  have hn4 : ¬ (w.heap.size + 3 = w.heap.size) := by omega
  have hn5 : ¬ (w.heap.size = w.heap.size + 3) := by omega
  have hn6 : ¬ (w.heap.size + 2 = w.heap.size) := by omega
  have hn7 : ¬ (w.heap.size = w.heap.size + 2) := by omega
  go_wp2_with fail
  go_region_held3 (fun w' => w'.cell? ⟨w.heap.size, 0, none⟩ = some (.bool an) ∧ w'.cell? ⟨w.heap.size + 1, 0, none⟩ = some (.bool bn)) (go_keep)
   (first
    | (go_at_call 40; have _t := tok1; refine (signed_any _ _ _ xs (n + 1) (by exact HL3'.out) hxl).mono ?_; rintro e w8 ⟨r8, rfl, hr8, hb8⟩; have hT8 := hT4.drew.later hb8; obtain ⟨p0', p1', -, -⟩ := hT8.fst; obtain ⟨q0', q1', -, -⟩ := hT8.snd; have HR8 := hide hr8; obtain ⟨rn8, rs8, rz8, rfl, hl8, -⟩ := hr8; obtain ⟨ro8, rcap8, rfl, -⟩ := hl8; clear tok1)
    | (go_at_call 40; have _t := tok2; refine (signed_any _ _ _ ys m ((show Lim _ _ ys from by exact HL4.out).below (drewed hb8) (Nat.le_refl _)) (by omega)).mono ?_; rintro e w9 ⟨r9, rfl, hr9, hb9⟩; have hT9 := hT8.later hb9; obtain ⟨p0'', p1'', -, -⟩ := hT9.fst; obtain ⟨q0'', q1'', -, -⟩ := hT9.snd; obtain ⟨c0, c1, f0, f1⟩ := hT9.res; obtain ⟨d0, d1, g0, g1⟩ := hT9.sec; have HR9 := hide hr9; obtain ⟨rn9, rs9, rz9, rfl, hl9, -⟩ := hr9; obtain ⟨ro9, rcap9, rfl, -⟩ := hl9; have HR8' := hide (HR8.out.below hb9 (Nat.le_refl _)); clear tok2))
  have HF := hide (boxed2 (w := w) HR8'.out HR9.out c0 c1 d0 d1 (by omega) (by simp) (by simp) (by simp) (by simp) hT9.below (by omega) (by omega))
  have HA := hide (HFA.out)
  clear hT8 hT9 hb8 hb9 HR8 HR9 HR8' hT2
  go_wp2
  exact bodyPost_ret (v := .tuple #[.agg #[.bool rn8, .slice ro8 rz8.length rcap8], .agg #[.bool rn9, .slice ro9 rz9.length rcap9], .nilIface]) (by simp [results, Try.results52, go_sem, c0, c1, d0, d1]) rfl ⟨_, _, _, _, rfl, HF.out.1, HF.out.2.1, HA.out.1, HA.out.2, HF.out.2.2⟩

end Go.Proofs.Ytcnllfnikajddaa

/- Are these numbers, and not too great? -/
namespace Go.Proofs.Ytcnllfnikajddaa
open Go.RowKit Limbs

structure Raw where
 neg : Bool
 s : Value
 zs : List Int

def Raw.good (r : Raw) : Bool := decide (r.zs.length ≤ 12) && isNum r.neg r.zs

def Raws (w : World) (B : Nat) (xs : List Raw) : Prop :=
 B < w.heap.size ∧ ∀ i r, xs[i]? = some r → w.cell? ⟨B, i * 2, none⟩ = some (.bool r.neg) ∧ w.cell? ⟨B, i * 2 + 1, none⟩ = some r.s ∧ Lim w r.s r.zs

theorem Raws.below {B C : Nat} {w w' : World} {xs : List Raw} (h : Raws w B xs) (hb : Below C w w') (hC : w.heap.size ≤ C) : Raws w' B xs := by
 obtain ⟨h1, h2⟩ := h
 refine ⟨Nat.lt_of_lt_of_le h1 hb.size, fun i r hi => ?_⟩
 obtain ⟨h3, h4, h5⟩ := h2 i r hi
 exact ⟨(hb.cell (p := ⟨B, i * 2, none⟩) (Nat.lt_of_lt_of_le h1 hC)).trans h3, (hb.cell (p := ⟨B, i * 2 + 1, none⟩) (Nat.lt_of_lt_of_le h1 hC)).trans h4, h5.below hb hC⟩

end Go.Proofs.Ytcnllfnikajddaa

/- Small facts: the order -1, 0, 1; structs' cells in a row. -/
namespace Go.Proofs.Ytcnllfnikajddaa
open Go.RowKit Limbs

theorem cmpI_anti (a b : Int) : cmpI b a = -cmpI a b := by
 unfold cmpI
 repeat' split
 all_goals omega
theorem cmpI_add (a b c : Int) : cmpI (a + c) (b + c) = cmpI a b := by
 unfold cmpI
 repeat' split
 all_goals omega
theorem cmpI_trans (a b c : Int) (h1 : cmpI a b ≤ 0) (h2 : cmpI b c ≤ 0) : cmpI a c ≤ 0 := by
 unfold cmpI at *
 repeat' split at h1
 all_goals repeat' split at h2
 all_goals repeat' split
 all_goals omega
theorem cmpI_mul (a b c : Int) (h : 0 < c) : cmpI (a * c) (b * c) = cmpI a b := by
 by_cases h1 : a < b
 ·rw [cmpI_lt h1, cmpI_lt (Int.mul_lt_mul_of_pos_right h1 h)]
 ·by_cases h2 : b < a
  ·rw [cmpI_gt h2, cmpI_gt (Int.mul_lt_mul_of_pos_right h2 h)]
  ·obtain rfl : a = b := by omega
   rw [cmpI_eq rfl, cmpI_eq rfl]

end Go.Proofs.Ytcnllfnikajddaa

/- Four structs' variables, wherever they lie; rows of two structs. -/
namespace Go.Proofs.Ytcnllfnikajddaa
open Go.RowKit Limbs

structure Hold (w W : World) (A B C D : Nat) (a0 a1 b0 b1 c0 c1 d0 d1 : Value) : Prop where
 a : Box W A a0 a1
 b : Box W B b0 b1
 c : Box W C c0 c1
 d : Box W D d0 d1
 below : Below w.heap.size w W
 la : w.heap.size ≤ A
 ab : A < B
 bc : B < C
 cd : C < D
 size : D < W.heap.size

theorem Hold.later {w W W' : World} {A B C D : Nat} {a0 a1 b0 b1 c0 c1 d0 d1 : Value} (h : Hold w W A B C D a0 a1 b0 b1 c0 c1 d0 d1) (hb : Below W.heap.size W W') : Hold w W' A B C D a0 a1 b0 b1 c0 c1 d0 d1 where
 a := h.a.later hb (by have := h.size; have := h.ab; have := h.bc; have := h.cd; omega)
 b := h.b.later hb (by have := h.size; have := h.bc; have := h.cd; omega)
 c := h.c.later hb (by have := h.size; have := h.cd; omega)
 d := h.d.later hb h.size
 below := h.below.trans (hb.mono h.below.size)
 la := h.la
 ab := h.ab
 bc := h.bc
 cd := h.cd
 size := Nat.lt_of_lt_of_le h.size hb.size

theorem Hold.drew {w W : World} {A B C D : Nat} {a0 a1 b0 b1 c0 c1 d0 d1 : Value} (h : Hold w W A B C D a0 a1 b0 b1 c0 c1 d0 d1) : Hold w W.drew A B C D a0 a1 b0 b1 c0 c1 d0 d1 :=
 ⟨h.a, h.b, h.c, h.d, h.below.drew, h.la, h.ab, h.bc, h.cd, h.size⟩

theorem Box.other {W : World} {A B : Nat} {u0 u1 : Value} (h : Box W A u0 u1) (hne : A ≠ B) (k : Nat) (u : Value) : Box (W.setCell ⟨B, k, none⟩ u) A u0 u1 := by
 obtain ⟨h1, h2, h3, h4⟩ := h
 have n1 : ∀ j, (⟨B, k, none⟩ : Addr) ≠ ⟨A, j, none⟩ := fun j e => hne (congrArg Addr.block e).symm
 exact ⟨(World.cell?_setCell_other (h := n1 0) ..).trans h1, (World.cell?_setCell_other (h := n1 1) ..).trans h2, by rw [World.frozen?_setCell]; exact h3, by rw [World.frozen?_setCell]; exact h4⟩

theorem Box.write {W : World} {B : Nat} {u0 u1 : Value} (h : Box W B u0 u1) (v0 v1 : Value) : Box ((W.setCell ⟨B, 0, none⟩ v0).setCell ⟨B, 1, none⟩ v1) B v0 v1 := by
 obtain ⟨h1, h2, h3, h4⟩ := h
 refine ⟨?_, ?_, by rw [World.frozen?_setCell, World.frozen?_setCell]; exact h3, by rw [World.frozen?_setCell, World.frozen?_setCell]; exact h4⟩
 ·exact (World.cell?_setCell_other (h := fun e => by simp at e) ..).trans (World.cell?_setCell_same (h := h1) ..)
 ·exact World.cell?_setCell_same (h := (World.cell?_setCell_other (h := fun e => by simp at e) ..).trans h2) ..

theorem Hold.write {w W : World} {A B C D : Nat} {a0 a1 b0 b1 c0 c1 d0 d1 : Value} (h : Hold w W A B C D a0 a1 b0 b1 c0 c1 d0 d1) (u0 u1 v0 v1 : Value) :
  Hold w ((((W.setCell ⟨C, 0, none⟩ u0).setCell ⟨C, 1, none⟩ u1).setCell ⟨D, 0, none⟩ v0).setCell ⟨D, 1, none⟩ v1) A B C D a0 a1 b0 b1 u0 u1 v0 v1 := by
 obtain ⟨ha, hb, hc, hd, hbe, hla, hab, hbc, hcd, hs⟩ := h
 refine ⟨(((ha.other (by omega) _ _).other (by omega) _ _).other (by omega) _ _).other (by omega) _ _, (((hb.other (by omega) _ _).other (by omega) _ _).other (by omega) _ _).other (by omega) _ _,
  ((hc.write u0 u1).other (by omega) _ _).other (by omega) _ _, ((hd.other (by omega) _ _).other (by omega) _ _).write v0 v1, (((hbe.setCell (by simp; omega) _).setCell (by simp; omega) _).setCell (by simp; omega) _).setCell (by simp; omega) _, hla, hab, hbc, hcd, by simpa using hs⟩

theorem Hold.num {w W : World} {A B C D : Nat} {a0 a1 c0 c1 d0 d1 b0 b1 : Value} (h : Hold w W A B C D a0 a1 b0 b1 c0 c1 d0 d1) (hc0 : ∀ z, c0 ≠ .int .u32 z) (hc1 : ∀ z, c1 ≠ .int .u32 z) (hd0 : ∀ z, d0 ≠ .int .u32 z) (hd1 : ∀ z, d1 ≠ .int .u32 z)
  {qn rn : Bool} {qs rs : Value} {q r : Int} {n m : Nat} (hq : NumL W (.agg #[.bool qn, qs]) q n) (hr : NumL W (.agg #[.bool rn, rs]) r m) :
  NumL ((((W.setCell ⟨C, 0, none⟩ (.bool qn)).setCell ⟨C, 1, none⟩ qs).setCell ⟨D, 0, none⟩ (.bool rn)).setCell ⟨D, 1, none⟩ rs) (.agg #[.bool qn, qs]) q n ∧
  NumL ((((W.setCell ⟨C, 0, none⟩ (.bool qn)).setCell ⟨C, 1, none⟩ qs).setCell ⟨D, 0, none⟩ (.bool rn)).setCell ⟨D, 1, none⟩ rs) (.agg #[.bool rn, rs]) r m := by
 have hh := boxed2 (w := w) hq hr h.c.1 h.c.2.1 h.d.1 h.d.2.1 (by have := h.cd; omega) hc0 hc1 hd0 hd1 h.below (by have := h.la; have := h.ab; have := h.bc; omega) (by have := h.la; have := h.ab; have := h.bc; have := h.cd; omega)
 exact ⟨hh.1, hh.2.1⟩

end Go.Proofs.Ytcnllfnikajddaa
