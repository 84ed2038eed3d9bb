/- The reference: sums. -/
import Derived.Test.YtdedolkgcdlmeaaGreatDoorRefD
import Derived.Test.YtdedolkgcdlmeaaGreatDoorOps2
namespace Go.Proofs.YtdedolkgcdlmeaaGreatDoor
open Go.RowKit Limbs Digs

/-- Two numbers of the reference that came in, and the result's variable. -/
structure ThreeR (w W : World) (a0 a1 b0 b1 r0 r1 : Value) : Prop where
  fst : BoxR W w.heap.size a0 a1
  snd : BoxR W (w.heap.size + 1) b0 b1
  res : BoxR W (w.heap.size + 1 + 1) r0 r1
  below : Below w.heap.size w W
  size : w.heap.size + 1 + 1 < W.heap.size

theorem threeR (w : World) (a0 a1 b0 b1 r0 r1 : Value) : ThreeR w (((w.alloc (.cells #[a0, a1] 40)).alloc (.cells #[b0, b1] 40)).alloc (.cells #[r0, r1] 40)) a0 a1 b0 b1 r0 r1 where
  fst := (boxR_new w _ _ _ rfl).later (((Below.refl _ _).alloc (by simp) _).alloc (by simp) _ : Below (w.heap.size + 1) _ _) (by omega)
  snd := (boxR_new (w.alloc _) _ _ _ (by simp)).later ((Below.refl _ _).alloc (by simp) _ : Below (w.heap.size + 1 + 1) _ _) (by omega)
  res := boxR_new _ _ _ _ (by simp)
  below := (((Below.refl _ _).alloc (Nat.le_refl _) _).alloc (by simp) _).alloc (by simp; omega) _
  size := by simp

theorem ThreeR.later {w W W' : World} {a0 a1 b0 b1 r0 r1 : Value} (h : ThreeR w W a0 a1 b0 b1 r0 r1) (hb : Below W.heap.size W W') : ThreeR w W' a0 a1 b0 b1 r0 r1 where
  fst := h.fst.later hb h.fst.lt
  snd := h.snd.later hb h.snd.lt
  res := h.res.later hb h.res.lt
  below := h.below.trans (hb.mono h.below.size)
  size := Nat.lt_of_lt_of_le h.size hb.size

theorem ThreeR.drew {w W : World} {a0 a1 b0 b1 r0 r1 : Value} (h : ThreeR w W a0 a1 b0 b1 r0 r1) : ThreeR w W.drew a0 a1 b0 b1 r0 r1 := ⟨h.fst, h.snd, h.res, h.below.drew, h.size⟩

set_option maxRecDepth 100000 in
set_option maxHeartbeats 1600000 in
theorem plus_any (w : World) (va vb : Value) (x y : Int) (n : Nat) (ha : NumR w va x n) (hb : NumR w vb y n) (hn : n < 1000000000000) :
    Calls Tryz.prog 61 #[va, vb] w fun e w' => RefPost w (x + y) (n + 1) e w' := by
  have HNA := hide ha; have HNB := hide hb
  obtain ⟨sa, la, a, rfl, hla, nra, hx, hsa, hna⟩ := ha
  obtain ⟨sb, lb, b, rfl, hlb, nrb, hy, hsb, hnb⟩ := hb
  have HA := hide hla
  have HB := hide hlb
  obtain ⟨ao, acap, rfl, -, -, hadb, -⟩ := hla
  obtain ⟨bo, bcap, rfl, -, -, hbdb, -⟩ := hlb
  have HX := hide hx; clear hx
  have HY := hide hy; clear hy
  have HNR := hide (And.intro nra nrb); clear nra nrb
  have HDD := hide (And.intro hadb hbdb); clear hadb hbdb
  have hn2 : ¬ (w.heap.size + 1 + 1 = w.heap.size) := by omega
  have hn3 : ¬ (w.heap.size = w.heap.size + 1 + 1) := by omega
  by_cases hsa0 : sa = 0
  · subst hsa0
    have HF : Hid (RefPost w (x + y) (n + 1) (.returned (.agg #[.int .i64 sb, .slice bo b.length bcap])) (((w.alloc (.cells #[.int .i64 0, .slice ao a.length acap] 40)).alloc (.cells #[.int .i64 sb, .slice bo b.length bcap] 40)).alloc (.cells #[.int .i64 sb, .slice bo b.length bcap] 40))) :=
      ⟨_, rfl, by rw [show x + y = y by rw [HX.out, Int.zero_mul, Int.zero_add]]; exact (HNB.out.below (threeR w _ _ _ _ _ _).below (Nat.le_refl _)).mono (by omega), (threeR w _ _ _ _ _ _).below⟩
    clear HNA HNB HX HY
    go_enter Tryz.func61, Tryz.ntmps61
    go_wp2
    exact bodyPost_ret (v := .agg #[.int .i64 sb, .slice bo b.length bcap]) (by simp [results, Tryz.results61, go_sem]) rfl HF.out
  have hda : (sa == 0) = false := by simp [hsa0]
  by_cases hsb0 : sb = 0
  · subst hsb0
    have HF : Hid (RefPost w (x + y) (n + 1) (.returned (.agg #[.int .i64 sa, .slice ao a.length acap])) (((w.alloc (.cells #[.int .i64 sa, .slice ao a.length acap] 40)).alloc (.cells #[.int .i64 0, .slice bo b.length bcap] 40)).alloc (.cells #[.int .i64 sa, .slice ao a.length acap] 40))) :=
      ⟨_, rfl, by rw [show x + y = x by rw [HY.out, Int.zero_mul, Int.add_zero]]; exact (HNA.out.below (threeR w _ _ _ _ _ _).below (Nat.le_refl _)).mono (by omega), (threeR w _ _ _ _ _ _).below⟩
    clear HNA HNB HX HY
    go_enter Tryz.func61, Tryz.ntmps61
    go_wp2
    exact bodyPost_ret (v := .agg #[.int .i64 sa, .slice ao a.length acap]) (by simp [results, Tryz.results61, go_sem]) rfl HF.out
  have hdb : (sb == 0) = false := by simp [hsb0]
  clear HNA HNB
  have hsa1 : sa = 1 ∨ sa = -1 := by omega
  have hsb1 : sb = 1 ∨ sb = -1 := by omega
  clear hsa hsb
  by_cases hss : sa = sb
  · have hds : (sa == sb) = true := by simp [hss]
    have HE := hide (show sa * (dv a + dv b) = x + y by rw [HX.out, HY.out, hss, Int.mul_add])
    clear HX HY HNR HDD hss
    go_enter Tryz.func61, Tryz.ntmps61
    go_wp2_with fail
    have hT := hide (threeR w (.int .i64 sa) (.slice ao a.length acap) (.int .i64 sb) (.slice bo b.length bcap) (.int .i64 0) (.slice none 0 0))
    generalize ((w.alloc (.cells #[.int .i64 sa, .slice ao a.length acap] 40)).alloc (.cells #[.int .i64 sb, .slice bo b.length bcap] 40)).alloc (.cells #[.int .i64 0, .slice none 0 0] 40) = W at *
    obtain ⟨k0, k1, -, -⟩ := hT.out.fst.box
    obtain ⟨l0, l1, -, -⟩ := hT.out.snd.box
    have hn2 : ¬ (w.heap.size + 1 + 1 = w.heap.size) := by omega
    have hn3 : ¬ (w.heap.size = w.heap.size + 1 + 1) := by omega
    go_region_held3 (fun w' => w'.cell? ⟨w.heap.size, 0, none⟩ = some (.int .i64 sa) ∧ w'.cell? ⟨w.heap.size, 1, none⟩ = some (.slice ao a.length acap) ∧ w'.cell? ⟨w.heap.size + 1, 0, none⟩ = some (.int .i64 sb) ∧ w'.cell? ⟨w.heap.size + 1, 1, none⟩ = some (.slice bo b.length bcap)) (go_keep)
        (first
          | (go_at_call 101; refine (addDigits_any _ _ _ a b n (HA.out.below hT.out.drew.below (Nat.le_refl _)) (HB.out.below hT.out.drew.below (Nat.le_refl _)) (by omega) (by omega) hn).mono ?_; rintro e w1 ⟨v1, ds, rfl, hd1, hv1, hl1, hb1⟩; have HD1 := hide hd1; have HV := hide hv1; have hT1 := hide (hT.out.drew.later hb1); clear hd1 hv1 hb1; obtain ⟨p0, p1, -, -⟩ := hT1.out.fst.box; obtain ⟨q0, q1, -, -⟩ := hT1.out.snd.box)
          | (go_at_call 100; refine (cutNum_any _ sa _ ds HD1.out (by omega)).mono ?_; rintro e w2 ⟨r, rfl, hr, hb2⟩; have hT2 := hide (hT1.out.later hb2); clear hb2; obtain ⟨p0', p1', -, -⟩ := hT2.out.fst.box; obtain ⟨q0', q1', -, -⟩ := hT2.out.snd.box; obtain ⟨c0, c1, f0, f1⟩ := hT2.out.res.box; rw [HV.out, HE.out] at hr; replace hr := hr.mono (show ds.length ≤ n + 1 by omega); have HR := hide hr; obtain ⟨sr, o, l, c, rfl, -⟩ := hr.form; clear hr))
    have HF := hide (boxedR (w := w) HR.out hT2.out.res hT2.out.below (by omega))
    clear hT1 hT2 HR HD1 HV HE
    go_wp2
    exact bodyPost_ret (v := .agg #[.int .i64 sr, .slice o l c]) (by simp [results, Tryz.results61, go_sem, c0, c1]) rfl HF.out
  have hds : (sa == sb) = false := by simp [hss]
  have HSN := hide (show sb = -sa by omega)
  by_cases hge : dv b ≤ dv a
  · have hll : b.length ≤ a.length := by
      by_cases h : b.length ≤ a.length
      · exact h
      · have := dv_lt_of_length HDD.out.1 HDD.out.2 HNR.out.2 (by omega); omega
    have HE := hide (show sa * (dv a - dv b) = x + y by rw [HX.out, HY.out, HSN.out, Int.mul_sub, Int.neg_mul]; omega)
    have HL := hide hge
    have hc : decide (0 ≤ cmpI (dv a) (dv b)) = true := decide_eq_true (by unfold cmpI; repeat' split; all_goals omega)
    clear HX HY HDD hge
    go_enter Tryz.func61, Tryz.ntmps61
    go_wp2_with fail
    have hT := hide (threeR w (.int .i64 sa) (.slice ao a.length acap) (.int .i64 sb) (.slice bo b.length bcap) (.int .i64 0) (.slice none 0 0))
    generalize ((w.alloc (.cells #[.int .i64 sa, .slice ao a.length acap] 40)).alloc (.cells #[.int .i64 sb, .slice bo b.length bcap] 40)).alloc (.cells #[.int .i64 0, .slice none 0 0] 40) = W at *
    obtain ⟨k0, k1, -, -⟩ := hT.out.fst.box
    obtain ⟨l0, l1, -, -⟩ := hT.out.snd.box
    have hn2 : ¬ (w.heap.size + 1 + 1 = w.heap.size) := by omega
    have hn3 : ¬ (w.heap.size = w.heap.size + 1 + 1) := by omega
    refine (cmpDigits_any _ _ _ a b (HA.out.below hT.out.below (Nat.le_refl _)) (HB.out.below hT.out.below (Nat.le_refl _)) HNR.out.1 HNR.out.2).mono ?_
    rintro e w0 ⟨rfl, hb0⟩
    replace hT := hide (hT.out.later hb0)
    clear hb0 k0 k1 l0 l1
    obtain ⟨k0, k1, -, -⟩ := hT.out.fst.box
    obtain ⟨l0, l1, -, -⟩ := hT.out.snd.box
    clear HNR
    go_wp2_with fail
    go_region_held3 (fun w' => w'.cell? ⟨w.heap.size, 0, none⟩ = some (.int .i64 sa) ∧ w'.cell? ⟨w.heap.size, 1, none⟩ = some (.slice ao a.length acap) ∧ w'.cell? ⟨w.heap.size + 1, 0, none⟩ = some (.int .i64 sb) ∧ w'.cell? ⟨w.heap.size + 1, 1, none⟩ = some (.slice bo b.length bcap)) (go_keep)
        (first
          | (go_at_call 103; refine (subDigits_any _ _ _ a b (HA.out.below hT.out.drew.below (Nat.le_refl _)) (HB.out.below hT.out.drew.below (Nat.le_refl _)) hll HL.out).mono ?_; rintro e w1 ⟨v1, ds, rfl, hd1, hv1, hl1, hb1⟩; have HD1 := hide hd1; have HV := hide hv1; have hT1 := hide (hT.out.drew.later hb1); clear hd1 hv1 hb1; obtain ⟨p0, p1, -, -⟩ := hT1.out.fst.box; obtain ⟨q0, q1, -, -⟩ := hT1.out.snd.box)
          | (go_at_call 100; refine (cutNum_any _ sa _ ds HD1.out (by omega)).mono ?_; rintro e w2 ⟨r, rfl, hr, hb2⟩; have hT2 := hide (hT1.out.later hb2); clear hb2; obtain ⟨p0', p1', -, -⟩ := hT2.out.fst.box; obtain ⟨q0', q1', -, -⟩ := hT2.out.snd.box; obtain ⟨c0, c1, f0, f1⟩ := hT2.out.res.box; rw [HV.out, HE.out] at hr; replace hr := hr.mono (show ds.length ≤ n + 1 by omega); have HR := hide hr; obtain ⟨sr, o, l, c, rfl, -⟩ := hr.form; clear hr))
    have HF := hide (boxedR (w := w) HR.out hT2.out.res hT2.out.below (by omega))
    clear hT1 hT2 HR HD1 HV HE
    go_wp2
    exact bodyPost_ret (v := .agg #[.int .i64 sr, .slice o l c]) (by simp [results, Tryz.results61, go_sem, c0, c1]) rfl HF.out
  · have hll : a.length ≤ b.length := by
      by_cases h : a.length ≤ b.length
      · exact h
      · have := dv_lt_of_length HDD.out.2 HDD.out.1 HNR.out.1 (by omega); omega
    have HE := hide (show sb * (dv b - dv a) = x + y by rw [HX.out, HY.out, HSN.out, Int.mul_sub, Int.neg_mul, Int.neg_mul]; omega)
    have HL := hide (show dv a ≤ dv b by omega)
    have hc : decide (0 ≤ cmpI (dv a) (dv b)) = false := decide_eq_false (by unfold cmpI; repeat' split; all_goals omega)
    clear HX HY HDD hge
    go_enter Tryz.func61, Tryz.ntmps61
    go_wp2_with fail
    have hT := hide (threeR w (.int .i64 sa) (.slice ao a.length acap) (.int .i64 sb) (.slice bo b.length bcap) (.int .i64 0) (.slice none 0 0))
    generalize ((w.alloc (.cells #[.int .i64 sa, .slice ao a.length acap] 40)).alloc (.cells #[.int .i64 sb, .slice bo b.length bcap] 40)).alloc (.cells #[.int .i64 0, .slice none 0 0] 40) = W at *
    obtain ⟨k0, k1, -, -⟩ := hT.out.fst.box
    obtain ⟨l0, l1, -, -⟩ := hT.out.snd.box
    have hn2 : ¬ (w.heap.size + 1 + 1 = w.heap.size) := by omega
    have hn3 : ¬ (w.heap.size = w.heap.size + 1 + 1) := by omega
    refine (cmpDigits_any _ _ _ a b (HA.out.below hT.out.below (Nat.le_refl _)) (HB.out.below hT.out.below (Nat.le_refl _)) HNR.out.1 HNR.out.2).mono ?_
    rintro e w0 ⟨rfl, hb0⟩
    replace hT := hide (hT.out.later hb0)
    clear hb0 k0 k1 l0 l1
    obtain ⟨k0, k1, -, -⟩ := hT.out.fst.box
    obtain ⟨l0, l1, -, -⟩ := hT.out.snd.box
    clear HNR
    go_wp2_with fail
    go_region_held3 (fun w' => w'.cell? ⟨w.heap.size, 0, none⟩ = some (.int .i64 sa) ∧ w'.cell? ⟨w.heap.size, 1, none⟩ = some (.slice ao a.length acap) ∧ w'.cell? ⟨w.heap.size + 1, 0, none⟩ = some (.int .i64 sb) ∧ w'.cell? ⟨w.heap.size + 1, 1, none⟩ = some (.slice bo b.length bcap)) (go_keep)
        (first
          | (go_at_call 103; refine (subDigits_any _ _ _ b a (HB.out.below hT.out.drew.below (Nat.le_refl _)) (HA.out.below hT.out.drew.below (Nat.le_refl _)) hll HL.out).mono ?_; rintro e w1 ⟨v1, ds, rfl, hd1, hv1, hl1, hb1⟩; have HD1 := hide hd1; have HV := hide hv1; have hT1 := hide (hT.out.drew.later hb1); clear hd1 hv1 hb1; obtain ⟨p0, p1, -, -⟩ := hT1.out.fst.box; obtain ⟨q0, q1, -, -⟩ := hT1.out.snd.box)
          | (go_at_call 100; refine (cutNum_any _ sb _ ds HD1.out (by omega)).mono ?_; rintro e w2 ⟨r, rfl, hr, hb2⟩; have hT2 := hide (hT1.out.later hb2); clear hb2; obtain ⟨p0', p1', -, -⟩ := hT2.out.fst.box; obtain ⟨q0', q1', -, -⟩ := hT2.out.snd.box; obtain ⟨c0, c1, f0, f1⟩ := hT2.out.res.box; rw [HV.out, HE.out] at hr; replace hr := hr.mono (show ds.length ≤ n + 1 by omega); have HR := hide hr; obtain ⟨sr, o, l, c, rfl, -⟩ := hr.form; clear hr))
    have HF := hide (boxedR (w := w) HR.out hT2.out.res hT2.out.below (by omega))
    clear hT1 hT2 HR HD1 HV HE
    go_wp2
    exact bodyPost_ret (v := .agg #[.int .i64 sr, .slice o l c]) (by simp [results, Tryz.results61, go_sem, c0, c1]) rfl HF.out

set_option maxRecDepth 100000 in
set_option maxHeartbeats 1600000 in
theorem minus_any (w : World) (va : Value) (x : Int) (n : Nat) (ha : NumR w va x n) :
    Calls Tryz.prog 60 #[va] w fun e w' => RefPost w (-x) n e w' := by
  have HNA := hide ha
  obtain ⟨sa, la, a, rfl, hla, nra, hx, hsa, hna⟩ := ha
  have HA := hide hla
  obtain ⟨ao, acap, rfl, -⟩ := hla
  have hsa' : (a.length = 0 ∧ -sa = 0 ∧ Value.slice ao a.length acap = .slice none 0 0) ∨ (0 < a.length ∧ (-sa = 1 ∨ -sa = -1)) := by
    rcases hsa with ⟨h1, h2, h3⟩ | ⟨h1, h2⟩
    · exact .inl ⟨h1, by omega, h3⟩
    · exact .inr ⟨h1, by omega⟩
  have HB : Hid (Below w.heap.size w ((w.alloc (.cells #[.int .i64 sa, .slice ao a.length acap] 40)).alloc (.cells #[.int .i64 (-sa), .slice ao a.length acap] 40))) := ((Below.refl _ _).alloc (Nat.le_refl _) _).alloc (by simp) _
  have HF : Hid (RefPost w (-x) n (.returned (.agg #[.int .i64 (-sa), .slice ao a.length acap])) ((w.alloc (.cells #[.int .i64 sa, .slice ao a.length acap] 40)).alloc (.cells #[.int .i64 (-sa), .slice ao a.length acap] 40))) :=
    ⟨_, rfl, ⟨-sa, _, a, rfl, HA.out.below HB.out (Nat.le_refl _), nra, by rw [hx, Int.neg_mul], hsa', hna⟩, HB.out⟩
  clear HA HNA HB
  have hsr : sa = 0 ∨ sa = 1 ∨ sa = -1 := by rcases hsa with ⟨h1, h2, h3⟩ | ⟨h1, h2⟩ <;> omega
  clear hsa hsa'
  have hneg : IntKind.i64.wrap (-sa) = -sa := by rcases hsr with h | h | h <;> subst h <;> decide
  go_enter Tryz.func60, Tryz.ntmps60
  go_wp2
  exact bodyPost_ret (v := .agg #[.int .i64 (-sa), .slice ao a.length acap]) (by simp [results, Tryz.results60, go_sem]) rfl HF.out

end Go.Proofs.YtdedolkgcdlmeaaGreatDoor
