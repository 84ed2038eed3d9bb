/- The reference: two numbers are compared; one less another; what is wrong with a number. -/
import Derived.Test.YtdedolkgcdlmeaaGreatDoorRefH
namespace Go.Proofs.YtdedolkgcdlmeaaGreatDoor
open Go.RowKit Limbs Digs

theorem cmp_signs {sa sb A B : Int} (ha : (A = 0 ∧ sa = 0) ∨ (0 < A ∧ (sa = 1 ∨ sa = -1))) (hb : (B = 0 ∧ sb = 0) ∨ (0 < B ∧ (sb = 1 ∨ sb = -1))) (hne : sa ≠ sb) : cmpI (sa * A) (sb * B) = if sa < sb then -1 else 1 := by
  unfold cmpI
  rcases ha with ⟨rfl, rfl⟩ | ⟨h1, rfl | rfl⟩ <;> rcases hb with ⟨rfl, rfl⟩ | ⟨h2, rfl | rfl⟩ <;> (repeat' split) <;> omega

theorem cmp_same {s A B : Int} (ha : (A = 0 ∧ s = 0) ∨ (0 < A ∧ (s = 1 ∨ s = -1))) (hb : (B = 0 ∧ s = 0) ∨ (0 < B ∧ (s = 1 ∨ s = -1))) : s * cmpI A B = cmpI (s * A) (s * B) := by
  unfold cmpI
  rcases ha with ⟨rfl, rfl⟩ | ⟨h1, rfl | rfl⟩ <;> (repeat' split) <;> omega

theorem cmpI_small (a b : Int) : -1 ≤ cmpI a b ∧ cmpI a b ≤ 1 := by unfold cmpI; repeat' split; all_goals omega

theorem sign_of {s : Int} {sl : Value} {ds : List Int} (hd : DB ds) (hn : Nrm ds) (h : (ds.length = 0 ∧ s = 0 ∧ sl = .slice none 0 0) ∨ (0 < ds.length ∧ (s = 1 ∨ s = -1))) : (dv ds = 0 ∧ s = 0) ∨ (0 < dv ds ∧ (s = 1 ∨ s = -1)) := by
  rcases h with ⟨h1, h2, -⟩ | ⟨h1, h2⟩
  · exact .inl ⟨(dv_zero_iff hd hn).2 h1, h2⟩
  · exact .inr ⟨dv_pos hd hn (by omega), h2⟩

set_option maxRecDepth 100000 in
set_option maxHeartbeats 1600000 in
theorem cmp_any (w : World) (va vb : Value) (x y : Int) (n m : Nat) (ha : NumR w va x n) (hb : NumR w vb y m) :
    Calls Tryz.prog 90 #[va, vb] w fun e w' => CmpPost w (cmpI x y) e w' := by
  obtain ⟨sa, la, a, rfl, hla, nra, hx, hsa, hna⟩ := ha
  obtain ⟨sb, lb, b, rfl, hlb, nrb, hy, hsb, hnb⟩ := hb
  have HA := hide hla; have HB := hide hlb
  obtain ⟨ao, acap, rfl, -, -, adb, -⟩ := hla
  obtain ⟨bo, bcap, rfl, -, -, bdb, -⟩ := hlb
  have h1 := sign_of adb nra hsa
  have h2 := sign_of bdb nrb hsb
  clear hsa hsb
  subst hx hy
  have hW : Below w.heap.size w ((w.alloc (.cells #[.int .i64 sa, .slice ao a.length acap] 40)).alloc (.cells #[.int .i64 sb, .slice bo b.length bcap] 40)) := ((Below.refl _ _).alloc (Nat.le_refl _) _).alloc (by simp) _
  have HW := hide hW
  clear hW
  by_cases hss : sa = sb
  · subst hss
    have HE := hide (cmp_same h1 h2)
    have hs1 : sa = 0 ∨ sa = 1 ∨ sa = -1 := by omega
    clear h1 h2
    go_enter Tryz.func90, Tryz.ntmps90
    have b1 : Box ((w.alloc (.cells #[.int .i64 sa, .slice ao a.length acap] 40)).alloc (.cells #[.int .i64 sa, .slice bo b.length bcap] 40)) w.heap.size (.int .i64 sa) (.slice ao a.length acap) := (box_new w _ _ _ _ rfl).later ((Below.refl _ _).alloc (by simp) _ : Below (w.heap.size + 1) _ _) (by omega)
    have b2 : Box ((w.alloc (.cells #[.int .i64 sa, .slice ao a.length acap] 40)).alloc (.cells #[.int .i64 sa, .slice bo b.length bcap] 40)) (w.heap.size + 1) (.int .i64 sa) (.slice bo b.length bcap) := box_new _ _ _ _ _ (by simp)
    have l1 : w.heap.size + 1 < ((w.alloc (.cells #[.int .i64 sa, .slice ao a.length acap] 40)).alloc (.cells #[.int .i64 sa, .slice bo b.length bcap] 40)).heap.size := by simp
    go_wp2_with fail
    generalize (w.alloc (.cells #[.int .i64 sa, .slice ao a.length acap] 40)).alloc (.cells #[.int .i64 sa, .slice bo b.length bcap] 40) = W at *
    have B1 := hide b1; have B2 := hide b2
    obtain ⟨k0, k1, -, -⟩ := b1
    obtain ⟨l0, l2, -, -⟩ := b2
    go_region_held3 (fun w' => w'.cell? ⟨w.heap.size, 0, none⟩ = some (.int .i64 sa) ∧ w'.cell? ⟨w.heap.size, 1, none⟩ = some (.slice ao a.length acap) ∧ w'.cell? ⟨w.heap.size + 1, 0, none⟩ = some (.int .i64 sa) ∧ w'.cell? ⟨w.heap.size + 1, 1, none⟩ = some (.slice bo b.length bcap)) (go_keep)
        (first | (go_at_call 102; refine (cmpDigits_any _ _ _ a b (HA.out.below HW.out.drew (Nat.le_refl _)) (HB.out.below HW.out.drew (Nat.le_refl _)) nra nrb).mono ?_; rintro e w1 ⟨rfl, hb1⟩; have C1 := hide (B1.out.drew.later hb1 (by show _ < W.heap.size; omega)); have C2 := hide (B2.out.drew.later hb1 (by show _ < W.heap.size; omega)); have HW1 := hide (HW.out.drew.trans (hb1.mono HW.out.size)); clear hb1; obtain ⟨p0, p1, -, -⟩ := C1.out; obtain ⟨q0, q1, -, -⟩ := C2.out))
    have hc := cmpI_small (dv a) (dv b)
    have hm : IntKind.i64.wrap (sa * cmpI (dv a) (dv b)) = sa * cmpI (dv a) (dv b) := by rw [IntKind.wrap_i64]; rcases hs1 with h | h | h <;> subst h <;> omega
    have HE' := hide (show CmpPost w (cmpI (sa * dv a) (sa * dv b)) (.returned (.int .i64 (sa * cmpI (dv a) (dv b)))) w1 from ⟨by rw [HE.out], HW1.out⟩)
    clear HE
    generalize cmpI (dv a) (dv b) = z at *
    go_wp2
    go_ret
    show CmpPost _ _ (.returned (.int .i64 (IntKind.i64.wrap (sa * z)))) _
    rw [hm]
    exact HE'.out
  · have hd1 : (sa == sb) = false := by simp [hss]
    have hd2 : (sa != sb) = true := by simp [hss]
    have HE := hide (cmp_signs h1 h2 hss)
    clear h1 h2
    by_cases hlt : sa < sb
    · rw [HE.out, if_pos hlt]
      clear HE
      go_enter Tryz.func90, Tryz.ntmps90
      go_wp2
      go_ret
      exact ⟨rfl, HW.out⟩
    · rw [HE.out, if_neg hlt]
      clear HE
      go_enter Tryz.func90, Tryz.ntmps90
      go_wp2
      go_ret
      exact ⟨rfl, HW.out⟩

set_option maxRecDepth 100000 in
set_option maxHeartbeats 1600000 in
theorem less_any (w : World) (va vb : Value) (x y : Int) (n : Nat) (ha : NumR w va x n) (hb : NumR w vb y n) (hn : n < 1000000000000) :
    Calls Tryz.prog 109 #[va, vb] w fun e w' => RefPost w (x - y) (n + 1) e w' := by
  have HA := hide ha; have HB := hide hb
  obtain ⟨sa, ao, al, ac, rfl, -⟩ := ha.form
  obtain ⟨sb, bo, bl, bc, rfl, -⟩ := hb.form
  clear ha hb
  go_enter Tryz.func109, Tryz.ntmps109
  go_wp2_with fail
  have hT := hide (threeR w (.int .i64 sa) (.slice ao al ac) (.int .i64 sb) (.slice bo bl bc) (.int .i64 0) (.slice none 0 0))
  generalize ((w.alloc (.cells #[.int .i64 sa, .slice ao al ac] 40)).alloc (.cells #[.int .i64 sb, .slice bo bl bc] 40)).alloc (.cells #[.int .i64 0, .slice none 0 0] 40) = W at *
  obtain ⟨k0, k1, -, -⟩ := hT.out.fst.box
  obtain ⟨l0, l1, -, -⟩ := hT.out.snd.box
  have hn2 : ¬ (w.heap.size + 1 + 1 = w.heap.size) := by omega
  have hn3 : ¬ (w.heap.size = w.heap.size + 1 + 1) := by omega
  go_region_held3 (fun w' => w'.cell? ⟨w.heap.size, 0, none⟩ = some (.int .i64 sa) ∧ w'.cell? ⟨w.heap.size, 1, none⟩ = some (.slice ao al ac) ∧ w'.cell? ⟨w.heap.size + 1, 0, none⟩ = some (.int .i64 sb) ∧ w'.cell? ⟨w.heap.size + 1, 1, none⟩ = some (.slice bo bl bc)) (go_keep)
      (first
        | (go_at_call 60; refine (minus_any _ _ y n (HB.out.below hT.out.drew.below (Nat.le_refl _))).mono ?_; rintro e w1 ⟨v1, rfl, hv1, hb1⟩; have hT1 := hide (hT.out.drew.later hb1); obtain ⟨s1, o1, m1, c1, rfl, -⟩ := hv1.form; have HV := hide hv1; clear hv1 hb1; obtain ⟨p0, p1, -, -⟩ := hT1.out.fst.box; obtain ⟨q0, q1, -, -⟩ := hT1.out.snd.box)
        | (go_at_call 61; refine (plus_any _ _ _ x (-y) n (HA.out.below hT1.out.below (Nat.le_refl _)) HV.out hn).mono ?_; rintro e w2 ⟨r, rfl, hr, hb2⟩; have hT2 := hide (hT1.out.later hb2); clear hb2; obtain ⟨p0', p1', -, -⟩ := hT2.out.fst.box; obtain ⟨q0', q1', -, -⟩ := hT2.out.snd.box; obtain ⟨c0, c1, f0, f1⟩ := hT2.out.res.box; rw [← Int.sub_eq_add_neg] at hr; have HR := hide hr; obtain ⟨sr, o, l, c, rfl, -⟩ := hr.form; clear hr))
  have HF := hide (boxedR (w := w) HR.out hT2.out.res hT2.out.below (by omega))
  clear hT1 hT2 HR HV
  go_wp2
  exact bodyPost_ret (v := .agg #[.int .i64 sr, .slice o l c]) (by simp [results, Tryz.results109, go_sem, c0, c1]) rfl HF.out

/-- what is wrong with a number, by the reference -/
def faulty (b : Bool) : Int := if b = true then 0 else 3

end Go.Proofs.YtdedolkgcdlmeaaGreatDoor
