/- Products, the order of numbers, numbers of 64 bits, nought. -/
import Derived.Test.YtdedolkgcdlmeaaGreatDoorNum
namespace Go.Proofs.YtdedolkgcdlmeaaGreatDoor
open Go.RowKit Limbs

theorem Box.drew {w : World} {B : Nat} {u0 u1 : Value} (h : Box w B u0 u1) : Box w.drew B u0 u1 := h

/-- Two structs came in, and the result's own variable: three new blocks. -/
structure Three (w W : World) (a0 a1 b0 b1 r0 r1 : Value) : Prop where
  fst : Box W w.heap.size a0 a1
  snd : Box W (w.heap.size + 1) b0 b1
  res : Box W (w.heap.size + 2) r0 r1
  below : Below w.heap.size w W
  size : w.heap.size + 2 < W.heap.size

theorem three (w : World) (a0 a1 b0 b1 r0 r1 : Value) (t1 t2 t3 : TypeId) : Three w (((w.alloc (.cells #[a0, a1] t1)).alloc (.cells #[b0, b1] t2)).alloc (.cells #[r0, r1] t3)) a0 a1 b0 b1 r0 r1 where
  fst := (box_new w _ _ _ _ rfl).later (((Below.refl _ _).alloc (by simp) _).alloc (by simp) _ : Below (w.heap.size + 1) _ _) (by omega)
  snd := (box_new (w.alloc _) _ _ _ _ (by simp)).later ((Below.refl _ _).alloc (by simp) _ : Below (w.heap.size + 2) _ _) (by omega)
  res := box_new _ _ _ _ _ (by simp)
  below := (((Below.refl _ _).alloc (Nat.le_refl _) _).alloc (by simp) _).alloc (by simp; omega) _
  size := by simp

theorem Three.later {w W W' : World} {a0 a1 b0 b1 r0 r1 : Value} (h : Three w W a0 a1 b0 b1 r0 r1) (hb : Below W.heap.size W W') : Three w W' a0 a1 b0 b1 r0 r1 where
  fst := h.fst.later hb (by have := h.size; omega)
  snd := h.snd.later hb (by have := h.size; omega)
  res := h.res.later hb h.size
  below := h.below.trans (hb.mono h.below.size)
  size := Nat.lt_of_lt_of_le h.size hb.size

theorem Three.drew {w W : World} {a0 a1 b0 b1 r0 r1 : Value} (h : Three w W a0 a1 b0 b1 r0 r1) : Three w W.drew a0 a1 b0 b1 r0 r1 := ⟨h.fst, h.snd, h.res, h.below.drew, h.size⟩

theorem sg_mul (an bn : Bool) (p q : Int) : (if (!(an == bn)) = true then -(p * q) else p * q) = sg an p * sg bn q := by
  unfold sg
  cases an <;> cases bn <;> simp [Int.neg_mul, Int.mul_neg]

set_option maxHeartbeats 800000 in
theorem mul_any (w : World) (va vb : Value) (x y : Int) (n m : Nat) (ha : NumL w va x n) (hb : NumL w vb y m) (hn : n ≤ 400000) (hm : m ≤ 400000) :
    Calls Tryz.prog 57 #[va, vb] w fun e w' => NumPost w (x * y) (n + m) e w' := by
  obtain ⟨an, sa, a, rfl, hla, nra, -, hx, hna⟩ := ha
  obtain ⟨bn, sb, b, rfl, hlb, nrb, -, hy, hnb⟩ := hb
  have HA := hide hla
  have HB := hide hlb
  obtain ⟨ao, acap, rfl, -⟩ := hla
  obtain ⟨bo, bcap, rfl, -⟩ := hlb
  have HX := hide hx; clear hx
  have HY := hide hy; clear hy
  go_enter Tryz.func57, Tryz.ntmps57
  go_wp2_with fail
  have hT := three w (.bool an) (.slice ao a.length acap) (.bool bn) (.slice bo b.length bcap) (.bool false) (.slice none 0 0) 29 29 29
  generalize ((w.alloc (.cells #[.bool an, .slice ao a.length acap] 29)).alloc (.cells #[.bool bn, .slice bo b.length bcap] 29)).alloc (.cells #[.bool false, .slice none 0 0] 29) = W at *
  obtain ⟨k0, k1, -, -⟩ := hT.fst
  obtain ⟨l0, l1, -, -⟩ := hT.snd
  have hn2 : ¬ (w.heap.size + 1 + 1 = w.heap.size) := by omega
  have hn3 : ¬ (w.heap.size = w.heap.size + 1 + 1) := by omega
  go_region_held3 (fun w' => w'.cell? ⟨w.heap.size, 0, none⟩ = some (.bool an) ∧ w'.cell? ⟨w.heap.size, 1, none⟩ = some (.slice ao a.length acap) ∧ w'.cell? ⟨w.heap.size + 1, 0, none⟩ = some (.bool bn) ∧ w'.cell? ⟨w.heap.size + 1, 1, none⟩ = some (.slice bo b.length bcap)) (go_keep)
    (first
      | (go_at_call 99; refine (mulLimbs_any _ _ _ a b (HA.out.below (by exact hT.below.drew) (Nat.le_refl _)) (HB.out.below (by exact hT.below.drew) (Nat.le_refl _)) (by omega) (by omega)).mono ?_; rintro e w1 ⟨v1, zs, rfl, hl1, hv1, hn1, hb1⟩; have HV := hide hv1; clear hv1; have hT1 := hT.drew.later hb1; obtain ⟨p0, p1, -, -⟩ := hT1.fst; obtain ⟨q0, q1, -, -⟩ := hT1.snd)
      | (go_at_call 95; refine (signed_any _ _ _ zs (n + m) hl1 (by omega)).mono ?_; rintro e w2 ⟨r, rfl, hr, hb2⟩; have hT2 := hT1.later hb2; obtain ⟨p0', p1', -, -⟩ := hT2.fst; obtain ⟨q0', q1', -, -⟩ := hT2.snd; obtain ⟨c0, c1, f0, f1⟩ := hT2.res; have HR := hide hr; obtain ⟨rn, rs, rz, rfl, hl, -⟩ := hr; obtain ⟨ro, rcap, rfl, -⟩ := hl))
  have e : (if (!(an == bn)) = true then -lv zs else lv zs) = x * y := by rw [HV.out, sg_mul, HX.out, HY.out]; rfl
  rw [e] at HR
  have HF := hide (boxed (w := w) HR.out c0 c1 (by simp) (by simp) hT2.below (by omega))
  clear hT hT1 hT2 hb1 hb2 HR e
  go_wp2
  exact bodyPost_ret (v := .agg #[.bool rn, .slice ro rz.length rcap]) (by simp [results, Tryz.results57, go_sem, c0, c1]) rfl HF.out

theorem zero_any (w : World) (va : Value) (x : Int) (n : Nat) (ha : NumL w va x n) :
    Calls Tryz.prog 14 #[va] w fun e w' => e = .returned (.bool (decide (x = 0))) ∧ Below w.heap.size w w' := by
  obtain ⟨an, sa, a, rfl, hla, nra, hz, hx, hna⟩ := ha
  obtain ⟨ao, acap, rfl, -, hlen, hlb, -⟩ := hla
  have e : decide (x = 0) = decide (a.length = 0) := by
    rw [decide_eq_decide, ← lv_zero_iff hlb nra, hx]
    split <;> omega
  rw [e]
  clear hx e
  by_cases h0 : a.length = 0
  · have h1 : ((a.length : Int) == 0) = true := by simp [h0]
    rw [decide_eq_true h0]
    clear h0
    go_enter Tryz.func14, Tryz.ntmps14
    go_wp2
    go_ret
    exact ⟨rfl, (Below.refl _ _).alloc (Nat.le_refl _) _⟩
  · have h1 : ((a.length : Int) == 0) = false := by rw [beq_eq_false_iff_ne]; omega
    rw [decide_eq_false h0]
    go_enter Tryz.func14, Tryz.ntmps14
    go_wp2
    go_ret
    exact ⟨rfl, (Below.refl _ _).alloc (Nat.le_refl _) _⟩

theorem lv_pos {zs : List Int} (h : LB zs) (hn : Nrm zs) (h0 : zs.length ≠ 0) : 0 < lv zs := by
  have h1 := lv_nonneg h
  have h2 := lv_zero_iff h hn
  by_cases e : lv zs = 0
  · exact absurd (h2.1 e) h0
  · omega

theorem cmpI_neg (a b : Int) : cmpI b a = cmpI (-a) (-b) := by
  unfold cmpI
  repeat' split
  all_goals omega

set_option maxHeartbeats 800000 in
theorem compare_any (w : World) (va vb : Value) (x y : Int) (n m : Nat) (ha : NumL w va x n) (hb : NumL w vb y m) :
    Calls Tryz.prog 91 #[va, vb] w fun e w' => CmpPost w (cmpI x y) e w' := by
  obtain ⟨an, sa, a, rfl, hla, nra, hza, hx, -⟩ := ha
  obtain ⟨bn, sb, b, rfl, hlb, nrb, hzb, hy, -⟩ := hb
  have HA := hide hla
  have HB := hide hlb
  obtain ⟨ao, acap, rfl, -, -, halb, -⟩ := hla
  obtain ⟨bo, bcap, rfl, -, -, hblb, -⟩ := hlb
  have hpa := lv_pos halb nra
  have hpb := lv_pos hblb nrb
  have hqa := lv_nonneg halb
  have hqb := lv_nonneg hblb
  have hbel : ∀ o1 o2, Below w.heap.size w ((w.alloc o1).alloc o2) := fun o1 o2 => ((Below.refl _ _).alloc (Nat.le_refl _) _).alloc (by simp) _
  cases an <;> cases bn
  · have HX : Hid (cmpI (lv a) (lv b) = cmpI x y) := by show _ = _; rw [hx, hy]; rfl
    clear hx hy hza hzb hpa hpb
    go_enter Tryz.func91, Tryz.ntmps91
    go_wp2_with fail
    refine (compareLimbs_any _ _ _ a b (HA.out.below (hbel _ _) (Nat.le_refl _)) (HB.out.below (hbel _ _) (Nat.le_refl _)) nra nrb).mono ?_
    rintro e w2 ⟨rfl, hb2⟩
    go_wp2
    go_ret
    exact ⟨ret_i64 HX.out, (hbel _ _).trans (hb2.mono (by simp; omega))⟩
  · have HX : Hid (1 = cmpI x y) := by
      have : 0 < lv b := hpb (fun h => by have := hzb h; simp at this)
      show _ = _; rw [cmpI_gt]; rw [hx, hy]; simp; omega
    clear hx hy hza hzb hpa hpb
    go_enter Tryz.func91, Tryz.ntmps91
    go_wp2
    go_ret
    exact ⟨ret_i64 HX.out, hbel _ _⟩
  · have HX : Hid (-1 = cmpI x y) := by
      have : 0 < lv a := hpa (fun h => by have := hza h; simp at this)
      show _ = _; rw [cmpI_lt]; rw [hx, hy]; simp; omega
    clear hx hy hza hzb hpa hpb
    go_enter Tryz.func91, Tryz.ntmps91
    go_wp2
    go_ret
    exact ⟨ret_i64 HX.out, hbel _ _⟩
  · have HX : Hid (cmpI (lv b) (lv a) = cmpI x y) := by show _ = _; rw [hx, hy]; exact cmpI_neg _ _
    clear hx hy hza hzb hpa hpb
    go_enter Tryz.func91, Tryz.ntmps91
    go_wp2_with fail
    refine (compareLimbs_any _ _ _ b a (HB.out.below (hbel _ _) (Nat.le_refl _)) (HA.out.below (hbel _ _) (Nat.le_refl _)) nrb nra).mono ?_
    rintro e w2 ⟨rfl, hb2⟩
    go_wp2
    go_ret
    exact ⟨ret_i64 HX.out, (hbel _ _).trans (hb2.mono (by simp; omega))⟩

end Go.Proofs.YtdedolkgcdlmeaaGreatDoor
