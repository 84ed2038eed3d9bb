/- mat.common of 1 and 1; mat.chained of nothing but 1. -/
import Derived.Test.YtofegldopgkikaaFold
import Derived.Test.YtofegldopgkikaaVecX
import Derived.Test.YtofegldopgkikaaUpP
namespace Go.Proofs.Ytofegldopgkikaa
open Go.RowKit Limbs

theorem Box.alloc {W : World} {B : Nat} {u0 u1 : Value} (h : Box W B u0 u1) (hB : B < W.heap.size) (ob : Obj) : Box (W.alloc ob) B u0 u1 := h.later ((Below.refl W.heap.size W).alloc (Nat.le_refl _) ob) hB

theorem NumL.one {w : World} {v : Value} {n : Nat} (h : NumL w v 1 n) : NumL w v 1 2 := h.tight (by decide)

theorem one_of_mul {p g : Int} (h : 1 = p * g) (h0 : 0 ≤ g) : g = 1 := by
  by_cases h1 : g = 1
  · exact h1
  · by_cases h2 : g = 0
    · rw [h2, Int.mul_zero] at h; omega
    · rcases Int.lt_or_le 0 p with hp | hp
      · have := Int.mul_le_mul_of_nonneg_right (show 1 ≤ p by omega) h0
        omega
      · have := Int.mul_le_mul_of_nonneg_right hp h0
        omega

set_option linter.unusedSimpArgs false in
set_option maxRecDepth 100000 in
set_option maxHeartbeats 1600000 in
theorem common_one (w : World) (va vb : Value) (ha : NumL w va 1 2) (hb : NumL w vb 1 2) :
    Calls Try.prog 38 #[va, vb] w fun e w' => ∃ v1 v2, e = .returned (.tuple #[v1, v2]) ∧ NumL w' v1 1 2 ∧ NumL w' v2 1 2 ∧ Below w.heap.size w w' := by
  have HA := hide ha; have HB := hide hb
  obtain ⟨⟨an, ao, al, ac⟩, rfl⟩ := ha.nm
  obtain ⟨⟨bn, bo, bl, bc⟩, rfl⟩ := hb.nm
  clear ha hb
  go_enter Try.func38, Try.ntmps38
  go_wp2_with fail
  have hb4 : Below w.heap.size w ((((w.alloc (.cells #[.bool an, .slice ao al ac] 36)).alloc (.cells #[.bool bn, .slice bo bl bc] 36)).alloc (.cells #[.bool false, .slice none 0 0] 36)).alloc (.cells #[.bool false, .slice none 0 0] 36)) :=
    ((((Below.refl _ _).alloc (Nat.le_refl _) _).alloc (by simp) _).alloc (by simp; omega) _).alloc (by simp; omega) _
  have x0 := (((box_new w (.bool an) (.slice ao al ac) 36 w.heap.size rfl).alloc (by simp) (.cells #[.bool bn, .slice bo bl bc] 36)).alloc (by simp; omega) (.cells #[.bool false, .slice none 0 0] 36)).alloc (by simp; omega) (.cells #[.bool false, .slice none 0 0] 36)
  have x1 := ((box_new (w.alloc (.cells #[.bool an, .slice ao al ac] 36)) (.bool bn) (.slice bo bl bc) 36 (w.heap.size + 1) (by simp)).alloc (by simp) (.cells #[.bool false, .slice none 0 0] 36)).alloc (by simp) (.cells #[.bool false, .slice none 0 0] 36)
  have x2 := (box_new ((w.alloc (.cells #[.bool an, .slice ao al ac] 36)).alloc (.cells #[.bool bn, .slice bo bl bc] 36)) (.bool false) (.slice none 0 0) 36 (w.heap.size + 1 + 1) (by simp)).alloc (by simp) (.cells #[.bool false, .slice none 0 0] 36)
  have x3 := box_new (((w.alloc (.cells #[.bool an, .slice ao al ac] 36)).alloc (.cells #[.bool bn, .slice bo bl bc] 36)).alloc (.cells #[.bool false, .slice none 0 0] 36)) (.bool false) (.slice none 0 0) 36 (w.heap.size + 1 + 1 + 1) (by simp)
  have hs4 : ((((w.alloc (.cells #[.bool an, .slice ao al ac] 36)).alloc (.cells #[.bool bn, .slice bo bl bc] 36)).alloc (.cells #[.bool false, .slice none 0 0] 36)).alloc (.cells #[.bool false, .slice none 0 0] 36)).heap.size = w.heap.size + 4 := by simp
  generalize (((w.alloc (.cells #[.bool an, .slice ao al ac] 36)).alloc (.cells #[.bool bn, .slice bo bl bc] 36)).alloc (.cells #[.bool false, .slice none 0 0] 36)).alloc (.cells #[.bool false, .slice none 0 0] 36) = W4 at *
  have HA4 := hide (HA.out.below hb4 (Nat.le_refl _)); have HB4 := hide (HB.out.below hb4 (Nat.le_refl _))
  have HE4 := hide hb4
  clear HA HB hb4
  refine (GK.gcd_any W4 _ _ 1 1 HA4.out HB4.out (by decide) (by decide)).mono ?_
  rintro e w1 ⟨vg, vx, vy, g, x, y, rfl, n1, n2, n3, -, hg0, ⟨p, hp⟩, -, hb1⟩
  obtain rfl : g = 1 := one_of_mul hp hg0
  obtain ⟨⟨gn, go, gl, gc⟩, rfl⟩ := n1.nm
  obtain ⟨⟨xn, xo, xl, xc⟩, rfl⟩ := n2.nm
  obtain ⟨⟨yn, yo, yl, yc⟩, rfl⟩ := n3.nm
  have y0 := x0.later hb1 (by omega)
  have y1 := x1.later hb1 (by omega)
  have y2 := x2.later hb1 (by omega)
  have y3 := x3.later hb1 (by omega)
  have HA1 := hide (HA4.out.below hb1 (Nat.le_refl _)); have HB1 := hide (HB4.out.below hb1 (Nat.le_refl _)); have HG1 := hide n1
  have HE1 := hide (HE4.out.trans (hb1.mono HE4.out.size))
  have hs1 : w.heap.size + 4 ≤ w1.heap.size := by have := hb1.size; omega
  clear hp hg0 n1 n2 n3 hb1 x0 x1 x2 x3 HA4 HB4 HE4 hs4
  have hbW : Below w1.heap.size w1 (((w1.alloc (.cells #[.bool gn, .slice go gl gc] 36)).alloc (.cells #[.bool xn, .slice xo xl xc] 36)).alloc (.cells #[.bool yn, .slice yo yl yc] 36)) := (((Below.refl _ _).alloc (Nat.le_refl _) _).alloc (by simp) _).alloc (by simp; omega) _
  have q0 := (((y0.alloc (by omega) (.cells #[.bool gn, .slice go gl gc] 36)).alloc (by simp; omega) (.cells #[.bool xn, .slice xo xl xc] 36)).alloc (by simp; omega) (.cells #[.bool yn, .slice yo yl yc] 36))
  have q1 := (((y1.alloc (by omega) (.cells #[.bool gn, .slice go gl gc] 36)).alloc (by simp; omega) (.cells #[.bool xn, .slice xo xl xc] 36)).alloc (by simp; omega) (.cells #[.bool yn, .slice yo yl yc] 36))
  have q2 := (((y2.alloc (by omega) (.cells #[.bool gn, .slice go gl gc] 36)).alloc (by simp; omega) (.cells #[.bool xn, .slice xo xl xc] 36)).alloc (by simp; omega) (.cells #[.bool yn, .slice yo yl yc] 36))
  have q3 := (((y3.alloc (by omega) (.cells #[.bool gn, .slice go gl gc] 36)).alloc (by simp; omega) (.cells #[.bool xn, .slice xo xl xc] 36)).alloc (by simp; omega) (.cells #[.bool yn, .slice yo yl yc] 36))
  have qg := ((box_new w1 (.bool gn) (.slice go gl gc) 36 w1.heap.size rfl).alloc (by simp) (.cells #[.bool xn, .slice xo xl xc] 36)).alloc (by simp; omega) (.cells #[.bool yn, .slice yo yl yc] 36)
  have hsW : (((w1.alloc (.cells #[.bool gn, .slice go gl gc] 36)).alloc (.cells #[.bool xn, .slice xo xl xc] 36)).alloc (.cells #[.bool yn, .slice yo yl yc] 36)).heap.size = w1.heap.size + 3 := by simp
  obtain ⟨p0, p1, -, -⟩ := q0
  have qg' := qg
  obtain ⟨p2, p3, -, -⟩ := qg
  go_wp2_with fail
  generalize (((w1.alloc (.cells #[.bool gn, .slice go gl gc] 36)).alloc (.cells #[.bool xn, .slice xo xl xc] 36)).alloc (.cells #[.bool yn, .slice yo yl yc] 36)) = W3 at *
  refine (div_any W3 _ _ 1 1 2 2 (HA1.out.below hbW (Nat.le_refl _)) (HG1.out.below hbW (Nat.le_refl _)) (by decide) (by decide)).mono ?_
  rintro e w2 ⟨vq, vr, q, r, rfl, m1, m2, hqr, hlf, hb2⟩
  obtain rfl : q = 1 := by
    have := hlf.1 (by decide)
    omega
  obtain ⟨⟨qn, qo, ql, qc⟩, rfl⟩ := m1.nm
  obtain ⟨⟨rn, ro, rl, rc⟩, rfl⟩ := m2.nm
  have hb12 : Below w1.heap.size w1 w2 := hbW.trans (hb2.mono (by omega))
  have b1 := q1.later hb2 (by omega)
  have b2 := q2.later hb2 (by omega)
  have b3 := q3.later hb2 (by omega)
  have bg := qg'.later hb2 (by omega)
  have HB2 := hide (HB1.out.below hb12 (Nat.le_refl _)); have HG2 := hide (HG1.out.below hb12 (Nat.le_refl _)); have HQ2 := hide m1
  have HE2 := hide (HE1.out.trans (hb12.mono HE1.out.size))
  have hs2 : w1.heap.size + 3 ≤ w2.heap.size := by have := hb2.size; omega
  clear hqr hlf m1 m2 hb2 hb12 hbW hsW p0 p1 p2 p3 q1 q2 q3 qg' HA1 HB1 HG1 HE1 y1 y2 y3
  have hbX : Below w2.heap.size w2 ((w2.alloc (.cells #[.bool qn, .slice qo ql qc] 36)).alloc (.cells #[.bool rn, .slice ro rl rc] 36)) := ((Below.refl _ _).alloc (Nat.le_refl _) _).alloc (by simp) _
  have t1 := ((b1.alloc (by omega) (.cells #[.bool qn, .slice qo ql qc] 36)).alloc (by simp; omega) (.cells #[.bool rn, .slice ro rl rc] 36))
  have t2 := ((b2.alloc (by omega) (.cells #[.bool qn, .slice qo ql qc] 36)).alloc (by simp; omega) (.cells #[.bool rn, .slice ro rl rc] 36))
  have t3 := ((b3.alloc (by omega) (.cells #[.bool qn, .slice qo ql qc] 36)).alloc (by simp; omega) (.cells #[.bool rn, .slice ro rl rc] 36))
  have tg := ((bg.alloc (by omega) (.cells #[.bool qn, .slice qo ql qc] 36)).alloc (by simp; omega) (.cells #[.bool rn, .slice ro rl rc] 36))
  have tq := (box_new w2 (.bool qn) (.slice qo ql qc) 36 w2.heap.size rfl).alloc (by simp) (.cells #[.bool rn, .slice ro rl rc] 36)
  have hsX : ((w2.alloc (.cells #[.bool qn, .slice qo ql qc] 36)).alloc (.cells #[.bool rn, .slice ro rl rc] 36)).heap.size = w2.heap.size + 2 := by simp
  go_wp2_with fail
  have hm2 : w2.heap.size < ((w2.alloc (.cells #[.bool qn, .slice qo ql qc] 36)).alloc (.cells #[.bool rn, .slice ro rl rc] 36)).heap.size := by simp; omega
  generalize ((w2.alloc (.cells #[.bool qn, .slice qo ql qc] 36)).alloc (.cells #[.bool rn, .slice ro rl rc] 36)) = W5 at *
  have HT1 := hide t1; have HT2 := hide t2; have HT3 := hide t3; have HTG := hide tg; have HTQ := hide tq
  have HBX := hide hbX; have HSX := hide hsX
  clear t1 t2 t3 tg tq hbX hsX b1 b2 b3 bg
  have s0 : (fun w' => w'.cell? ⟨w1.heap.size, 0, none⟩ = some (.bool gn) ∧ w'.cell? ⟨w1.heap.size, 1, none⟩ = some (.slice go gl gc) ∧ w'.cell? ⟨w2.heap.size, 0, none⟩ = some (.bool qn) ∧ w'.cell? ⟨w2.heap.size, 1, none⟩ = some (.slice qo ql qc) ∧ w'.cell? ⟨w.heap.size + 1, 0, none⟩ = some (.bool bn) ∧ w'.cell? ⟨w.heap.size + 1, 1, none⟩ = some (.slice bo bl bc)) W5 := ⟨HTG.out.1, HTG.out.2.1, HTQ.out.1, HTQ.out.2.1, HT1.out.1, HT1.out.2.1⟩
  refine upto_start (S := (fun w' => w'.cell? ⟨w1.heap.size, 0, none⟩ = some (.bool gn) ∧ w'.cell? ⟨w1.heap.size, 1, none⟩ = some (.slice go gl gc) ∧ w'.cell? ⟨w2.heap.size, 0, none⟩ = some (.bool qn) ∧ w'.cell? ⟨w2.heap.size, 1, none⟩ = some (.slice qo ql qc) ∧ w'.cell? ⟨w.heap.size + 1, 0, none⟩ = some (.bool bn) ∧ w'.cell? ⟨w.heap.size + 1, 1, none⟩ = some (.slice bo bl bc))) (k := 4) (by kernel_rfl) (by exact s0) (fun hHeld => ?_)
  refine upto_run (v := ?_) 0 26 [4, 5] rfl rfl (by kernel_rfl) (by kernel_rfl) (by kernel_rfl) (by kernel_rfl) (by kernel_rfl) (fun _ _ _ h => h) (by rfl) ?_ (by assumption) ?_
  rotate_left
  · (intro w hSw; (try dsimp only at hSw); obtain ⟨hS1, hS2, hS3, hS4, hS5, hS6⟩ := hSw; go_simp; with_reducible rfl)
  simp only [Act.put, List.setIfInBounds_toArray, List.set_cons_zero, List.set_cons_succ]
  refine upto_run (v := ?_) 1 27 [3, 4, 5] rfl rfl (by kernel_rfl) (by kernel_rfl) (by kernel_rfl) (by kernel_rfl) (by kernel_rfl) (fun _ _ _ h => h) (by rfl) ?_ (by assumption) ?_
  rotate_left
  · (intro w hSw; (try dsimp only at hSw); obtain ⟨hS1, hS2, hS3, hS4, hS5, hS6⟩ := hSw; go_simp; with_reducible rfl)
  simp only [Act.put, List.setIfInBounds_toArray, List.set_cons_zero, List.set_cons_succ]
  refine upto_run (v := ?_) 2 28 [3, 4, 5] rfl rfl (by kernel_rfl) (by kernel_rfl) (by kernel_rfl) (by kernel_rfl) (by kernel_rfl) (fun _ _ _ h => h) (by rfl) ?_ (by assumption) ?_
  rotate_left
  · (intro w hSw; (try dsimp only at hSw); obtain ⟨hS1, hS2, hS3, hS4, hS5, hS6⟩ := hSw; go_simp; with_reducible rfl)
  simp only [Act.put, List.setIfInBounds_toArray, List.set_cons_zero, List.set_cons_succ]
  refine upto_one 3 (by kernel_rfl) rfl (fun K hK => ?_)
  go_simp
  refine (mul_any W5.drew _ _ 1 1 3 2 (by exact (HQ2.out.below HBX.out (Nat.le_refl _)).below (Below.refl W5.heap.size W5).drew (Nat.le_refl _)) (by exact (HB2.out.below HBX.out (Nat.le_refl _)).below (Below.refl W5.heap.size W5).drew (Nat.le_refl _)) (by decide) (by decide)).mono ?_
  rintro e w3 ⟨vm, rfl, nm, hb3⟩
  have nm1 : NumL w3 vm 1 2 := NumL.one (by have := nm; rw [Int.mul_one] at this; exact this)
  obtain ⟨⟨mn, mo, ml, mc⟩, rfl⟩ := nm1.nm
  have hb3' : Below W5.heap.size W5 w3 := (Below.refl _ _).drew.trans hb3
  have hs2' := HSX.out
  have u1 := HT1.out.later hb3' (by omega)
  have u2 := HT2.out.later hb3' (by omega)
  have u3 := HT3.out.later hb3' (by omega)
  have ug := HTG.out.later hb3' (by omega)
  have uq := HTQ.out.later hb3' (by omega)
  have hs3 : w2.heap.size + 2 ≤ w3.heap.size := by have := hb3'.size; omega
  have HG3 := hide ((HG2.out.below HBX.out (Nat.le_refl _)).below hb3' (Nat.le_refl _))
  have HM3 := hide nm1
  have HE3 := hide (HE2.out.trans ((HBX.out.trans (hb3'.mono HBX.out.size)).mono HE2.out.size))
  clear nm nm1 hb3 hb3'
  go_wp2_with fail
  refine hK.out _ _ (fun _ => ⟨ug.1, ug.2.1, uq.1, uq.2.1, u1.1, u1.2.1⟩) ?_
  clear hK K hHeld
  try simp only [Act.put, List.setIfInBounds_toArray, List.set_cons_zero, List.set_cons_succ]
  obtain ⟨v20, v21, v22, v23⟩ := u2
  obtain ⟨v30, v31, v32, v33⟩ := u3
  refine upto_one 4 (by kernel_rfl) rfl (fun K hK => ?_)
  go_simp
  refine hK.out _ _ (fun h => absurd h (by decide)) ?_
  clear hK K
  try simp only [Act.put, List.setIfInBounds_toArray, List.set_cons_zero, List.set_cons_succ]
  have z2 := Box.write (W := w3) (B := w.heap.size + 1 + 1) ⟨v20, v21, v22, v23⟩ (.bool gn) (.slice go gl gc)
  have z3 := (Box.other (W := w3) (A := w.heap.size + 1 + 1 + 1) (B := w.heap.size + 1 + 1) ⟨v30, v31, v32, v33⟩ (by omega) 0 (.bool gn)).other (B := w.heap.size + 1 + 1) (by omega) 1 (.slice go gl gc)
  have HNG := hide ((HG3.out.setCell v20 (x := .bool gn) (fun z e => by cases e)).setCell (p := ⟨w.heap.size + 1 + 1, 1, none⟩) (x := .slice go gl gc) ((World.cell?_setCell_other (h := fun e => by simp at e) ..).trans v21) (fun z e => by cases e))
  have HNM := hide ((HM3.out.setCell v20 (x := .bool gn) (fun z e => by cases e)).setCell (p := ⟨w.heap.size + 1 + 1, 1, none⟩) (x := .slice go gl gc) ((World.cell?_setCell_other (h := fun e => by simp at e) ..).trans v21) (fun z e => by cases e))
  have HEZ := hide ((HE3.out.setCell (p := ⟨w.heap.size + 1 + 1, 0, none⟩) (by show w.heap.size ≤ w.heap.size + 1 + 1; omega) (.bool gn)).setCell (p := ⟨w.heap.size + 1 + 1, 1, none⟩) (by show w.heap.size ≤ w.heap.size + 1 + 1; omega) (.slice go gl gc))
  clear v20 v21 v22 v23 v30 v31 v32 v33 HG3 HM3 HE3 ug uq u1
  generalize (w3.setCell ⟨w.heap.size + 1 + 1, 0, none⟩ (.bool gn)).setCell ⟨w.heap.size + 1 + 1, 1, none⟩ (.slice go gl gc) = w6 at *
  obtain ⟨v30, v31, v32, v33⟩ := z3
  refine upto_one 5 (by kernel_rfl) rfl (fun K hK => ?_)
  go_simp
  refine hK.out _ _ (fun h => absurd h (by decide)) ?_
  clear hK K
  try simp only [Act.put, List.setIfInBounds_toArray, List.set_cons_zero, List.set_cons_succ]
  refine upto_done (by kernel_rfl) ?_
  have y3' := Box.write (W := w6) (B := w.heap.size + 1 + 1 + 1) ⟨v30, v31, v32, v33⟩ (.bool mn) (.slice mo ml mc)
  have y2' := (z2.other (B := w.heap.size + 1 + 1 + 1) (by omega) 0 (.bool mn)).other (B := w.heap.size + 1 + 1 + 1) (by omega) 1 (.slice mo ml mc)
  have HFG := hide ((HNG.out.setCell v30 (x := .bool mn) (fun z e => by cases e)).setCell (p := ⟨w.heap.size + 1 + 1 + 1, 1, none⟩) (x := .slice mo ml mc) ((World.cell?_setCell_other (h := fun e => by simp at e) ..).trans v31) (fun z e => by cases e))
  have HFM := hide ((HNM.out.setCell v30 (x := .bool mn) (fun z e => by cases e)).setCell (p := ⟨w.heap.size + 1 + 1 + 1, 1, none⟩) (x := .slice mo ml mc) ((World.cell?_setCell_other (h := fun e => by simp at e) ..).trans v31) (fun z e => by cases e))
  have HFE := hide ((HEZ.out.setCell (p := ⟨w.heap.size + 1 + 1 + 1, 0, none⟩) (by show w.heap.size ≤ w.heap.size + 1 + 1 + 1; omega) (.bool mn)).setCell (p := ⟨w.heap.size + 1 + 1 + 1, 1, none⟩) (by show w.heap.size ≤ w.heap.size + 1 + 1 + 1; omega) (.slice mo ml mc))
  clear v30 v31 v32 v33 HNG HNM HEZ z2
  generalize (w6.setCell ⟨w.heap.size + 1 + 1 + 1, 0, none⟩ (.bool mn)).setCell ⟨w.heap.size + 1 + 1 + 1, 1, none⟩ (.slice mo ml mc) = w7 at *
  obtain ⟨r0, r1, -, -⟩ := y2'
  obtain ⟨r2, r3, -, -⟩ := y3'
  go_wp2
  exact bodyPost_ret (v := .tuple #[.agg #[.bool gn, .slice go gl gc], .agg #[.bool mn, .slice mo ml mc]]) (by simp [results, Try.results38, go_sem, r0, r1, r2, r3]) rfl ⟨_, _, rfl, HFG.out, HFM.out, HFE.out⟩


theorem ones_set (r k : Nat) : (List.replicate r (1 : Int)).set k 1 = List.replicate r 1 := by
  apply List.ext_getElem (by simp)
  intro i h1 h2
  rw [List.getElem_set]
  simp

theorem ones_get (r k : Nat) (hk : k < r) : (List.replicate r (1 : Int)).getD k 0 = 1 := by
  rw [List.getD_eq_getElem?_getD, List.getElem?_replicate, if_pos hk]; rfl

set_option linter.unusedSimpArgs false in
set_option maxRecDepth 100000 in
set_option maxHeartbeats 3200000 in
theorem chained_ones (w0 w : World) (P r : Nat) (h : VecO w0 w P (List.replicate r 1) 2) (hr : r ≤ 100) :
    Calls Try.prog 27 #[.slice (some ⟨P, 0, none⟩) r r] w fun e w' => e = .returned (.slice (some ⟨P, 0, none⟩) r r) ∧ VecO w0 w' P (List.replicate r 1) 2 := by
  have HI := hide h
  clear h
  go_enter Try.func27, Try.ntmps27
  go_wp2
  go_loopw [8] (fun x wr => ∃ k : Nat, k ≤ r ∧ x = .int .i64 k ∧ Hid (VecO w0 wr P (List.replicate r 1) 2)) (fun x _ => r - (intOf x).toNat)
  case atStart => exact ⟨0, Nat.zero_le _, rfl, HI⟩
  case round =>
    clear HI
    obtain ⟨k, hk, rfl, HI⟩ := hrel
    by_cases hkl : k < r
    · go_wp2
      go_loopw [16] (fun x wr => ∃ i : Nat, k + 1 + i ≤ r ∧ x = .int .i64 i ∧ Hid (VecO w0 wr P (List.replicate r 1) 2)) (fun x _ => r - (k + 1) - (intOf x).toNat)
      case atStart => exact ⟨0, by omega, rfl, HI⟩
      case round =>
        clear HI
        obtain ⟨i, hi, rfl, HI⟩ := hrel
        by_cases hil : k + 1 + i < r
        · have g1 : decide ((i : Int) < (r : Int) - (k : Int) - 1) = true := decide_eq_true (by omega)
          obtain ⟨h, hh⟩ : ∃ h : Nat, h = k + 1 + i := ⟨_, rfl⟩
          have hkh : k < h := by omega
          have hhr : h < r := by omega
          have HH := hide hh
          obtain ⟨an, ao, al, ac, a0, a1, na⟩ := HI.out.at k (by simp; omega)
          obtain ⟨bn, bo, bl, bc, b0, b1, nb⟩ := HI.out.at h (by simp; omega)
          rw [ones_get r k hkl] at na
          rw [ones_get r h hhr] at nb
          have NA := hide na; have NB := hide nb
          have hP := HI.out.lt
          clear na nb hh
          go_wp2_with fail
          rw [show ((k : Int) + 1 + (i : Int)) = (h : Int) by have := HH.out; omega]
          refine up_start (A := fun j => decide (j = 7 ∨ j = 11 ∨ j = 12)) (S := (fun w' => w'.cell? ⟨P, k * 2, none⟩ = some (.bool an) ∧ w'.cell? ⟨P, k * 2 + 1, none⟩ = some (.slice ao al ac) ∧ w'.cell? ⟨P, h * 2, none⟩ = some (.bool bn) ∧ w'.cell? ⟨P, h * 2 + 1, none⟩ = some (.slice bo bl bc))) (by kernel_rfl) (by exact ⟨a0, a1, b0, b1⟩) (fun hHeld => ?_)
          refine up_pure (v := ?_) 0 24 rfl rfl (by kernel_rfl) (by kernel_rfl) (by kernel_rfl) (by kernel_rfl) (fun _ _ _ h => h) (by rfl) ?_ ?_
          rotate_left
          · (intro w; go_simp; with_reducible rfl)
          simp only [Act.put, List.setIfInBounds_toArray, List.set_cons_zero, List.set_cons_succ]
          refine up_pure (v := ?_) 1 25 rfl rfl (by kernel_rfl) (by kernel_rfl) (by kernel_rfl) (by kernel_rfl) (fun _ _ _ h => h) (by rfl) ?_ ?_
          rotate_left
          · (intro w; go_simp; with_reducible rfl)
          simp only [Act.put, List.setIfInBounds_toArray, List.set_cons_zero, List.set_cons_succ]
          refine up_pure (v := ?_) 2 26 rfl rfl (by kernel_rfl) (by kernel_rfl) (by kernel_rfl) (by kernel_rfl) (fun _ _ _ h => h) (by rfl) ?_ ?_
          rotate_left
          · (intro w; go_simp; with_reducible rfl)
          simp only [Act.put, List.setIfInBounds_toArray, List.set_cons_zero, List.set_cons_succ]
          refine up_pure (v := ?_) 3 27 rfl rfl (by kernel_rfl) (by kernel_rfl) (by kernel_rfl) (by kernel_rfl) (fun _ _ _ h => h) (by rfl) ?_ ?_
          rotate_left
          · (intro w; go_simp; with_reducible rfl)
          simp only [Act.put, List.setIfInBounds_toArray, List.set_cons_zero, List.set_cons_succ]
          refine up_pure (v := ?_) 4 28 rfl rfl (by kernel_rfl) (by kernel_rfl) (by kernel_rfl) (by kernel_rfl) (fun _ _ _ h => h) (by rfl) ?_ ?_
          rotate_left
          · (intro w; go_simp; with_reducible rfl)
          simp only [Act.put, List.setIfInBounds_toArray, List.set_cons_zero, List.set_cons_succ]
          refine up_pure (v := ?_) 5 29 rfl rfl (by kernel_rfl) (by kernel_rfl) (by kernel_rfl) (by kernel_rfl) (fun _ _ _ h => h) (by rfl) ?_ ?_
          rotate_left
          · (intro w; go_simp; with_reducible rfl)
          simp only [Act.put, List.setIfInBounds_toArray, List.set_cons_zero, List.set_cons_succ]
          refine up_pure (v := ?_) 6 30 rfl rfl (by kernel_rfl) (by kernel_rfl) (by kernel_rfl) (by kernel_rfl) (fun _ _ _ h => h) (by rfl) ?_ ?_
          rotate_left
          · (intro w; go_simp; with_reducible rfl)
          simp only [Act.put, List.setIfInBounds_toArray, List.set_cons_zero, List.set_cons_succ]
          refine up_pure (v := ?_) 8 32 rfl rfl (by kernel_rfl) (by kernel_rfl) (by kernel_rfl) (by kernel_rfl) (fun _ _ _ h => h) (by rfl) ?_ ?_
          rotate_left
          · (intro w; go_simp; with_reducible rfl)
          simp only [Act.put, List.setIfInBounds_toArray, List.set_cons_zero, List.set_cons_succ]
          refine up_pure (v := ?_) 9 33 rfl rfl (by kernel_rfl) (by kernel_rfl) (by kernel_rfl) (by kernel_rfl) (fun _ _ _ h => h) (by rfl) ?_ ?_
          rotate_left
          · (intro w; go_simp; with_reducible rfl)
          simp only [Act.put, List.setIfInBounds_toArray, List.set_cons_zero, List.set_cons_succ]
          refine up_pure (v := ?_) 10 34 rfl rfl (by kernel_rfl) (by kernel_rfl) (by kernel_rfl) (by kernel_rfl) (fun _ _ _ h => h) (by rfl) ?_ ?_
          rotate_left
          · (intro w; go_simp; with_reducible rfl)
          simp only [Act.put, List.setIfInBounds_toArray, List.set_cons_zero, List.set_cons_succ]
          refine up_run (v := ?_) 7 31 [12, 13, 14, 15, 16, 17, 18, 19] rfl rfl (by kernel_rfl) (by kernel_rfl) (by kernel_rfl) (by kernel_rfl) (fun _ _ _ h => h) (by rfl) ?_ (by assumption) ?_
          rotate_left
          · (intro w hSw; (try dsimp only at hSw); obtain ⟨hS1, hS2, hS3, hS4⟩ := hSw; go_simp; with_reducible rfl)
          simp only [Act.put, List.setIfInBounds_toArray, List.set_cons_zero, List.set_cons_succ]
          refine up_run (v := ?_) 11 35 [12, 13, 14, 15, 16, 17, 18, 19] rfl rfl (by kernel_rfl) (by kernel_rfl) (by kernel_rfl) (by kernel_rfl) (fun _ _ _ h => h) (by rfl) ?_ (by assumption) ?_
          rotate_left
          · (intro w hSw; (try dsimp only at hSw); obtain ⟨hS1, hS2, hS3, hS4⟩ := hSw; go_simp; with_reducible rfl)
          simp only [Act.put, List.setIfInBounds_toArray, List.set_cons_zero, List.set_cons_succ]
          refine up_one 12 (by kernel_rfl) rfl (fun K hK => ?_)
          go_simp
          refine (common_one wr.drew _ _ (by exact NA.out.below (Below.refl wr.heap.size wr).drew (Nat.le_refl _)) (by exact NB.out.below (Below.refl wr.heap.size wr).drew (Nat.le_refl _))).mono ?_
          rintro e w1 ⟨v1, v2, rfl, n1, n2, hb1⟩
          have hb1' : Below wr.heap.size wr w1 := (Below.refl _ _).drew.trans hb1
          have d0 := (hb1'.cell (p := ⟨P, k * 2, none⟩) hP).trans a0
          have d1 := (hb1'.cell (p := ⟨P, k * 2 + 1, none⟩) hP).trans a1
          have d2 := (hb1'.cell (p := ⟨P, h * 2, none⟩) hP).trans b0
          have d3 := (hb1'.cell (p := ⟨P, h * 2 + 1, none⟩) hP).trans b1
          obtain ⟨⟨xn, xo, xl, xc⟩, rfl⟩ := n1.nm
          obtain ⟨⟨yn, yo, yl, yc⟩, rfl⟩ := n2.nm
          have HI2 := hide (HI.out.later hb1')
          have f0 := HI2.out.thaw (k * 2)
          have f1 := HI2.out.thaw (k * 2 + 1)
          have f2 := HI2.out.thaw (h * 2)
          have f3 := HI2.out.thaw (h * 2 + 1)
          have HI3 := hide (HI2.out.set (k := k) (by simp; omega) n1)
          rw [ones_set] at HI3
          have HN2 : Hid (NumL ((w1.setCell ⟨P, k * 2, none⟩ (.bool xn)).setCell ⟨P, k * 2 + 1, none⟩ (.slice xo xl xc)) (.agg #[.bool yn, .slice yo yl yc]) 1 2) := (n2.setCell d0 (fun z e => by cases e)).setCell (p := ⟨P, k * 2 + 1, none⟩) ((World.cell?_setCell_other (h := fun e => by simp at e) ..).trans d1) (fun z e => by cases e)
          have HI4 := hide (HI3.out.set (k := h) (by simp; omega) HN2.out)
          rw [ones_set] at HI4
          clear hb1 hb1' n1 n2
          go_wp2_with fail
          refine hK.out _ _ (fun _ => ⟨d0, d1, d2, d3⟩) ?_
          clear hK K hHeld
          try simp only [Act.put, List.setIfInBounds_toArray, List.set_cons_zero, List.set_cons_succ]
          have hHeld1 : (fun w' => w'.cell? ⟨P, k * 2, none⟩ = some (.bool an) ∧ w'.cell? ⟨P, k * 2 + 1, none⟩ = some (.slice ao al ac) ∧ w'.cell? ⟨P, h * 2, none⟩ = some (.bool bn) ∧ w'.cell? ⟨P, h * 2 + 1, none⟩ = some (.slice bo bl bc)) w1 := ⟨d0, d1, d2, d3⟩
          refine up_pure (v := ?_) 13 23 rfl rfl (by kernel_rfl) (by kernel_rfl) (by kernel_rfl) (by kernel_rfl) (fun _ _ _ h => h) (by rfl) ?_ ?_
          rotate_left
          · (intro w; go_simp; with_reducible rfl)
          simp only [Act.put, List.setIfInBounds_toArray, List.set_cons_zero, List.set_cons_succ]
          refine up_pure (v := ?_) 14 37 rfl rfl (by kernel_rfl) (by kernel_rfl) (by kernel_rfl) (by kernel_rfl) (fun _ _ _ h => h) (by rfl) ?_ ?_
          rotate_left
          · (intro w; go_simp; with_reducible rfl)
          simp only [Act.put, List.setIfInBounds_toArray, List.set_cons_zero, List.set_cons_succ]
          refine up_pure (v := ?_) 15 38 rfl rfl (by kernel_rfl) (by kernel_rfl) (by kernel_rfl) (by kernel_rfl) (fun _ _ _ h => h) (by rfl) ?_ ?_
          rotate_left
          · (intro w; go_simp; with_reducible rfl)
          simp only [Act.put, List.setIfInBounds_toArray, List.set_cons_zero, List.set_cons_succ]
          refine up_pure (v := ?_) 16 39 rfl rfl (by kernel_rfl) (by kernel_rfl) (by kernel_rfl) (by kernel_rfl) (fun _ _ _ h => h) (by rfl) ?_ ?_
          rotate_left
          · (intro w; go_simp; with_reducible rfl)
          simp only [Act.put, List.setIfInBounds_toArray, List.set_cons_zero, List.set_cons_succ]
          refine up_one 17 (by kernel_rfl) rfl (fun K hK => ?_)
          go_simp
          refine hK.out _ _ (fun h => absurd h (by decide)) ?_
          clear hK K
          try simp only [Act.put, List.setIfInBounds_toArray, List.set_cons_zero, List.set_cons_succ]
          refine up_one 18 (by kernel_rfl) rfl (fun K hK => ?_)
          go_simp
          refine hK.out _ _ (fun h => absurd h (by decide)) ?_
          clear hK K
          try simp only [Act.put, List.setIfInBounds_toArray, List.set_cons_zero, List.set_cons_succ]
          have m2 : ((w1.setCell ⟨P, k * 2, none⟩ (.bool xn)).setCell ⟨P, k * 2 + 1, none⟩ (.slice xo xl xc)).cell? ⟨P, h * 2, none⟩ = some (.bool bn) := (World.cell?_setCell_other (h := fun e => by simp at e <;> omega) ..).trans ((World.cell?_setCell_other (h := fun e => by simp at e <;> omega) ..).trans d2)
          have m3 : ((w1.setCell ⟨P, k * 2, none⟩ (.bool xn)).setCell ⟨P, k * 2 + 1, none⟩ (.slice xo xl xc)).cell? ⟨P, h * 2 + 1, none⟩ = some (.slice bo bl bc) := (World.cell?_setCell_other (h := fun e => by simp at e <;> omega) ..).trans ((World.cell?_setCell_other (h := fun e => by simp at e <;> omega) ..).trans d3)
          have q2 := HI3.out.thaw (h * 2)
          have q3 := HI3.out.thaw (h * 2 + 1)
          refine up_one 19 (by kernel_rfl) rfl (fun K hK => ?_)
          go_simp
          refine hK.out _ _ (fun h => absurd h (by decide)) ?_
          clear hK K
          try simp only [Act.put, List.setIfInBounds_toArray, List.set_cons_zero, List.set_cons_succ]
          refine up_done (by kernel_rfl) ?_
          clear a0 a1 b0 b1 d0 d1 d2 d3 f0 f1 f2 f3 m2 m3 q2 q3 HI HI2 HI3 HN2 NA NB hHeld1
          go_wp2
          go_roundw
          case rel => exact ⟨i + 1, by omega, by go_num, HI4⟩
          case measure => simp [intOf]; omega
        · have g1 : decide ((i : Int) < (r : Int) - (k : Int) - 1) = false := decide_eq_false (by omega)
          go_wp2
          go_roundw
          case rel => exact ⟨k + 1, by omega, by go_num, HI⟩
          case measure => simp [intOf]; omega
    · obtain rfl : k = r := by omega
      go_wp2
      go_ret
      exact ⟨rfl, HI.out⟩

end Go.Proofs.Ytofegldopgkikaa
