/- Limbs divided by limbs: where there is nothing to do, and by one limb. -/
import Derived.Test.YtdedolkgcdlmeaaGreatDoorLong
namespace Go.Proofs.YtdedolkgcdlmeaaGreatDoor
open Go.RowKit Limbs

/-- How often, and what is left, without noughts behind. -/
def DivPost (w : World) (a b : List Int) (e : Ending) (w' : World) : Prop :=
  ∃ v1 v2 qs rs, e = .returned (.tuple #[v1, v2]) ∧ Lim w' v1 qs ∧ Lim w' v2 rs ∧ Nrm qs ∧ Nrm rs ∧ lv a = lv b * lv qs + lv rs ∧ lv rs < lv b ∧ qs.length ≤ a.length ∧ rs.length ≤ b.length ∧ Below w.heap.size w w'

theorem Lim.nil (w : World) : Lim w (.slice none 0 0) [] := ⟨none, 0, rfl, Nat.le_refl _, by simp, LB_nil, fun h => absurd h (by simp)⟩

theorem Nrm.nil : Nrm [] := .inl rfl

theorem below_grown {B : Nat} {w W W' : World} {g : Nat} (h : Below B w W) (hg : W.grownBy W' (some g)) (hB : B ≤ g) (hs : B ≤ W.heap.size) : Below B w W' where
  os := hg.os.trans h.os
  tape := hg.tape.trans h.tape
  output := hg.output.trans h.output
  size := Nat.le_trans h.size hg.size
  block := fun j hj => (hg.block j (by omega) (by simp; omega)).trans (h.block j hj)

set_option maxRecDepth 100000 in
set_option maxHeartbeats 800000 in
theorem divLimbs_less (w : World) (va vb : Value) (a b : List Int) (ha : Lim w va a) (hb : Lim w vb b) (na : Nrm a) (nb : Nrm b) (hlt : lv a < lv b) :
    Calls Tryz.prog 126 #[va, vb] w fun e w' => DivPost w a b e w' := by
  have HA := hide ha; have HB := hide hb
  obtain ⟨ao, acap, rfl, hacap, halen, halb, -⟩ := ha
  obtain ⟨bo, bcap, rfl, hbcap, hblen, hblb, -⟩ := hb
  have hc := cmpI_lt hlt
  have HF := hide (show lv a = lv b * lv [] + lv a by simp [lv])
  have HL := hide (show a.length ≤ b.length by
    by_cases h : b.length < a.length
    · have := lv_lt_of_length hblb halb na h; omega
    · omega)
  go_enter Tryz.func126, Tryz.ntmps126
  go_wp2_with fail
  refine (compareLimbs_any w _ _ a b HA.out HB.out na nb).mono ?_
  rintro e w1 ⟨rfl, hb1⟩
  rw [hc]
  go_wp2_with fail
  refine (freshLimbs_any w1 _ a (HA.out.below hb1 (Nat.le_refl _))).mono ?_
  rintro e w2 ⟨rfl, hr2, hb2⟩
  go_wp2
  go_ret2
  exact ⟨_, _, [], a, rfl, Lim.nil _, hr2.lim _ (Nat.le_refl _) halen, Nrm.nil, na, HF.out, hlt, by simp, HL.out, hb1.trans (hb2.mono hb1.size)⟩

theorem row_one (w : World) (r : Int) (hr : 0 ≤ r ∧ r < 4294967296) : Row (w.alloc (.cells #[.int .u32 r] 104)) w.heap.size [r] := by
  refine ⟨by simp, LB_cons hr LB_nil, fun j hj => ?_⟩
  obtain rfl : j = 0 := by simpa using hj
  exact ⟨by rw [World.cell?_alloc_new]; simp, World.frozen?_alloc_new _ _ _ _⟩

set_option maxRecDepth 100000 in
set_option maxHeartbeats 800000 in
theorem divLimbs_one (w : World) (va vb : Value) (a b : List Int) (ha : Lim w va a) (hb : Lim w vb b) (na : Nrm a) (nb : Nrm b) (hge : lv b ≤ lv a) (h1 : b.length = 1) :
    Calls Tryz.prog 126 #[va, vb] w fun e w' => DivPost w a b e w' := by
  have HA := hide ha; have HB := hide hb
  obtain ⟨ao, acap, rfl, hacap, halen, halb, -⟩ := ha
  obtain ⟨bo, bcap, rfl, hbcap, hblen, hblb, hbc⟩ := hb
  obtain ⟨bb, boff, rfl, hbb, hbc⟩ := hbc (by omega)
  obtain ⟨y, rfl⟩ : ∃ y, b = [y] := by
    match b, h1 with
    | [y], _ => exact ⟨y, rfl⟩
  have hb0 := hbc 0 (by simp)
  have hy : 0 < y ∧ y < 4294967296 := by
    have h2 := hblb 0
    have h3 : y ≠ 0 := by rcases nb with h | h <;> simp at h; exact h
    simp at h2
    omega
  simp only [List.getD_cons_zero, Nat.add_zero] at hb0
  clear hbc
  have hcm : ¬ cmpI (lv a) (lv [y]) < 0 := by
    by_cases h : lv [y] < lv a
    · rw [cmpI_gt h]; decide
    · rw [cmpI_eq (by omega)]; decide
  go_enter Tryz.func126, Tryz.ntmps126
  go_wp2_with fail
  refine (compareLimbs_any w _ _ a [y] HA.out HB.out na nb).mono ?_
  rintro e w1 ⟨rfl, hb1⟩
  generalize cmpI (lv a) (lv [y]) = c at *
  go_wp2_with fail
  refine (freshLimbs_any w1 _ a (HA.out.below hb1 (Nat.le_refl _))).mono ?_
  rintro e w2 ⟨rfl, hr2, hb2⟩
  have hB2 := hb1.trans (hb2.mono hb1.size)
  have hcb : w2.cell? ⟨bb, boff, none⟩ = some (.int .u32 y) := (hB2.cell (p := ⟨bb, boff, none⟩) hbb).trans hb0
  go_wp2_with fail
  refine (divByLimb_any w2 w1.heap.size a.length a y hr2 halen hy.1 hy.2).mono ?_
  rintro e w3 ⟨r, qs, rfl, hr0, hr1, hql, hrow, hgr, hval⟩
  have hB3 := below_grown hB2 hgr hb1.size hB2.size
  have HV := hide hval
  clear hval hgr hr2 hcb
  go_wp2_with fail
  refine (trim_at w3 _ _ qs a.length hql (by have := hrow.lim a.length (by omega) (by omega); rwa [hql] at this)).mono ?_
  rintro e w4 ⟨m, hm, rfl, hlm, hnm, rfl⟩
  have HLM := hide hlm
  clear hlm
  have hone := row_one w4 r ⟨hr0, by omega⟩
  go_wp2_with fail
  refine (trim_at _ _ _ [r] 1 rfl (hone.lim 1 (by simp) (by simp))).mono ?_
  rintro e w5 ⟨k, hk, rfl, hlk, hnk, rfl⟩
  have HLK := hide hlk
  clear hlk
  have hq' : Lim w4 (.slice (some ⟨w1.heap.size, 0, none⟩) m a.length) (qs.take m) := by
    have := (hrow.lim a.length (by omega) (by omega)).take m hm
    exact this
  have hr' := (hone.lim 1 (by simp) (by simp)).take k hk
  have hba := (Below.refl w4.heap.size w4).alloc (Nat.le_refl _) (.cells #[.int .u32 r] 104)
  have hA : lv a = lv [y] * lv (qs.take m) + lv ([r].take k) := by rw [HLM.out, HLK.out, HV.out]; simp [lv]
  have hR : lv ([r].take k) < lv [y] := by rw [HLK.out]; simpa [lv] using hr1
  have HF := hide (show DivPost w a [y] (.returned (.tuple #[.slice (some ⟨w1.heap.size, 0, none⟩) m a.length, .slice (some ⟨w4.heap.size, 0, none⟩) k 1])) (w4.alloc (.cells #[.int .u32 r] 104)) from
    ⟨_, _, _, _, rfl, hq'.below hba (Nat.le_refl _), hr', hnm, hnk, hA, hR, by rw [List.length_take]; omega, by rw [List.length_take]; simp; omega, hB3.trans (hba.mono hB3.size)⟩)
  clear hq' hr' hba hA hR hone hrow
  go_wp2
  go_ret2
  exact HF.out

end Go.Proofs.YtdedolkgcdlmeaaGreatDoor
