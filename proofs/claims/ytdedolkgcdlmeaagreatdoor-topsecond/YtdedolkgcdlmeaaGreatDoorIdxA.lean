/- lattice.aboveOne. -/
import Derived.Test.YtdedolkgcdlmeaaGreatDoorVecG
import Derived.Test.YtdedolkgcdlmeaaGreatDoorSwap
import Derived.Test.YtdedolkgcdlmeaaGreatDoorOf
import Derived.Test.YtdedolkgcdlmeaaGreatDoorOps
namespace Go.Proofs.YtdedolkgcdlmeaaGreatDoor
open Go.RowKit Limbs

def overOne (ys : List Int) : List Int := ys.filter fun y => decide (1 < y)

theorem overOne_snoc (ys : List Int) (k : Nat) (hk : k < ys.length) : overOne (ys.take (k + 1)) = overOne (ys.take k) ++ if 1 < ys.getD k 0 then [ys.getD k 0] else [] := by
  unfold overOne
  rw [List.take_succ_eq_append_getElem hk, List.filter_append, List.getD_eq_getElem?_getD, List.getElem?_eq_getElem hk, Option.getD_some]
  by_cases h : 1 < ys[k]
  · rw [if_pos h, List.filter_cons_of_pos (by simpa using h)]; rfl
  · rw [if_neg h, List.filter_cons_of_neg (by simpa using h)]; rfl

set_option linter.unusedSimpArgs false in
set_option maxRecDepth 100000 in
set_option maxHeartbeats 3200000 in
theorem aboveOne_any (w : World) (v : Value) (ys : List Int) (M : Nat) (hv : VecN w v ys M) (hl : ys.length ≤ 100) :
    Calls Tryz.prog 86 #[v] w fun e w' => ∃ u, e = .returned u ∧ VecN w' u (overOne ys) M ∧ (∀ a l c, u = .slice (some a) l c → w.heap.size ≤ a.block) ∧ Below w.heap.size w w' := by
  obtain ⟨i0, hi, hz0, hz1, hz2⟩ := info_parts Tryz.infoNum
  have HV := hide hv
  obtain ⟨ao, acap, rfl, -, -⟩ := hv
  go_enter Tryz.func86, Tryz.ntmps86
  go_wp2_with fail
  refine (of_any w 1 (by decide) (by decide)).mono ?_
  rintro e w1 ⟨vo, rfl, no, hb1⟩
  obtain ⟨⟨on, oo, ol, oc⟩, rfl⟩ := no.nm
  have NO : Hid (NumL (w1.alloc (.cells #[.bool on, .slice oo ol oc] 29)) (.agg #[.bool on, .slice oo ol oc]) 1 2) := no.below ((Below.refl _ _).alloc (Nat.le_refl _) _) (Nat.le_refl _)
  have HB0 := hide (hb1.trans (((Below.refl w1.heap.size w1).alloc (Nat.le_refl _) (.cells #[.bool on, .slice oo ol oc] 29)).mono hb1.size))
  have HX0 : Hid (Box (w1.alloc (.cells #[.bool on, .slice oo ol oc] 29)) w1.heap.size (.bool on) (.slice oo ol oc)) := box_new w1 _ _ _ _ rfl
  have HLT : Hid (w1.heap.size < (w1.alloc (.cells #[.bool on, .slice oo ol oc] 29)).heap.size) := by show _ < _; simp
  clear no hb1
  go_wp2
  generalize hW0 : w1.alloc (.cells #[.bool on, .slice oo ol oc] 29) = W0 at *
  clear hW0
  go_loopw [4, 9] (fun out x wr => ∃ (k : Nat) (ps : List (Nm × Int)), k ≤ ys.length ∧ x = .int .i64 k ∧ Hid (Grow wr W0.heap.size out ps M) ∧ Hid (ps.map (·.2) = overOne (ys.take k)) ∧ Hid (ps.length ≤ k) ∧ Hid (Below W0.heap.size W0 wr)) (fun _ x _ => ys.length - (intOf x).toNat)
  case atStart => exact ⟨0, [], Nat.zero_le _, rfl, hide (Grow.nil _ _ _), hide rfl, hide (Nat.le_refl _), hide (Below.refl _ _)⟩
  case round =>
    obtain ⟨k, ps, hk, rfl, HG, HP, HPL, HE⟩ := hrel
    by_cases hkl : k < ys.length
    · obtain ⟨b, off, _, e⟩ := HV.out.form (by omega)
      simp only [Value.slice.injEq, true_and] at e
      obtain ⟨rfl, rfl⟩ := e
      obtain ⟨lb, yn, yo, yl, yc, y0, y1, ny⟩ := HV.out.at k hkl
      have HSN := hide (overOne_snoc ys k hkl)
      have hbw : Below w.heap.size w wr := HB0.out.trans (HE.out.mono HB0.out.size)
      have NY0 : Hid (NumL w (Nm.val ⟨yn, yo, yl, yc⟩) (ys.getD k 0) M) := ny
      have NY := hide (ny.below hbw (Nat.le_refl _))
      have NO1 := hide (NO.out.below HE.out (Nat.le_refl _))
      have c0 := (hbw.cell (p := ⟨b, off + k * 2, none⟩) lb).trans y0
      have c1 := (hbw.cell (p := ⟨b, off + k * 2 + 1, none⟩) lb).trans y1
      obtain ⟨c2, c3, -, -⟩ := HX0.out.later HE.out HLT.out
      have lb2 := Nat.lt_of_lt_of_le lb hbw.size
      have lo2 := Nat.lt_of_lt_of_le HLT.out HE.out.size
      have hws := HB0.out.size
      have hes := HE.out.size
      clear ny y0 y1 hbw
      generalize ys.getD k 0 = y at *
      go_wp2_with fail
      refine upto_start (S := (fun w' => w'.cell? ⟨b, off + k * 2, none⟩ = some (.bool yn) ∧ w'.cell? ⟨b, off + k * 2 + 1, none⟩ = some (.slice yo yl yc) ∧ w'.cell? ⟨w1.heap.size, 0, none⟩ = some (.bool on) ∧ w'.cell? ⟨w1.heap.size, 1, none⟩ = some (.slice oo ol oc))) (k := 7) (by kernel_rfl) (by exact ⟨c0, c1, c2, c3⟩) (fun hHeld => ?_)
      refine upto_run (v := ?_) 0 12 [] rfl rfl (by kernel_rfl) (by kernel_rfl) (by kernel_rfl) (by kernel_rfl) (by kernel_rfl) (fun _ _ _ h => h) (by rfl) ?_ (by assumption) ?_
      rotate_left
      · (intro w hSw; (try dsimp only at hSw); obtain ⟨hS1, hS2, hS3, hS4⟩ := hSw; go_simp; with_reducible rfl)
      simp only [Act.put, List.setIfInBounds_toArray, List.set_cons_zero, List.set_cons_succ]
      refine upto_run (v := ?_) 1 13 [] rfl rfl (by kernel_rfl) (by kernel_rfl) (by kernel_rfl) (by kernel_rfl) (by kernel_rfl) (fun _ _ _ h => h) (by rfl) ?_ (by assumption) ?_
      rotate_left
      · (intro w hSw; (try dsimp only at hSw); obtain ⟨hS1, hS2, hS3, hS4⟩ := hSw; go_simp; with_reducible rfl)
      simp only [Act.put, List.setIfInBounds_toArray, List.set_cons_zero, List.set_cons_succ]
      refine upto_run (v := ?_) 2 14 [] rfl rfl (by kernel_rfl) (by kernel_rfl) (by kernel_rfl) (by kernel_rfl) (by kernel_rfl) (fun _ _ _ h => h) (by rfl) ?_ (by assumption) ?_
      rotate_left
      · (intro w hSw; (try dsimp only at hSw); obtain ⟨hS1, hS2, hS3, hS4⟩ := hSw; go_simp; with_reducible rfl)
      simp only [Act.put, List.setIfInBounds_toArray, List.set_cons_zero, List.set_cons_succ]
      refine upto_run (v := ?_) 3 15 [] rfl rfl (by kernel_rfl) (by kernel_rfl) (by kernel_rfl) (by kernel_rfl) (by kernel_rfl) (fun _ _ _ h => h) (by rfl) ?_ (by assumption) ?_
      rotate_left
      · (intro w hSw; (try dsimp only at hSw); obtain ⟨hS1, hS2, hS3, hS4⟩ := hSw; go_simp; with_reducible rfl)
      simp only [Act.put, List.setIfInBounds_toArray, List.set_cons_zero, List.set_cons_succ]
      refine upto_run (v := ?_) 4 16 [] rfl rfl (by kernel_rfl) (by kernel_rfl) (by kernel_rfl) (by kernel_rfl) (by kernel_rfl) (fun _ _ _ h => h) (by rfl) ?_ (by assumption) ?_
      rotate_left
      · (intro w hSw; (try dsimp only at hSw); obtain ⟨hS1, hS2, hS3, hS4⟩ := hSw; go_simp; with_reducible rfl)
      simp only [Act.put, List.setIfInBounds_toArray, List.set_cons_zero, List.set_cons_succ]
      refine upto_one 5 (by kernel_rfl) rfl (fun K hK => ?_)
      go_simp
      refine (compare_any wr.drew _ _ y 1 M 2 (by exact NY.out.below (Below.refl wr.heap.size wr).drew (Nat.le_refl _)) (by exact NO1.out.below (Below.refl wr.heap.size wr).drew (Nat.le_refl _))).mono ?_
      rintro e w2 ⟨rfl, hb2⟩
      have hb2' : Below wr.heap.size wr w2 := (Below.refl _ _).drew.trans hb2
      have d0 := (hb2'.cell (p := ⟨b, off + k * 2, none⟩) lb2).trans c0
      have d1 := (hb2'.cell (p := ⟨b, off + k * 2 + 1, none⟩) lb2).trans c1
      have d2 := (hb2'.cell (p := ⟨w1.heap.size, 0, none⟩) lo2).trans c2
      have d3 := (hb2'.cell (p := ⟨w1.heap.size, 1, none⟩) lo2).trans c3
      have HG2 := hide (HG.out.later hb2')
      have HE2 := hide (HE.out.trans (hb2'.mono HE.out.size))
      clear hb2 hb2' c0 c1 c2 c3 NY NO1 HG
      go_wp2_with fail
      refine hK.out _ _ (fun _ => ⟨d0, d1, d2, d3⟩) ?_
      clear hK K hHeld
      try simp only [Act.put, List.setIfInBounds_toArray, List.set_cons_zero, List.set_cons_succ]
      have hHeld2 : (fun w' => w'.cell? ⟨b, off + k * 2, none⟩ = some (.bool yn) ∧ w'.cell? ⟨b, off + k * 2 + 1, none⟩ = some (.slice yo yl yc) ∧ w'.cell? ⟨w1.heap.size, 0, none⟩ = some (.bool on) ∧ w'.cell? ⟨w1.heap.size, 1, none⟩ = some (.slice oo ol oc)) w2 := ⟨d0, d1, d2, d3⟩
      refine upto_run (v := ?_) 6 18 [] rfl rfl (by kernel_rfl) (by kernel_rfl) (by kernel_rfl) (by kernel_rfl) (by kernel_rfl) (fun _ _ _ h => h) (by rfl) ?_ (by assumption) ?_
      rotate_left
      · (intro w hSw; (try dsimp only at hSw); obtain ⟨hS1, hS2, hS3, hS4⟩ := hSw; go_simp; with_reducible rfl)
      simp only [Act.put, List.setIfInBounds_toArray, List.set_cons_zero, List.set_cons_succ]
      refine upto_done (by kernel_rfl) ?_
      clear hHeld2 d2 d3
      by_cases hy : 1 < y
      · have hc : cmpI y 1 = 1 := by unfold cmpI; rw [if_neg (by omega), if_pos hy]
        rw [hc]
        have HP' : Hid ((ps ++ [((⟨yn, yo, yl, yc⟩ : Nm), y)]).map (·.2) = overOne (ys.take (k + 1))) := by
          show _ = _
          rw [HSN.out, if_pos hy, List.map_append, HP.out]; rfl
        have HPL' : Hid ((ps ++ [((⟨yn, yo, yl, yc⟩ : Nm), y)]).length ≤ k + 1) := by
          have := HPL.out
          show _ ≤ _
          rw [List.length_append, List.length_singleton]; omega
        have HAP : Hid (apart u4.ownBlock (Nm.sl ⟨yn, yo, yl, yc⟩)) := fun a l c e h0 hb => by
          have h1 := NY0.out.inside a l c e h0
          have h2 := (HG2.out.1.lt a.block hb.symm).1
          omega
        have NY2 : Hid (NumL w2 (Nm.val ⟨yn, yo, yl, yc⟩) y M) := NY0.out.below (HB0.out.trans (HE2.out.mono HB0.out.size)) (Nat.le_refl _)
        have hown := HG2.out.1
        have hbs := HE2.out.size
        clear hc hy
        go_wp2_with (at_builtin; refine wpList_append_lies _ rfl _ _ 46 rfl W0.heap.size 29 i0 (.agg #[.bool false, .slice none 0 0]) 2 32 (by kernel_rfl) hi hz0 hz1 hz2 rfl (by decide) u4 ps.length (ps.flatMap ncells) rfl (hown.alloc _) ⟨w2.heap.size, 0, none⟩ 1 1 [.bool yn, .slice yo yl yc] rfl rfl (World.news_of_block (heap_alloc_new w2 _)) (fun u hu => by simp only [List.mem_cons, List.mem_nil_iff, or_false] at hu; rcases hu with rfl | rfl <;> rfl) (by decide) (by unfold maxLen; have := HPL.out; omega) (by have := HPL.out; omega) (by simp; omega) (w2.heap.size + 1) (by simp) ?_)
        intro g cap' w5 hown5 hgrow5 hat5 hlt5
        have HN := hide (grow_snoc HG2.out NY2.out HAP.out hown5 hgrow5 hat5)
        have HE5 := hide (HE2.out.trans (grow_below HG2.out HE2.out.size hgrow5))
        clear hown hown5 hgrow5 hat5 hlt5 HG2 NY2 HE2 HAP d0 d1
        go_wp2
        go_roundw
        case rel => exact ⟨k + 1, _, by omega, by go_num, HN, HP', HPL', HE5⟩
        case measure => simp [intOf]; omega
      · have hc : cmpI y 1 ≤ 0 := by unfold cmpI; repeat' split
                                     all_goals omega
        have HP' : Hid (ps.map (·.2) = overOne (ys.take (k + 1))) := by
          show _ = _
          rw [HSN.out, if_neg hy, List.append_nil]; exact HP.out
        have HPL' : Hid (ps.length ≤ k + 1) := Nat.le_succ_of_le HPL.out
        generalize hcc : cmpI y 1 = cc at *
        have g1 : decide (0 < cc) = false := decide_eq_false (by omega)
        have g2 : ¬ (0 < cc) := by omega
        clear hcc hy
        go_wp2
        go_roundw
        case rel => exact ⟨k + 1, _, by omega, by go_num, HG2, HP', HPL', HE2⟩
        case measure => simp [intOf]; omega
    · obtain rfl : k = ys.length := by omega
      have HF : Hid (VecN wr u4 (overOne ys) M) := by
        have := HG.out.vec
        rw [HP.out, List.take_length] at this
        exact this
      have HBF := hide (HB0.out.trans (HE.out.mono HB0.out.size))
      have HFR : Hid (∀ a l c, u4 = .slice (some a) l c → w.heap.size ≤ a.block) := fun a l c e => by
        have h1 := HB0.out.size
        rcases HG.out.1.2 with ⟨e1, -⟩ | ⟨g, cap, cur, e1, hb, -⟩
        · rw [e1] at e; cases e
        · rw [e1] at e
          simp only [Value.slice.injEq, Option.some.injEq] at e
          rw [← e.1]
          show w.heap.size ≤ g
          omega
      clear HG HP
      go_wp2
      go_ret
      exact ⟨_, rfl, HF.out, HFR.out, HBF.out⟩

end Go.Proofs.YtdedolkgcdlmeaaGreatDoor
