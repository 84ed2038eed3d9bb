/- mat.turned: rows become places, and places rows. -/
import Derived.Test.YtdedolkgcdlmeaaGreatDoorTurnA
namespace Go.Proofs.YtdedolkgcdlmeaaGreatDoor
open Go.RowKit Limbs

theorem run_mkMat (m : Nat) (hm : m ≤ 1000) (W : World) : (Instr.makeSlice 23 (.int .i64 (m : Int)) (.int .i64 (m : Int))).run Tryz.prog W = .ok (.slice (some ⟨W.heap.size, 0, none⟩) m m) (W.alloc (.cells (madeCells #[.slice none 0 0] m) 72)) := by
  obtain ⟨i0, hi, hz0, hz1, hz2⟩ := info_parts Tryz.infoVec
  have h := run_make (P := Tryz.prog) W 23 72 i0 (.slice none 0 0) (by kernel_rfl) hi hz0 .i64 .i64 m m (by omega) (by omega) (by rw [hz2]; omega) (by omega)
  rw [hz1, Int.toNat_natCast, Nat.mul_one] at h
  exact h

/-- A place of all rows. -/
def colL (hs : List (List Int)) (k : Nat) : List Int := hs.map fun r => r.getD k 0

set_option linter.unusedSimpArgs false in
set_option maxRecDepth 100000 in
set_option maxHeartbeats 4000000 in
theorem turned_any (w : World) (va : Value) (n nv : Nat) (hs : List (List Int)) (ha : MatN w va hs nv) (hl : ∀ r ∈ hs, r.length = n) (hn : n ≤ 100) (hm : hs.length ≤ 100) :
    Calls Tryz.prog 65 #[va, .int .i64 (n : Int)] w fun e w' => ∃ O vs ps, e = .returned (.slice (some ⟨O, 0, none⟩) n n) ∧ OutG w w' O n vs ps nv ∧ ∀ i, i < n → (ps i).map (·.2) = colL hs i := by
  obtain ⟨i0, hi, hz0, hz1, hz2⟩ := info_parts Tryz.infoNum
  have HA := hide ha; have HL := hide hl
  obtain ⟨ao, acap, rfl, -, -⟩ := ha
  clear hl
  have hmk := run_mkMat n (by omega)
  have HO0 := hide (OutG.start (Below.refl w.heap.size w) n nv)
  go_enter Tryz.func65, Tryz.ntmps65
  go_wp2
  clear hmk
  go_loopw [11] (fun x wr => ∃ (k : Nat) (vs : Nat → Value) (ps : Nat → List (Nm × Int)), k ≤ n ∧ x = .int .i64 k ∧ Hid (OutG w wr w.heap.size n vs ps nv) ∧ Hid (∀ i, i < k → (ps i).map (·.2) = colL hs i) ∧ Hid (∀ i, k ≤ i → ps i = [])) (fun x _ => n - (intOf x).toNat)
  case atStart => exact ⟨0, _, _, Nat.zero_le _, rfl, HO0, hide (fun i hi => absurd hi (Nat.not_lt_zero i)), hide (fun _ _ => rfl)⟩
  case round =>
    clear HO0
    obtain ⟨k, vs, ps, hk, rfl, HO, HD, HE⟩ := hrel
    by_cases hkl : k < n
    · go_wp2
      go_loopw [16] (fun y wr => ∃ (q : Nat) (vs : Nat → Value) (ps : Nat → List (Nm × Int)), q ≤ hs.length ∧ y = .int .i64 q ∧ Hid (OutG w wr w.heap.size n vs ps nv) ∧ Hid (∀ i, i < k → (ps i).map (·.2) = colL hs i) ∧ Hid ((ps k).map (·.2) = colL (hs.take q) k) ∧ Hid (∀ i, k < i → ps i = [])) (fun y _ => hs.length - (intOf y).toNat)
      case atStart => exact ⟨0, _, _, Nat.zero_le _, rfl, HO, HD, hide (by rw [HE.out k (Nat.le_refl _)]; rfl), hide (fun i hi => HE.out i (Nat.le_of_lt hi))⟩
      case round =>
        clear HO HD HE vs ps
        obtain ⟨q, vs, ps, hq, rfl, HO, HD, HM, HE⟩ := hrel
        by_cases hql : q < hs.length
        · obtain ⟨rb, roff, _, e, lr, ru, cu, hru⟩ := HA.out.at q hql
          simp only [Value.slice.injEq, true_and] at e
          obtain ⟨rfl, rfl⟩ := e
          have hul : hs[q].length = n := HL.out _ (List.getElem_mem hql)
          have HTK : Hid (colL (hs.take (q + 1)) k = colL (hs.take q) k ++ [hs[q].getD k 0]) := by
            show _ = _
            unfold colL
            rw [List.take_succ_eq_append_getElem hql, List.map_append]; rfl
          obtain ⟨vb, voff, vcap, rfl⟩ := hru.form (by omega)
          obtain ⟨lv, neg, lo, ll, lc, z0, z1, nz⟩ := hru.at k (by omega)
          have c9 := (HO.out.low.cell (p := ⟨rb, roff + q, none⟩) lr).trans cu
          have c12 := (HO.out.low.cell (p := ⟨vb, voff + k * 2, none⟩) lv).trans z0
          have c13 := (HO.out.low.cell (p := ⟨vb, voff + k * 2 + 1, none⟩) lv).trans z1
          have HNZ : Hid (NumL w (Nm.val ⟨neg, lo, ll, lc⟩) (hs[q].getD k 0) nv) := nz
          have HPL : Hid ((ps k).length = q) := by
            have h1 := congrArg List.length HM.out
            unfold colL at h1
            rw [List.length_map, List.length_map, List.length_take] at h1
            show _ = _
            omega
          rw [hul] at c9
          clear hru cu z0 z1 nz hul
          generalize hs[q].getD k 0 = z at *
          have c5 := HO.out.cell k hkl
          have HC5 := hide c5
          obtain ⟨vo, vl, vc, hvk⟩ : ∃ vo vl vc, vs k = .slice vo vl vc := by
            rcases (HO.out.grow k hkl).1.2 with ⟨e1, -⟩ | ⟨g', cap', cur, e1, -⟩
            · exact ⟨_, _, _, e1⟩
            · exact ⟨_, _, _, e1⟩
          rw [hvk] at c5
          have hOlt := HO.out.lt
          have hfO := HO.out.thaw k
          have HVK := hide hvk
          clear hvk
          have HOA := hide (HO.out.later (W' := wr.drew.alloc (.cells #[.bool neg, .slice lo ll lc] 29)) ((Below.refl _ _).drew.alloc (Nat.le_refl _) _))
          have hrb : rb < wr.heap.size := Nat.lt_of_lt_of_le lr HO.out.low.size
          have hvb : vb < wr.heap.size := Nat.lt_of_lt_of_le lv HO.out.low.size
          have HRB : Hid (some rb ≠ (vs k).ownBlock) := fun e => by have := ((HO.out.grow k hkl).1.lt rb e.symm).1; omega
          have HVB : Hid (some vb ≠ (vs k).ownBlock) := fun e => by have := ((HO.out.grow k hkl).1.lt vb e.symm).1; omega
          have HON := hide (HO.out.own_ne hkl)
          have hws := HO.out.low.size
          go_wp2_with fail
          refine upto_start (S := (fun w' => w'.cell? ⟨w.heap.size, k, none⟩ = some (.slice vo vl vc) ∧ w'.cell? ⟨rb, roff + q, none⟩ = some (.slice (some ⟨vb, voff, none⟩) n vcap) ∧ w'.cell? ⟨vb, voff + k * 2, none⟩ = some (.bool neg) ∧ w'.cell? ⟨vb, voff + k * 2 + 1, none⟩ = some (.slice lo ll lc))) (k := 16) (by kernel_rfl) (by exact ⟨c5, c9, c12, c13⟩) (fun hHeld => ?_)
          refine upto_run (v := ?_) 0 19 [16] rfl rfl (by kernel_rfl) (by kernel_rfl) (by kernel_rfl) (by kernel_rfl) (by kernel_rfl) (fun _ _ _ h => h) (by rfl) ?_ (by assumption) ?_
          rotate_left
          · (intro w hSw; (try dsimp only at hSw); obtain ⟨hS1, hS2, hS3, hS4⟩ := hSw; go_simp; with_reducible rfl)
          simp only [Act.put, List.setIfInBounds_toArray, List.set_cons_zero, List.set_cons_succ]
          refine upto_run (v := ?_) 1 20 [16] rfl rfl (by kernel_rfl) (by kernel_rfl) (by kernel_rfl) (by kernel_rfl) (by kernel_rfl) (fun _ _ _ h => h) (by rfl) ?_ (by assumption) ?_
          rotate_left
          · (intro w hSw; (try dsimp only at hSw); obtain ⟨hS1, hS2, hS3, hS4⟩ := hSw; go_simp; with_reducible rfl)
          simp only [Act.put, List.setIfInBounds_toArray, List.set_cons_zero, List.set_cons_succ]
          refine upto_run (v := ?_) 2 21 [16] rfl rfl (by kernel_rfl) (by kernel_rfl) (by kernel_rfl) (by kernel_rfl) (by kernel_rfl) (fun _ _ _ h => h) (by rfl) ?_ (by assumption) ?_
          rotate_left
          · (intro w hSw; (try dsimp only at hSw); obtain ⟨hS1, hS2, hS3, hS4⟩ := hSw; go_simp; with_reducible rfl)
          simp only [Act.put, List.setIfInBounds_toArray, List.set_cons_zero, List.set_cons_succ]
          refine upto_run (v := ?_) 3 22 [16] rfl rfl (by kernel_rfl) (by kernel_rfl) (by kernel_rfl) (by kernel_rfl) (by kernel_rfl) (fun _ _ _ h => h) (by rfl) ?_ (by assumption) ?_
          rotate_left
          · (intro w hSw; (try dsimp only at hSw); obtain ⟨hS1, hS2, hS3, hS4⟩ := hSw; go_simp; with_reducible rfl)
          simp only [Act.put, List.setIfInBounds_toArray, List.set_cons_zero, List.set_cons_succ]
          refine upto_run (v := ?_) 4 23 [16] rfl rfl (by kernel_rfl) (by kernel_rfl) (by kernel_rfl) (by kernel_rfl) (by kernel_rfl) (fun _ _ _ h => h) (by rfl) ?_ (by assumption) ?_
          rotate_left
          · (intro w hSw; (try dsimp only at hSw); obtain ⟨hS1, hS2, hS3, hS4⟩ := hSw; go_simp; with_reducible rfl)
          simp only [Act.put, List.setIfInBounds_toArray, List.set_cons_zero, List.set_cons_succ]
          refine upto_run (v := ?_) 5 24 [16] rfl rfl (by kernel_rfl) (by kernel_rfl) (by kernel_rfl) (by kernel_rfl) (by kernel_rfl) (fun _ _ _ h => h) (by rfl) ?_ (by assumption) ?_
          rotate_left
          · (intro w hSw; (try dsimp only at hSw); obtain ⟨hS1, hS2, hS3, hS4⟩ := hSw; go_simp; with_reducible rfl)
          simp only [Act.put, List.setIfInBounds_toArray, List.set_cons_zero, List.set_cons_succ]
          refine upto_run (v := ?_) 6 25 [16] rfl rfl (by kernel_rfl) (by kernel_rfl) (by kernel_rfl) (by kernel_rfl) (by kernel_rfl) (fun _ _ _ h => h) (by rfl) ?_ (by assumption) ?_
          rotate_left
          · (intro w hSw; (try dsimp only at hSw); obtain ⟨hS1, hS2, hS3, hS4⟩ := hSw; go_simp; with_reducible rfl)
          simp only [Act.put, List.setIfInBounds_toArray, List.set_cons_zero, List.set_cons_succ]
          refine upto_run (v := ?_) 7 26 [16] rfl rfl (by kernel_rfl) (by kernel_rfl) (by kernel_rfl) (by kernel_rfl) (by kernel_rfl) (fun _ _ _ h => h) (by rfl) ?_ (by assumption) ?_
          rotate_left
          · (intro w hSw; (try dsimp only at hSw); obtain ⟨hS1, hS2, hS3, hS4⟩ := hSw; go_simp; with_reducible rfl)
          simp only [Act.put, List.setIfInBounds_toArray, List.set_cons_zero, List.set_cons_succ]
          refine upto_run (v := ?_) 8 27 [16] rfl rfl (by kernel_rfl) (by kernel_rfl) (by kernel_rfl) (by kernel_rfl) (by kernel_rfl) (fun _ _ _ h => h) (by rfl) ?_ (by assumption) ?_
          rotate_left
          · (intro w hSw; (try dsimp only at hSw); obtain ⟨hS1, hS2, hS3, hS4⟩ := hSw; go_simp; with_reducible rfl)
          simp only [Act.put, List.setIfInBounds_toArray, List.set_cons_zero, List.set_cons_succ]
          refine upto_run (v := ?_) 9 28 [16] rfl rfl (by kernel_rfl) (by kernel_rfl) (by kernel_rfl) (by kernel_rfl) (by kernel_rfl) (fun _ _ _ h => h) (by rfl) ?_ (by assumption) ?_
          rotate_left
          · (intro w hSw; (try dsimp only at hSw); obtain ⟨hS1, hS2, hS3, hS4⟩ := hSw; go_simp; with_reducible rfl)
          simp only [Act.put, List.setIfInBounds_toArray, List.set_cons_zero, List.set_cons_succ]
          refine upto_run (v := ?_) 10 29 [16] rfl rfl (by kernel_rfl) (by kernel_rfl) (by kernel_rfl) (by kernel_rfl) (by kernel_rfl) (fun _ _ _ h => h) (by rfl) ?_ (by assumption) ?_
          rotate_left
          · (intro w hSw; (try dsimp only at hSw); obtain ⟨hS1, hS2, hS3, hS4⟩ := hSw; go_simp; with_reducible rfl)
          simp only [Act.put, List.setIfInBounds_toArray, List.set_cons_zero, List.set_cons_succ]
          refine upto_run (v := ?_) 11 30 [16] rfl rfl (by kernel_rfl) (by kernel_rfl) (by kernel_rfl) (by kernel_rfl) (by kernel_rfl) (fun _ _ _ h => h) (by rfl) ?_ (by assumption) ?_
          rotate_left
          · (intro w hSw; (try dsimp only at hSw); obtain ⟨hS1, hS2, hS3, hS4⟩ := hSw; go_simp; with_reducible rfl)
          simp only [Act.put, List.setIfInBounds_toArray, List.set_cons_zero, List.set_cons_succ]
          refine upto_run (v := ?_) 12 31 [16] rfl rfl (by kernel_rfl) (by kernel_rfl) (by kernel_rfl) (by kernel_rfl) (by kernel_rfl) (fun _ _ _ h => h) (by rfl) ?_ (by assumption) ?_
          rotate_left
          · (intro w hSw; (try dsimp only at hSw); obtain ⟨hS1, hS2, hS3, hS4⟩ := hSw; go_simp; with_reducible rfl)
          simp only [Act.put, List.setIfInBounds_toArray, List.set_cons_zero, List.set_cons_succ]
          refine upto_one 13 (by kernel_rfl) rfl (fun K hK => ?_)
          go_simp
          have hbA : Below wr.heap.size wr (wr.drew.alloc (.cells #[.bool neg, .slice lo ll lc] 29)) := (Below.refl _ _).drew.alloc (Nat.le_refl _) _
          have d5 := (hbA.cell (p := ⟨w.heap.size, k, none⟩) hOlt).trans c5
          have d9 := (hbA.cell (p := ⟨rb, roff + q, none⟩) hrb).trans c9
          have d12 := (hbA.cell (p := ⟨vb, voff + k * 2, none⟩) hvb).trans c12
          have d13 := (hbA.cell (p := ⟨vb, voff + k * 2 + 1, none⟩) hvb).trans c13
          refine hK.out _ _ (fun _ => ⟨d5, d9, d12, d13⟩) ?_
          clear hK K
          try simp only [Act.put, List.setIfInBounds_toArray, List.set_cons_zero, List.set_cons_succ]
          refine upto_one 14 (by kernel_rfl) rfl (fun K hK => ?_)
          refine step_append_lies _ rfl (.tmp 24) (.tmp 32) 72 rfl w.heap.size 29 i0 (.agg #[.bool false, .slice none 0 0]) 2 32 (by kernel_rfl) hi hz0 hz1 hz2 rfl (by decide) (.slice vo vl vc) (ps k).length ((ps k).flatMap ncells) rfl (by have := (HOA.out.grow k hkl).1; rw [HVK.out] at this; exact this) ⟨wr.heap.size, 0, none⟩ 1 1 [.bool neg, .slice lo ll lc] rfl rfl (World.news_of_block (heap_alloc_new wr.drew _)) (fun u hu => by simp only [List.mem_cons, List.mem_nil_iff, or_false] at hu; rcases hu with rfl | rfl <;> rfl) (by decide) (by unfold maxLen; have := HPL.out; omega) (by have := HPL.out; omega) (by simp; omega) (wr.heap.size + 1) (by simp) ?_
          intro g5 cap5 w5 hown5 hgrow5 hat5 hlt5
          have HO5 := hide hown5; have HG5 := hide hgrow5; have HA5 := hide hat5
          clear hown5 hgrow5 hat5 hlt5
          have e5 := HG5.out.cell d5 (by rw [← HVK.out]; exact HON.out)
          have e9 := HG5.out.cell d9 (by rw [← HVK.out]; exact HRB.out)
          have e12 := HG5.out.cell d12 (by rw [← HVK.out]; exact HVB.out)
          have e13 := HG5.out.cell d13 (by rw [← HVK.out]; exact HVB.out)
          refine hK.out _ _ (fun _ => ⟨e5, e9, e12, e13⟩) ?_
          clear hK K
          simp only [Act.put, List.setIfInBounds_toArray, List.set_cons_zero, List.set_cons_succ]
          have hHeld5 : (fun w' => w'.cell? ⟨w.heap.size, k, none⟩ = some (.slice vo vl vc) ∧ w'.cell? ⟨rb, roff + q, none⟩ = some (.slice (some ⟨vb, voff, none⟩) n vcap) ∧ w'.cell? ⟨vb, voff + k * 2, none⟩ = some (.bool neg) ∧ w'.cell? ⟨vb, voff + k * 2 + 1, none⟩ = some (.slice lo ll lc)) w5 := ⟨e5, e9, e12, e13⟩
          clear hHeld
          refine upto_run (v := ?_) 15 34 [16] rfl rfl (by kernel_rfl) (by kernel_rfl) (by kernel_rfl) (by kernel_rfl) (by kernel_rfl) (fun _ _ _ h => h) (by rfl) ?_ (by assumption) ?_
          rotate_left
          · (intro w hSw; (try dsimp only at hSw); obtain ⟨hS1, hS2, hS3, hS4⟩ := hSw; go_simp; with_reducible rfl)
          simp only [Act.put, List.setIfInBounds_toArray, List.set_cons_zero, List.set_cons_succ]
          have HP := hide (HOA.out.push hkl [(⟨neg, lo, ll, lc⟩, z)] (fun p hp => by rw [List.mem_singleton] at hp; subst hp; exact HNZ.out.below HOA.out.low (Nat.le_refl _)) (fun i hi p hp => by rw [List.mem_singleton] at hp; subst hp; exact HOA.out.old HNZ.out hi) (L := (ps k).length + 1) rfl (by have := HO5.out; simpa [ncells] using this) (by rw [HVK.out]; exact HG5.out) (by rw [HVK.out]; exact HA5.out.imp id fun h => by rw [h]; simp))
          have ef : w5.frozen? ⟨w.heap.size, k, none⟩ = false := by
            have h1 := HOA.out.thaw k
            rw [World.frozen?_of_block (a := ⟨w.heap.size, k, none⟩) (HG5.out.block w.heap.size HOA.out.lt (by rw [← HVK.out]; exact HON.out))]
            exact h1
          refine upto_one 16 (by kernel_rfl) rfl (fun K hK => ?_)
          go_simp
          refine hK.out _ _ (fun h => absurd h (by decide)) ?_
          clear hK K
          try simp only [Act.put, List.setIfInBounds_toArray, List.set_cons_zero, List.set_cons_succ]
          refine upto_done (by kernel_rfl) ?_
          have HD' : Hid (∀ i, i < k → (updN ps k (ps k ++ [(⟨neg, lo, ll, lc⟩, z)]) i).map (·.2) = colL hs i) := fun i hi => by rw [updN_ne _ _ _ (by omega)]; exact HD.out i hi
          have HM' : Hid ((updN ps k (ps k ++ [(⟨neg, lo, ll, lc⟩, z)]) k).map (·.2) = colL (hs.take (q + 1)) k) := by
            show _ = _
            rw [updN_self, List.map_append, HM.out, HTK.out]; rfl
          have HE' : Hid (∀ i, k < i → updN ps k (ps k ++ [(⟨neg, lo, ll, lc⟩, z)]) i = []) := fun i hi => by rw [updN_ne _ _ _ (by omega)]; exact HE.out i hi
          clear c5 c9 c12 c13 d5 d9 d12 d13 e5 e9 e12 e13 ef HO5 HG5 HA5 HOA HO HD HM HE hHeld5
          go_wp2
          go_roundw
          case rel => exact ⟨q + 1, _, _, by omega, by go_num, HP, HD', HM', HE'⟩
          case measure => simp [intOf]; omega
        · obtain rfl : q = hs.length := by omega
          rw [List.take_length] at HM
          have HD' : Hid (∀ i, i < k + 1 → (ps i).map (·.2) = colL hs i) := fun i hi => by
            by_cases e : i = k
            · rw [e]; exact HM.out
            · exact HD.out i (by omega)
          clear HD HM
          go_wp2
          go_roundw
          case rel => exact ⟨k + 1, _, _, by omega, by go_num, HO, HD', hide (fun i hi => HE.out i (by omega))⟩
          case measure => simp [intOf]; omega
    · obtain rfl : k = n := by omega
      go_wp2
      go_ret
      exact ⟨_, _, _, rfl, HO.out, HD.out⟩

end Go.Proofs.YtdedolkgcdlmeaaGreatDoor
