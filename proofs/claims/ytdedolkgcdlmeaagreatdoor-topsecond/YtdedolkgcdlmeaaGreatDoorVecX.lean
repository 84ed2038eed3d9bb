/- Sums, differences and multiples of vectors. -/
import Derived.Test.YtdedolkgcdlmeaaGreatDoorVecW
namespace Go.Proofs.YtdedolkgcdlmeaaGreatDoor
open Go.RowKit Limbs

theorem zip_getD (f : Int → Int → Int) (xs ys : List Int) (h : xs.length = ys.length) (k : Nat) (hk : k < xs.length) : (List.zipWith f xs ys).getD k 0 = f (xs.getD k 0) (ys.getD k 0) := by
  rw [List.getD_eq_getElem?_getD, List.getElem?_zipWith, List.getD_eq_getElem?_getD, List.getD_eq_getElem?_getD, List.getElem?_eq_getElem hk, List.getElem?_eq_getElem (by omega)]
  rfl

theorem zip_len (f : Int → Int → Int) (xs ys : List Int) (h : xs.length = ys.length) : (List.zipWith f xs ys).length = xs.length := by
  rw [List.length_zipWith]; omega

theorem map_getD' (f : Int → Int) (xs : List Int) (k : Nat) (hk : k < xs.length) : (xs.map f).getD k 0 = f (xs.getD k 0) := by
  rw [List.getD_eq_getElem?_getD, List.getElem?_map, List.getD_eq_getElem?_getD, List.getElem?_eq_getElem hk]
  rfl

theorem box_vec {W : World} {P : Nat} {A : Nat} {u0 u1 : Value} (hA : Box W A u0 u1) (hne : A ≠ P) (k : Nat) (v0 v1 : Value) : Box ((W.setCell ⟨P, k * 2, none⟩ v0).setCell ⟨P, k * 2 + 1, none⟩ v1) A u0 u1 :=
  (hA.other hne _ _).other hne _ _


set_option maxRecDepth 100000 in
set_option maxHeartbeats 4000000 in
theorem togetherSub (w : World) (va vb : Value) (xs ys : List Int) (n : Nat) (ha : VecN w va xs n) (hb : VecN w vb ys n) (hl : xs.length = ys.length) (h8 : xs.length ≤ 1000) (hn : n ≤ 100000) :
    Calls Tryz.prog 134 #[va, vb, .func (.func 97) #[] #[]] w fun e w' => ∃ P, e = .returned (.tuple #[.slice (some ⟨P, 0, none⟩) xs.length xs.length, .nilIface]) ∧ VecO w w' P (List.zipWith (fun x y => x - y) xs ys) (n + 1) := by
  have HA := hide ha; have HB := hide hb
  have hlt := zip_len (fun x y => x - y) xs ys hl
  have HZ := hide (zip_getD (fun x y => x - y) xs ys hl)
  obtain ⟨ao, acap, rfl, -, -⟩ := ha
  obtain ⟨bo, bcap, rfl, -, -⟩ := hb
  have hl1 : ((xs.length : Int) == (ys.length : Int)) = true := by rw [beq_iff_eq]; omega
  have hl2 : ((xs.length : Int) != (ys.length : Int)) = false := by rw [bne_eq_false_iff_eq]; omega
  have HL := hide hl
  clear hl
  have hmk := run_mkV xs.length (by omega)
  have HI : Hid (VecO w (w.alloc (.cells (madeCells #[.bool false, .slice none 0 0] (xs.length * 2)) 29)) w.heap.size (List.replicate (List.zipWith (fun x y => x - y) xs ys).length 0) (n + 1)) := by
    rw [hlt]; exact VecO.made w w (Below.refl _ _) xs.length (n + 1)
  generalize List.zipWith (fun x y => x - y) xs ys = ts at *
  go_enter Tryz.func134, Tryz.ntmps134
  go_wp2
  clear hmk
  go_loopw [21] (fun i wr => ∃ k : Nat, k ≤ xs.length ∧ i = .int .i64 k ∧ VecO w wr w.heap.size (ts.take k ++ List.replicate (ts.length - k) 0) (n + 1)) (fun i _ => xs.length - (intOf i).toNat)
  case atStart => exact ⟨0, Nat.zero_le _, rfl, HI.out⟩
  case round =>
    clear HI
    obtain ⟨k, hk, rfl, hinv⟩ := hrel
    have HI := hide hinv
    clear hinv
    by_cases hkl : k < xs.length
    · obtain ⟨ab, aoff, _, e⟩ := HA.out.form (by omega)
      simp only [Value.slice.injEq, true_and] at e
      obtain ⟨rfl, rfl⟩ := e
      obtain ⟨bb, boff, _, e⟩ := HB.out.form (by have := HL.out; omega)
      simp only [Value.slice.injEq, true_and] at e
      obtain ⟨rfl, rfl⟩ := e
      obtain ⟨la, an, ao, al, ac, a0, a1, na⟩ := (HA.out.below HI.out.below (Nat.le_refl _)).at k hkl
      obtain ⟨lb, bn, bo, bl, bc, b0, b1, nb⟩ := (HB.out.below HI.out.below (Nat.le_refl _)).at k (by have := HL.out; omega)
      have NA := hide na; have NB := hide nb
      have hky : k < ys.length := by have := HL.out; omega
      have HFS := hide (fill_step ts k (by omega))
      rw [HZ.out k hkl] at HFS
      have hfl := fill_len ts k (by omega)
      clear na nb
      generalize xs.getD k 0 = x at *
      generalize ys.getD k 0 = y at *
      go_wp2_with fail
      refine upto_start (S := (fun w' => w'.cell? ⟨ab, aoff + k * 2, none⟩ = some (.bool an) ∧ w'.cell? ⟨ab, aoff + k * 2 + 1, none⟩ = some (.slice ao al ac) ∧ w'.cell? ⟨bb, boff + k * 2, none⟩ = some (.bool bn) ∧ w'.cell? ⟨bb, boff + k * 2 + 1, none⟩ = some (.slice bo bl bc))) (k := 13) (by kernel_rfl) (by (try dsimp only); go_keep) (fun hHeld => ?_)
      refine upto_run (v := ?_) 0 24 [12, 13] rfl rfl (by kernel_rfl) (by kernel_rfl) (by kernel_rfl) (by kernel_rfl) (by kernel_rfl) (fun _ _ _ h => h) (by rfl) ?_ (by assumption) ?_
      rotate_left
      · (intro w hSw; (try dsimp only at hSw); go_simp; with_reducible rfl)
      simp only [Act.put, List.setIfInBounds_toArray, List.set_cons_zero, List.set_cons_succ]
      refine upto_run (v := ?_) 1 25 [12, 13] rfl rfl (by kernel_rfl) (by kernel_rfl) (by kernel_rfl) (by kernel_rfl) (by kernel_rfl) (fun _ _ _ h => h) (by rfl) ?_ (by assumption) ?_
      rotate_left
      · (intro w hSw; (try dsimp only at hSw); go_simp; with_reducible rfl)
      simp only [Act.put, List.setIfInBounds_toArray, List.set_cons_zero, List.set_cons_succ]
      refine upto_run (v := ?_) 2 26 [11, 13] rfl rfl (by kernel_rfl) (by kernel_rfl) (by kernel_rfl) (by kernel_rfl) (by kernel_rfl) (fun _ _ _ h => h) (by rfl) ?_ (by assumption) ?_
      rotate_left
      · (intro w hSw; (try dsimp only at hSw); go_simp; with_reducible rfl)
      simp only [Act.put, List.setIfInBounds_toArray, List.set_cons_zero, List.set_cons_succ]
      refine upto_run (v := ?_) 3 27 [5, 6, 11, 13] rfl rfl (by kernel_rfl) (by kernel_rfl) (by kernel_rfl) (by kernel_rfl) (by kernel_rfl) (fun _ _ _ h => h) (by rfl) ?_ (by assumption) ?_
      rotate_left
      · (intro w hSw; (try dsimp only at hSw); go_simp; with_reducible rfl)
      simp only [Act.put, List.setIfInBounds_toArray, List.set_cons_zero, List.set_cons_succ]
      refine upto_run (v := ?_) 4 28 [5, 6, 11, 13] rfl rfl (by kernel_rfl) (by kernel_rfl) (by kernel_rfl) (by kernel_rfl) (by kernel_rfl) (fun _ _ _ h => h) (by rfl) ?_ (by assumption) ?_
      rotate_left
      · (intro w hSw; (try dsimp only at hSw); go_simp; with_reducible rfl)
      simp only [Act.put, List.setIfInBounds_toArray, List.set_cons_zero, List.set_cons_succ]
      refine upto_run (v := ?_) 5 29 [6, 11, 13] rfl rfl (by kernel_rfl) (by kernel_rfl) (by kernel_rfl) (by kernel_rfl) (by kernel_rfl) (fun _ _ _ h => h) (by rfl) ?_ (by assumption) ?_
      rotate_left
      · (intro w hSw; (try dsimp only at hSw); go_simp; with_reducible rfl)
      simp only [Act.put, List.setIfInBounds_toArray, List.set_cons_zero, List.set_cons_succ]
      refine upto_run (v := ?_) 6 30 [11, 13] rfl rfl (by kernel_rfl) (by kernel_rfl) (by kernel_rfl) (by kernel_rfl) (by kernel_rfl) (fun _ _ _ h => h) (by rfl) ?_ (by assumption) ?_
      rotate_left
      · (intro w hSw; (try dsimp only at hSw); go_simp; with_reducible rfl)
      simp only [Act.put, List.setIfInBounds_toArray, List.set_cons_zero, List.set_cons_succ]
      refine upto_run (v := ?_) 7 31 [9, 10, 11, 13] rfl rfl (by kernel_rfl) (by kernel_rfl) (by kernel_rfl) (by kernel_rfl) (by kernel_rfl) (fun _ _ _ h => h) (by rfl) ?_ (by assumption) ?_
      rotate_left
      · (intro w hSw; (try dsimp only at hSw); go_simp; with_reducible rfl)
      simp only [Act.put, List.setIfInBounds_toArray, List.set_cons_zero, List.set_cons_succ]
      refine upto_run (v := ?_) 8 32 [9, 10, 11, 13] rfl rfl (by kernel_rfl) (by kernel_rfl) (by kernel_rfl) (by kernel_rfl) (by kernel_rfl) (fun _ _ _ h => h) (by rfl) ?_ (by assumption) ?_
      rotate_left
      · (intro w hSw; (try dsimp only at hSw); go_simp; with_reducible rfl)
      simp only [Act.put, List.setIfInBounds_toArray, List.set_cons_zero, List.set_cons_succ]
      refine upto_run (v := ?_) 9 33 [10, 11, 13] rfl rfl (by kernel_rfl) (by kernel_rfl) (by kernel_rfl) (by kernel_rfl) (by kernel_rfl) (fun _ _ _ h => h) (by rfl) ?_ (by assumption) ?_
      rotate_left
      · (intro w hSw; (try dsimp only at hSw); go_simp; with_reducible rfl)
      simp only [Act.put, List.setIfInBounds_toArray, List.set_cons_zero, List.set_cons_succ]
      refine upto_run (v := ?_) 10 34 [11, 13] rfl rfl (by kernel_rfl) (by kernel_rfl) (by kernel_rfl) (by kernel_rfl) (by kernel_rfl) (fun _ _ _ h => h) (by rfl) ?_ (by assumption) ?_
      rotate_left
      · (intro w hSw; (try dsimp only at hSw); go_simp; with_reducible rfl)
      simp only [Act.put, List.setIfInBounds_toArray, List.set_cons_zero, List.set_cons_succ]
      refine upto_one 11 (by kernel_rfl) rfl (fun K hK => ?_)
      go_simp
      (refine (sub_any _ _ _ x y n (by exact NA.out) (by exact NB.out) (by omega)).mono ?_; rintro e w2 ⟨r, rfl, hr, hb⟩; obtain ⟨⟨rn, ro, rl, rc⟩, rfl⟩ := hr.nm; have HI2 := hide (HI.out.drew.later hb); obtain ⟨neg0, o0, l0, c0', k0, k1, -⟩ := HI2.out.at k (by omega); have f0 := HI2.out.thaw (k * 2); have f1 := HI2.out.thaw (k * 2 + 1); have hP := HI2.out.lt; have p0 := (hb.cell (p := ⟨ab, aoff + k * 2, none⟩) la).trans a0; have p1 := (hb.cell (p := ⟨ab, aoff + k * 2 + 1, none⟩) la).trans a1; have p2 := (hb.cell (p := ⟨bb, boff + k * 2, none⟩) lb).trans b0; have p3 := (hb.cell (p := ⟨bb, boff + k * 2 + 1, none⟩) lb).trans b1; have HN := hide (HI2.out.set (k := k) (by omega) hr); rw [HFS.out] at HN; clear hb hr HI HI2 HFS)
      go_wp2_with fail
      refine hK.out _ _ (fun _ => by (try dsimp only); go_keep) ?_
      clear hK K
      try simp only [Act.put, List.setIfInBounds_toArray, List.set_cons_zero, List.set_cons_succ]
      refine upto_one 12 (by kernel_rfl) rfl (fun K hK => ?_)
      go_simp
      refine hK.out _ _ (fun _ => by (try dsimp only); go_keep) ?_
      clear hK K
      try simp only [Act.put, List.setIfInBounds_toArray, List.set_cons_zero, List.set_cons_succ]
      refine upto_one 13 (by kernel_rfl) rfl (fun K hK => ?_)
      go_simp
      refine hK.out _ _ (fun h => absurd h (by decide)) ?_
      clear hK K
      try simp only [Act.put, List.setIfInBounds_toArray, List.set_cons_zero, List.set_cons_succ]
      refine upto_done (by kernel_rfl) ?_
      clear p0 p1 p2 p3 a0 a1 b0 b1 k0 k1 f0 f1 NA NB
      go_wp2
      go_roundw
      case rel => exact ⟨k + 1, by omega, by go_num, HN.out⟩
      case measure => simp [intOf]; omega
    · obtain rfl : k = xs.length := by omega
      have HF : Hid (VecO w wr w.heap.size ts (n + 1)) := by
        have := HI.out
        rw [← hlt] at this
        exact this.full
      clear HI
      go_wp2
      exact bodyPost_ret (v := .tuple #[.slice (some ⟨w.heap.size, 0, none⟩) xs.length xs.length, .nilIface]) (by simp [results, Tryz.results134, go_sem]) rfl ⟨_, rfl, HF.out⟩

theorem subV_any (w : World) (va vb : Value) (xs ys : List Int) (n : Nat) (ha : VecN w va xs n) (hb : VecN w vb ys n) (hl : xs.length = ys.length) (h8 : xs.length ≤ 1000) (hn : n ≤ 100000) :
    Calls Tryz.prog 114 #[va, vb] w fun e w' => ∃ P, e = .returned (.tuple #[.slice (some ⟨P, 0, none⟩) xs.length xs.length, .nilIface]) ∧ VecO w w' P (List.zipWith (fun x y => x - y) xs ys) (n + 1) := by
  have HT := hide (togetherSub w va vb xs ys n ha hb hl h8 hn)
  clear ha hb hl
  go_enter Tryz.func114, Tryz.ntmps114
  go_wp2_with fail
  refine HT.out.mono ?_
  rintro e w1 ⟨P, rfl, hv⟩
  have HV := hide hv
  clear hv HT
  go_wp2
  exact bodyPost_ret (v := .tuple #[.slice (some ⟨P, 0, none⟩) xs.length xs.length, .nilIface]) (by simp [results, Tryz.results114, go_sem]) rfl ⟨_, rfl, HV.out⟩

set_option maxRecDepth 100000 in
set_option maxHeartbeats 4000000 in
theorem scaleV_any (w : World) (vk va : Value) (z : Int) (xs : List Int) (m n : Nat) (hk : NumL w vk z m) (ha : VecN w va xs n) (h8 : xs.length ≤ 1000) (hm : m ≤ 100000) (hn : n ≤ 100000) :
    Calls Tryz.prog 115 #[vk, va] w fun e w' => VecPost w (xs.map (z * ·)) (m + n) e w' := by
  have HA := hide ha; have HK := hide hk
  obtain ⟨⟨kn, ko, kl, kc⟩, rfl⟩ := hk.nm
  have hlt : (xs.map (z * ·)).length = xs.length := List.length_map ..
  have HZ := hide (map_getD' (z * ·) xs)
  obtain ⟨ao, acap, rfl, -, -⟩ := ha
  clear hk
  have hmk := run_mkV xs.length (by omega)
  have HI : Hid (VecO w ((w.alloc (.cells #[.bool kn, .slice ko kl kc] 29)).alloc (.cells (madeCells #[.bool false, .slice none 0 0] (xs.length * 2)) 29)) (w.heap.size + 1) (List.replicate (xs.map (z * ·)).length 0) (m + n)) := by
    rw [hlt]
    have := VecO.made w (w.alloc (.cells #[.bool kn, .slice ko kl kc] 29)) ((Below.refl _ _).alloc (Nat.le_refl _) _) xs.length (m + n)
    rwa [World.size_alloc] at this
  have HX : Hid (Box ((w.alloc (.cells #[.bool kn, .slice ko kl kc] 29)).alloc (.cells (madeCells #[.bool false, .slice none 0 0] (xs.length * 2)) 29)) w.heap.size (.bool kn) (.slice ko kl kc)) :=
    (box_new w _ _ _ _ rfl).later ((Below.refl _ _).alloc (by simp) _ : Below (w.heap.size + 1) _ _) (by omega)
  have hpost : ∀ W, VecO w W (w.heap.size + 1) (xs.map (z * ·)) (m + n) → VecPost w (xs.map (z * ·)) (m + n) (.returned (.slice (some ⟨w.heap.size + 1, 0, none⟩) xs.length xs.length)) W := fun W h => ⟨_, by rw [hlt], h⟩
  have HPOST := hide hpost
  clear hpost
  generalize hts : xs.map (z * ·) = ts at *
  clear hts
  go_enter Tryz.func115, Tryz.ntmps115
  go_wp2
  clear hmk
  go_loopw [12] (fun i wr => ∃ k : Nat, k ≤ xs.length ∧ i = .int .i64 k ∧ VecO w wr (w.heap.size + 1) (ts.take k ++ List.replicate (ts.length - k) 0) (m + n) ∧ Hid (Box wr w.heap.size (.bool kn) (.slice ko kl kc))) (fun i _ => xs.length - (intOf i).toNat)
  case atStart => exact ⟨0, Nat.zero_le _, rfl, HI.out, HX⟩
  case round =>
    clear HI HX
    obtain ⟨k, hk, rfl, hinv, HX⟩ := hrel
    have HI := hide hinv
    clear hinv
    by_cases hkl : k < xs.length
    · obtain ⟨ab, aoff, _, e⟩ := HA.out.form (by omega)
      simp only [Value.slice.injEq, true_and] at e
      obtain ⟨rfl, rfl⟩ := e
      obtain ⟨la, an, ao, al, ac, a0, a1, na⟩ := (HA.out.below HI.out.below (Nat.le_refl _)).at k hkl
      obtain ⟨b0, b1, -, -⟩ := HX.out
      have NA := hide na
      have NK' : NumL wr (.agg #[.bool kn, .slice ko kl kc]) z m := HK.out.below HI.out.below (Nat.le_refl _)
      have HFS := hide (fill_step ts k (by omega))
      rw [HZ.out k hkl] at HFS
      have hfl := fill_len ts k (by omega)
      clear na
      generalize xs.getD k 0 = x at *
      go_wp2_with fail
      refine upto_start (S := (fun w' => w'.cell? ⟨ab, aoff + k * 2, none⟩ = some (.bool an) ∧ w'.cell? ⟨ab, aoff + k * 2 + 1, none⟩ = some (.slice ao al ac) ∧ w'.cell? ⟨w.heap.size, 0, none⟩ = some (.bool kn) ∧ w'.cell? ⟨w.heap.size, 1, none⟩ = some (.slice ko kl kc))) (k := 9) (by kernel_rfl) (by (try dsimp only); go_keep) (fun hHeld => ?_)
      refine upto_run (v := ?_) 0 15 [8, 9] rfl rfl (by kernel_rfl) (by kernel_rfl) (by kernel_rfl) (by kernel_rfl) (by kernel_rfl) (fun _ _ _ h => h) (by rfl) ?_ (by assumption) ?_
      rotate_left
      · (intro w hSw; (try dsimp only at hSw); go_simp; with_reducible rfl)
      simp only [Act.put, List.setIfInBounds_toArray, List.set_cons_zero, List.set_cons_succ]
      refine upto_run (v := ?_) 1 16 [8, 9] rfl rfl (by kernel_rfl) (by kernel_rfl) (by kernel_rfl) (by kernel_rfl) (by kernel_rfl) (fun _ _ _ h => h) (by rfl) ?_ (by assumption) ?_
      rotate_left
      · (intro w hSw; (try dsimp only at hSw); go_simp; with_reducible rfl)
      simp only [Act.put, List.setIfInBounds_toArray, List.set_cons_zero, List.set_cons_succ]
      refine upto_run (v := ?_) 2 17 [7, 9] rfl rfl (by kernel_rfl) (by kernel_rfl) (by kernel_rfl) (by kernel_rfl) (by kernel_rfl) (fun _ _ _ h => h) (by rfl) ?_ (by assumption) ?_
      rotate_left
      · (intro w hSw; (try dsimp only at hSw); go_simp; with_reducible rfl)
      simp only [Act.put, List.setIfInBounds_toArray, List.set_cons_zero, List.set_cons_succ]
      refine upto_run (v := ?_) 3 18 [5, 6, 7, 9] rfl rfl (by kernel_rfl) (by kernel_rfl) (by kernel_rfl) (by kernel_rfl) (by kernel_rfl) (fun _ _ _ h => h) (by rfl) ?_ (by assumption) ?_
      rotate_left
      · (intro w hSw; (try dsimp only at hSw); go_simp; with_reducible rfl)
      simp only [Act.put, List.setIfInBounds_toArray, List.set_cons_zero, List.set_cons_succ]
      refine upto_run (v := ?_) 4 19 [5, 6, 7, 9] rfl rfl (by kernel_rfl) (by kernel_rfl) (by kernel_rfl) (by kernel_rfl) (by kernel_rfl) (fun _ _ _ h => h) (by rfl) ?_ (by assumption) ?_
      rotate_left
      · (intro w hSw; (try dsimp only at hSw); go_simp; with_reducible rfl)
      simp only [Act.put, List.setIfInBounds_toArray, List.set_cons_zero, List.set_cons_succ]
      refine upto_run (v := ?_) 5 20 [6, 7, 9] rfl rfl (by kernel_rfl) (by kernel_rfl) (by kernel_rfl) (by kernel_rfl) (by kernel_rfl) (fun _ _ _ h => h) (by rfl) ?_ (by assumption) ?_
      rotate_left
      · (intro w hSw; (try dsimp only at hSw); go_simp; with_reducible rfl)
      simp only [Act.put, List.setIfInBounds_toArray, List.set_cons_zero, List.set_cons_succ]
      refine upto_run (v := ?_) 6 21 [7, 9] rfl rfl (by kernel_rfl) (by kernel_rfl) (by kernel_rfl) (by kernel_rfl) (by kernel_rfl) (fun _ _ _ h => h) (by rfl) ?_ (by assumption) ?_
      rotate_left
      · (intro w hSw; (try dsimp only at hSw); go_simp; with_reducible rfl)
      simp only [Act.put, List.setIfInBounds_toArray, List.set_cons_zero, List.set_cons_succ]
      refine upto_one 7 (by kernel_rfl) rfl (fun K hK => ?_)
      go_simp
      (refine (mul_any _ _ _ z x m n (by exact NK') (by exact NA.out) (by omega) (by omega)).mono ?_; rintro e w2 ⟨r, rfl, hr, hb⟩; obtain ⟨⟨rn, ro, rl, rc⟩, rfl⟩ := hr.nm; have HI2 := hide (HI.out.drew.later hb); obtain ⟨neg0, o0, l0, c0', k0, k1, -⟩ := HI2.out.at k (by omega); have f0 := HI2.out.thaw (k * 2); have f1 := HI2.out.thaw (k * 2 + 1); have hP := HI2.out.lt; have p0 := (hb.cell (p := ⟨ab, aoff + k * 2, none⟩) la).trans a0; have p1 := (hb.cell (p := ⟨ab, aoff + k * 2 + 1, none⟩) la).trans a1; have HX2 := hide (show Box w2 w.heap.size _ _ from HX.out.later (drewed hb) (show w.heap.size < wr.heap.size by have := HI.out.lt; omega)); obtain ⟨p2, p3, -, -⟩ := HX2.out; have HN := hide (HI2.out.set (k := k) (by omega) hr); have HXN := hide (box_vec (P := w.heap.size + 1) HX2.out (by omega) k (.bool rn) (.slice ro rl rc)); rw [HFS.out] at HN; clear hb hr HI HI2 HFS)
      go_wp2_with fail
      refine hK.out _ _ (fun _ => by (try dsimp only); go_keep) ?_
      clear hK K
      try simp only [Act.put, List.setIfInBounds_toArray, List.set_cons_zero, List.set_cons_succ]
      refine upto_one 8 (by kernel_rfl) rfl (fun K hK => ?_)
      go_simp
      refine hK.out _ _ (fun _ => by (try dsimp only); go_keep) ?_
      clear hK K
      try simp only [Act.put, List.setIfInBounds_toArray, List.set_cons_zero, List.set_cons_succ]
      refine upto_one 9 (by kernel_rfl) rfl (fun K hK => ?_)
      go_simp
      refine hK.out _ _ (fun h => absurd h (by decide)) ?_
      clear hK K
      try simp only [Act.put, List.setIfInBounds_toArray, List.set_cons_zero, List.set_cons_succ]
      refine upto_done (by kernel_rfl) ?_
      clear p0 p1 p2 p3 a0 a1 b0 b1 k0 k1 f0 f1 NA NK'
      go_wp2
      go_roundw
      case rel => exact ⟨k + 1, by omega, by go_num, HN.out, HXN⟩
      case measure => simp [intOf]; omega
    · obtain rfl : k = xs.length := by omega
      have HF : Hid (VecO w wr (w.heap.size + 1) ts (m + n)) := by
        have := HI.out
        rw [← hlt] at this
        exact this.full
      have HQ := hide (HPOST.out wr HF.out)
      clear HI HF HPOST HX
      go_wp2
      go_ret
      exact HQ.out

end Go.Proofs.YtdedolkgcdlmeaaGreatDoor
