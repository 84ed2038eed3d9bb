/- mat.pivotsAlone, mat.pivots. -/
import Derived.Test.YtdedolkgcdlmeaaGreatDoorKerT
import Derived.Test.YtdedolkgcdlmeaaGreatDoorBehL
import Derived.Test.YtdedolkgcdlmeaaGreatDoorFormP
import Derived.Test.YtdedolkgcdlmeaaGreatDoorSwap
namespace Go.Proofs.YtdedolkgcdlmeaaGreatDoor
open Go.RowKit Limbs

theorem VecN.drop0 {W : World} {b off cap : Nat} {us : List Int} {nv n m : Nat} (h : VecN W (.slice (some ⟨b, off, none⟩) us.length cap) us nv) (hn : n + m = us.length) : VecN W (.slice (some ⟨b, off + n * 2, none⟩) m (cap - n)) (us.drop n) nv := by
  by_cases hm : 0 < m
  · exact h.drop hn hm
  · have hl : (us.drop n).length = m := by rw [List.length_drop]; omega
    exact ⟨_, _, by rw [hl], by rw [hl]; omega, fun h0 => absurd h0 (by rw [hl]; exact hm)⟩

/-- Nothing behind the pivots of the first ones. -/
def aloneTo (hs : List (List Int)) (p : Nat → Nat) (n k : Nat) : Prop := ∀ i, i < k → ∀ b, p i < b → b < n → ent hs i b = 0

theorem alone_drop {us : List Int} {f n : Nat} (hl : us.length = n) : first (us.drop (f + 1)) < 0 ↔ ∀ b, f < b → b < n → us.getD b 0 = 0 := by
  rw [first_neg]
  constructor
  · intro h b h1 h2
    have := h (b - (f + 1)) (by rw [List.length_drop]; omega)
    rw [getD_drop', show f + 1 + (b - (f + 1)) = b by omega] at this
    exact this
  · intro h b hb
    rw [List.length_drop] at hb
    rw [getD_drop']
    exact h _ (by omega) (by omega)

set_option linter.unusedSimpArgs false in
set_option maxRecDepth 100000 in
set_option maxHeartbeats 3200000 in
theorem pivotsAlone_any (w : World) (va : Value) (n nv : Nat) (hs : List (List Int)) (p : Nat → Nat) (ha : MatN w va hs nv) (F : FormL n hs p) (hn : n ≤ 100) (hm : hs.length ≤ 100) :
    Calls Tryz.prog 64 #[va] w fun e w' => ∃ r : Bool, e = .returned (.bool r) ∧ (r = true ↔ aloneTo hs p n hs.length) ∧ Below w.heap.size w w' := by
  have HA := hide ha; have HF := hide F
  obtain ⟨ao, acap, rfl, -, -⟩ := ha
  clear F
  go_enter Tryz.func64, Tryz.ntmps64
  go_wp2
  go_loopw [6] (fun x wr => ∃ k : Nat, k ≤ hs.length ∧ x = .int .i64 k ∧ Hid (aloneTo hs p n k) ∧ Hid (Below w.heap.size w wr)) (fun x _ => hs.length - (intOf x).toNat)
  case atStart => exact ⟨0, Nat.zero_le _, rfl, hide (fun i hi => absurd hi (Nat.not_lt_zero i)), hide (Below.refl _ _)⟩
  case round =>
    obtain ⟨k, hk, rfl, HAL, HBE⟩ := hrel
    by_cases hkl : k < hs.length
    · obtain ⟨rb, roff, _, e, lr, ru, cu, hru⟩ := HA.out.at k hkl
      simp only [Value.slice.injEq, true_and] at e
      obtain ⟨rfl, rfl⟩ := e
      have hul : hs[k].length = n := HF.out.len _ (List.getElem_mem hkl)
      obtain ⟨hf1, hf2, hf3⟩ := HF.out.first hkl
      have HE : Hid (∀ b, ent hs k b = hs[k].getD b 0) := fun b => by unfold ent; rw [getD_row hkl]
      have hpn : p k < n := hf2
      generalize hs[k] = us at *
      obtain ⟨vb, voff, vcap, rfl⟩ := hru.form (by omega)
      have hcap : n ≤ vcap := by
        obtain ⟨_, _, e, h1, -⟩ := hru
        simp only [Value.slice.injEq, true_and] at e
        omega
      have HU := hide ((hru.below HBE.out (Nat.le_refl _)).below (Below.refl wr.heap.size wr).drew (Nat.le_refl _))
      have HD : Hid (VecN wr.drew (.slice (if vcap = p k + 1 then some ⟨vb, voff, none⟩ else some ⟨vb, voff + (p k + 1) * 2, none⟩) (n - (p k + 1)) (vcap - (p k + 1))) (us.drop (p k + 1)) nv) := by
        by_cases hvc : vcap = p k + 1
        · rw [if_pos hvc]
          have hl : (us.drop (p k + 1)).length = n - (p k + 1) := by rw [List.length_drop]; omega
          exact ⟨_, _, by rw [hl], by rw [hl]; omega, fun h0 => absurd h0 (by rw [hl]; omega)⟩
        · rw [if_neg hvc]
          exact HU.out.drop0 (n := p k + 1) (m := n - (p k + 1)) (by omega)
      have HDL : Hid ((us.drop (p k + 1)).length ≤ 100) := by
        show _ ≤ _
        rw [List.length_drop]; omega
      have HAD := hide (alone_drop (us := us) (f := p k) hul)
      have c1 := (HBE.out.cell (p := ⟨rb, roff + k, none⟩) lr).trans cu
      have HFI := hide (firstV_any wr.drew _ us nv HU.out (by omega))
      rw [hf1, hul] at HFI
      have hrb : rb < wr.heap.size := Nat.lt_of_lt_of_le lr HBE.out.size
      rw [hul] at c1
      clear hru cu hf1 hf2 hf3 hul HU
      generalize hpk : p k = f at *
      obtain ⟨f1, hf1⟩ : ∃ f1 : Nat, f1 = f + 1 := ⟨_, rfl⟩
      have g1 : f1 ≤ n := by omega
      have g2 : IntKind.i64.wrap ((f : Int) + 1) = (f1 : Int) := by rw [IntKind.wrap_i64]; omega
      rw [← hf1] at HD HAD HDL
      have HF1 := hide hf1; have HPK := hide hpk
      clear hf1 hpk
      go_wp2_with fail
      refine upto_start (S := (fun w' => w'.cell? ⟨rb, roff + k, none⟩ = some (.slice (some ⟨vb, voff, none⟩) n vcap))) (k := 13) (by kernel_rfl) (by exact c1) (fun hHeld => ?_)
      refine upto_run (v := ?_) 0 9 [] rfl rfl (by kernel_rfl) (by kernel_rfl) (by kernel_rfl) (by kernel_rfl) (by kernel_rfl) (fun _ _ _ h => h) (by rfl) ?_ (by assumption) ?_
      rotate_left
      · (intro w hSw; (try dsimp only at hSw); go_simp; with_reducible rfl)
      simp only [Act.put, List.setIfInBounds_toArray, List.set_cons_zero, List.set_cons_succ]
      refine upto_run (v := ?_) 1 10 [] rfl rfl (by kernel_rfl) (by kernel_rfl) (by kernel_rfl) (by kernel_rfl) (by kernel_rfl) (fun _ _ _ h => h) (by rfl) ?_ (by assumption) ?_
      rotate_left
      · (intro w hSw; (try dsimp only at hSw); go_simp; with_reducible rfl)
      simp only [Act.put, List.setIfInBounds_toArray, List.set_cons_zero, List.set_cons_succ]
      refine upto_run (v := ?_) 2 11 [] rfl rfl (by kernel_rfl) (by kernel_rfl) (by kernel_rfl) (by kernel_rfl) (by kernel_rfl) (fun _ _ _ h => h) (by rfl) ?_ (by assumption) ?_
      rotate_left
      · (intro w hSw; (try dsimp only at hSw); go_simp; with_reducible rfl)
      simp only [Act.put, List.setIfInBounds_toArray, List.set_cons_zero, List.set_cons_succ]
      refine upto_run (v := ?_) 3 12 [] rfl rfl (by kernel_rfl) (by kernel_rfl) (by kernel_rfl) (by kernel_rfl) (by kernel_rfl) (fun _ _ _ h => h) (by rfl) ?_ (by assumption) ?_
      rotate_left
      · (intro w hSw; (try dsimp only at hSw); go_simp; with_reducible rfl)
      simp only [Act.put, List.setIfInBounds_toArray, List.set_cons_zero, List.set_cons_succ]
      refine upto_run (v := ?_) 4 13 [] rfl rfl (by kernel_rfl) (by kernel_rfl) (by kernel_rfl) (by kernel_rfl) (by kernel_rfl) (fun _ _ _ h => h) (by rfl) ?_ (by assumption) ?_
      rotate_left
      · (intro w hSw; (try dsimp only at hSw); go_simp; with_reducible rfl)
      simp only [Act.put, List.setIfInBounds_toArray, List.set_cons_zero, List.set_cons_succ]
      refine upto_run (v := ?_) 5 14 [] rfl rfl (by kernel_rfl) (by kernel_rfl) (by kernel_rfl) (by kernel_rfl) (by kernel_rfl) (fun _ _ _ h => h) (by rfl) ?_ (by assumption) ?_
      rotate_left
      · (intro w hSw; (try dsimp only at hSw); go_simp; with_reducible rfl)
      simp only [Act.put, List.setIfInBounds_toArray, List.set_cons_zero, List.set_cons_succ]
      refine upto_run (v := ?_) 6 15 [] rfl rfl (by kernel_rfl) (by kernel_rfl) (by kernel_rfl) (by kernel_rfl) (by kernel_rfl) (fun _ _ _ h => h) (by rfl) ?_ (by assumption) ?_
      rotate_left
      · (intro w hSw; (try dsimp only at hSw); go_simp; with_reducible rfl)
      simp only [Act.put, List.setIfInBounds_toArray, List.set_cons_zero, List.set_cons_succ]
      refine upto_run (v := ?_) 7 16 [] rfl rfl (by kernel_rfl) (by kernel_rfl) (by kernel_rfl) (by kernel_rfl) (by kernel_rfl) (fun _ _ _ h => h) (by rfl) ?_ (by assumption) ?_
      rotate_left
      · (intro w hSw; (try dsimp only at hSw); go_simp; with_reducible rfl)
      simp only [Act.put, List.setIfInBounds_toArray, List.set_cons_zero, List.set_cons_succ]
      refine upto_one 8 (by kernel_rfl) rfl (fun K hK => ?_)
      go_simp
      refine HFI.out.mono ?_
      rintro e w1 ⟨rfl, hb1⟩
      have hb1' : Below wr.heap.size wr w1 := (Below.refl _ _).drew.trans hb1
      have c2 := (hb1'.cell (p := ⟨rb, roff + k, none⟩) hrb).trans c1
      have HD1 := hide (HD.out.below hb1 (Nat.le_refl _))
      have HB1 := hide (HBE.out.trans (hb1'.mono HBE.out.size))
      clear hb1 hb1' HFI HD
      go_wp2_with fail
      refine hK.out _ _ (fun _ => c2) ?_
      clear hK K hHeld
      try simp only [Act.put, List.setIfInBounds_toArray, List.set_cons_zero, List.set_cons_succ]
      have hHeld1 : (fun w' => w'.cell? ⟨rb, roff + k, none⟩ = some (.slice (some ⟨vb, voff, none⟩) n vcap)) w1 := c2
      refine upto_run (v := ?_) 9 18 [] rfl rfl (by kernel_rfl) (by kernel_rfl) (by kernel_rfl) (by kernel_rfl) (by kernel_rfl) (fun _ _ _ h => h) (by rfl) ?_ (by assumption) ?_
      rotate_left
      · (intro w hSw; (try dsimp only at hSw); go_simp; with_reducible rfl)
      simp only [Act.put, List.setIfInBounds_toArray, List.set_cons_zero, List.set_cons_succ]
      refine upto_run (v := ?_) 10 19 [] rfl rfl (by kernel_rfl) (by kernel_rfl) (by kernel_rfl) (by kernel_rfl) (by kernel_rfl) (fun _ _ _ h => h) (by rfl) ?_ (by assumption) ?_
      rotate_left
      · (intro w hSw; (try dsimp only at hSw); go_simp; with_reducible rfl)
      simp only [Act.put, List.setIfInBounds_toArray, List.set_cons_zero, List.set_cons_succ]
      generalize (if vcap = f1 then some (⟨vb, voff, none⟩ : Addr) else some ⟨vb, voff + f1 * 2, none⟩) = ad at *
      refine upto_one 11 (by kernel_rfl) rfl (fun K hK => ?_)
      go_simp
      refine (zeroV_any w1 _ _ nv (by exact HD1.out) (by have := HDL.out; omega)).mono ?_
      rintro e w2 ⟨rfl, hb2⟩
      have c3 := (hb2.cell (p := ⟨rb, roff + k, none⟩) (Nat.lt_of_lt_of_le lr HB1.out.size)).trans c2
      have HB2 := hide (HB1.out.trans (hb2.mono HB1.out.size))
      clear hb2
      go_wp2_with fail
      refine hK.out _ _ (fun _ => c3) ?_
      clear hK K hHeld1
      try simp only [Act.put, List.setIfInBounds_toArray, List.set_cons_zero, List.set_cons_succ]
      have hHeld2 : (fun w' => w'.cell? ⟨rb, roff + k, none⟩ = some (.slice (some ⟨vb, voff, none⟩) n vcap)) w2 := c3
      refine upto_run (v := ?_) 12 21 [] rfl rfl (by kernel_rfl) (by kernel_rfl) (by kernel_rfl) (by kernel_rfl) (by kernel_rfl) (fun _ _ _ h => h) (by rfl) ?_ (by assumption) ?_
      rotate_left
      · (intro w hSw; (try dsimp only at hSw); go_simp; with_reducible rfl)
      simp only [Act.put, List.setIfInBounds_toArray, List.set_cons_zero, List.set_cons_succ]
      refine upto_done (by kernel_rfl) ?_
      clear c1 c2 c3 hHeld2 HB1 HD1
      generalize hbz : decide (first (us.drop f1) < 0) = bz
      cases bz with
      | true =>
        have HAL' : Hid (aloneTo hs p n (k + 1)) := fun i hi b h1 h2 => by
          by_cases e : i = k
          · subst e
            rw [HE.out b]
            exact HAD.out.1 (of_decide_eq_true hbz) b (by have := HPK.out; omega) h2
          · exact HAL.out i (by omega) b h1 h2
        clear hbz
        go_wp2
        go_roundw
        case rel => exact ⟨k + 1, by omega, by go_num, HAL', HB2⟩
        case measure => simp [intOf]; omega
      | false =>
        have HNO : Hid (¬ aloneTo hs p n hs.length) := fun h => of_decide_eq_false hbz (HAD.out.2 fun b h1 h2 => by
          have := h k hkl b (by have := HPK.out; omega) h2
          rwa [HE.out b] at this)
        clear hbz
        go_wp2
        go_ret
        exact ⟨false, rfl, ⟨fun h => (by cases h), fun h => absurd h HNO.out⟩, HB2.out⟩
    · obtain rfl : k = hs.length := by omega
      go_wp2
      go_ret
      exact ⟨true, rfl, ⟨fun _ => HAL.out, fun _ => rfl⟩, HBE.out⟩

/-- The pivots. -/
def pivL (hs : List (List Int)) (p : Nat → Nat) : List Int := (List.range hs.length).map fun k => ent hs k (p k)

theorem pivL_len (hs : List (List Int)) (p : Nat → Nat) : (pivL hs p).length = hs.length := by simp [pivL]

theorem pivL_get (hs : List (List Int)) (p : Nat → Nat) (k : Nat) (hk : k < hs.length) : (pivL hs p).getD k 0 = ent hs k (p k) := range_getD _ _ k hk

theorem run_mkIs (m : Nat) (hm : m ≤ 1000) (W : World) : (Instr.makeSlice 46 (.int .i64 (m : Int)) (.int .i64 (m : Int))).run Tryz.prog W = .ok (.slice (some ⟨W.heap.size, 0, none⟩) m m) (W.alloc (.cells (madeCells #[.bool false, .slice none 0 0] (m * 2)) 29)) := by
  obtain ⟨i0, hi, hz0, hz1, hz2⟩ := info_parts Tryz.infoNum
  have h := run_make (P := Tryz.prog) W 46 29 i0 (.agg #[.bool false, .slice none 0 0]) (by kernel_rfl) hi hz0 .i64 .i64 m m (by omega) (by omega) (by rw [hz2]; omega) (by omega)
  rw [hz1, Int.toNat_natCast] at h
  exact h

set_option linter.unusedSimpArgs false in
set_option maxRecDepth 100000 in
set_option maxHeartbeats 3200000 in
theorem pivots_any (w : World) (va : Value) (n nv : Nat) (hs : List (List Int)) (p : Nat → Nat) (ha : MatN w va hs nv) (F : FormL n hs p) (hn : n ≤ 100) (hm : hs.length ≤ 100) :
    Calls Tryz.prog 67 #[va] w fun e w' => VecPost w (pivL hs p) nv e w' := by
  have HA := hide ha; have HF := hide F
  obtain ⟨ao, acap, rfl, -, -⟩ := ha
  have hpl := pivL_len hs p
  have hmk := run_mkIs hs.length (by omega)
  have HI := hide (VecO.made w w (Below.refl _ _) (pivL hs p).length nv)
  rw [hpl] at HI
  clear F
  go_enter Tryz.func67, Tryz.ntmps67
  go_wp2
  clear hmk
  go_loopw [10] (fun x wr => ∃ k : Nat, k ≤ hs.length ∧ x = .int .i64 k ∧ Hid (VecO w wr w.heap.size ((pivL hs p).take k ++ List.replicate ((pivL hs p).length - k) 0) nv)) (fun x _ => hs.length - (intOf x).toNat)
  case atStart => exact ⟨0, Nat.zero_le _, rfl, hide (by rw [hpl]; exact HI.out)⟩
  case round =>
    clear HI
    obtain ⟨k, hk, rfl, HI⟩ := hrel
    by_cases hkl : k < hs.length
    · obtain ⟨rb, roff, _, e, lr, ru, cu, hru⟩ := HA.out.at k hkl
      simp only [Value.slice.injEq, true_and] at e
      obtain ⟨rfl, rfl⟩ := e
      have hul : hs[k].length = n := HF.out.len _ (List.getElem_mem hkl)
      obtain ⟨hf1, hf2, hf3⟩ := HF.out.first hkl
      have hz : (pivL hs p).getD k 0 = hs[k].getD (p k) 0 := by rw [pivL_get hs p k hkl]; unfold ent; rw [getD_row hkl]
      have HFS := hide (fill_step (pivL hs p) k (by omega))
      rw [hz] at HFS
      have hfl := fill_len (pivL hs p) k (by omega)
      clear hz
      generalize hs[k] = us at *
      obtain ⟨vb, voff, vcap, rfl⟩ := hru.form (by omega)
      obtain ⟨lv, neg, lo, ll, lc, z0, z1, nz⟩ := hru.at (p k) (by omega)
      have hb0 := HI.out.below
      have HU := hide ((hru.below hb0 (Nat.le_refl _)).below (Below.refl wr.heap.size wr).drew (Nat.le_refl _))
      have c1 := (hb0.cell (p := ⟨rb, roff + k, none⟩) lr).trans cu
      have c2 := (hb0.cell (p := ⟨vb, voff + p k * 2, none⟩) lv).trans z0
      have c3 := (hb0.cell (p := ⟨vb, voff + p k * 2 + 1, none⟩) lv).trans z1
      have HNZ := hide (nz.below hb0 (Nat.le_refl _))
      have HFI := hide (firstV_any wr.drew _ us nv HU.out (by omega))
      rw [hf1, hul] at HFI
      have hrb : rb < wr.heap.size := Nat.lt_of_lt_of_le lr hb0.size
      have hvb : vb < wr.heap.size := Nat.lt_of_lt_of_le lv hb0.size
      rw [hul] at c1
      have hpn : p k < n := hf2
      clear hru cu z0 z1 nz hf1 hf2 hf3 hul HU hb0
      generalize us.getD (p k) 0 = z at *
      generalize hpk : p k = f at *
      go_wp2_with fail
      refine upto_start (S := (fun w' => w'.cell? ⟨rb, roff + k, none⟩ = some (.slice (some ⟨vb, voff, none⟩) n vcap) ∧ w'.cell? ⟨vb, voff + f * 2, none⟩ = some (.bool neg) ∧ w'.cell? ⟨vb, voff + f * 2 + 1, none⟩ = some (.slice lo ll lc))) (k := 14) (by kernel_rfl) (by exact ⟨c1, c2, c3⟩) (fun hHeld => ?_)
      refine upto_run (v := ?_) 0 13 [14] rfl rfl (by kernel_rfl) (by kernel_rfl) (by kernel_rfl) (by kernel_rfl) (by kernel_rfl) (fun _ _ _ h => h) (by rfl) ?_ (by assumption) ?_
      rotate_left
      · (intro w hSw; (try dsimp only at hSw); obtain ⟨hS1, hS2, hS3⟩ := hSw; go_simp; with_reducible rfl)
      simp only [Act.put, List.setIfInBounds_toArray, List.set_cons_zero, List.set_cons_succ]
      refine upto_run (v := ?_) 1 14 [14] rfl rfl (by kernel_rfl) (by kernel_rfl) (by kernel_rfl) (by kernel_rfl) (by kernel_rfl) (fun _ _ _ h => h) (by rfl) ?_ (by assumption) ?_
      rotate_left
      · (intro w hSw; (try dsimp only at hSw); obtain ⟨hS1, hS2, hS3⟩ := hSw; go_simp; with_reducible rfl)
      simp only [Act.put, List.setIfInBounds_toArray, List.set_cons_zero, List.set_cons_succ]
      refine upto_run (v := ?_) 2 15 [14] rfl rfl (by kernel_rfl) (by kernel_rfl) (by kernel_rfl) (by kernel_rfl) (by kernel_rfl) (fun _ _ _ h => h) (by rfl) ?_ (by assumption) ?_
      rotate_left
      · (intro w hSw; (try dsimp only at hSw); obtain ⟨hS1, hS2, hS3⟩ := hSw; go_simp; with_reducible rfl)
      simp only [Act.put, List.setIfInBounds_toArray, List.set_cons_zero, List.set_cons_succ]
      refine upto_run (v := ?_) 3 16 [14] rfl rfl (by kernel_rfl) (by kernel_rfl) (by kernel_rfl) (by kernel_rfl) (by kernel_rfl) (fun _ _ _ h => h) (by rfl) ?_ (by assumption) ?_
      rotate_left
      · (intro w hSw; (try dsimp only at hSw); obtain ⟨hS1, hS2, hS3⟩ := hSw; go_simp; with_reducible rfl)
      simp only [Act.put, List.setIfInBounds_toArray, List.set_cons_zero, List.set_cons_succ]
      refine upto_run (v := ?_) 4 17 [14] rfl rfl (by kernel_rfl) (by kernel_rfl) (by kernel_rfl) (by kernel_rfl) (by kernel_rfl) (fun _ _ _ h => h) (by rfl) ?_ (by assumption) ?_
      rotate_left
      · (intro w hSw; (try dsimp only at hSw); obtain ⟨hS1, hS2, hS3⟩ := hSw; go_simp; with_reducible rfl)
      simp only [Act.put, List.setIfInBounds_toArray, List.set_cons_zero, List.set_cons_succ]
      refine upto_run (v := ?_) 5 18 [14] rfl rfl (by kernel_rfl) (by kernel_rfl) (by kernel_rfl) (by kernel_rfl) (by kernel_rfl) (fun _ _ _ h => h) (by rfl) ?_ (by assumption) ?_
      rotate_left
      · (intro w hSw; (try dsimp only at hSw); obtain ⟨hS1, hS2, hS3⟩ := hSw; go_simp; with_reducible rfl)
      simp only [Act.put, List.setIfInBounds_toArray, List.set_cons_zero, List.set_cons_succ]
      refine upto_run (v := ?_) 6 19 [14] rfl rfl (by kernel_rfl) (by kernel_rfl) (by kernel_rfl) (by kernel_rfl) (by kernel_rfl) (fun _ _ _ h => h) (by rfl) ?_ (by assumption) ?_
      rotate_left
      · (intro w hSw; (try dsimp only at hSw); obtain ⟨hS1, hS2, hS3⟩ := hSw; go_simp; with_reducible rfl)
      simp only [Act.put, List.setIfInBounds_toArray, List.set_cons_zero, List.set_cons_succ]
      refine upto_run (v := ?_) 7 20 [14] rfl rfl (by kernel_rfl) (by kernel_rfl) (by kernel_rfl) (by kernel_rfl) (by kernel_rfl) (fun _ _ _ h => h) (by rfl) ?_ (by assumption) ?_
      rotate_left
      · (intro w hSw; (try dsimp only at hSw); obtain ⟨hS1, hS2, hS3⟩ := hSw; go_simp; with_reducible rfl)
      simp only [Act.put, List.setIfInBounds_toArray, List.set_cons_zero, List.set_cons_succ]
      refine upto_run (v := ?_) 8 21 [14] rfl rfl (by kernel_rfl) (by kernel_rfl) (by kernel_rfl) (by kernel_rfl) (by kernel_rfl) (fun _ _ _ h => h) (by rfl) ?_ (by assumption) ?_
      rotate_left
      · (intro w hSw; (try dsimp only at hSw); obtain ⟨hS1, hS2, hS3⟩ := hSw; go_simp; with_reducible rfl)
      simp only [Act.put, List.setIfInBounds_toArray, List.set_cons_zero, List.set_cons_succ]
      refine upto_run (v := ?_) 9 22 [14] rfl rfl (by kernel_rfl) (by kernel_rfl) (by kernel_rfl) (by kernel_rfl) (by kernel_rfl) (fun _ _ _ h => h) (by rfl) ?_ (by assumption) ?_
      rotate_left
      · (intro w hSw; (try dsimp only at hSw); obtain ⟨hS1, hS2, hS3⟩ := hSw; go_simp; with_reducible rfl)
      simp only [Act.put, List.setIfInBounds_toArray, List.set_cons_zero, List.set_cons_succ]
      refine upto_one 10 (by kernel_rfl) rfl (fun K hK => ?_)
      go_simp
      refine HFI.out.mono ?_
      rintro e w1 ⟨rfl, hb1⟩
      have hb1' : Below wr.heap.size wr w1 := (Below.refl _ _).drew.trans hb1
      have d1 := (hb1'.cell (p := ⟨rb, roff + k, none⟩) hrb).trans c1
      have d2 := (hb1'.cell (p := ⟨vb, voff + f * 2, none⟩) hvb).trans c2
      have d3 := (hb1'.cell (p := ⟨vb, voff + f * 2 + 1, none⟩) hvb).trans c3
      have HI2 := hide (HI.out.later hb1')
      have HN1 := hide (HNZ.out.below hb1' (Nat.le_refl _))
      clear hb1 hb1' HFI HI HNZ
      go_wp2_with fail
      refine hK.out _ _ (fun _ => ⟨d1, d2, d3⟩) ?_
      clear hK K hHeld
      try simp only [Act.put, List.setIfInBounds_toArray, List.set_cons_zero, List.set_cons_succ]
      have hHeld1 : (fun w' => w'.cell? ⟨rb, roff + k, none⟩ = some (.slice (some ⟨vb, voff, none⟩) n vcap) ∧ w'.cell? ⟨vb, voff + f * 2, none⟩ = some (.bool neg) ∧ w'.cell? ⟨vb, voff + f * 2 + 1, none⟩ = some (.slice lo ll lc)) w1 := ⟨d1, d2, d3⟩
      refine upto_run (v := ?_) 11 24 [14] rfl rfl (by kernel_rfl) (by kernel_rfl) (by kernel_rfl) (by kernel_rfl) (by kernel_rfl) (fun _ _ _ h => h) (by rfl) ?_ (by assumption) ?_
      rotate_left
      · (intro w hSw; (try dsimp only at hSw); obtain ⟨hS1, hS2, hS3⟩ := hSw; go_simp; with_reducible rfl)
      simp only [Act.put, List.setIfInBounds_toArray, List.set_cons_zero, List.set_cons_succ]
      refine upto_run (v := ?_) 12 25 [14] rfl rfl (by kernel_rfl) (by kernel_rfl) (by kernel_rfl) (by kernel_rfl) (by kernel_rfl) (fun _ _ _ h => h) (by rfl) ?_ (by assumption) ?_
      rotate_left
      · (intro w hSw; (try dsimp only at hSw); obtain ⟨hS1, hS2, hS3⟩ := hSw; go_simp; with_reducible rfl)
      simp only [Act.put, List.setIfInBounds_toArray, List.set_cons_zero, List.set_cons_succ]
      refine upto_run (v := ?_) 13 26 [14] rfl rfl (by kernel_rfl) (by kernel_rfl) (by kernel_rfl) (by kernel_rfl) (by kernel_rfl) (fun _ _ _ h => h) (by rfl) ?_ (by assumption) ?_
      rotate_left
      · (intro w hSw; (try dsimp only at hSw); obtain ⟨hS1, hS2, hS3⟩ := hSw; go_simp; with_reducible rfl)
      simp only [Act.put, List.setIfInBounds_toArray, List.set_cons_zero, List.set_cons_succ]
      obtain ⟨neg0, o0, l0, c0', k0, k1, -⟩ := HI2.out.at k (by omega)
      have f0 := HI2.out.thaw (k * 2)
      have f1 := HI2.out.thaw (k * 2 + 1)
      have hP := HI2.out.lt
      have HN := hide (HI2.out.set (k := k) (by omega) HN1.out)
      rw [HFS.out] at HN
      refine upto_one 14 (by kernel_rfl) rfl (fun K hK => ?_)
      go_simp
      refine hK.out _ _ (fun h => absurd h (by decide)) ?_
      clear hK K
      try simp only [Act.put, List.setIfInBounds_toArray, List.set_cons_zero, List.set_cons_succ]
      refine upto_done (by kernel_rfl) ?_
      clear c1 c2 c3 d1 d2 d3 k0 k1 f0 f1 hHeld1 HI2 HN1 HFS
      go_wp2
      go_roundw
      case rel => exact ⟨k + 1, by omega, by go_num, HN⟩
      case measure => simp [intOf]; omega
    · obtain rfl : k = hs.length := by omega
      rw [← hpl] at HI
      have HFF := hide HI.out.full
      rw [hpl] at HI
      clear HI
      go_wp2
      go_ret
      exact ⟨_, by rw [hpl]; rfl, HFF.out⟩

end Go.Proofs.YtdedolkgcdlmeaaGreatDoor
