/- mat.pivotsAlone, mat.pivots. -/
import Derived.Test.YtdedolkgcdlmeaaGreatDoorSmT
import Derived.Test.YtdedolkgcdlmeaaGreatDoorBehL
import Derived.Test.YtdedolkgcdlmeaaGreatDoorGcdA
import Derived.Test.YtdedolkgcdlmeaaGreatDoorSmU

namespace Go.Proofs.YtdedolkgcdlmeaaGreatDoor
open Go.RowKit Limbs

theorem VecN.drop0 {W : World} {b off cap : Nat} {us : List Int} {nv n m : Nat} (h : VecN W (.slice (some ⟨b, off, none⟩) us.length cap) us nv) (hn : n + m = us.length) : VecN W (.slice (some ⟨b, off + n * 2, none⟩) m (cap - n)) (us.drop n) nv := by
 by_cases hm : 0 < m
 ·exact h.drop hn hm
 ·have hl : (us.drop n).length = m := by rw [List.length_drop]; omega
  exact ⟨_, _, by rw [hl], by rw [hl]; omega, fun h0 => absurd h0 (by rw [hl]; exact hm)⟩

def aloneTo (hs : List (List Int)) (p : Nat → Nat) (n k : Nat) : Prop := ∀ i, i < k → ∀ b, p i < b → b < n → ent hs i b = 0

theorem alone_drop {us : List Int} {f n : Nat} (hl : us.length = n) : first (us.drop (f + 1)) < 0 ↔ ∀ b, f < b → b < n → us.getD b 0 = 0 := by
 rw [first_neg]
 constructor
 ·intro h b h1 h2
  have := h (b - (f + 1)) (by rw [List.length_drop]; omega)
  rw [getD_drop', show f + 1 + (b - (f + 1)) = b by omega] at this
  exact this
 ·intro h b hb
  rw [List.length_drop] at hb
  rw [getD_drop']
  exact h _ (by omega) (by omega)

set_option linter.unusedSimpArgs false in
set_option maxRecDepth 100000 in
set_option maxHeartbeats 3200000 in
theorem pivotsAlone_any (w : World) (va : Value) (n nv : Nat) (hs : List (List Int)) (p : Nat → Nat) (ha : MatN w va hs nv) (F : FormL n hs p) (hn : n ≤ 100) (hm : hs.length ≤ 100) :
  Calls Tryz.prog 64 #[va] w fun e w' => ∃ r : Bool, e = .returned (.bool r) ∧ (r = true ↔ aloneTo hs p n hs.length) ∧ Below w.heap.size w w' := by
 have HA := hide ha; have HF := hide F
 obtain ⟨ao, acap, rfl, -, -⟩ := ha
 clear F
 go_enter Tryz.func64, Tryz.ntmps64
 go_wp2
 go_loopw [6] (fun x wr => ∃ k : Nat, k ≤ hs.length ∧ x = .int .i64 k ∧ Hid (aloneTo hs p n k) ∧ Hid (Below w.heap.size w wr)) (fun x _ => hs.length - (intOf x).toNat)
 case atStart => exact ⟨0, Nat.zero_le _, rfl, hide (fun i hi => absurd hi (Nat.not_lt_zero i)), hide (Below.refl _ _)⟩
 case round =>
  obtain ⟨k, hk, rfl, HAL, HBE⟩ := hrel
  by_cases hkl : k < hs.length
  ·obtain ⟨rb, roff, _, e, lr, ru, cu, hru⟩ := HA.out.at k hkl
   simp only [Value.slice.injEq, true_and] at e
   obtain ⟨rfl, rfl⟩ := e
   have hul : hs[k].length = n := HF.out.len _ (List.getElem_mem hkl)
   obtain ⟨hf1, hf2, hf3⟩ := HF.out.first hkl
   have HE : Hid (∀ b, ent hs k b = hs[k].getD b 0) := fun b => by unfold ent; rw [getD_row hkl]
   have hpn : p k < n := hf2
   generalize hs[k] = us at *
   obtain ⟨vb, voff, vcap, rfl⟩ := hru.form (by omega)
   have hcap : n ≤ vcap := by
    obtain ⟨_, _, e, h1, -⟩ := hru
    simp only [Value.slice.injEq, true_and] at e
    omega
   have HU := hide ((hru.below HBE.out (Nat.le_refl _)).below (Below.refl wr.heap.size wr).drew (Nat.le_refl _))
   have HD : Hid (VecN wr.drew (.slice (if vcap = p k + 1 then some ⟨vb, voff, none⟩ else some ⟨vb, voff + (p k + 1) * 2, none⟩) (n - (p k + 1)) (vcap - (p k + 1))) (us.drop (p k + 1)) nv) := by
    by_cases hvc : vcap = p k + 1
    ·rw [if_pos hvc]
     have hl : (us.drop (p k + 1)).length = n - (p k + 1) := by rw [List.length_drop]; omega
     exact ⟨_, _, by rw [hl], by rw [hl]; omega, fun h0 => absurd h0 (by rw [hl]; omega)⟩
    ·rw [if_neg hvc]
     exact HU.out.drop0 (n := p k + 1) (m := n - (p k + 1)) (by omega)
   have HDL : Hid ((us.drop (p k + 1)).length ≤ 100) := by
    show _ ≤ _
    rw [List.length_drop]; omega
   have HAD := hide (alone_drop (us := us) (f := p k) hul)
   have c1 := (HBE.out.cell (p := ⟨rb, roff + k, none⟩) lr).trans cu
   have HFI := hide (firstV_any wr.drew _ us nv HU.out (by omega))
   rw [hf1, hul] at HFI
   have hrb : rb < wr.heap.size := Nat.lt_of_lt_of_le lr HBE.out.size
   rw [hul] at c1
   clear hru cu hf1 hf2 hf3 hul HU
   generalize hpk : p k = f at *
   obtain ⟨f1, hf1⟩ : ∃ f1 : Nat, f1 = f + 1 := ⟨_, rfl⟩
   have g1 : f1 ≤ n := by omega
   have g2 : IntKind.i64.wrap ((f : Int) + 1) = (f1 : Int) := by rw [IntKind.wrap_i64]; omega
   rw [← hf1] at HD HAD HDL
   have HF1 := hide hf1; have HPK := hide hpk
   clear hf1 hpk
   go_wp2_with fail
   refine upto_start (S := (fun w' => w'.cell? ⟨rb, roff + k, none⟩ = some (.slice (some ⟨vb, voff, none⟩) n vcap))) (k := 13) (by kernel_rfl) (by exact c1) (fun hHeld => ?_)
   refine upto_run (v := ?_) 0 9 [] rfl rfl (by kernel_rfl) (by kernel_rfl) (by kernel_rfl) (by kernel_rfl) (by kernel_rfl) (fun _ _ _ h => h) (by rfl) ?_ (by assumption) ?_
   rotate_left
   ·(intro w hSw; (try dsimp only at hSw); go_simp; with_reducible rfl)
   simp only [Act.put, List.setIfInBounds_toArray, List.set_cons_zero, List.set_cons_succ]
   refine upto_run (v := ?_) 1 10 [] rfl rfl (by kernel_rfl) (by kernel_rfl) (by kernel_rfl) (by kernel_rfl) (by kernel_rfl) (fun _ _ _ h => h) (by rfl) ?_ (by assumption) ?_
   rotate_left
   ·(intro w hSw; (try dsimp only at hSw); go_simp; with_reducible rfl)
   simp only [Act.put, List.setIfInBounds_toArray, List.set_cons_zero, List.set_cons_succ]
   refine upto_run (v := ?_) 2 11 [] rfl rfl (by kernel_rfl) (by kernel_rfl) (by kernel_rfl) (by kernel_rfl) (by kernel_rfl) (fun _ _ _ h => h) (by rfl) ?_ (by assumption) ?_
   rotate_left
   ·(intro w hSw; (try dsimp only at hSw); go_simp; with_reducible rfl)
   simp only [Act.put, List.setIfInBounds_toArray, List.set_cons_zero, List.set_cons_succ]
   refine upto_run (v := ?_) 3 12 [] rfl rfl (by kernel_rfl) (by kernel_rfl) (by kernel_rfl) (by kernel_rfl) (by kernel_rfl) (fun _ _ _ h => h) (by rfl) ?_ (by assumption) ?_
   rotate_left
   ·(intro w hSw; (try dsimp only at hSw); go_simp; with_reducible rfl)
   simp only [Act.put, List.setIfInBounds_toArray, List.set_cons_zero, List.set_cons_succ]
   refine upto_run (v := ?_) 4 13 [] rfl rfl (by kernel_rfl) (by kernel_rfl) (by kernel_rfl) (by kernel_rfl) (by kernel_rfl) (fun _ _ _ h => h) (by rfl) ?_ (by assumption) ?_
   rotate_left
   ·(intro w hSw; (try dsimp only at hSw); go_simp; with_reducible rfl)
   simp only [Act.put, List.setIfInBounds_toArray, List.set_cons_zero, List.set_cons_succ]
   refine upto_run (v := ?_) 5 14 [] rfl rfl (by kernel_rfl) (by kernel_rfl) (by kernel_rfl) (by kernel_rfl) (by kernel_rfl) (fun _ _ _ h => h) (by rfl) ?_ (by assumption) ?_
   rotate_left
   ·(intro w hSw; (try dsimp only at hSw); go_simp; with_reducible rfl)
   simp only [Act.put, List.setIfInBounds_toArray, List.set_cons_zero, List.set_cons_succ]
   refine upto_run (v := ?_) 6 15 [] rfl rfl (by kernel_rfl) (by kernel_rfl) (by kernel_rfl) (by kernel_rfl) (by kernel_rfl) (fun _ _ _ h => h) (by rfl) ?_ (by assumption) ?_
   rotate_left
   ·(intro w hSw; (try dsimp only at hSw); go_simp; with_reducible rfl)
   simp only [Act.put, List.setIfInBounds_toArray, List.set_cons_zero, List.set_cons_succ]
   refine upto_run (v := ?_) 7 16 [] rfl rfl (by kernel_rfl) (by kernel_rfl) (by kernel_rfl) (by kernel_rfl) (by kernel_rfl) (fun _ _ _ h => h) (by rfl) ?_ (by assumption) ?_
   rotate_left
   ·(intro w hSw; (try dsimp only at hSw); go_simp; with_reducible rfl)
   simp only [Act.put, List.setIfInBounds_toArray, List.set_cons_zero, List.set_cons_succ]
   refine upto_one 8 (by kernel_rfl) rfl (fun K hK => ?_)
   go_simp
   refine HFI.out.mono ?_
   rintro e w1 ⟨rfl, hb1⟩
   have hb1' : Below wr.heap.size wr w1 := (Below.refl _ _).drew.trans hb1
   have c2 := (hb1'.cell (p := ⟨rb, roff + k, none⟩) hrb).trans c1
   have HD1 := hide (HD.out.below hb1 (Nat.le_refl _))
   have HB1 := hide (HBE.out.trans (hb1'.mono HBE.out.size))
   clear hb1 hb1' HFI HD
   go_wp2_with fail
   refine hK.out _ _ (fun _ => c2) ?_
   clear hK K hHeld
   try simp only [Act.put, List.setIfInBounds_toArray, List.set_cons_zero, List.set_cons_succ]
   have hHeld1 : (fun w' => w'.cell? ⟨rb, roff + k, none⟩ = some (.slice (some ⟨vb, voff, none⟩) n vcap)) w1 := c2
   refine upto_run (v := ?_) 9 18 [] rfl rfl (by kernel_rfl) (by kernel_rfl) (by kernel_rfl) (by kernel_rfl) (by kernel_rfl) (fun _ _ _ h => h) (by rfl) ?_ (by assumption) ?_
   rotate_left
   ·(intro w hSw; (try dsimp only at hSw); go_simp; with_reducible rfl)
   simp only [Act.put, List.setIfInBounds_toArray, List.set_cons_zero, List.set_cons_succ]
   refine upto_run (v := ?_) 10 19 [] rfl rfl (by kernel_rfl) (by kernel_rfl) (by kernel_rfl) (by kernel_rfl) (by kernel_rfl) (fun _ _ _ h => h) (by rfl) ?_ (by assumption) ?_
   rotate_left
   ·(intro w hSw; (try dsimp only at hSw); go_simp; with_reducible rfl)
   simp only [Act.put, List.setIfInBounds_toArray, List.set_cons_zero, List.set_cons_succ]
   generalize (if vcap = f1 then some (⟨vb, voff, none⟩ : Addr) else some ⟨vb, voff + f1 * 2, none⟩) = ad at *
   refine upto_one 11 (by kernel_rfl) rfl (fun K hK => ?_)
   go_simp
   refine (zeroV_any w1 _ _ nv (by exact HD1.out) (by have := HDL.out; omega)).mono ?_
   rintro e w2 ⟨rfl, hb2⟩
   have c3 := (hb2.cell (p := ⟨rb, roff + k, none⟩) (Nat.lt_of_lt_of_le lr HB1.out.size)).trans c2
   have HB2 := hide (HB1.out.trans (hb2.mono HB1.out.size))
   clear hb2
   go_wp2_with fail
   refine hK.out _ _ (fun _ => c3) ?_
   clear hK K hHeld1
   try simp only [Act.put, List.setIfInBounds_toArray, List.set_cons_zero, List.set_cons_succ]
   have hHeld2 : (fun w' => w'.cell? ⟨rb, roff + k, none⟩ = some (.slice (some ⟨vb, voff, none⟩) n vcap)) w2 := c3
   refine upto_run (v := ?_) 12 21 [] rfl rfl (by kernel_rfl) (by kernel_rfl) (by kernel_rfl) (by kernel_rfl) (by kernel_rfl) (fun _ _ _ h => h) (by rfl) ?_ (by assumption) ?_
   rotate_left
   ·(intro w hSw; (try dsimp only at hSw); go_simp; with_reducible rfl)
   simp only [Act.put, List.setIfInBounds_toArray, List.set_cons_zero, List.set_cons_succ]
   refine upto_done (by kernel_rfl) ?_
   clear c1 c2 c3 hHeld2 HB1 HD1
   generalize hbz : decide (first (us.drop f1) < 0) = bz
   cases bz with
   | true =>
    have HAL' : Hid (aloneTo hs p n (k + 1)) := fun i hi b h1 h2 => by
     by_cases e : i = k
     ·subst e
      rw [HE.out b]
      exact HAD.out.1 (of_decide_eq_true hbz) b (by have := HPK.out; omega) h2
     ·exact HAL.out i (by omega) b h1 h2
    clear hbz
    go_wp2
    go_roundw
    case rel => exact ⟨k + 1, by omega, by go_num, HAL', HB2⟩
    case measure => simp [intOf]; omega
   | false =>
    have HNO : Hid (¬ aloneTo hs p n hs.length) := fun h => of_decide_eq_false hbz (HAD.out.2 fun b h1 h2 => by
     have := h k hkl b (by have := HPK.out; omega) h2
     rwa [HE.out b] at this)
    clear hbz
    go_wp2
    go_ret
    exact ⟨false, rfl, ⟨fun h => (by cases h), fun h => absurd h HNO.out⟩, HB2.out⟩
  ·obtain rfl : k = hs.length := by omega
   go_wp2
   go_ret
   exact ⟨true, rfl, ⟨fun _ => HAL.out, fun _ => rfl⟩, HBE.out⟩

def pivL (hs : List (List Int)) (p : Nat → Nat) : List Int := (List.range hs.length).map fun k => ent hs k (p k)

theorem pivL_len (hs : List (List Int)) (p : Nat → Nat) : (pivL hs p).length = hs.length := by simp [pivL]

theorem pivL_get (hs : List (List Int)) (p : Nat → Nat) (k : Nat) (hk : k < hs.length) : (pivL hs p).getD k 0 = ent hs k (p k) := range_getD _ _ k hk

theorem run_mkIs (m : Nat) (hm : m ≤ 1000) (W : World) : (Instr.makeSlice 46 (.int .i64 (m : Int)) (.int .i64 (m : Int))).run Tryz.prog W = .ok (.slice (some ⟨W.heap.size, 0, none⟩) m m) (W.alloc (.cells (madeCells #[.bool false, .slice none 0 0] (m * 2)) 29)) := by
 obtain ⟨i0, hi, hz0, hz1, hz2⟩ := info_parts Tryz.infoNum
 have h := run_make (P := Tryz.prog) W 46 29 i0 (.agg #[.bool false, .slice none 0 0]) (by kernel_rfl) hi hz0 .i64 .i64 m m (by omega) (by omega) (by rw [hz2]; omega) (by omega)
 rw [hz1, Int.toNat_natCast] at h
 exact h

set_option linter.unusedSimpArgs false in
set_option maxRecDepth 100000 in
set_option maxHeartbeats 3200000 in
theorem pivots_any (w : World) (va : Value) (n nv : Nat) (hs : List (List Int)) (p : Nat → Nat) (ha : MatN w va hs nv) (F : FormL n hs p) (hn : n ≤ 100) (hm : hs.length ≤ 100) :
  Calls Tryz.prog 67 #[va] w fun e w' => VecPost w (pivL hs p) nv e w' := by
 have HA := hide ha; have HF := hide F
 obtain ⟨ao, acap, rfl, -, -⟩ := ha
 have hpl := pivL_len hs p
 have hmk := run_mkIs hs.length (by omega)
 have HI := hide (VecO.made w w (Below.refl _ _) (pivL hs p).length nv)
 rw [hpl] at HI
 clear F
 go_enter Tryz.func67, Tryz.ntmps67
 go_wp2
 clear hmk
 go_loopw [10] (fun x wr => ∃ k : Nat, k ≤ hs.length ∧ x = .int .i64 k ∧ Hid (VecO w wr w.heap.size ((pivL hs p).take k ++ List.replicate ((pivL hs p).length - k) 0) nv)) (fun x _ => hs.length - (intOf x).toNat)
 case atStart => exact ⟨0, Nat.zero_le _, rfl, hide (by rw [hpl]; exact HI.out)⟩
 case round =>
  clear HI
  obtain ⟨k, hk, rfl, HI⟩ := hrel
  by_cases hkl : k < hs.length
  ·obtain ⟨rb, roff, _, e, lr, ru, cu, hru⟩ := HA.out.at k hkl
   simp only [Value.slice.injEq, true_and] at e
   obtain ⟨rfl, rfl⟩ := e
   have hul : hs[k].length = n := HF.out.len _ (List.getElem_mem hkl)
   obtain ⟨hf1, hf2, hf3⟩ := HF.out.first hkl
   have hz : (pivL hs p).getD k 0 = hs[k].getD (p k) 0 := by rw [pivL_get hs p k hkl]; unfold ent; rw [getD_row hkl]
   have HFS := hide (fill_step (pivL hs p) k (by omega))
   rw [hz] at HFS
   have hfl := fill_len (pivL hs p) k (by omega)
   clear hz
   generalize hs[k] = us at *
   obtain ⟨vb, voff, vcap, rfl⟩ := hru.form (by omega)
   obtain ⟨lv, neg, lo, ll, lc, z0, z1, nz⟩ := hru.at (p k) (by omega)
   have hb0 := HI.out.below
   have HU := hide ((hru.below hb0 (Nat.le_refl _)).below (Below.refl wr.heap.size wr).drew (Nat.le_refl _))
   have c1 := (hb0.cell (p := ⟨rb, roff + k, none⟩) lr).trans cu
   have c2 := (hb0.cell (p := ⟨vb, voff + p k * 2, none⟩) lv).trans z0
   have c3 := (hb0.cell (p := ⟨vb, voff + p k * 2 + 1, none⟩) lv).trans z1
   have HNZ := hide (nz.below hb0 (Nat.le_refl _))
   have HFI := hide (firstV_any wr.drew _ us nv HU.out (by omega))
   rw [hf1, hul] at HFI
   have hrb : rb < wr.heap.size := Nat.lt_of_lt_of_le lr hb0.size
   have hvb : vb < wr.heap.size := Nat.lt_of_lt_of_le lv hb0.size
   rw [hul] at c1
   have hpn : p k < n := hf2
   clear hru cu z0 z1 nz hf1 hf2 hf3 hul HU hb0
   generalize us.getD (p k) 0 = z at *
   generalize hpk : p k = f at *
   go_wp2_with fail
   refine upto_start (S := (fun w' => w'.cell? ⟨rb, roff + k, none⟩ = some (.slice (some ⟨vb, voff, none⟩) n vcap) ∧ w'.cell? ⟨vb, voff + f * 2, none⟩ = some (.bool neg) ∧ w'.cell? ⟨vb, voff + f * 2 + 1, none⟩ = some (.slice lo ll lc))) (k := 14) (by kernel_rfl) (by exact ⟨c1, c2, c3⟩) (fun hHeld => ?_)
   refine upto_run (v := ?_) 0 13 [14] rfl rfl (by kernel_rfl) (by kernel_rfl) (by kernel_rfl) (by kernel_rfl) (by kernel_rfl) (fun _ _ _ h => h) (by rfl) ?_ (by assumption) ?_
   rotate_left
   ·(intro w hSw; (try dsimp only at hSw); obtain ⟨hS1, hS2, hS3⟩ := hSw; go_simp; with_reducible rfl)
   simp only [Act.put, List.setIfInBounds_toArray, List.set_cons_zero, List.set_cons_succ]
   refine upto_run (v := ?_) 1 14 [14] rfl rfl (by kernel_rfl) (by kernel_rfl) (by kernel_rfl) (by kernel_rfl) (by kernel_rfl) (fun _ _ _ h => h) (by rfl) ?_ (by assumption) ?_
   rotate_left
   ·(intro w hSw; (try dsimp only at hSw); obtain ⟨hS1, hS2, hS3⟩ := hSw; go_simp; with_reducible rfl)
   simp only [Act.put, List.setIfInBounds_toArray, List.set_cons_zero, List.set_cons_succ]
   refine upto_run (v := ?_) 2 15 [14] rfl rfl (by kernel_rfl) (by kernel_rfl) (by kernel_rfl) (by kernel_rfl) (by kernel_rfl) (fun _ _ _ h => h) (by rfl) ?_ (by assumption) ?_
   rotate_left
   ·(intro w hSw; (try dsimp only at hSw); obtain ⟨hS1, hS2, hS3⟩ := hSw; go_simp; with_reducible rfl)
   simp only [Act.put, List.setIfInBounds_toArray, List.set_cons_zero, List.set_cons_succ]
   refine upto_run (v := ?_) 3 16 [14] rfl rfl (by kernel_rfl) (by kernel_rfl) (by kernel_rfl) (by kernel_rfl) (by kernel_rfl) (fun _ _ _ h => h) (by rfl) ?_ (by assumption) ?_
   rotate_left
   ·(intro w hSw; (try dsimp only at hSw); obtain ⟨hS1, hS2, hS3⟩ := hSw; go_simp; with_reducible rfl)
   simp only [Act.put, List.setIfInBounds_toArray, List.set_cons_zero, List.set_cons_succ]
   refine upto_run (v := ?_) 4 17 [14] rfl rfl (by kernel_rfl) (by kernel_rfl) (by kernel_rfl) (by kernel_rfl) (by kernel_rfl) (fun _ _ _ h => h) (by rfl) ?_ (by assumption) ?_
   rotate_left
   ·(intro w hSw; (try dsimp only at hSw); obtain ⟨hS1, hS2, hS3⟩ := hSw; go_simp; with_reducible rfl)
   simp only [Act.put, List.setIfInBounds_toArray, List.set_cons_zero, List.set_cons_succ]
   refine upto_run (v := ?_) 5 18 [14] rfl rfl (by kernel_rfl) (by kernel_rfl) (by kernel_rfl) (by kernel_rfl) (by kernel_rfl) (fun _ _ _ h => h) (by rfl) ?_ (by assumption) ?_
   rotate_left
   ·(intro w hSw; (try dsimp only at hSw); obtain ⟨hS1, hS2, hS3⟩ := hSw; go_simp; with_reducible rfl)
   simp only [Act.put, List.setIfInBounds_toArray, List.set_cons_zero, List.set_cons_succ]
   refine upto_run (v := ?_) 6 19 [14] rfl rfl (by kernel_rfl) (by kernel_rfl) (by kernel_rfl) (by kernel_rfl) (by kernel_rfl) (fun _ _ _ h => h) (by rfl) ?_ (by assumption) ?_
   rotate_left
   ·(intro w hSw; (try dsimp only at hSw); obtain ⟨hS1, hS2, hS3⟩ := hSw; go_simp; with_reducible rfl)
   simp only [Act.put, List.setIfInBounds_toArray, List.set_cons_zero, List.set_cons_succ]
   refine upto_run (v := ?_) 7 20 [14] rfl rfl (by kernel_rfl) (by kernel_rfl) (by kernel_rfl) (by kernel_rfl) (by kernel_rfl) (fun _ _ _ h => h) (by rfl) ?_ (by assumption) ?_
   rotate_left
   ·(intro w hSw; (try dsimp only at hSw); obtain ⟨hS1, hS2, hS3⟩ := hSw; go_simp; with_reducible rfl)
   simp only [Act.put, List.setIfInBounds_toArray, List.set_cons_zero, List.set_cons_succ]
   refine upto_run (v := ?_) 8 21 [14] rfl rfl (by kernel_rfl) (by kernel_rfl) (by kernel_rfl) (by kernel_rfl) (by kernel_rfl) (fun _ _ _ h => h) (by rfl) ?_ (by assumption) ?_
   rotate_left
   ·(intro w hSw; (try dsimp only at hSw); obtain ⟨hS1, hS2, hS3⟩ := hSw; go_simp; with_reducible rfl)
   simp only [Act.put, List.setIfInBounds_toArray, List.set_cons_zero, List.set_cons_succ]
   refine upto_run (v := ?_) 9 22 [14] rfl rfl (by kernel_rfl) (by kernel_rfl) (by kernel_rfl) (by kernel_rfl) (by kernel_rfl) (fun _ _ _ h => h) (by rfl) ?_ (by assumption) ?_
   rotate_left
   ·(intro w hSw; (try dsimp only at hSw); obtain ⟨hS1, hS2, hS3⟩ := hSw; go_simp; with_reducible rfl)
   simp only [Act.put, List.setIfInBounds_toArray, List.set_cons_zero, List.set_cons_succ]
   refine upto_one 10 (by kernel_rfl) rfl (fun K hK => ?_)
   go_simp
   refine HFI.out.mono ?_
   rintro e w1 ⟨rfl, hb1⟩
   have hb1' : Below wr.heap.size wr w1 := (Below.refl _ _).drew.trans hb1
   have d1 := (hb1'.cell (p := ⟨rb, roff + k, none⟩) hrb).trans c1
   have d2 := (hb1'.cell (p := ⟨vb, voff + f * 2, none⟩) hvb).trans c2
   have d3 := (hb1'.cell (p := ⟨vb, voff + f * 2 + 1, none⟩) hvb).trans c3
   have HI2 := hide (HI.out.later hb1')
   have HN1 := hide (HNZ.out.below hb1' (Nat.le_refl _))
   clear hb1 hb1' HFI HI HNZ
   go_wp2_with fail
   refine hK.out _ _ (fun _ => ⟨d1, d2, d3⟩) ?_
   clear hK K hHeld
   try simp only [Act.put, List.setIfInBounds_toArray, List.set_cons_zero, List.set_cons_succ]
   have hHeld1 : (fun w' => w'.cell? ⟨rb, roff + k, none⟩ = some (.slice (some ⟨vb, voff, none⟩) n vcap) ∧ w'.cell? ⟨vb, voff + f * 2, none⟩ = some (.bool neg) ∧ w'.cell? ⟨vb, voff + f * 2 + 1, none⟩ = some (.slice lo ll lc)) w1 := ⟨d1, d2, d3⟩
   refine upto_run (v := ?_) 11 24 [14] rfl rfl (by kernel_rfl) (by kernel_rfl) (by kernel_rfl) (by kernel_rfl) (by kernel_rfl) (fun _ _ _ h => h) (by rfl) ?_ (by assumption) ?_
   rotate_left
   ·(intro w hSw; (try dsimp only at hSw); obtain ⟨hS1, hS2, hS3⟩ := hSw; go_simp; with_reducible rfl)
   simp only [Act.put, List.setIfInBounds_toArray, List.set_cons_zero, List.set_cons_succ]
   refine upto_run (v := ?_) 12 25 [14] rfl rfl (by kernel_rfl) (by kernel_rfl) (by kernel_rfl) (by kernel_rfl) (by kernel_rfl) (fun _ _ _ h => h) (by rfl) ?_ (by assumption) ?_
   rotate_left
   ·(intro w hSw; (try dsimp only at hSw); obtain ⟨hS1, hS2, hS3⟩ := hSw; go_simp; with_reducible rfl)
   simp only [Act.put, List.setIfInBounds_toArray, List.set_cons_zero, List.set_cons_succ]
   refine upto_run (v := ?_) 13 26 [14] rfl rfl (by kernel_rfl) (by kernel_rfl) (by kernel_rfl) (by kernel_rfl) (by kernel_rfl) (fun _ _ _ h => h) (by rfl) ?_ (by assumption) ?_
   rotate_left
   ·(intro w hSw; (try dsimp only at hSw); obtain ⟨hS1, hS2, hS3⟩ := hSw; go_simp; with_reducible rfl)
   simp only [Act.put, List.setIfInBounds_toArray, List.set_cons_zero, List.set_cons_succ]
   obtain ⟨neg0, o0, l0, c0', k0, k1, -⟩ := HI2.out.at k (by omega)
   have f0 := HI2.out.thaw (k * 2)
   have f1 := HI2.out.thaw (k * 2 + 1)
   have hP := HI2.out.lt
   have HN := hide (HI2.out.set (k := k) (by omega) HN1.out)
   rw [HFS.out] at HN
   refine upto_one 14 (by kernel_rfl) rfl (fun K hK => ?_)
   go_simp
   refine hK.out _ _ (fun h => absurd h (by decide)) ?_
   clear hK K
   try simp only [Act.put, List.setIfInBounds_toArray, List.set_cons_zero, List.set_cons_succ]
   refine upto_done (by kernel_rfl) ?_
   clear c1 c2 c3 d1 d2 d3 k0 k1 f0 f1 hHeld1 HI2 HN1 HFS
   go_wp2
   go_roundw
   case rel => exact ⟨k + 1, by omega, by go_num, HN⟩
   case measure => simp [intOf]; omega
  ·obtain rfl : k = hs.length := by omega
   rw [← hpl] at HI
   have HFF := hide HI.out.full
   rw [hpl] at HI
   clear HI
   go_wp2
   go_ret
   exact ⟨_, by rw [hpl]; rfl, HFF.out⟩

end Go.Proofs.YtdedolkgcdlmeaaGreatDoor

/- Rows whose pivots are alone; what is left of rows that are turned about. No Go in it. -/
namespace Go.Proofs.YtdedolkgcdlmeaaGreatDoor
open Go.RowKit Limbs

structure TurnF (n : Nat) (hs fs : List (List Int)) : Prop where
 len : fs.length = hs.length
 lens : ∀ u ∈ fs, u.length = hs.length
 free : FreeM hs.length (ent fs)
 alike : Alikes hs.length (InL fs) (InL (colsL hs n))

def dgL (r : Nat) (f : Nat → Int) : List (List Int) := (List.range r).map fun i => (List.range r).map fun j => dgM f i j

theorem dgL_length (r : Nat) (f : Nat → Int) : (dgL r f).length = r := by simp [dgL]

theorem dgL_len (r : Nat) (f : Nat → Int) : ∀ u ∈ dgL r f, u.length = r := fun u hu => by
 obtain ⟨i, -, rfl⟩ := List.mem_map.1 hu
 simp

theorem dgL_get (r : Nat) (f : Nat → Int) (i : Nat) (hi : i < r) : (dgL r f).getD i [] = (List.range r).map fun j => dgM f i j := by
 rw [getD_row (by rw [dgL_length]; exact hi)]
 simp [dgL]

theorem dgL_ent (r : Nat) (f : Nat → Int) : EqM r (ent (dgL r f)) (dgM f) := fun i j hi hj => by
 show ((dgL r f).getD i []).getD j 0 = _
 rw [dgL_get r f i hi, range_getD _ _ j hj]

theorem alone_turn {n : Nat} {hs : List (List Int)} {p : Nat → Nat} (F : FormL n hs p) (h : aloneTo hs p n hs.length) : ∃ gs, TurnF n hs gs ∧ Equ hs.length (ent gs) (dgM fun i => (pivL hs p).getD i 0) := by
 have h0 : ∀ i b, i < hs.length → b < n → b ≠ p i → ent hs i b = 0 := fun i b hi hb hne => by
  rcases Nat.lt_or_gt_of_ne hne with hl | hl
  ·exact F.form.zero i b hi hl
  ·exact h i hi b hl hb
 have hcol : ∀ i, i < hs.length → (colsL hs n).getD (p i) [] = (dgL hs.length (fun k => ent hs k (p k))).getD i [] := fun i hi => by
  have hp := F.form.lt i hi
  rw [colsL_get hs n _ hp, dgL_get _ _ i hi]
  refine list_ext (by simp) fun k hk => ?_
  rw [List.length_map] at hk
  rw [map_getD0 _ _ _ hk, range_getD _ _ k hk]
  show ent hs k (p i) = dgM (fun k => ent hs k (p k)) i k
  unfold dgM
  by_cases e : i = k
  ·rw [if_pos e, e]
  ·rw [if_neg e]
   refine h0 k (p i) hk hp fun e2 => e ?_
   rcases Nat.lt_trichotomy i k with hlt | hlt | hlt
   ·have := F.form.inc i k hlt hk; omega
   ·exact hlt
   ·have := F.form.inc k i hlt hi; omega
 refine ⟨dgL hs.length (fun k => ent hs k (p k)), ⟨dgL_length _ _, dgL_len _ _, ?_, ?_⟩, .of ((dgL_ent _ _).trans fun i j hi hj => ?_)⟩
 ·refine free_up (fun i j hi hj hji => ?_) fun i hi => ?_
  ·rw [dgL_ent _ _ i j hi hj, dgM, if_neg (by omega)]
  ·rw [dgL_ent _ _ i i hi hi, dgM, if_pos rfl]
   have : 0 < ent hs i (p i) := F.form.pos i hi
   omega
 ·refine Alikes.of (fun v hv hl => ?_) fun v hv hl => ?_
  ·obtain ⟨i, hi, e⟩ := List.getElem_of_mem hv
   have hi' : i < hs.length := by rw [dgL_length] at hi; exact hi
   have hm : (colsL hs n).getD (p i) [] ∈ colsL hs n := getD_mem (by rw [colsL_length]; exact F.form.lt i hi')
   rw [hcol i hi', getD_row hi, e] at hm
   exact .base hm hl
  ·obtain ⟨j, hj, e⟩ := List.getElem_of_mem hv
   have hj' : j < n := by rw [colsL_length] at hj; exact hj
   by_cases hp : ∃ i, i < hs.length ∧ j = p i
   ·obtain ⟨i, hi, rfl⟩ := hp
    have hm : (dgL hs.length (fun k => ent hs k (p k))).getD i [] ∈ dgL hs.length (fun k => ent hs k (p k)) := getD_mem (by rw [dgL_length]; exact hi)
    rw [← hcol i hi, getD_row hj, e] at hm
    exact .base hm hl
   ·have e2 : v = List.replicate hs.length 0 := by
     rw [← e, ← getD_row hj, colsL_get hs n j hj']
     refine list_ext (by simp) fun k hk => ?_
     rw [List.length_map] at hk
     rw [map_getD0 _ _ _ hk]
     have := h0 k j hk hj' fun e3 => hp ⟨k, hk, e3⟩
     unfold ent at this
     rw [this]
     simp [List.getD_eq_getElem?_getD, hk]
    rw [e2]
    exact .zero
 ·unfold dgM
  split
  ·exact (pivL_get hs p i hi).symm
  ·rfl

theorem equ_done {r : Nat} {H : List (List Int)} {A : Nat → Nat → Int} (S : Sq r H) (al : ∀ k, k < r → ∀ b, k < b → b < r → ent H k b = 0) (h : Equ r A (ent H) ∨ Equ r (trM A) (ent H)) : Equ r A (dgM fun i => (pivL H fun k => k).getD i 0) := by
 have e : EqM r (ent H) (dgM fun i => (pivL H fun k => k).getD i 0) := fun i j hi hj => by
  unfold dgM
  by_cases hij : i = j
  ·rw [if_pos hij]
   refine Eq.trans ?_ (pivL_get H _ i (by rw [S.len]; exact hi)).symm
   rw [hij]
  ·rw [if_neg hij]
   rcases Nat.lt_or_gt_of_ne hij with hl | hl
   ·exact al i hi j hl hj
   ·exact S.low hi hl
 rcases h with h | h
 ·exact h.trans (.of e)
 ·have := (h.trans (.of e)).tr
  rw [trM_dg] at this
  exact this

theorem equ_turn {n : Nat} {hs H fs : List (List Int)} (S : Sq hs.length H) (S' : Sq hs.length fs) (a : Alikes hs.length (InL fs) (InL (colsL H hs.length))) (h : ∃ gs, TurnF n hs gs ∧ (Equ hs.length (ent gs) (ent H) ∨ Equ hs.length (trM (ent gs)) (ent H))) :
  ∃ gs, TurnF n hs gs ∧ (Equ hs.length (ent gs) (ent fs) ∨ Equ hs.length (trM (ent gs)) (ent fs)) := by
 obtain ⟨gs, hg, h⟩ := h
 refine ⟨gs, hg, ?_⟩
 rcases h with h | h
 ·exact .inr (h.tr.trans (S.cols_equ S' a))
 ·exact .inl (h.tr.trans (S.cols_equ S' a))

end Go.Proofs.YtdedolkgcdlmeaaGreatDoor
