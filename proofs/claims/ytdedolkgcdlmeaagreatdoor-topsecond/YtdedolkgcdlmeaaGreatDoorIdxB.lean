/- lattice.Quotient, lattice.Index: of a lattice in one in which it lies. -/
import Derived.Test.YtdedolkgcdlmeaaGreatDoorSmE
import Derived.Test.YtdedolkgcdlmeaaGreatDoorIdxL
import Derived.Test.YtdedolkgcdlmeaaGreatDoorIdxA
import Derived.Test.YtdedolkgcdlmeaaGreatDoorLatQ
import Derived.Test.YtdedolkgcdlmeaaGreatDoorLatS
namespace Go.Proofs.YtdedolkgcdlmeaaGreatDoor
open Go.RowKit Limbs

/-- The invariants: those above one of what is left when the shares are turned about. -/
def InvQ (hs ks : List (List Int)) (pk : Nat → Nat) (zs : List Int) : Prop :=
  ∃ (ys : List Int) (fa fs : List (List Int)) (pa : Nat → Nat) (D : Int), zs = overOne ys ∧ FormL ks.length fa pa ∧ Alikes ks.length (InL fa) (InL (muchM hs ks pk)) ∧ fa.length = hs.length ∧ TurnF ks.length fa fs ∧ ChI fa.length ys D (ent fs) fa.length (fa.length + 1)

theorem InvQ.none {hs ks : List (List Int)} {pk : Nat → Nat} (h : hs.length = 0) : InvQ hs ks pk [] := by
  have e : hs = [] := List.length_eq_zero_iff.1 h
  subst e
  have h2 : ∀ i : Nat, ¬ i < ([] : List (List Int)).length := fun i h => absurd h (Nat.not_lt_zero i)
  refine ⟨[], [], [], fun k => k, 1, rfl, ⟨fun r hr => absurd hr (by simp), ⟨fun i k _ h => absurd h (h2 k), fun i h => absurd h (h2 i), fun i b h _ => absurd h (h2 i), fun i h => absurd h (h2 i), fun i k _ h => absurd h (h2 k)⟩⟩, fun x => Iff.rfl, rfl, ⟨rfl, fun u hu => absurd hu (by simp), fun x _ k h => absurd h (h2 k), ?_⟩, ⟨rfl, fun j h => absurd h (h2 j), rfl, fun i h => absurd h (h2 i), fun j _ h => ?_, .of fun i j h _ => absurd h (h2 i)⟩⟩
  · refine Alikes.of (fun v hv _ => absurd hv (by simp [InL])) fun v hv hl => ?_
    have : v = [] := List.length_eq_zero_iff.1 hl
    rw [this]
    exact .zero
  · have h3 : j < 0 + 1 := h
    omega

def QuoLPost (w : World) (hs ks : List (List Int)) (pk : Nat → Nat) (e : Ending) (w' : World) : Prop :=
  ∃ (u : Value) (M : Nat) (zs : List Int), e = .returned (.tuple #[.agg #[u, .int .i64 ((ks.length : Int) - (hs.length : Int))], .nilIface]) ∧ VecN w' u zs M ∧ M ≤ 100000 ∧ zs.length ≤ 4 ∧ (∀ z ∈ zs, 0 < z) ∧ prodL zs < bp M ∧ hs.length ≤ ks.length ∧ (hs.length = ks.length → prodL zs = absI (det ks.length (ent (muchM hs ks pk)))) ∧ Below w.heap.size w w' ∧ InvQ hs ks pk zs

theorem VecN.setTwo {W : World} {u : Value} {zs : List Int} {M B : Nat} {u0 u1 y z : Value} (h : VecN W u zs M) (hfr : ∀ a l c, u = .slice (some a) l c → B < a.block) (d0 : W.cell? ⟨B, 0, none⟩ = some u0) (d1 : W.cell? ⟨B, 1, none⟩ = some u1) (h0 : ∀ x, u0 ≠ .int .u32 x) (h1 : ∀ x, u1 ≠ .int .u32 x) : VecN ((W.setCell ⟨B, 0, none⟩ y).setCell ⟨B, 1, none⟩ z) u zs M := by
  by_cases hz : 0 < zs.length
  · obtain ⟨b, off, cap, rfl⟩ := h.form hz
    have hb := hfr _ _ _ rfl
    have hne : b ≠ B := fun e => by
      have : B < b := hb
      omega
    exact (h.other hne d0 h0).other hne ((World.cell?_setCell_other (h := fun e => by simp at e) ..).trans d1) h1
  · obtain ⟨ao, cap, e, hc, -⟩ := h
    exact ⟨ao, cap, e, hc, fun h => absurd h hz⟩

theorem in_short {n : Nat} {hs ks : List (List Int)} {ph pk : Nat → Nat} (F : FormL n hs ph) (G : FormL n ks pk) (hin : ∀ r ∈ hs, Gens n (InL ks) r) : hs.length ≤ ks.length :=
  rank_le hs.length ks.length n (ent hs) (ent ks) (ent (muchM hs ks pk)) ph F.form.lt (fun i k hi hki => F.form.zero i (ph k) hi (F.form.inc k i hki hi)) (fun i hi => F.form.pos i hi) (fun i b hi hb => much_rows G F.len hin i b hi hb)

theorem bp_eight {k nv : Nat} (hk : k < 4) {x : Int} (h : absI x ≤ 2 ^ k * bp nv) : ab x < bp (nv + 1) := by
  have e : bp (nv + 1) = 4294967296 * bp nv := rfl
  have hp := bp_pos nv
  have h8 : (2 : Int) ^ k ≤ 8 := (by decide : ∀ k, k < 4 → (2 : Int) ^ k ≤ 8) k hk
  have h9 := Int.mul_le_mul_of_nonneg_right h8 (show 0 ≤ bp nv by omega)
  have h10 : ab x ≤ 2 ^ k * bp nv := h
  rw [e]
  omega

/-- How much of each row it is, is not much. -/
theorem much_tight {w w' : World} {u m : Value} {n nv N : Nat} {hs ks : List (List Int)} {pk : Nat → Nat} (hu : MatN w u hs nv) (hl : ∀ r ∈ hs, r.length = n) (G : FormL n ks pk) (h4 : n ≤ 4) (hin : ∀ r ∈ hs, Gens n (InL ks) r) (hm : MatN w' m (muchM hs ks pk) N) : MatN w' m (muchM hs ks pk) (nv + 1) :=
  hm.tight fun zs hz j hj => by
    obtain ⟨r, hr, rfl⟩ := List.mem_map.1 hz
    rw [muchL_len] at hj
    have hs' := G.short
    exact bp_eight (show j < 4 by omega) (much_bound G (hl r hr) (hin r hr) (fun b hb => Int.le_of_lt (hu.abs r hr b (by rw [hl r hr]; exact hb))) j hj)

set_option linter.unusedSimpArgs false in
set_option maxRecDepth 100000 in
set_option maxHeartbeats 3200000 in
theorem quotient_ok (w : World) (va vb : Value) (n nv mv : Nat) (hs ks : List (List Int)) (pk : Nat → Nat) (ha : LatN w va n hs nv) (hb : LatN w vb n ks mv) (G : FormL n ks pk) (h1 : 1 ≤ n) (h4 : n ≤ 4) (hN : nv + n * (mv + 2) ≤ 90000) (hin : ∀ r ∈ hs, Gens n (InL ks) r) (hR : ∀ m, 1 ≤ m → m ≤ 4 → RoomS m (nv + 1)) :
    Calls Tryz.prog 39 #[va, vb] w fun e w' => QuoLPost w hs ks pk e w' := by
  have HA := hide ha; have HB := hide hb; have HG := hide G; have HIN := hide hin; have HR := hide hR
  obtain ⟨⟨u, rfl, hu⟩, ph, hF⟩ := ha
  obtain ⟨⟨v, rfl, hv⟩, -⟩ := hb
  have HU := hide hu; have HF := hide hF
  have hsh := in_short hF G hin
  have hks := G.short
  obtain ⟨uo, ucap, rfl, -, -⟩ := hu
  obtain ⟨vo, vcap, rfl, -, -⟩ := hv
  clear hF G hin hR
  have HX := hide (two_boxes w (.int .i64 (n : Int)) (.slice uo hs.length ucap) (.int .i64 (n : Int)) (.slice vo ks.length vcap) 55 55)
  have HY := hide (box_new ((w.alloc (.cells #[.int .i64 (n : Int), .slice uo hs.length ucap] 55)).alloc (.cells #[.int .i64 (n : Int), .slice vo ks.length vcap] 55)) (.slice none 0 0) (.int .i64 0) 77 (w.heap.size + 1 + 1) (by simp))
  have HZ := hide ((Below.refl (w.heap.size + 2) ((w.alloc (.cells #[.int .i64 (n : Int), .slice uo hs.length ucap] 55)).alloc (.cells #[.int .i64 (n : Int), .slice vo ks.length vcap] 55))).alloc (by simp) (.cells #[.slice none 0 0, .int .i64 0] 77))
  have HC := hide (HX.out.1.later HZ.out (by omega))
  have HD := hide (HX.out.2.1.later HZ.out (by omega))
  have HB0 := hide (HX.out.2.2.1.trans (HZ.out.mono (by omega)))
  have HSZ : Hid (w.heap.size + 1 + 1 < (((w.alloc (.cells #[.int .i64 (n : Int), .slice uo hs.length ucap] 55)).alloc (.cells #[.int .i64 (n : Int), .slice vo ks.length vcap] 55)).alloc (.cells #[.slice none 0 0, .int .i64 0] 77)).heap.size) := by show _ < _; simp
  obtain ⟨c0, c1, z0, z1⟩ := HC.out
  obtain ⟨d0, d1, y0, y1⟩ := HD.out
  go_enter Tryz.func39, Tryz.ntmps39
  go_wp2_with fail
  clear c0 c1 z0 z1 d0 d1 y0 y1 HX HZ
  generalize (((w.alloc (.cells #[.int .i64 (n : Int), .slice uo hs.length ucap] 55)).alloc (.cells #[.int .i64 (n : Int), .slice vo ks.length vcap] 55)).alloc (.cells #[.slice none 0 0, .int .i64 0] 77)) = W0 at *
  refine (checkBoth_ok W0 _ _ n nv mv hs ks (by exact HA.out.below HB0.out) (by exact HB.out.below HB0.out) h1 h4).mono ?_
  rintro e w1 ⟨rfl, hb1⟩
  have HB1 := hide (HB0.out.trans (hb1.mono HB0.out.size))
  have HC1 := hide (HC.out.later hb1 (by have := HSZ.out; omega))
  have HD1 := hide (HD.out.later hb1 (by have := HSZ.out; omega))
  have HE1 := hide (HY.out.later hb1 HSZ.out)
  have HS1 := hide (Nat.lt_of_lt_of_le HSZ.out hb1.size)
  clear hb1 HC HD HY HSZ HB0
  obtain ⟨c0, c1, -, -⟩ := HC1.out
  obtain ⟨d0, d1, -, -⟩ := HD1.out
  go_wp2_with fail
  refine (allShares_any w1 _ _ n nv mv hs ks pk (by exact HA.out.below HB1.out) (by obtain ⟨⟨u, e, h⟩, -⟩ := HB.out; exact ⟨u, e, h.below HB1.out (Nat.le_refl _)⟩) HG.out h1 h4 hN).mono ?_
  rintro e w2 ⟨hb2, hcase⟩
  have HB2 := hide (HB1.out.trans (hb2.mono HB1.out.size))
  have HD2 := hide (HD1.out.later hb2 (by have := HS1.out; omega))
  have HE2 := hide (HE1.out.later hb2 HS1.out)
  have HS2 := hide (Nat.lt_of_lt_of_le HS1.out hb2.size)
  clear hb2 c0 c1 d0 d1 HC1 HD1 HE1 HS1 HB1
  rcases hcase with ⟨-, m, rfl, hm⟩ | ⟨hl, -⟩
  · have HM := hide (much_tight HU.out HF.out.len HG.out h4 HIN.out (show MatN w2 m (muchM hs ks pk) _ from hm))
    obtain ⟨mo, mcap, rfl, -, -⟩ := hm
    rw [show (hs.map (muchL ks pk)).length = hs.length from List.length_map ..]
    have HM' := HM.out
    rw [show (hs.map (muchL ks pk)).length = hs.length from List.length_map ..] at HM'
    have HM2 := hide HM'
    clear HM HM'
    obtain ⟨d0, d1, -, -⟩ := HD2.out
    by_cases h0 : hs.length = 0
    · obtain ⟨e0, e1, f0, f1⟩ := HE2.out
      have g1 : ((hs.length : Int) == 0) = true := by rw [h0]; rfl
      have g2 : (hs.length : Int) = 0 := by omega
      have HP : Hid (QuoLPost w hs ks pk (.returned (.tuple #[.agg #[.slice none 0 0, .int .i64 (ks.length : Int)], .nilIface])) ((w2.setCell ⟨w.heap.size + 1 + 1, 0, none⟩ (.slice none 0 0)).setCell ⟨w.heap.size + 1 + 1, 1, none⟩ (.int .i64 (ks.length : Int)))) :=
        ⟨.slice none 0 0, 1, [], by rw [show ((ks.length : Int) - (hs.length : Int)) = (ks.length : Int) by omega], ⟨none, 0, rfl, Nat.le_refl _, fun h => absurd h (by simp)⟩, by decide, by decide, fun z hz => by (cases hz), by decide, hsh, fun h => by
          have hk0 : ks.length = 0 := by omega
          rw [hk0]; exact (absI_of_nonneg (x := 1) (by decide)).symm, (HB2.out.setCell (p := ⟨w.heap.size + 1 + 1, 0, none⟩) (by show w.heap.size ≤ w.heap.size + 1 + 1; omega) _).setCell (p := ⟨w.heap.size + 1 + 1, 1, none⟩) (by show w.heap.size ≤ w.heap.size + 1 + 1; omega) _, .none h0⟩
      clear h0
      go_wp2
      exact bodyPost_ret (v := .tuple #[.agg #[.slice none 0 0, .int .i64 (ks.length : Int)], .nilIface]) (by simp [results, Tryz.results39, go_sem, e0, e1]) rfl HP.out
    · have g1 : ((hs.length : Int) == 0) = false := beq_eq_false_iff_ne.2 (by omega)
      have g2 : ¬ ((hs.length : Int) = 0) := by omega
      go_wp2_with fail
      refine (smith_any w2 _ (muchM hs ks pk) ks.length (nv + 1) (by exact HM2.out) (muchM_len hs ks pk) (by omega) (by omega) (by rw [muchM_length]; omega) (HR.out ks.length (by omega) (by omega))).mono ?_
      rintro e w3 ⟨P, M, ys, fa, fs, pa, D, rfl, a1, a2, a3, a4, a8, a5, a6, a7⟩
      have hfa : fa.length = hs.length := much_rank HF.out HG.out HIN.out a1 a2
      have HDD : Hid (hs.length = ks.length → D = absI (det ks.length (ent (muchM hs ks pk)))) := fun h => by
        have hf : fa.length = ks.length := by omega
        rw [a6 hf]
        exact (det_diag (by rw [muchM_length]; exact h) (muchM_len hs ks pk) (sq_of a1 hf) a2).symm
      have HYL := hide a4.len
      have HIQ : Hid (InvQ hs ks pk (overOne ys)) := ⟨ys, fa, fs, pa, D, rfl, a1, a2, hfa, a8, a4⟩
      have HYP : Hid (∀ z ∈ ys, 0 < z) := fun z hz => by
        obtain ⟨i, hi, e⟩ := List.getElem_of_mem hz
        have := a4.pos i (by rw [← a4.len]; exact hi)
        rw [List.getD_eq_getElem?_getD, List.getElem?_eq_getElem hi, Option.getD_some, e] at this
        exact this
      have HPR : Hid (prodL ys = D) := by
        have h1 := a4.prod
        rw [← a4.len, prodN_take ys ys.length (Nat.le_refl _), List.take_length] at h1
        exact h1
      have HB3 := hide (HB2.out.trans (a3.below.mono HB2.out.size))
      have HD3 := hide (HD2.out.later a3.below (by have := HS2.out; omega))
      have HE3 := hide (HE2.out.later a3.below HS2.out)
      have HS3 := hide (Nat.lt_of_lt_of_le HS2.out a3.below.size)
      have hyl : ys.length = hs.length := by rw [a4.len, hfa]
      have HVY : Hid (VecN w3 (.slice (some ⟨P, 0, none⟩) hs.length hs.length) ys M) := by
        have := a3.vec
        rw [hyl] at this
        exact this
      have HA5 := hide a5
      rw [hfa]
      clear a1 a2 a3 a4 a5 a6 a8 HB2 HD2 HE2 HS2 d0 d1 g1 g2 h0
      obtain ⟨d0, d1, -, -⟩ := HD3.out
      have HYL2 := hide hyl
      clear hyl hfa
      have hwr : IntKind.i64.wrap ((ks.length : Int) - (hs.length : Int)) = (ks.length : Int) - (hs.length : Int) := by rw [IntKind.wrap_i64]; omega
      go_wp2_with fail
      refine up_start (A := fun j => decide (j = 1 ∨ j = 3)) (S := (fun w' => w'.cell? ⟨w.heap.size + 1, 1, none⟩ = some (.slice vo ks.length vcap))) (by kernel_rfl) (by exact d1) (fun hHeld => ?_)
      refine up_pure (v := ?_) 0 43 rfl rfl (by kernel_rfl) (by kernel_rfl) (by kernel_rfl) (by kernel_rfl) (fun _ _ _ h => h) (by rfl) ?_ ?_
      rotate_left
      · (intro w; go_simp; with_reducible rfl)
      simp only [Act.put, List.setIfInBounds_toArray, List.set_cons_zero, List.set_cons_succ]
      refine up_pure (v := ?_) 2 45 rfl rfl (by kernel_rfl) (by kernel_rfl) (by kernel_rfl) (by kernel_rfl) (fun _ _ _ h => h) (by rfl) ?_ ?_
      rotate_left
      · (intro w; go_simp; with_reducible rfl)
      simp only [Act.put, List.setIfInBounds_toArray, List.set_cons_zero, List.set_cons_succ]
      refine up_pure (v := ?_) 5 48 rfl rfl (by kernel_rfl) (by kernel_rfl) (by kernel_rfl) (by kernel_rfl) (fun _ _ _ h => h) (by rfl) ?_ ?_
      rotate_left
      · (intro w; go_simp; with_reducible rfl)
      simp only [Act.put, List.setIfInBounds_toArray, List.set_cons_zero, List.set_cons_succ]
      refine up_pure (v := ?_) 6 49 rfl rfl (by kernel_rfl) (by kernel_rfl) (by kernel_rfl) (by kernel_rfl) (fun _ _ _ h => h) (by rfl) ?_ ?_
      rotate_left
      · (intro w; go_simp; with_reducible rfl)
      simp only [Act.put, List.setIfInBounds_toArray, List.set_cons_zero, List.set_cons_succ]
      refine up_run (v := ?_) 3 46 [4, 7, 8, 9, 10] rfl rfl (by kernel_rfl) (by kernel_rfl) (by kernel_rfl) (by kernel_rfl) (fun _ _ _ h => h) (by rfl) ?_ (by assumption) ?_
      rotate_left
      · (intro w hSw; (try dsimp only at hSw); go_simp; with_reducible rfl)
      simp only [Act.put, List.setIfInBounds_toArray, List.set_cons_zero, List.set_cons_succ]
      refine up_pure (v := ?_) 4 47 rfl rfl (by kernel_rfl) (by kernel_rfl) (by kernel_rfl) (by kernel_rfl) (fun _ _ _ h => h) (by rfl) ?_ ?_
      rotate_left
      · (intro w; go_simp; with_reducible rfl)
      simp only [Act.put, List.setIfInBounds_toArray, List.set_cons_zero, List.set_cons_succ]
      refine up_pure (v := ?_) 7 50 rfl rfl (by kernel_rfl) (by kernel_rfl) (by kernel_rfl) (by kernel_rfl) (fun _ _ _ h => h) (by rfl) ?_ ?_
      rotate_left
      · (intro w; go_simp; with_reducible rfl)
      simp only [Act.put, List.setIfInBounds_toArray, List.set_cons_zero, List.set_cons_succ]
      refine up_one 1 (by kernel_rfl) rfl (fun K hK => ?_)
      go_simp
      refine (aboveOne_any w3.drew _ ys M (by exact HVY.out.below (Below.refl w3.heap.size w3).drew (Nat.le_refl _)) (by have := HYL2.out; omega)).mono ?_
      rintro e w4 ⟨uu, rfl, hu4, hfr4, hb4⟩
      have hb4' : Below w3.heap.size w3 w4 := (Below.refl _ _).drew.trans hb4
      have HD4 := hide (HD3.out.later hb4' (by have := HS3.out; omega))
      have HE4 := hide (HE3.out.later hb4' HS3.out)
      have HB4 := hide (HB3.out.trans (hb4'.mono HB3.out.size))
      have d2 := HD4.out.2.1
      have HPF := hide ((prodL_filter ys HYP.out).trans HPR.out)
      have HP : Hid (QuoLPost w hs ks pk (.returned (.tuple #[.agg #[uu, .int .i64 ((ks.length : Int) - (hs.length : Int))], .nilIface])) ((w4.setCell ⟨w.heap.size + 1 + 1, 0, none⟩ uu).setCell ⟨w.heap.size + 1 + 1, 1, none⟩ (.int .i64 ((ks.length : Int) - (hs.length : Int))))) :=
        ⟨uu, M, overOne ys, rfl, hu4.setTwo (fun a l c e => by have h1 := hfr4 a l c e; have h2 := HS3.out; have h3 : w3.heap.size ≤ a.block := h1; omega) HE4.out.1 HE4.out.2.1 (fun x e => by cases e) (fun x e => by cases e), a7, Nat.le_trans (List.length_filter_le _ _) (by have := HYL2.out; omega), fun z hz => HYP.out z (List.mem_filter.1 hz).1, by
          show prodL (overOne ys) < bp M
          unfold overOne
          rw [HPF.out]; exact HA5.out, hsh, fun h => by
          show prodL (overOne ys) = _
          unfold overOne
          rw [HPF.out]; exact HDD.out h, (HB4.out.setCell (p := ⟨w.heap.size + 1 + 1, 0, none⟩) (by show w.heap.size ≤ w.heap.size + 1 + 1; omega) _).setCell (p := ⟨w.heap.size + 1 + 1, 1, none⟩) (by show w.heap.size ≤ w.heap.size + 1 + 1; omega) _, HIQ.out⟩
      obtain ⟨zo, zcap, rfl, -, -⟩ := hu4
      clear hfr4 hb4 hb4' d0 d1
      go_wp2_with fail
      refine hK.out _ _ (fun _ => d2) ?_
      clear hK K hHeld
      try simp only [Act.put, List.setIfInBounds_toArray, List.set_cons_zero, List.set_cons_succ]
      refine up_pure (v := ?_) 8 51 rfl rfl (by kernel_rfl) (by kernel_rfl) (by kernel_rfl) (by kernel_rfl) (fun _ _ _ h => h) (by rfl) ?_ ?_
      rotate_left
      · (intro w; go_simp; with_reducible rfl)
      simp only [Act.put, List.setIfInBounds_toArray, List.set_cons_zero, List.set_cons_succ]
      obtain ⟨e0, e1, f0, f1⟩ := HE4.out
      refine up_one 9 (by kernel_rfl) rfl (fun K hK => ?_)
      go_simp
      refine hK.out _ _ (fun h => absurd h (by decide)) ?_
      clear hK K
      try simp only [Act.put, List.setIfInBounds_toArray, List.set_cons_zero, List.set_cons_succ]
      refine up_pure (v := ?_) 10 5 rfl rfl (by kernel_rfl) (by kernel_rfl) (by kernel_rfl) (by kernel_rfl) (fun _ _ _ h => h) (by rfl) ?_ ?_
      rotate_left
      · (intro w; go_simp; with_reducible rfl)
      simp only [Act.put, List.setIfInBounds_toArray, List.set_cons_zero, List.set_cons_succ]
      refine up_done (by kernel_rfl) ?_
      have x0 : ((w4.setCell ⟨w.heap.size + 1 + 1, 0, none⟩ (.slice zo (overOne ys).length zcap)).setCell ⟨w.heap.size + 1 + 1, 1, none⟩ (.int .i64 ((ks.length : Int) - (hs.length : Int)))).cell? ⟨w.heap.size + 1 + 1, 0, none⟩ = some (.slice zo (overOne ys).length zcap) := (HE4.out.write _ _).1
      have x1 : ((w4.setCell ⟨w.heap.size + 1 + 1, 0, none⟩ (.slice zo (overOne ys).length zcap)).setCell ⟨w.heap.size + 1 + 1, 1, none⟩ (.int .i64 ((ks.length : Int) - (hs.length : Int)))).cell? ⟨w.heap.size + 1 + 1, 1, none⟩ = some (.int .i64 ((ks.length : Int) - (hs.length : Int))) := (HE4.out.write _ _).2.1
      clear e0 e1 f0 f1 d2
      go_wp2
      exact bodyPost_ret (v := .tuple #[.agg #[.slice zo (overOne ys).length zcap, .int .i64 ((ks.length : Int) - (hs.length : Int))], .nilIface]) (by simp [results, Tryz.results39, go_sem, x0, x1]) rfl HP.out
  · exact absurd HIN.out hl

end Go.Proofs.YtdedolkgcdlmeaaGreatDoor
