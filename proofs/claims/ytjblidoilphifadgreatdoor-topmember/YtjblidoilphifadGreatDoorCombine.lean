/- So much of each row, put together. -/
import Derived.Test.YtjblidoilphifadGreatDoorVecX
import Derived.Test.YtjblidoilphifadGreatDoorRowO
namespace Go.Proofs.YtjblidoilphifadGreatDoor
open Go.RowKit Limbs

/-- In a place, of the first rows. -/
def psum (ks : List Int) (zss : List (List Int)) (j : Nat) : Nat → Int
  | 0 => 0
  | r + 1 => psum ks zss j r + ks.getD r 0 * (zss.getD r []).getD j 0

def combo (ks : List Int) (zss : List (List Int)) (N : Nat) : List Int := (List.range N).map fun j => psum ks zss j zss.length

theorem combo_len (ks : List Int) (zss : List (List Int)) (N : Nat) : (combo ks zss N).length = N := by simp [combo]

theorem combo_at (ks : List Int) (zss : List (List Int)) (N j : Nat) (hj : j < N) : (combo ks zss N).getD j 0 = psum ks zss j zss.length := by
  simp [combo, List.getD_eq_getElem?_getD, hj]

/-- One place, with a bound of its own. -/
def Tight (W : World) (P j : Nat) (z : Int) (n : Nat) : Prop := ∃ (neg : Bool) (o : Option Addr) (l c : Nat), W.cell? ⟨P, j * 2, none⟩ = some (.bool neg) ∧ W.cell? ⟨P, j * 2 + 1, none⟩ = some (.slice o l c) ∧ NumL W (.agg #[.bool neg, .slice o l c]) z n

theorem tight_set {w W : World} {P : Nat} {zs : List Int} {n m : Nat} (h : VecO w W P zs n) {k : Nat} (hk : k < zs.length) {neg : Bool} {o : Option Addr} {l c : Nat} {z : Int} (hz : NumL W (.agg #[.bool neg, .slice o l c]) z m) :
    Tight ((W.setCell ⟨P, k * 2, none⟩ (.bool neg)).setCell ⟨P, k * 2 + 1, none⟩ (.slice o l c)) P k z m := by
  obtain ⟨neg0, o0, l0, c0, k0, k1, -⟩ := h.at k hk
  have k1' : (W.setCell ⟨P, k * 2, none⟩ (.bool neg)).cell? ⟨P, k * 2 + 1, none⟩ = some (.slice o0 l0 c0) := (World.cell?_setCell_other (h := fun e => by simp at e) ..).trans k1
  exact ⟨neg, o, l, c, (World.cell?_setCell_other (h := fun e => by simp at e) ..).trans (World.cell?_setCell_same (h := k0) ..), World.cell?_setCell_same (h := k1') .., (hz.setCell k0 (fun z e => by cases e)).setCell k1' (fun z e => by cases e)⟩

theorem tight_zero {w W : World} {P : Nat} {zs : List Int} {n m : Nat} (h : VecO w W P zs n) {k : Nat} (hk : k < zs.length) (hz : zs.getD k 0 = 0) : Tight W P k 0 m := by
  obtain ⟨neg, o, l, c, k0, k1, hN⟩ := h.at k hk
  rw [hz] at hN
  exact ⟨neg, o, l, c, k0, k1, (hN.tight (m := 0) (by unfold ab; simp [bp])).mono (Nat.zero_le _)⟩

theorem set_same (l : List Int) (k : Nat) (hk : k < l.length) : l.set k (l.getD k 0) = l := by
  rw [List.getD_eq_getElem?_getD, List.getElem?_eq_getElem hk, Option.getD_some, List.set_getElem_self]

theorem fill_zero (zs : List Int) (k : Nat) (hk : k < zs.length) : (zs.take k ++ List.replicate (zs.length - k) 0).getD k 0 = 0 := by
  have hl : (zs.take k).length = k := by rw [List.length_take]; omega
  rw [List.getD_eq_getElem?_getD, List.getElem?_append_right (by omega), hl, Nat.sub_self, List.getElem?_replicate]
  split <;> rfl

set_option maxRecDepth 100000 in
set_option maxHeartbeats 4000000 in
theorem combine_any (w : World) (vk vm : Value) (ks : List Int) (zss : List (List Int)) (N nk nm : Nat) (hk : VecN w vk ks nk) (hm : MatN w vm zss nm) (hl : ks.length = zss.length) (hr : ∀ zs ∈ zss, zs.length = N)
    (hN : N ≤ 1000) (hR : zss.length ≤ 1000) (hnk : nk ≤ 10000) (hnm : nm ≤ 10000) :
    Calls Tryz.prog 31 #[vk, vm, .int .i64 (N : Int)] w fun e w' => ∃ P, e = .returned (.tuple #[.slice (some ⟨P, 0, none⟩) N N, .nilIface]) ∧ VecO w w' P (combo ks zss N) (nk + nm + zss.length) := by
  have HK := hide hk; have HM := hide hm; have HR := hide hr
  obtain ⟨kao, kcap, rfl, -, -⟩ := hk
  obtain ⟨mao, mcap, rfl, -, -⟩ := hm
  have hl1 : ((ks.length : Int) == (zss.length : Int)) = true := by rw [beq_iff_eq]; omega
  have hl2 : ((ks.length : Int) != (zss.length : Int)) = false := by rw [bne_eq_false_iff_eq]; omega
  have HL := hide hl
  clear hl hr
  have hmax : max (N : Int) 0 = (N : Int) := by omega
  have hmk := run_mkV N (by omega)
  have hcl := combo_len ks zss N
  have HC := hide (combo_at ks zss N)
  go_enter Tryz.func31, Tryz.ntmps31
  go_wp2
  go_loop [20] (fun i => ∃ q : Nat, q ≤ zss.length ∧ i = .int .i64 q) (fun i => zss.length - (intOf i).toNat)
  case atStart => exact ⟨0, Nat.zero_le _, rfl⟩
  case round =>
    obtain ⟨q, hq, rfl⟩ := hrel
    by_cases hql : q < zss.length
    · obtain ⟨_, _, e, -, hc⟩ := HM.out
      simp only [Value.slice.injEq, true_and] at e
      obtain ⟨rfl, rfl⟩ := e
      obtain ⟨mb, moff, rfl, hmlt, hc⟩ := hc (by omega)
      obtain ⟨u, cu, hu⟩ := hc q zss[q] (by simp [hql])
      have hzN := HR.out _ (List.getElem_mem hql)
      clear hc
      generalize zss[q] = zs at *
      obtain ⟨zo, zcap, rfl, -, -⟩ := hu
      rw [hzN] at cu
      clear hzN
      have hNN : ((N : Int) != (N : Int)) = false := by simp
      go_wp2
      go_round
      case rel => exact ⟨q + 1, by omega, by go_num⟩
      case measure => simp [intOf]; omega
    · obtain rfl : q = zss.length := by omega
      have HI := hide (VecO.made w w (Below.refl _ _) N (nk + nm + zss.length))
      go_wp2
      clear hmk
      go_loopw [37] (fun i wr => ∃ j : Nat, j ≤ N ∧ i = .int .i64 j ∧ VecO w wr w.heap.size ((combo ks zss N).take j ++ List.replicate ((combo ks zss N).length - j) 0) (nk + nm + zss.length)) (fun i _ => N - (intOf i).toNat)
      case atStart => exact ⟨0, Nat.zero_le _, rfl, by rw [hcl]; exact HI.out⟩
      case round =>
        clear HI
        obtain ⟨j, hj, rfl, hinv⟩ := hrel
        have HI := hide hinv
        clear hinv
        by_cases hjl : j < N
        · have hfl := fill_len (combo ks zss N) j (by omega)
          have HFS := hide (fill_step (combo ks zss N) j (by omega))
          rw [HC.out j hjl] at HFS
          have HZ := hide (fill_zero (combo ks zss N) j (by omega))
          have hcl2 : (combo ks zss N).length = N := hcl
          have hzl0 := HC.out
          clear hzl0
          generalize hcm : combo ks zss N = cm at *
          clear hcm
          have HS0 : Hid (VecO w wr w.heap.size ((cm.take j ++ List.replicate (cm.length - j) 0).set j (psum ks zss j 0)) (nk + nm + zss.length)) := by
            have e : (cm.take j ++ List.replicate (cm.length - j) 0).set j (psum ks zss j 0) = cm.take j ++ List.replicate (cm.length - j) 0 := by
              show List.set _ j 0 = _
              have := set_same (cm.take j ++ List.replicate (cm.length - j) 0) j (by rw [hfl]; omega)
              rw [HZ.out] at this
              exact this
            rw [e]; exact HI.out
          have HT0 := hide (tight_zero (m := nk + nm + 0) HI.out (k := j) (by rw [hfl]; omega) HZ.out)
          clear HZ HI
          go_wp2
          obtain ⟨wo, rfl⟩ : ∃ wo : World, wo = wr := ⟨_, rfl⟩
          go_loopw [42] (fun i wr => ∃ r : Nat, r ≤ zss.length ∧ i = .int .i64 r ∧ VecO w wr w.heap.size ((cm.take j ++ List.replicate (cm.length - j) 0).set j (psum ks zss j r)) (nk + nm + zss.length) ∧ Hid (Tight wr w.heap.size j (psum ks zss j r) (nk + nm + r))) (fun i _ => zss.length - (intOf i).toNat)
          case atStart => exact ⟨0, Nat.zero_le _, rfl, HS0.out, HT0⟩
          case round =>
            clear HS0 HT0
            obtain ⟨r, hrr, rfl, hinv, HT⟩ := hrel
            have HI := hide hinv
            clear hinv
            by_cases hrl : r < zss.length
            · obtain ⟨_, _, e, -, hc⟩ := HM.out.below HI.out.below (Nat.le_refl _)
              simp only [Value.slice.injEq, true_and] at e
              obtain ⟨rfl, rfl⟩ := e
              obtain ⟨mb, moff, rfl, lm, hc⟩ := hc (by omega)
              obtain ⟨u, a4, hu⟩ := hc r zss[r] (by simp [hrl])
              have hzN := HR.out _ (List.getElem_mem hrl)
              obtain ⟨kb, koff, _, e⟩ := HK.out.form (by have := HL.out; omega)
              simp only [Value.slice.injEq, true_and] at e
              obtain ⟨rfl, rfl⟩ := e
              have hrk : r < ks.length := by have := HL.out; omega
              obtain ⟨lk, kn, ko, kl, kc, a2, a3, nak⟩ := (HK.out.below HI.out.below (Nat.le_refl _)).at r hrk
              have HPS : Hid (psum ks zss j (r + 1) = psum ks zss j r + ks.getD r 0 * zss[r].getD j 0) := by
                show psum ks zss j r + ks.getD r 0 * (zss.getD r []).getD j 0 = _
                rw [show zss.getD r [] = zss[r] by rw [List.getD_eq_getElem?_getD, List.getElem?_eq_getElem hrl]; rfl]
              clear hc
              generalize zss[r] = zs at *
              obtain ⟨zb, zoff, zcap, rfl⟩ := hu.form (by omega)
              obtain ⟨lz, zn, zo, zl, zc, a5, a6, naz⟩ := hu.at j (by omega)
              rw [hzN] at a4
              obtain ⟨sn, so, sl, sc, a0, a1, nas⟩ := HT.out
              have lo := HI.out.lt
              have NK := hide nak; have NZ := hide naz; have NS := hide nas
              have hsl : ((cm.take j ++ List.replicate (cm.length - j) 0).set j (psum ks zss j r)).length = N := by rw [List.length_set]; omega
              clear nak naz nas hu hzN
              generalize ks.getD r 0 = x at *
              generalize zs.getD j 0 = y at *
              generalize psum ks zss j r = s at *
              go_wp2_with fail
              refine upto_start (S := (fun w' => w'.cell? ⟨w.heap.size, j * 2, none⟩ = some (.bool sn) ∧ w'.cell? ⟨w.heap.size, j * 2 + 1, none⟩ = some (.slice so sl sc) ∧ w'.cell? ⟨kb, koff + r * 2, none⟩ = some (.bool kn) ∧ w'.cell? ⟨kb, koff + r * 2 + 1, none⟩ = some (.slice ko kl kc) ∧ w'.cell? ⟨mb, moff + r, none⟩ = some (.slice (some ⟨zb, zoff, none⟩) N zcap) ∧ w'.cell? ⟨zb, zoff + j * 2, none⟩ = some (.bool zn) ∧ w'.cell? ⟨zb, zoff + j * 2 + 1, none⟩ = some (.slice zo zl zc))) (k := 20) (by kernel_rfl) (by (try dsimp only); go_keep) (fun hHeld => ?_)
              refine upto_run (v := ?_) 0 45 [19, 20] rfl rfl (by kernel_rfl) (by kernel_rfl) (by kernel_rfl) (by kernel_rfl) (by kernel_rfl) (fun _ _ _ h => h) (by rfl) ?_ (by assumption) ?_
              rotate_left
              · (intro w hSw; (try dsimp only at hSw); go_simp; with_reducible rfl)
              simp only [Act.put, List.setIfInBounds_toArray, List.set_cons_zero, List.set_cons_succ]
              refine upto_run (v := ?_) 1 46 [19, 20] rfl rfl (by kernel_rfl) (by kernel_rfl) (by kernel_rfl) (by kernel_rfl) (by kernel_rfl) (fun _ _ _ h => h) (by rfl) ?_ (by assumption) ?_
              rotate_left
              · (intro w hSw; (try dsimp only at hSw); go_simp; with_reducible rfl)
              simp only [Act.put, List.setIfInBounds_toArray, List.set_cons_zero, List.set_cons_succ]
              refine upto_run (v := ?_) 2 47 [4, 5, 18, 20] rfl rfl (by kernel_rfl) (by kernel_rfl) (by kernel_rfl) (by kernel_rfl) (by kernel_rfl) (fun _ _ _ h => h) (by rfl) ?_ (by assumption) ?_
              rotate_left
              · (intro w hSw; (try dsimp only at hSw); go_simp; with_reducible rfl)
              simp only [Act.put, List.setIfInBounds_toArray, List.set_cons_zero, List.set_cons_succ]
              refine upto_run (v := ?_) 3 48 [4, 5, 18, 20] rfl rfl (by kernel_rfl) (by kernel_rfl) (by kernel_rfl) (by kernel_rfl) (by kernel_rfl) (fun _ _ _ h => h) (by rfl) ?_ (by assumption) ?_
              rotate_left
              · (intro w hSw; (try dsimp only at hSw); go_simp; with_reducible rfl)
              simp only [Act.put, List.setIfInBounds_toArray, List.set_cons_zero, List.set_cons_succ]
              refine upto_run (v := ?_) 4 49 [5, 18, 20] rfl rfl (by kernel_rfl) (by kernel_rfl) (by kernel_rfl) (by kernel_rfl) (by kernel_rfl) (fun _ _ _ h => h) (by rfl) ?_ (by assumption) ?_
              rotate_left
              · (intro w hSw; (try dsimp only at hSw); go_simp; with_reducible rfl)
              simp only [Act.put, List.setIfInBounds_toArray, List.set_cons_zero, List.set_cons_succ]
              refine upto_run (v := ?_) 5 50 [18, 20] rfl rfl (by kernel_rfl) (by kernel_rfl) (by kernel_rfl) (by kernel_rfl) (by kernel_rfl) (fun _ _ _ h => h) (by rfl) ?_ (by assumption) ?_
              rotate_left
              · (intro w hSw; (try dsimp only at hSw); go_simp; with_reducible rfl)
              simp only [Act.put, List.setIfInBounds_toArray, List.set_cons_zero, List.set_cons_succ]
              refine upto_run (v := ?_) 6 51 [8, 9, 17, 18, 20] rfl rfl (by kernel_rfl) (by kernel_rfl) (by kernel_rfl) (by kernel_rfl) (by kernel_rfl) (fun _ _ _ h => h) (by rfl) ?_ (by assumption) ?_
              rotate_left
              · (intro w hSw; (try dsimp only at hSw); go_simp; with_reducible rfl)
              simp only [Act.put, List.setIfInBounds_toArray, List.set_cons_zero, List.set_cons_succ]
              refine upto_run (v := ?_) 7 52 [8, 9, 17, 18, 20] rfl rfl (by kernel_rfl) (by kernel_rfl) (by kernel_rfl) (by kernel_rfl) (by kernel_rfl) (fun _ _ _ h => h) (by rfl) ?_ (by assumption) ?_
              rotate_left
              · (intro w hSw; (try dsimp only at hSw); go_simp; with_reducible rfl)
              simp only [Act.put, List.setIfInBounds_toArray, List.set_cons_zero, List.set_cons_succ]
              refine upto_run (v := ?_) 8 53 [9, 17, 18, 20] rfl rfl (by kernel_rfl) (by kernel_rfl) (by kernel_rfl) (by kernel_rfl) (by kernel_rfl) (fun _ _ _ h => h) (by rfl) ?_ (by assumption) ?_
              rotate_left
              · (intro w hSw; (try dsimp only at hSw); go_simp; with_reducible rfl)
              simp only [Act.put, List.setIfInBounds_toArray, List.set_cons_zero, List.set_cons_succ]
              refine upto_run (v := ?_) 9 54 [17, 18, 20] rfl rfl (by kernel_rfl) (by kernel_rfl) (by kernel_rfl) (by kernel_rfl) (by kernel_rfl) (fun _ _ _ h => h) (by rfl) ?_ (by assumption) ?_
              rotate_left
              · (intro w hSw; (try dsimp only at hSw); go_simp; with_reducible rfl)
              simp only [Act.put, List.setIfInBounds_toArray, List.set_cons_zero, List.set_cons_succ]
              refine upto_run (v := ?_) 10 55 [12, 13, 15, 16, 17, 18, 20] rfl rfl (by kernel_rfl) (by kernel_rfl) (by kernel_rfl) (by kernel_rfl) (by kernel_rfl) (fun _ _ _ h => h) (by rfl) ?_ (by assumption) ?_
              rotate_left
              · (intro w hSw; (try dsimp only at hSw); go_simp; with_reducible rfl)
              simp only [Act.put, List.setIfInBounds_toArray, List.set_cons_zero, List.set_cons_succ]
              refine upto_run (v := ?_) 11 56 [12, 13, 15, 16, 17, 18, 20] rfl rfl (by kernel_rfl) (by kernel_rfl) (by kernel_rfl) (by kernel_rfl) (by kernel_rfl) (fun _ _ _ h => h) (by rfl) ?_ (by assumption) ?_
              rotate_left
              · (intro w hSw; (try dsimp only at hSw); go_simp; with_reducible rfl)
              simp only [Act.put, List.setIfInBounds_toArray, List.set_cons_zero, List.set_cons_succ]
              refine upto_run (v := ?_) 12 57 [13, 15, 16, 17, 18, 20] rfl rfl (by kernel_rfl) (by kernel_rfl) (by kernel_rfl) (by kernel_rfl) (by kernel_rfl) (fun _ _ _ h => h) (by rfl) ?_ (by assumption) ?_
              rotate_left
              · (intro w hSw; (try dsimp only at hSw); go_simp; with_reducible rfl)
              simp only [Act.put, List.setIfInBounds_toArray, List.set_cons_zero, List.set_cons_succ]
              refine upto_run (v := ?_) 13 58 [15, 16, 17, 18, 20] rfl rfl (by kernel_rfl) (by kernel_rfl) (by kernel_rfl) (by kernel_rfl) (by kernel_rfl) (fun _ _ _ h => h) (by rfl) ?_ (by assumption) ?_
              rotate_left
              · (intro w hSw; (try dsimp only at hSw); go_simp; with_reducible rfl)
              simp only [Act.put, List.setIfInBounds_toArray, List.set_cons_zero, List.set_cons_succ]
              refine upto_run (v := ?_) 14 59 [15, 16, 17, 18, 20] rfl rfl (by kernel_rfl) (by kernel_rfl) (by kernel_rfl) (by kernel_rfl) (by kernel_rfl) (fun _ _ _ h => h) (by rfl) ?_ (by assumption) ?_
              rotate_left
              · (intro w hSw; (try dsimp only at hSw); go_simp; with_reducible rfl)
              simp only [Act.put, List.setIfInBounds_toArray, List.set_cons_zero, List.set_cons_succ]
              refine upto_run (v := ?_) 15 60 [16, 17, 18, 20] rfl rfl (by kernel_rfl) (by kernel_rfl) (by kernel_rfl) (by kernel_rfl) (by kernel_rfl) (fun _ _ _ h => h) (by rfl) ?_ (by assumption) ?_
              rotate_left
              · (intro w hSw; (try dsimp only at hSw); go_simp; with_reducible rfl)
              simp only [Act.put, List.setIfInBounds_toArray, List.set_cons_zero, List.set_cons_succ]
              refine upto_run (v := ?_) 16 61 [17, 18, 20] rfl rfl (by kernel_rfl) (by kernel_rfl) (by kernel_rfl) (by kernel_rfl) (by kernel_rfl) (fun _ _ _ h => h) (by rfl) ?_ (by assumption) ?_
              rotate_left
              · (intro w hSw; (try dsimp only at hSw); go_simp; with_reducible rfl)
              simp only [Act.put, List.setIfInBounds_toArray, List.set_cons_zero, List.set_cons_succ]
              refine upto_one 17 (by kernel_rfl) rfl (fun K hK => ?_)
              go_simp
              (refine (mul_any _ _ _ x y nk nm (by exact NK.out) (by exact NZ.out) (by omega) (by omega)).mono ?_; rintro e w2 ⟨p, rfl, hp, hb⟩; have b0 := (hb.cell (p := ⟨w.heap.size, j * 2, none⟩) lo).trans a0; have b1 := (hb.cell (p := ⟨w.heap.size, j * 2 + 1, none⟩) lo).trans a1; have b2 := (hb.cell (p := ⟨kb, koff + r * 2, none⟩) lk).trans a2; have b3 := (hb.cell (p := ⟨kb, koff + r * 2 + 1, none⟩) lk).trans a3; have b4 := (hb.cell (p := ⟨mb, moff + r, none⟩) lm).trans a4; have b5 := (hb.cell (p := ⟨zb, zoff + j * 2, none⟩) lz).trans a5; have b6 := (hb.cell (p := ⟨zb, zoff + j * 2 + 1, none⟩) lz).trans a6; have HP := hide hp; have HI2 := hide (HI.out.drew.later hb); have NS2 := hide (NS.out.below (drewed hb) (Nat.le_refl _)); have hs2 := hb.size; clear hp hb)
              go_wp2_with fail
              refine hK.out _ _ (fun _ => by (try dsimp only); go_keep) ?_
              clear hK K
              try simp only [Act.put, List.setIfInBounds_toArray, List.set_cons_zero, List.set_cons_succ]
              refine upto_one 18 (by kernel_rfl) rfl (fun K hK => ?_)
              go_simp
              (refine (add_any _ _ _ s (x * y) (nk + nm + r) (by exact NS2.out) (HP.out.mono (by omega)) (by omega)).mono ?_; rintro e w3 ⟨p', rfl, hp', hb⟩; obtain ⟨⟨rn, ro, rl, rc⟩, rfl⟩ := hp'.nm; have c0 := (hb.cell (p := ⟨w.heap.size, j * 2, none⟩) (Nat.lt_of_lt_of_le lo hs2)).trans b0; have c1 := (hb.cell (p := ⟨w.heap.size, j * 2 + 1, none⟩) (Nat.lt_of_lt_of_le lo hs2)).trans b1; have c2 := (hb.cell (p := ⟨kb, koff + r * 2, none⟩) (Nat.lt_of_lt_of_le lk hs2)).trans b2; have c3 := (hb.cell (p := ⟨kb, koff + r * 2 + 1, none⟩) (Nat.lt_of_lt_of_le lk hs2)).trans b3; have c4 := (hb.cell (p := ⟨mb, moff + r, none⟩) (Nat.lt_of_lt_of_le lm hs2)).trans b4; have c5 := (hb.cell (p := ⟨zb, zoff + j * 2, none⟩) (Nat.lt_of_lt_of_le lz hs2)).trans b5; have c6 := (hb.cell (p := ⟨zb, zoff + j * 2 + 1, none⟩) (Nat.lt_of_lt_of_le lz hs2)).trans b6; have HI3 := hide (HI2.out.later hb); have f0 := HI3.out.thaw (j * 2); have f1 := HI3.out.thaw (j * 2 + 1); have HNR := hide hp'; have HN := hide (HI3.out.set (k := j) (by omega) (hp'.mono (by omega))); have HTT := hide (tight_set HI3.out (k := j) (by omega) hp'); clear hb hp' HI HI2)
              go_wp2_with fail
              refine hK.out _ _ (fun _ => by (try dsimp only); go_keep) ?_
              clear hK K
              try simp only [Act.put, List.setIfInBounds_toArray, List.set_cons_zero, List.set_cons_succ]
              refine upto_one 19 (by kernel_rfl) rfl (fun K hK => ?_)
              go_simp
              refine hK.out _ _ (fun _ => by (try dsimp only); go_keep) ?_
              clear hK K
              try simp only [Act.put, List.setIfInBounds_toArray, List.set_cons_zero, List.set_cons_succ]
              refine upto_one 20 (by kernel_rfl) rfl (fun K hK => ?_)
              go_simp
              refine hK.out _ _ (fun h => absurd h (by decide)) ?_
              clear hK K
              try simp only [Act.put, List.setIfInBounds_toArray, List.set_cons_zero, List.set_cons_succ]
              refine upto_done (by kernel_rfl) ?_
              have HN' : Hid (VecO w ((w3.setCell ⟨w.heap.size, j * 2, none⟩ (.bool rn)).setCell ⟨w.heap.size, j * 2 + 1, none⟩ (.slice ro rl rc)) w.heap.size ((cm.take j ++ List.replicate (cm.length - j) 0).set j (psum ks zss j (r + 1))) (nk + nm + zss.length)) := by
                rw [HPS.out]
                have := HN.out
                rw [List.set_set] at this
                exact this
              have HT' : Hid (Tight ((w3.setCell ⟨w.heap.size, j * 2, none⟩ (.bool rn)).setCell ⟨w.heap.size, j * 2 + 1, none⟩ (.slice ro rl rc)) w.heap.size j (psum ks zss j (r + 1)) (nk + nm + (r + 1))) := by
                rw [HPS.out]; exact HTT.out
              clear a0 a1 a2 a3 a4 a5 a6 b0 b1 b2 b3 b4 b5 b6 c0 c1 c2 c3 c4 c5 c6 f0 f1 HN HTT HNR HI3 HP NS2 NS NK NZ HT HPS
              go_wp2
              go_roundw
              case rel => exact ⟨r + 1, by omega, by go_num, HN'.out, HT'⟩
              case measure => simp [intOf]; omega
            · obtain rfl : r = zss.length := by omega
              have HN : Hid (VecO w wr w.heap.size (cm.take (j + 1) ++ List.replicate (cm.length - (j + 1)) 0) (nk + nm + zss.length)) := by
                rw [← HFS.out]; exact HI.out
              clear HI HT HFS
              go_wp2
              go_roundw
              case rel => exact ⟨j + 1, by omega, by go_num, HN.out⟩
              case measure => simp [intOf]; omega
        · obtain rfl : j = N := by omega
          have HF : Hid (VecO w wr w.heap.size (combo ks zss j) (nk + nm + zss.length)) := by
            have := HI.out
            rw [hcl] at this
            have e : (combo ks zss j).take j = combo ks zss j := List.take_of_length_le (by omega)
            rw [e, Nat.sub_self, List.replicate_zero, List.append_nil] at this
            exact this
          clear HI
          go_wp2
          exact bodyPost_ret (v := .tuple #[.slice (some ⟨w.heap.size, 0, none⟩) j j, .nilIface]) (by simp [results, Tryz.results31, go_sem]) rfl ⟨_, rfl, HF.out⟩

end Go.Proofs.YtjblidoilphifadGreatDoor
