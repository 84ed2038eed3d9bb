/- Vectors made of numbers of 64 bits; the first place that isn't nought. -/
import Derived.Test.YtdedolkgcdlmeaaGreatDoorDigs
import Derived.Test.YtdedolkgcdlmeaaGreatDoorOps2
import Derived.Test.YtdedolkgcdlmeaaGreatDoorGcdA

namespace Go.Proofs.YtdedolkgcdlmeaaGreatDoor
open Go.RowKit Limbs

/-- Numbers of 64 bits in a row. -/
def RowS (w : World) (v : Value) (ks : List Int) : Prop :=
  ∃ ao cap, v = .slice ao ks.length cap ∧ ks.length ≤ cap ∧ (∀ i, -9223372036854775808 ≤ ks.getD i 0 ∧ ks.getD i 0 ≤ 9223372036854775807) ∧
    (0 < ks.length → ∃ b off, ao = some ⟨b, off, none⟩ ∧ b < w.heap.size ∧ ∀ i, i < ks.length → w.cell? ⟨b, off + i, none⟩ = some (.int .i64 (ks.getD i 0)))

theorem RowS.below {C : Nat} {w w' : World} {v : Value} {ks : List Int} (h : RowS w v ks) (hb : Below C w w') (hC : w.heap.size ≤ C) : RowS w' v ks := by
  obtain ⟨ao, cap, hv, h1, hk, h2⟩ := h
  refine ⟨ao, cap, hv, h1, hk, fun h0 => ?_⟩
  obtain ⟨b, off, e, hlt, hc⟩ := h2 h0
  exact ⟨b, off, e, Nat.lt_of_lt_of_le hlt hb.size, fun i hi => (hb.cell (p := ⟨b, off + i, none⟩) (Nat.lt_of_lt_of_le hlt hC)).trans (hc i hi)⟩

/-- A vector that was made. -/
def VecPost (w : World) (zs : List Int) (n : Nat) (e : Ending) (w' : World) : Prop :=
  ∃ P, e = .returned (.slice (some ⟨P, 0, none⟩) zs.length zs.length) ∧ VecO w w' P zs n

theorem VecO.full {w W : World} {P : Nat} {zs : List Int} {n : Nat} (h : VecO w W P (zs.take zs.length ++ List.replicate (zs.length - zs.length) 0) n) : VecO w W P zs n := by
  rwa [List.take_length, Nat.sub_self, List.replicate_zero, List.append_nil] at h

set_option maxRecDepth 100000 in
set_option maxHeartbeats 1600000 in
theorem ofV_any (w : World) (v : Value) (ks : List Int) (hv : RowS w v ks) (h8 : ks.length ≤ 1000) :
    Calls Tryz.prog 49 #[v] w fun e w' => VecPost w ks 2 e w' := by
  have HV := hide hv
  obtain ⟨ao, cap, rfl, -, hk64, -⟩ := hv
  have HK := hide hk64
  have hmk := run_mkV ks.length (by omega)
  have HI := hide (VecO.made w w (Below.refl _ _) ks.length 2)
  clear hk64
  go_enter Tryz.func49, Tryz.ntmps49
  go_wp2
  clear hmk
  go_loopw [10] (fun i wr => ∃ k : Nat, k ≤ ks.length ∧ i = .int .i64 k ∧ VecO w wr w.heap.size (ks.take k ++ List.replicate (ks.length - k) 0) 2) (fun i _ => ks.length - (intOf i).toNat)
  case atStart => exact ⟨0, Nat.zero_le _, rfl, HI.out⟩
  case round =>
    clear HI
    obtain ⟨k, hk, rfl, hinv⟩ := hrel
    have HI := hide hinv
    clear hinv
    by_cases hkl : k < ks.length
    · obtain ⟨_, _, e, -, -, hc⟩ := HV.out.below HI.out.below (Nat.le_refl _)
      simp only [Value.slice.injEq, true_and] at e
      obtain ⟨rfl, rfl⟩ := e
      obtain ⟨b, off, rfl, -, hc⟩ := hc (by omega)
      have c0 := hc k hkl
      have HFS := hide (fill_step ks k hkl)
      have hfl := fill_len ks k hk
      have H64 := hide (HK.out k)
      clear hc
      generalize ks.getD k 0 = z at *
      go_wp2_with fail
      refine (of_any wr z H64.out.1 H64.out.2).mono ?_
      rintro e w2 ⟨r, rfl, hr, hb⟩
      obtain ⟨⟨rn, ro, rl, rc⟩, rfl⟩ := hr.nm
      have HI2 := hide (HI.out.later hb)
      obtain ⟨neg0, o0, l0, c0', k0, k1, -⟩ := HI2.out.at k (by omega)
      have f0 := HI2.out.thaw (k * 2)
      have f1 := HI2.out.thaw (k * 2 + 1)
      have hP := HI2.out.lt
      have HN := hide (HI2.out.set (k := k) (by omega) hr)
      rw [HFS.out] at HN
      clear hb hr HI HI2 HFS H64 c0
      go_wp2
      go_roundw
      case rel => exact ⟨k + 1, by omega, by go_num, HN.out⟩
      case measure => simp [intOf]; omega
    · obtain rfl : k = ks.length := by omega
      have HF := hide HI.out.full
      clear HI
      go_wp2
      go_ret
      exact ⟨_, rfl, HF.out⟩

/-- The first place that isn't nought, or -1. -/
def first : List Int → Int
  | [] => -1
  | z :: zs => if z = 0 then (if first zs < 0 then -1 else first zs + 1) else 0

def firstFrom (zs : List Int) (k : Nat) : Int := if first (zs.drop k) < 0 then -1 else first (zs.drop k) + k

end Go.Proofs.YtdedolkgcdlmeaaGreatDoor

/- Sums, differences and multiples of vectors. -/
namespace Go.Proofs.YtdedolkgcdlmeaaGreatDoor
open Go.RowKit Limbs

theorem zip_getD (f : Int → Int → Int) (xs ys : List Int) (h : xs.length = ys.length) (k : Nat) (hk : k < xs.length) : (List.zipWith f xs ys).getD k 0 = f (xs.getD k 0) (ys.getD k 0) := by
  rw [List.getD_eq_getElem?_getD, List.getElem?_zipWith, List.getD_eq_getElem?_getD, List.getD_eq_getElem?_getD, List.getElem?_eq_getElem hk, List.getElem?_eq_getElem (by omega)]
  rfl

theorem zip_len (f : Int → Int → Int) (xs ys : List Int) (h : xs.length = ys.length) : (List.zipWith f xs ys).length = xs.length := by
  rw [List.length_zipWith]; omega

theorem map_getD' (f : Int → Int) (xs : List Int) (k : Nat) (hk : k < xs.length) : (xs.map f).getD k 0 = f (xs.getD k 0) := by
  rw [List.getD_eq_getElem?_getD, List.getElem?_map, List.getD_eq_getElem?_getD, List.getElem?_eq_getElem hk]
  rfl

theorem box_vec {W : World} {P : Nat} {A : Nat} {u0 u1 : Value} (hA : Box W A u0 u1) (hne : A ≠ P) (k : Nat) (v0 v1 : Value) : Box ((W.setCell ⟨P, k * 2, none⟩ v0).setCell ⟨P, k * 2 + 1, none⟩ v1) A u0 u1 :=
  (hA.other hne _ _).other hne _ _

set_option maxRecDepth 100000 in
set_option maxHeartbeats 4000000 in
theorem scaleV_any (w : World) (vk va : Value) (z : Int) (xs : List Int) (m n : Nat) (hk : NumL w vk z m) (ha : VecN w va xs n) (h8 : xs.length ≤ 1000) (hm : m ≤ 100000) (hn : n ≤ 100000) :
    Calls Tryz.prog 115 #[vk, va] w fun e w' => VecPost w (xs.map (z * ·)) (m + n) e w' := by
  have HA := hide ha; have HK := hide hk
  obtain ⟨⟨kn, ko, kl, kc⟩, rfl⟩ := hk.nm
  have hlt : (xs.map (z * ·)).length = xs.length := List.length_map ..
  have HZ := hide (map_getD' (z * ·) xs)
  obtain ⟨ao, acap, rfl, -, -⟩ := ha
  clear hk
  have hmk := run_mkV xs.length (by omega)
  have HI : Hid (VecO w ((w.alloc (.cells #[.bool kn, .slice ko kl kc] 29)).alloc (.cells (madeCells #[.bool false, .slice none 0 0] (xs.length * 2)) 29)) (w.heap.size + 1) (List.replicate (xs.map (z * ·)).length 0) (m + n)) := by
    rw [hlt]
    have := VecO.made w (w.alloc (.cells #[.bool kn, .slice ko kl kc] 29)) ((Below.refl _ _).alloc (Nat.le_refl _) _) xs.length (m + n)
    rwa [World.size_alloc] at this
  have HX : Hid (Box ((w.alloc (.cells #[.bool kn, .slice ko kl kc] 29)).alloc (.cells (madeCells #[.bool false, .slice none 0 0] (xs.length * 2)) 29)) w.heap.size (.bool kn) (.slice ko kl kc)) :=
    (box_new w _ _ _ _ rfl).later ((Below.refl _ _).alloc (by simp) _ : Below (w.heap.size + 1) _ _) (by omega)
  have hpost : ∀ W, VecO w W (w.heap.size + 1) (xs.map (z * ·)) (m + n) → VecPost w (xs.map (z * ·)) (m + n) (.returned (.slice (some ⟨w.heap.size + 1, 0, none⟩) xs.length xs.length)) W := fun W h => ⟨_, by rw [hlt], h⟩
  have HPOST := hide hpost
  clear hpost
  generalize hts : xs.map (z * ·) = ts at *
  clear hts
  go_enter Tryz.func115, Tryz.ntmps115
  go_wp2
  clear hmk
  go_loopw [12] (fun i wr => ∃ k : Nat, k ≤ xs.length ∧ i = .int .i64 k ∧ VecO w wr (w.heap.size + 1) (ts.take k ++ List.replicate (ts.length - k) 0) (m + n) ∧ Hid (Box wr w.heap.size (.bool kn) (.slice ko kl kc))) (fun i _ => xs.length - (intOf i).toNat)
  case atStart => exact ⟨0, Nat.zero_le _, rfl, HI.out, HX⟩
  case round =>
    clear HI HX
    obtain ⟨k, hk, rfl, hinv, HX⟩ := hrel
    have HI := hide hinv
    clear hinv
    by_cases hkl : k < xs.length
    · obtain ⟨ab, aoff, _, e⟩ := HA.out.form (by omega)
      simp only [Value.slice.injEq, true_and] at e
      obtain ⟨rfl, rfl⟩ := e
      obtain ⟨la, an, ao, al, ac, a0, a1, na⟩ := (HA.out.below HI.out.below (Nat.le_refl _)).at k hkl
      obtain ⟨b0, b1, -, -⟩ := HX.out
      have NA := hide na
      have NK' : NumL wr (.agg #[.bool kn, .slice ko kl kc]) z m := HK.out.below HI.out.below (Nat.le_refl _)
      have HFS := hide (fill_step ts k (by omega))
      rw [HZ.out k hkl] at HFS
      have hfl := fill_len ts k (by omega)
      clear na
      generalize xs.getD k 0 = x at *
      go_wp2_with fail
      refine upto_start (S := (fun w' => w'.cell? ⟨ab, aoff + k * 2, none⟩ = some (.bool an) ∧ w'.cell? ⟨ab, aoff + k * 2 + 1, none⟩ = some (.slice ao al ac) ∧ w'.cell? ⟨w.heap.size, 0, none⟩ = some (.bool kn) ∧ w'.cell? ⟨w.heap.size, 1, none⟩ = some (.slice ko kl kc))) (k := 9) (by kernel_rfl) (by (try dsimp only); go_keep) (fun hHeld => ?_)
      refine upto_run (v := ?_) 0 15 [8, 9] rfl rfl (by kernel_rfl) (by kernel_rfl) (by kernel_rfl) (by kernel_rfl) (by kernel_rfl) (fun _ _ _ h => h) (by rfl) ?_ (by assumption) ?_
      rotate_left
      · (intro w hSw; (try dsimp only at hSw); go_simp; with_reducible rfl)
      simp only [Act.put, List.setIfInBounds_toArray, List.set_cons_zero, List.set_cons_succ]
      refine upto_run (v := ?_) 1 16 [8, 9] rfl rfl (by kernel_rfl) (by kernel_rfl) (by kernel_rfl) (by kernel_rfl) (by kernel_rfl) (fun _ _ _ h => h) (by rfl) ?_ (by assumption) ?_
      rotate_left
      · (intro w hSw; (try dsimp only at hSw); go_simp; with_reducible rfl)
      simp only [Act.put, List.setIfInBounds_toArray, List.set_cons_zero, List.set_cons_succ]
      refine upto_run (v := ?_) 2 17 [7, 9] rfl rfl (by kernel_rfl) (by kernel_rfl) (by kernel_rfl) (by kernel_rfl) (by kernel_rfl) (fun _ _ _ h => h) (by rfl) ?_ (by assumption) ?_
      rotate_left
      · (intro w hSw; (try dsimp only at hSw); go_simp; with_reducible rfl)
      simp only [Act.put, List.setIfInBounds_toArray, List.set_cons_zero, List.set_cons_succ]
      refine upto_run (v := ?_) 3 18 [5, 6, 7, 9] rfl rfl (by kernel_rfl) (by kernel_rfl) (by kernel_rfl) (by kernel_rfl) (by kernel_rfl) (fun _ _ _ h => h) (by rfl) ?_ (by assumption) ?_
      rotate_left
      · (intro w hSw; (try dsimp only at hSw); go_simp; with_reducible rfl)
      simp only [Act.put, List.setIfInBounds_toArray, List.set_cons_zero, List.set_cons_succ]
      refine upto_run (v := ?_) 4 19 [5, 6, 7, 9] rfl rfl (by kernel_rfl) (by kernel_rfl) (by kernel_rfl) (by kernel_rfl) (by kernel_rfl) (fun _ _ _ h => h) (by rfl) ?_ (by assumption) ?_
      rotate_left
      · (intro w hSw; (try dsimp only at hSw); go_simp; with_reducible rfl)
      simp only [Act.put, List.setIfInBounds_toArray, List.set_cons_zero, List.set_cons_succ]
      refine upto_run (v := ?_) 5 20 [6, 7, 9] rfl rfl (by kernel_rfl) (by kernel_rfl) (by kernel_rfl) (by kernel_rfl) (by kernel_rfl) (fun _ _ _ h => h) (by rfl) ?_ (by assumption) ?_
      rotate_left
      · (intro w hSw; (try dsimp only at hSw); go_simp; with_reducible rfl)
      simp only [Act.put, List.setIfInBounds_toArray, List.set_cons_zero, List.set_cons_succ]
      refine upto_run (v := ?_) 6 21 [7, 9] rfl rfl (by kernel_rfl) (by kernel_rfl) (by kernel_rfl) (by kernel_rfl) (by kernel_rfl) (fun _ _ _ h => h) (by rfl) ?_ (by assumption) ?_
      rotate_left
      · (intro w hSw; (try dsimp only at hSw); go_simp; with_reducible rfl)
      simp only [Act.put, List.setIfInBounds_toArray, List.set_cons_zero, List.set_cons_succ]
      refine upto_one 7 (by kernel_rfl) rfl (fun K hK => ?_)
      go_simp
      (refine (mul_any _ _ _ z x m n (by exact NK') (by exact NA.out) (by omega) (by omega)).mono ?_; rintro e w2 ⟨r, rfl, hr, hb⟩; obtain ⟨⟨rn, ro, rl, rc⟩, rfl⟩ := hr.nm; have HI2 := hide (HI.out.drew.later hb); obtain ⟨neg0, o0, l0, c0', k0, k1, -⟩ := HI2.out.at k (by omega); have f0 := HI2.out.thaw (k * 2); have f1 := HI2.out.thaw (k * 2 + 1); have hP := HI2.out.lt; have p0 := (hb.cell (p := ⟨ab, aoff + k * 2, none⟩) la).trans a0; have p1 := (hb.cell (p := ⟨ab, aoff + k * 2 + 1, none⟩) la).trans a1; have HX2 := hide (show Box w2 w.heap.size _ _ from HX.out.later (drewed hb) (show w.heap.size < wr.heap.size by have := HI.out.lt; omega)); obtain ⟨p2, p3, -, -⟩ := HX2.out; have HN := hide (HI2.out.set (k := k) (by omega) hr); have HXN := hide (box_vec (P := w.heap.size + 1) HX2.out (by omega) k (.bool rn) (.slice ro rl rc)); rw [HFS.out] at HN; clear hb hr HI HI2 HFS)
      go_wp2_with fail
      refine hK.out _ _ (fun _ => by (try dsimp only); go_keep) ?_
      clear hK K
      try simp only [Act.put, List.setIfInBounds_toArray, List.set_cons_zero, List.set_cons_succ]
      refine upto_one 8 (by kernel_rfl) rfl (fun K hK => ?_)
      go_simp
      refine hK.out _ _ (fun _ => by (try dsimp only); go_keep) ?_
      clear hK K
      try simp only [Act.put, List.setIfInBounds_toArray, List.set_cons_zero, List.set_cons_succ]
      refine upto_one 9 (by kernel_rfl) rfl (fun K hK => ?_)
      go_simp
      refine hK.out _ _ (fun h => absurd h (by decide)) ?_
      clear hK K
      try simp only [Act.put, List.setIfInBounds_toArray, List.set_cons_zero, List.set_cons_succ]
      refine upto_done (by kernel_rfl) ?_
      clear p0 p1 p2 p3 a0 a1 b0 b1 k0 k1 f0 f1 NA NK'
      go_wp2
      go_roundw
      case rel => exact ⟨k + 1, by omega, by go_num, HN.out, HXN⟩
      case measure => simp [intOf]; omega
    · obtain rfl : k = xs.length := by omega
      have HF : Hid (VecO w wr (w.heap.size + 1) ts (m + n)) := by
        have := HI.out
        rw [← hlt] at this
        exact this.full
      have HQ := hide (HPOST.out wr HF.out)
      clear HI HF HPOST HX
      go_wp2
      go_ret
      exact HQ.out

end Go.Proofs.YtdedolkgcdlmeaaGreatDoor
