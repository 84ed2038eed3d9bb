/- Ahead of HermiteSays and KernelSays: closed facts, bounds. -/
import Derived.Test.YtdedolkgcdlmeaaGreatDoorHermR
import Derived.Test.YtdedolkgcdlmeaaGreatDoorVecFl
import Derived.Test.YtdedolkgcdlmeaaGreatDoorMatF
import Derived.Test.YtdedolkgcdlmeaaGreatDoorMatLt
import Derived.Test.YtdedolkgcdlmeaaGreatDoorText
import Derived.Test.YtdedolkgcdlmeaaGreatDoorVecT
import Derived.Test.YtdedolkgcdlmeaaGreatDoorRefForm
import Derived.Test.YtdedolkgcdlmeaaGreatDoorRaws

namespace Go.Proofs.YtdedolkgcdlmeaaGreatDoor
open Go.RowKit Limbs Digs

theorem bp_dp (k : Nat) : bp k ≤ dp (3 * k) := by
  induction k with
  | zero => exact (by decide : (1 : Int) ≤ 1)
  | succ k ih =>
    have e : 3 * (k + 1) = 3 * k + 3 := by omega
    rw [e]
    show 4294967296 * bp k ≤ dp (3 * k + 3)
    have e2 : dp (3 * k + 3) = 10000 * (10000 * (10000 * dp (3 * k))) := rfl
    rw [e2]
    have := bp_pos k
    omega

theorem RowR.fits {w : World} {v : Value} {zs : List Int} {n m : Nat} (h : RowR w v zs n) (hz : ∀ j, j < zs.length → -dp m < zs.getD j 0 ∧ zs.getD j 0 < dp m) : RowR w v zs m := by
  obtain ⟨ao, cap, hv, h3, h4⟩ := h
  refine ⟨ao, cap, hv, h3, fun h0 => ?_⟩
  obtain ⟨b, cur, fz', e, hh, hc⟩ := h4 h0
  refine ⟨b, cur, fz', e, hh, fun i hi => ?_⟩
  obtain ⟨s, o, l, c', h5, h6, h7⟩ := hc i hi
  exact ⟨s, o, l, c', h5, h6, h7.fits (hz i hi).1 (hz i hi).2⟩

theorem MatR.fits {w : World} {v : Value} {zss : List (List Int)} {n m : Nat} (h : MatR w v zss n) (hz : ∀ zs ∈ zss, ∀ j, j < zs.length → -dp m < zs.getD j 0 ∧ zs.getD j 0 < dp m) : MatR w v zss m := by
  obtain ⟨ao, cap, hv, h3, h4⟩ := h
  refine ⟨ao, cap, hv, h3, fun h0 => ?_⟩
  obtain ⟨b, e, hlt, hc⟩ := h4 h0
  refine ⟨b, e, hlt, fun i zs hi => ?_⟩
  obtain ⟨u, h5, h6⟩ := hc i zs hi
  exact ⟨u, h5, h6.fits (hz zs (List.mem_of_getElem? hi))⟩

/-- Numbers of so many limbs are not too great. -/
theorem MatN.small {w : World} {v : Value} {zss : List (List Int)} {n : Nat} (h : MatN w v zss n) : ∀ zs ∈ zss, ∀ j, j < zs.length → -dp (3 * n) < zs.getD j 0 ∧ zs.getD j 0 < dp (3 * n) := fun zs hzs j hj => by
  obtain ⟨i, hi, e⟩ := List.getElem_of_mem hzs
  obtain ⟨b, off, cap', e1, hlt, u, hc, hu⟩ := h.at i hi
  rw [e] at hu
  obtain ⟨b', off', cap2, e2⟩ := hu.form (by omega)
  subst e2
  obtain ⟨-, neg, o, l, c, -, -, hz⟩ := hu.at j hj
  have h1 := hz.ab_lt
  have h2 := bp_dp n
  unfold ab at h1
  split at h1 <;> omega

theorem closed_two {hs : List (List Int)} {p : Nat → Nat} (h : FormL 2 hs p) (ha : Alikes 2 (InL hs) (InL [[4, 6], [2, 4]])) : hs = [[2, 0], [0, 2]] := by
  refine formL_one h (p' := fun k => k) ⟨fun r hr => ?_, ⟨fun i k hik hk => hik, fun i hi => hi, fun i b hi hb => ?_, fun i hi => ?_, fun i k hik hk => ?_⟩⟩ ?_
  · simp only [List.mem_cons, List.mem_nil_iff, or_false] at hr
    rcases hr with rfl | rfl <;> rfl
  · have hi' : i < 2 := hi
    obtain rfl : i = 1 := by omega
    obtain rfl : b = 0 := by omega
    rfl
  · have hi' : i < 2 := hi
    rcases (by omega : i = 0 ∨ i = 1) with rfl | rfl <;> decide
  · have hk' : k < 2 := hk
    obtain rfl : i = 0 := by omega
    obtain rfl : k = 1 := by omega
    decide
  · have g1 : Gens 2 (InL [[2, 0], [0, 2]]) [2, 0] := .base (List.mem_cons_self) rfl
    have g2 : Gens 2 (InL [[2, 0], [0, 2]]) [0, 2] := .base (List.mem_cons_of_mem _ (List.mem_singleton.2 rfl)) rfl
    have k1 : Gens 2 (InL [[4, 6], [2, 4]]) [4, 6] := .base (List.mem_cons_self) rfl
    have k2 : Gens 2 (InL [[4, 6], [2, 4]]) [2, 4] := .base (List.mem_cons_of_mem _ (List.mem_singleton.2 rfl)) rfl
    refine ha.trans (.of (fun v hv _ => ?_) (fun v hv _ => ?_))
    · have hv' : v = [4, 6] ∨ v = [2, 4] := by simpa [InL] using hv
      rcases hv' with rfl | rfl
      · exact Gens.comb 2 3 g1 g2
      · exact Gens.comb 1 2 g1 g2
    · have hv' : v = [2, 0] ∨ v = [0, 2] := by simpa [InL] using hv
      rcases hv' with rfl | rfl
      · exact Gens.comb 2 (-3) k1 k2
      · exact Gens.comb (-1) 2 k1 k2

theorem txt_two : txt 2 = [50] := by
  unfold txt Lib.itoa
  rw [if_neg (by decide), show (2 : Int).toNat = 2 from rfl, Lib.decDigits, dif_pos (by decide)]
  rfl

theorem text20 : vtxt [2, 0] = [40, 50, 32, 48, 41] := by
  unfold vtxt
  rw [List.map_cons, List.map_cons, List.map_nil, txt_zero, txt_two]
  rfl

theorem text02 : vtxt [0, 2] = [40, 48, 32, 50, 41] := by
  unfold vtxt
  rw [List.map_cons, List.map_cons, List.map_nil, txt_zero, txt_two]
  rfl

theorem two_rowsH (w : World) (va vb : Value) (xs ys : List Int) (n : Nat) (ha : VecN w va xs n) (hb : VecN w vb ys n) : MatN (w.alloc (.cells #[va, vb] 72)) (.slice (some ⟨w.heap.size, 0, none⟩) 2 2) [xs, ys] n := by
  have hbA : Below w.heap.size w (w.alloc (.cells #[va, vb] 72)) := (Below.refl _ _).alloc (Nat.le_refl _) _
  refine ⟨_, _, rfl, Nat.le_refl _, fun _ => ⟨_, _, rfl, by simp, fun i zs hi => ?_⟩⟩
  have hlt := (List.getElem?_eq_some_iff.1 hi).1
  match i, hlt with
  | 0, _ =>
    simp only [List.getElem?_cons_zero, Option.some.injEq] at hi
    subst hi
    exact ⟨va, by rw [World.cell?_alloc_new]; rfl, ha.below hbA (Nat.le_refl _)⟩
  | 1, _ =>
    simp only [List.getElem?_cons_succ, List.getElem?_cons_zero, Option.some.injEq] at hi
    subst hi
    exact ⟨vb, by rw [World.cell?_alloc_new]; rfl, hb.below hbA (Nat.le_refl _)⟩

theorem row_two (w : World) (x y : Int) (hx : -1000 ≤ x ∧ x ≤ 1000) (hy : -1000 ≤ y ∧ y ≤ 1000) : RowS (w.alloc (.cells #[.int .i64 x, .int .i64 y] 3)) (.slice (some ⟨w.heap.size, 0, none⟩) 2 2) [x, y] := by
  refine ⟨_, _, rfl, Nat.le_refl _, fun i => ?_, fun _ => ⟨_, _, rfl, by simp, fun i hi => ?_⟩⟩
  · match i with
    | 0 => simp; omega
    | 1 => simp; omega
    | i + 2 => simp
  · match i, hi with
    | 0, _ => rw [World.cell?_alloc_new]; rfl
    | 1, _ => rw [World.cell?_alloc_new]; rfl

set_option linter.unusedSimpArgs false in
set_option maxRecDepth 100000 in
set_option maxHeartbeats 3200000 in
theorem mats_any (w : World) (ht : Tab w) : Calls Tryz.prog 9 #[] w fun e w' => e = .returned (.bool true) ∧ Below w.heap.size w w' := by
  have HT := hide ht
  clear ht
  have HO1 := hide (ofV_any _ _ [4, 6] (row_two w 4 6 (by decide) (by decide)) (by decide))
  have HB0 : Hid (Below w.heap.size w (w.alloc (.cells #[.int .i64 4, .int .i64 6] 3))) := (Below.refl _ _).alloc (Nat.le_refl _) _
  go_enter Tryz.func9, Tryz.ntmps9
  go_wp2_with fail
  refine HO1.out.mono ?_
  rintro e w1 ⟨P1, rfl, ho1⟩
  have HV1 := hide ho1.vec
  have HB1 := hide (HB0.out.trans (ho1.below.mono (by simp)))
  rw [show ([4, 6] : List Int).length = 2 from rfl]
  have HO2 := hide (ofV_any _ _ [2, 4] (row_two w1 2 4 (by decide) (by decide)) (by decide))
  have HB1a : Hid (Below w1.heap.size w1 (w1.alloc (.cells #[.int .i64 2, .int .i64 4] 3))) := (Below.refl _ _).alloc (Nat.le_refl _) _
  clear ho1 HO1 HB0
  go_wp2_with fail
  refine HO2.out.mono ?_
  rintro e w2 ⟨P2, rfl, ho2⟩
  have hb12 := HB1a.out.trans (ho2.below.mono (by simp))
  have HV2 := hide ho2.vec
  have HV1' := hide (HV1.out.below hb12 (Nat.le_refl _))
  have HB2 := hide (HB1.out.trans (hb12.mono HB1.out.size))
  rw [show ([2, 4] : List Int).length = 2 from rfl]
  have HM2 := hide (two_rowsH w2 _ _ [4, 6] [2, 4] 2 HV1'.out HV2.out)
  have HHE : Hid (Calls Tryz.prog 48 #[.slice (some ⟨w2.heap.size, 0, none⟩) 2 2, .int .i64 2] (w2.alloc (.cells #[.slice (some ⟨P1, 0, none⟩) 2 2, .slice (some ⟨P2, 0, none⟩) 2 2] 72)) fun e w' => HermPost (w2.alloc (.cells #[.slice (some ⟨P1, 0, none⟩) 2 2, .slice (some ⟨P2, 0, none⟩) 2 2] 72)) 2 2 [[4, 6], [2, 4]] e w') :=
    hermite_any _ _ [[4, 6], [2, 4]] 2 2 HM2.out (fun us h => by simp only [List.mem_cons, List.mem_nil_iff, or_false] at h; rcases h with rfl | rfl <;> rfl) (by decide) (by decide) (by decide) (by decide)
  have HB2a : Hid (Below w2.heap.size w2 (w2.alloc (.cells #[.slice (some ⟨P1, 0, none⟩) 2 2, .slice (some ⟨P2, 0, none⟩) 2 2] 72))) := (Below.refl _ _).alloc (Nat.le_refl _) _
  clear ho2 hb12 HV2 HV1 HV1' HO2 HM2 HB1 HB1a
  go_wp2_with fail
  refine HHE.out.mono ?_
  rintro e w3 ⟨u3, hs, p, rfl, h1, h2, h3, h4, h5⟩
  obtain rfl := closed_two h4 h5
  have hb3 : Below w2.heap.size w2 w3 := HB2a.out.trans (h3.mono (by simp))
  have HB3 := hide (HB2.out.trans (hb3.mono HB2.out.size))
  obtain ⟨ob, ooff, ocap, rfl, olt, uv, cv, hv⟩ := h1.at 0 (by decide)
  obtain ⟨_, _, _, e, -, uv', cv', hv'⟩ := h1.at 1 (by decide)
  simp only [Value.slice.injEq, Option.some.injEq, Addr.mk.injEq, and_true, true_and] at e
  obtain ⟨⟨rfl, rfl⟩, rfl⟩ := e
  have HTX : Hid (Calls Tryz.prog 50 #[uv] w3 fun e w' => e = .returned (.string ⟨#[40, 50, 32, 48, 41]⟩) ∧ Below w3.heap.size w3 w') := by
    have := vtext_any w3 uv [2, 0] _ (HT.out.below HB3.out) hv (by decide) (by decide) (by decide) (by
      rw [List.map_cons, List.map_cons, List.map_nil, txt_zero, txt_two]
      decide)
    rw [text20] at this
    exact this
  have HTY : Hid (∀ w4, Below w3.heap.size w3 w4 → Calls Tryz.prog 50 #[uv'] w4 fun e w' => e = .returned (.string ⟨#[40, 48, 32, 50, 41]⟩) ∧ Below w4.heap.size w4 w') := fun w4 hb => by
    have := vtext_any w4 uv' [0, 2] _ ((HT.out.below HB3.out).below hb) (hv'.below hb (Nat.le_refl _)) (by decide) (by decide) (by decide) (by
      rw [List.map_cons, List.map_cons, List.map_nil, txt_zero, txt_two]
      decide)
    rw [text02] at this
    exact this
  rw [show ([[2, 0], [0, 2]] : List (List Int)).length = 2 from rfl]
  rw [Nat.add_zero] at cv
  obtain ⟨vo, vcap, rfl, -, -⟩ := hv
  obtain ⟨vo', vcap', rfl, -, -⟩ := hv'
  clear h1 h2 h3 h4 h5 HHE hb3 HB2a HB2
  go_wp2_with fail
  refine (same_zero w3).mono ?_
  rintro e w3' ⟨rfl, rfl⟩
  go_wp2_with fail
  refine HTX.out.mono ?_
  rintro e w4 ⟨rfl, hb4⟩
  have cv4 := (hb4.cell (p := ⟨ob, ooff + 1, none⟩) olt).trans cv'
  have HB4 := hide hb4
  have olt4 := Nat.lt_of_lt_of_le olt hb4.size
  clear hb4 cv cv' HTX
  go_wp2_with fail
  refine (HTY.out w4 HB4.out).mono ?_
  rintro e w5 ⟨rfl, hb5⟩
  have HB5 := hide (HB3.out.trans ((HB4.out.trans (hb5.mono HB4.out.size)).mono HB3.out.size))
  clear hb5 HTY
  go_wp2
  go_ret
  exact ⟨rfl, HB5.out⟩

end Go.Proofs.YtdedolkgcdlmeaaGreatDoor

/- How much of each row in the one form a vector is. -/
namespace Go.Proofs.YtdedolkgcdlmeaaGreatDoor
open Go.RowKit Limbs

/-- What is left once rows are taken off, one by one. -/
def leftN (H : Nat → Nat → Int) (p : Nat → Nat) (v : Nat → Int) : Nat → Nat → Int
  | 0 => v
  | i + 1 => fun b => leftN H p v i b - leftN H p v i (p i) / H i (p i) * H i b

/-- How often a row is taken off. -/
def oftenN (H : Nat → Nat → Int) (p : Nat → Nat) (v : Nat → Int) (i : Nat) : Int := leftN H p v i (p i) / H i (p i)

end Go.Proofs.YtdedolkgcdlmeaaGreatDoor

/- Of rows in the one form: where their first numbers lie. -/
namespace Go.Proofs.YtdedolkgcdlmeaaGreatDoor
open Go.RowKit Limbs

theorem first_eq : ∀ (zs : List Int) (k : Nat), k < zs.length → (∀ j, j < k → zs.getD j 0 = 0) → zs.getD k 0 ≠ 0 → first zs = k
  | [], k, hk, _, _ => absurd hk (by simp)
  | z :: zs, 0, _, _, hne => by
    have : z ≠ 0 := by simpa using hne
    rw [first, if_neg this]; rfl
  | z :: zs, k + 1, hk, h0, hne => by
    have e : z = 0 := by simpa using h0 0 (by omega)
    have ih := first_eq zs k (by simpa using hk) (fun j hj => by simpa using h0 (j + 1) (by omega)) (by simpa using hne)
    rw [first, if_pos e, ih, if_neg (by omega)]
    omega

theorem FormL.first {n : Nat} {hs : List (List Int)} {p : Nat → Nat} (h : FormL n hs p) {k : Nat} (hk : k < hs.length) : first hs[k] = p k ∧ p k < n ∧ 0 < hs[k].getD (p k) 0 := by
  have hlen := h.len _ (List.getElem_mem hk)
  have h1 := h.form.lt k hk
  have h2 := h.form.pos k hk
  have h3 := h.form.zero k
  simp only [getD_row hk] at h2 h3
  exact ⟨first_eq _ _ (by omega) (fun j hj => h3 j hk hj) (by omega), h1, h2⟩

theorem FormL.red {n : Nat} {hs : List (List Int)} {p : Nat → Nat} (h : FormL n hs p) {i k : Nat} (hik : i < k) (hk : k < hs.length) : 0 ≤ (hs[i]'(by omega)).getD (p k) 0 ∧ (hs[i]'(by omega)).getD (p k) 0 < hs[k].getD (p k) 0 := by
  have := h.form.red i k hik hk
  simpa only [getD_row hk, getD_row (show i < hs.length by omega)] using this

/-- The pivot's place of the row ahead. -/
def lastP (p : Nat → Nat) (k : Nat) : Int := if k = 0 then -1 else (p (k - 1) : Int)

theorem FormL.last {n : Nat} {hs : List (List Int)} {p : Nat → Nat} (h : FormL n hs p) {k : Nat} (hk : k < hs.length) : lastP p k < (p k : Int) := by
  unfold lastP
  split
  · omega
  · have := h.form.inc (k - 1) k (by omega) hk
    omega

end Go.Proofs.YtdedolkgcdlmeaaGreatDoor

/- How much of each row in the one form a vector is: lists. -/
namespace Go.Proofs.YtdedolkgcdlmeaaGreatDoor
open Go.RowKit Limbs

/-- The row's share of what is left. -/
def oftL (hs : List (List Int)) (p : Nat → Nat) (xs : List Int) (k : Nat) : Int := xs.getD (p k) 0 / (hs.getD k []).getD (p k) 0

/-- What is left once rows are taken off. -/
def leftL (hs : List (List Int)) (p : Nat → Nat) (zs : List Int) : Nat → List Int
  | 0 => zs
  | k + 1 => List.zipWith (fun x y => x - y) (leftL hs p zs k) ((hs.getD k []).map (oftL hs p (leftL hs p zs k) k * ·))

/-- How much of each row. -/
def muchL (hs : List (List Int)) (p : Nat → Nat) (zs : List Int) : List Int := (List.range hs.length).map fun k => oftL hs p (leftL hs p zs k) k

theorem range_getD (m : Nat) (f : Nat → Int) (k : Nat) (hk : k < m) : ((List.range m).map f).getD k 0 = f k := by
  rw [List.getD_eq_getElem?_getD, List.getElem?_map, List.getElem?_range hk]
  rfl

end Go.Proofs.YtdedolkgcdlmeaaGreatDoor

/- The sum of two lattices: what generates it. -/
namespace Go.Proofs.YtdedolkgcdlmeaaGreatDoor
open Go.RowKit Limbs

end Go.Proofs.YtdedolkgcdlmeaaGreatDoor

/- Rows turned about, put to each other, there twice: they generate the same. -/
namespace Go.Proofs.YtdedolkgcdlmeaaGreatDoor
open Go.RowKit Limbs

/-- The row before it is put to. -/
def sRow (ms : List (List Int)) (b x : Nat) : List Int := if x = b then ((ms.getD x []).map (1 * ·)).map (-1 * ·) else (ms.getD x []).map (1 * ·)

def tRow (ms : List (List Int)) (a b : Nat) (z : Int) (x : Nat) : List Int :=
  if x = a ∧ a ≠ b then List.zipWith (fun x y => x + y) (sRow ms b x) ((ms.getD b []).map (z * ·)) else sRow ms b x

def tList (ms : List (List Int)) (a b : Nat) (z : Int) : Nat → List (List Int)
  | 0 => []
  | d + 1 => tList ms a b z d ++ [tRow ms a b z (ms.length - 1 - d)]

end Go.Proofs.YtdedolkgcdlmeaaGreatDoor
