/- mat.rowWith: the first row that isn't nought in a place. -/
import Derived.Test.YtdedolkgcdlmeaaGreatDoorDetF
import Derived.Test.YtdedolkgcdlmeaaGreatDoorMatF
import Derived.Test.YtdedolkgcdlmeaaGreatDoorFormB
import Derived.Test.YtdedolkgcdlmeaaGreatDoorBoxB
import Derived.Test.YtdedolkgcdlmeaaGreatDoorVecX

namespace Go.Proofs.YtdedolkgcdlmeaaGreatDoor
open Go.RowKit Limbs

def RowWPost (w : World) (n k : Nat) (ms : List (List Int)) (e : Ending) (w' : World) : Prop :=
  Below w.heap.size w w' ∧ ((e = .returned (.int .i64 (-1)) ∧ ∀ i, k ≤ i → i < n → ent ms i k = 0) ∨ ∃ f : Nat, e = .returned (.int .i64 (f : Int)) ∧ k ≤ f ∧ f < n ∧ ent ms f k ≠ 0)

set_option linter.unusedSimpArgs false in
set_option maxRecDepth 100000 in
set_option maxHeartbeats 3200000 in
theorem rowWith_any (w : World) (va : Value) (n nv k : Nat) (ms : List (List Int)) (ha : MatN w va ms nv) (hl : ∀ u ∈ ms, u.length = n) (hm : ms.length = n) (hk : k < n) (hn : n ≤ 100) :
    Calls Tryz.prog 54 #[va, .int .i64 (k : Int)] w fun e w' => RowWPost w n k ms e w' := by
  have HA := hide ha; have HL := hide hl; have HM := hide hm
  obtain ⟨ao, cap, rfl, -, -⟩ := ha
  clear hl hm
  obtain ⟨mb, moff, _, e, lm, -⟩ := HA.out.at 0 (by have := HM.out; omega)
  simp only [Value.slice.injEq, true_and] at e
  obtain ⟨rfl, rfl⟩ := e
  have hl1 : ms.length ≤ 100 := by have := HM.out; omega
  have hl2 : k < ms.length := by have := HM.out; omega
  go_enter Tryz.func54, Tryz.ntmps54
  go_wp2
  go_loopw [10] (fun x wr => ∃ j : Nat, k + j ≤ n ∧ x = .int .i64 j ∧ Hid (∀ i, k ≤ i → i < k + j → ent ms i k = 0) ∧ Hid (Below w.heap.size w wr)) (fun x _ => n - (intOf x).toNat)
  case atStart => exact ⟨0, by omega, rfl, hide (fun i h1 h2 => absurd h2 (by omega)), hide (Below.refl _ _)⟩
  case round =>
    obtain ⟨j, hj, rfl, HZ, HB⟩ := hrel
    by_cases hjl : k + j < n
    · have g1 : decide ((j : Int) < (ms.length : Int) - (k : Int)) = true := decide_eq_true (by have := HM.out; omega)
      obtain ⟨h, hh⟩ : ∃ h : Nat, k + j = h := ⟨_, rfl⟩
      have hjc : (k : Int) + (j : Int) = (h : Int) := by omega
      have hhl : h < ms.length := by have := HM.out; omega
      obtain ⟨_, _, _, e, -, ru, cu, hu⟩ := (HA.out.below HB.out (Nat.le_refl _)).at h hhl
      simp only [Value.slice.injEq, Option.some.injEq, Addr.mk.injEq, and_true, true_and] at e
      obtain ⟨⟨rfl, rfl⟩, rfl⟩ := e
      have hul := HL.out _ (List.getElem_mem hhl)
      have HEN : Hid (ent ms h k = ms[h].getD k 0) := by show _ = _; unfold ent; rw [getD_row hhl]
      generalize ms[h] = us at *
      obtain ⟨ub, uoff, ucap, rfl⟩ := hu.form (by omega)
      obtain ⟨lu, neg, o, l, c, d0, d1, nz⟩ := hu.at k (by omega)
      have NZ := hide nz; have HUL := hide hul; have HH := hide hh
      have hku : k < us.length := by omega
      have lmr := Nat.lt_of_lt_of_le lm HB.out.size
      clear nz hul hu hh
      generalize us.getD k 0 = z at *
      go_wp2_with fail
      refine (zero_any wr _ z nv (by exact NZ.out)).mono ?_
      rintro e w1 ⟨rfl, hb1⟩
      have HB1 := hide (HB.out.trans (hb1.mono HB.out.size))
      clear hb1 cu d0 d1
      by_cases hz : z = 0
      · have g2 : decide (z = 0) = true := decide_eq_true hz
        have HZ1 : Hid (∀ i, k ≤ i → i < k + (j + 1) → ent ms i k = 0) := fun i h1 h2 => by
          by_cases e : i < k + j
          · exact HZ.out i h1 e
          · rw [show i = h by have := HH.out; omega, HEN.out]; exact hz
        clear hz
        go_wp2
        go_roundw
        case rel => exact ⟨j + 1, by omega, by go_num, HZ1, HB1⟩
        case measure => simp [intOf]; omega
      · have g2 : decide (z = 0) = false := decide_eq_false hz
        have HP : Hid (RowWPost w n k ms (.returned (.int .i64 (h : Int))) w1) := ⟨HB1.out, .inr ⟨h, rfl, by have := HH.out; omega, by have := HH.out; omega, by rw [HEN.out]; exact hz⟩⟩
        clear hz
        go_wp2
        go_ret
        exact HP.out
    · have g1 : decide ((j : Int) < (ms.length : Int) - (k : Int)) = false := decide_eq_false (by have := HM.out; omega)
      have HP : Hid (RowWPost w n k ms (.returned (.int .i64 (-1))) wr) := ⟨HB.out, .inl ⟨rfl, fun i h1 h2 => HZ.out i h1 (by omega)⟩⟩
      go_wp2
      go_ret
      exact HP.out

end Go.Proofs.YtdedolkgcdlmeaaGreatDoor

/- mat.cleared: a row with nought where the first one has its pivot. -/
namespace Go.Proofs.YtdedolkgcdlmeaaGreatDoor
open Go.RowKit Limbs

def clrD : Nat → List Nat
  | 2 => [0, 1]
  | 3 => [2]
  | 6 => [4, 5]
  | 7 => [6]
  | 8 => [3, 7]
  | 11 => [9, 10]
  | 12 => [11]
  | 15 => [13, 14]
  | 16 => [15]
  | 17 => [12, 16]
  | 18 => [8, 17]
  | 20 => [18, 19]
  | _ => []

def clrK (fb foff rb roff k p : Nat) (vf vr fk rp rk fp : Value) : Nat → Option Value
  | 0 => some vf
  | 1 => some (.int .i64 (k : Int))
  | 2 => some (.pointer (some ⟨fb, foff + k * 2, none⟩))
  | 3 => some fk
  | 4 => some vr
  | 5 => some (.int .i64 (p : Int))
  | 6 => some (.pointer (some ⟨rb, roff + p * 2, none⟩))
  | 7 => some rp
  | 9 => some vr
  | 10 => some (.int .i64 (k : Int))
  | 11 => some (.pointer (some ⟨rb, roff + k * 2, none⟩))
  | 12 => some rk
  | 13 => some vf
  | 14 => some (.int .i64 (p : Int))
  | 15 => some (.pointer (some ⟨fb, foff + p * 2, none⟩))
  | 16 => some fp
  | _ => none

def clrS (x y u v : Int) (N C : Nat) (i : Nat) (c : Nat → Value) (W : World) : Prop :=
  match i with
  | 8 => NumL W (c 8) (x * y) (N + N)
  | 17 => NumL W (c 17) (u * v) (N + N)
  | 18 => NumL W (c 18) (x * y - u * v) (N + N + 2)
  | 19 => ∃ B, c 19 = .pointer (some ⟨B, 0, none⟩) ∧ C ≤ B ∧ B < W.heap.size ∧ Box W B (.bool false) (.slice none 0 0)
  | _ => True

theorem clrStays (x y u v : Int) (N C : Nat) : Stays clrD (clrS x y u v N C) where
  later := fun i c W W' hb h => by
    unfold clrS at h ⊢
    split at h
    · exact h.below hb (Nat.le_refl _)
    · exact h.below hb (Nat.le_refl _)
    · exact h.below hb (Nat.le_refl _)
    · obtain ⟨B, e, h1, h2, h3⟩ := h
      exact ⟨B, e, h1, Nat.lt_of_lt_of_le h2 hb.size, h3.later hb h2⟩
    · trivial
  other := fun i j c v' W hne hm h => by
    unfold clrS at h ⊢
    split at h
    · rw [upd_ne _ _ hne]; exact h
    · rw [upd_ne _ _ hne]; exact h
    · rw [upd_ne _ _ hne]; exact h
    · obtain ⟨B, e, h1, h2, h3⟩ := h
      exact ⟨B, by rw [upd_ne _ _ hne]; exact e, h1, h2, h3⟩
    · trivial

def clrFin (x y u v : Int) (N : Nat) (w : World) (c : Nat → Value) (W : World) : Prop :=
  ∃ B sn so sl sc, c 19 = .pointer (some ⟨B, 0, none⟩) ∧ w.heap.size ≤ B ∧ BoxL W B (.bool sn) (.slice so sl sc) ∧ NumL W (.agg #[.bool sn, .slice so sl sc]) (x * y - u * v) (N + N + 2) ∧ Below w.heap.size w W

theorem quo_exact {a q s t y : Int} (hy : y ≠ 0) (h1 : a = q * y) (h2 : a = s * y + t) (h : Left t y) : s = q := by
  have e : (q - s) * y = t := by rw [Int.sub_mul]; omega
  by_cases h0 : q - s = 0
  · omega
  · exfalso
    have h3 : 1 ≤ absI (q - s) := by unfold absI; split <;> omega
    have h4 := Int.mul_le_mul_of_nonneg_right h3 (absI_nonneg y)
    rw [← absI_mul, e] at h4
    rcases Int.lt_or_gt_of_ne hy with h5 | h5
    · have := h.2 h5; unfold absI at h4; split at h4 <;> split at h4 <;> omega
    · have := h.1 h5; unfold absI at h4; split at h4 <;> split at h4 <;> omega

/-- The row that comes out: nought ahead of the place, then these. -/
def clrL (n k j : Nat) (q : Nat → Int) : List Int := (List.range n).map fun i => if i < k then 0 else if i < k + j then q i else 0

theorem clrL_len (n k j : Nat) (q : Nat → Int) : (clrL n k j q).length = n := by simp [clrL]

theorem clrL_zero (n k : Nat) (q : Nat → Int) : clrL n k 0 q = List.replicate n 0 := by
  refine list_ext (by simp [clrL]) fun i hi => ?_
  rw [clrL_len] at hi
  unfold clrL
  rw [range_getD _ _ i hi]
  have e : (if i < k then (0 : Int) else if i < k + 0 then q i else 0) = 0 := by
    split
    · rfl
    · rw [if_neg (by omega)]
  rw [e]
  simp [List.getD_eq_getElem?_getD, hi]

theorem clrL_set (n k j : Nat) (q : Nat → Int) (h : k + j < n) : (clrL n k j q).set (k + j) (q (k + j)) = clrL n k (j + 1) q := by
  refine list_ext (by simp [clrL]) fun i hi => ?_
  rw [List.length_set, clrL_len] at hi
  rw [List.getD_eq_getElem?_getD, List.getElem?_set, clrL_len]
  unfold clrL
  rw [range_getD _ _ i hi]
  by_cases e : k + j = i
  · rw [if_pos e, if_pos h]
    show q (k + j) = _
    rw [if_neg (by omega), if_pos (by omega), e]
  · rw [if_neg e, ← List.getD_eq_getElem?_getD, range_getD _ _ i hi]
    by_cases h1 : i < k
    · rw [if_pos h1, if_pos h1]
    · rw [if_neg h1, if_neg h1]
      by_cases h2 : i < k + j
      · rw [if_pos h2, if_pos (by omega)]
      · rw [if_neg h2, if_neg (by omega)]

set_option linter.unusedSimpArgs false in
set_option maxRecDepth 100000 in
set_option maxHeartbeats 6400000 in
theorem cleared_any (w : World) (vf vr : Value) (ln : Bool) (lo : Option Addr) (ll lc : Nat) (fs rs : List Int) (q : Nat → Int) (last : Int) (n k N M : Nat) (hf : VecN w vf fs N) (hr : VecN w vr rs N) (hla : NumL w (.agg #[.bool ln, .slice lo ll lc]) last N) (hfl : fs.length = n) (hrl : rs.length = n) (hk : k < n) (hn : n ≤ 100) (hl0 : last ≠ 0) (hN : N ≤ 100000) (hq : ∀ j, k ≤ j → j < n → fs.getD k 0 * rs.getD j 0 - rs.getD k 0 * fs.getD j 0 = q j * last) (hqs : ∀ j, k ≤ j → j < n → ab (q j) < bp M) :
    Calls Tryz.prog 56 #[vf, vr, .int .i64 (k : Int), .agg #[.bool ln, .slice lo ll lc]] w fun e w' => VecPost w (clrL n k (n - k) q) M e w' := by
  have HF := hide hf; have HR := hide hr; have HLA := hide hla; have HQ := hide hq; have HQS := hide hqs; have HFL := hide hfl; have HRL := hide hrl
  obtain ⟨fb, foff, fcap, rfl⟩ := hf.form (by omega)
  obtain ⟨rb, roff, rcap, rfl⟩ := hr.form (by omega)
  have hk1 : k < fs.length := by omega
  have hk2 : k < rs.length := by omega
  have hl100 : rs.length ≤ 100 := by omega
  clear hf hr hla hq hqs hfl hrl
  have hmk := run_mkV rs.length (by omega)
  have hb0 := below_new w (.cells #[.bool ln, .slice lo ll lc] 29)
  have HI0 : Hid (VecO w ((w.alloc (.cells #[.bool ln, .slice lo ll lc] 29)).alloc (.cells (madeCells #[.bool false, .slice none 0 0] (rs.length * 2)) 29)) (w.heap.size + 1) (clrL n k 0 q) M) := by
    rw [clrL_zero, ← HRL.out]
    have := VecO.made w (w.alloc (.cells #[.bool ln, .slice lo ll lc] 29)) hb0 rs.length M
    rwa [World.size_alloc] at this
  have XA := hide ((BoxL.new w (.bool ln) (.slice lo ll lc) 29).later (below_new _ (.cells (madeCells #[.bool false, .slice none 0 0] (rs.length * 2)) 29)))
  clear hb0
  go_enter Tryz.func56, Tryz.ntmps56
  go_wp2
  clear hmk
  go_loopw [20] (fun x wr => ∃ j : Nat, k + j ≤ n ∧ x = .int .i64 j ∧ Hid (VecO w wr (w.heap.size + 1) (clrL n k j q) M) ∧ Hid (BoxL wr w.heap.size (.bool ln) (.slice lo ll lc))) (fun x _ => n - (intOf x).toNat)
  case atStart => exact ⟨0, by omega, rfl, HI0, XA⟩
  case round =>
    clear HI0 XA
    obtain ⟨j, hj, rfl, HI, XA⟩ := hrel
    by_cases hjl : k + j < n
    · obtain ⟨p, hp⟩ : ∃ p : Nat, k + j = p := ⟨_, rfl⟩
      have hjc : (k : Int) + (j : Int) = (p : Int) := by omega
      have gj : decide ((j : Int) < (rs.length : Int) - (k : Int)) = true := decide_eq_true (by have := HRL.out; omega)
      have hp1 : p < fs.length := by have := HFL.out; omega
      have hp2 : p < rs.length := by have := HRL.out; omega
      have HP := hide hp
      have HQP := hide (HQ.out p (by omega) (by omega)); have HQB := hide (HQS.out p (by omega) (by omega))
      obtain ⟨lf, f1, f2, f3, f4, cf0, cf1, nx⟩ := (HF.out.below HI.out.below (Nat.le_refl _)).at k hk1
      obtain ⟨lr, a1, a2, a3, a4, ca0, ca1, ny⟩ := (HR.out.below HI.out.below (Nat.le_refl _)).at p hp2
      obtain ⟨-, b1, b2, b3, b4, cb0, cb1, nu⟩ := (HR.out.below HI.out.below (Nat.le_refl _)).at k hk2
      obtain ⟨-, g1, g2, g3, g4, cg0, cg1, nw⟩ := (HF.out.below HI.out.below (Nat.le_refl _)).at p hp1
      have NX := hide nx; have NY := hide ny; have NU := hide nu; have NV := hide nw
      clear nx ny nu nw hp
      generalize fs.getD k 0 = x at *
      generalize rs.getD p 0 = y at *
      generalize rs.getD k 0 = u at *
      generalize fs.getD p 0 = v at *
      go_wp2_with fail
      refine region_inv (by kernel_rfl) (by kernel_rfl) (fun L a' w' => ∃ c : Nat → Value, a' = (⟨#[.slice (some ⟨fb, foff, none⟩) fs.length fcap, .slice (some ⟨rb, roff, none⟩) rs.length rcap, .int .i64 (k : Int), .agg #[.bool ln, .slice lo ll lc], undef, undef, undef, .pointer (some ⟨w.heap.size, 0, none⟩), .slice none 0 0, .slice (some ⟨w.heap.size + 1, 0, none⟩) rs.length rs.length, .int .i64 (j : Int), .int .i64 (p : Int), c 19, .slice (some ⟨rb, roff, none⟩) rs.length rcap, .int .i64 (rs.length : Int), .slice (some ⟨w.heap.size + 1, 0, none⟩) rs.length rs.length, .slice (some ⟨rb, roff, none⟩) rs.length rcap, .int .i64 (rs.length : Int), .int .i64 (k : Int), .int .i64 ((rs.length : Int) - (k : Int)), .int .i64 (j : Int), .bool true, .int .i64 (j : Int), .int .i64 (k : Int), .int .i64 (j : Int), .int .i64 (p : Int), c 0, c 1, c 2, c 3, c 4, c 5, c 6, c 7, c 8, c 9, c 10, c 11, c 12, c 13, c 14, c 15, c 16, c 17, c 18, u45, u46, u47, u48, u49, u50, u51, u52, u53, u54, u55, undef], []⟩ : Act) ∧ FSx clrD (clrK fb foff rb roff k p (.slice (some ⟨fb, foff, none⟩) fs.length fcap) (.slice (some ⟨rb, roff, none⟩) rs.length rcap) (.agg #[.bool f1, .slice f2 f3 f4]) (.agg #[.bool a1, .slice a2 a3 a4]) (.agg #[.bool b1, .slice b2 b3 b4]) (.agg #[.bool g1, .slice g2 g3 g4])) (clrS x y u v N wr.heap.size) (clrFin x y u v N wr) (wr) 20 L c w') ⟨fun i => List.getD [u26, u27, u28, u29, u30, u31, u32, u33, u34, u35, u36, u37, u38, u39, u40, u41, u42, u43, u44, u12, undef] i undef, rfl, FSx.start _ _ _ _⟩ ?_ ?_
      · rintro L a' w' i o ⟨c, rfl, R0⟩ ho hn hdep K hK
        have hi : i < 21 := (Array.getElem?_eq_some_iff.1 ho).1
        obtain ⟨hm, R⟩ := R0.pre (by omega) hn
        clear R0
        rcases (by omega : i = 0 ∨ i = 1 ∨ i = 2 ∨ i = 3 ∨ i = 4 ∨ i = 5 ∨ i = 6 ∨ i = 7 ∨ i = 8 ∨ i = 9 ∨ i = 10 ∨ i = 11 ∨ i = 12 ∨ i = 13 ∨ i = 14 ∨ i = 15 ∨ i = 16 ∨ i = 17 ∨ i = 18 ∨ i = 19 ∨ i = 20) with rfl | rfl | rfl | rfl | rfl | rfl | rfl | rfl | rfl | rfl | rfl | rfl | rfl | rfl | rfl | rfl | rfl | rfl | rfl | rfl | rfl
        · obtain rfl := Option.some.inj ho
          have R' := R.made (clrStays x y u v N _) hn (fun j hj => absurd hj (by simp [clrD])) (Below.refl _ _) (v := (.slice (some ⟨fb, foff, none⟩) fs.length fcap)) (fun u h => Option.some.inj h) (by simp only [clrS])
          clear R
          go_simp
          exact hK.out _ _ ⟨_, by simp [upd], R'.next (by decide) hm⟩
        · obtain rfl := Option.some.inj ho
          have R' := R.made (clrStays x y u v N _) hn (fun j hj => absurd hj (by simp [clrD])) (Below.refl _ _) (v := (.int .i64 (k : Int))) (fun u h => Option.some.inj h) (by simp only [clrS])
          clear R
          go_simp
          exact hK.out _ _ ⟨_, by simp [upd], R'.next (by decide) hm⟩
        · obtain rfl := Option.some.inj ho
          have e0 : c 0 = (.slice (some ⟨fb, foff, none⟩) fs.length fcap) := R.plain 0 _ (hdep ⟨0, .data⟩ (by simp) rfl) rfl
          have e1 : c 1 = (.int .i64 (k : Int)) := R.plain 1 _ (hdep ⟨1, .data⟩ (by simp) rfl) rfl
          have R' := R.made (clrStays x y u v N _) hn (fun j hj => by simp [clrD] at hj; rcases hj with rfl | rfl <;> exact hdep ⟨_, .data⟩ (by simp) rfl) (Below.refl _ _) (v := (.pointer (some ⟨fb, foff + k * 2, none⟩))) (fun u h => Option.some.inj h) (by simp only [clrS])
          clear R
          rw [e0, e1]
          go_simp
          exact hK.out _ _ ⟨_, by simp [upd, e0, e1], R'.next (by decide) hm⟩
        · obtain rfl := Option.some.inj ho
          have e2 : c 2 = (.pointer (some ⟨fb, foff + k * 2, none⟩)) := R.plain 2 _ (hdep ⟨2, .data⟩ (by simp) rfl) rfl
          have q0 := (R.below.cell (p := ⟨fb, foff + k * 2, none⟩) lf).trans cf0
          have q1 := (R.below.cell (p := ⟨fb, foff + k * 2 + 1, none⟩) lf).trans cf1
          have R' := R.made (clrStays x y u v N _) hn (fun j hj => by simp [clrD] at hj; subst hj; exact hdep ⟨_, .data⟩ (by simp) rfl) (Below.refl _ _) (v := (.agg #[.bool f1, .slice f2 f3 f4])) (fun u h => Option.some.inj h) (by simp only [clrS])
          clear R
          rw [e2]
          go_simp
          exact hK.out _ _ ⟨_, by simp [upd, e2], R'.next (by decide) hm⟩
        · obtain rfl := Option.some.inj ho
          have R' := R.made (clrStays x y u v N _) hn (fun j hj => absurd hj (by simp [clrD])) (Below.refl _ _) (v := (.slice (some ⟨rb, roff, none⟩) rs.length rcap)) (fun u h => Option.some.inj h) (by simp only [clrS])
          clear R
          go_simp
          exact hK.out _ _ ⟨_, by simp [upd], R'.next (by decide) hm⟩
        · obtain rfl := Option.some.inj ho
          have R' := R.made (clrStays x y u v N _) hn (fun j hj => absurd hj (by simp [clrD])) (Below.refl _ _) (v := (.int .i64 (p : Int))) (fun u h => Option.some.inj h) (by simp only [clrS])
          clear R
          go_simp
          exact hK.out _ _ ⟨_, by simp [upd], R'.next (by decide) hm⟩
        · obtain rfl := Option.some.inj ho
          have e4 : c 4 = (.slice (some ⟨rb, roff, none⟩) rs.length rcap) := R.plain 4 _ (hdep ⟨4, .data⟩ (by simp) rfl) rfl
          have e5 : c 5 = (.int .i64 (p : Int)) := R.plain 5 _ (hdep ⟨5, .data⟩ (by simp) rfl) rfl
          have R' := R.made (clrStays x y u v N _) hn (fun j hj => by simp [clrD] at hj; rcases hj with rfl | rfl <;> exact hdep ⟨_, .data⟩ (by simp) rfl) (Below.refl _ _) (v := (.pointer (some ⟨rb, roff + p * 2, none⟩))) (fun u h => Option.some.inj h) (by simp only [clrS])
          clear R
          rw [e4, e5]
          go_simp
          exact hK.out _ _ ⟨_, by simp [upd, e4, e5], R'.next (by decide) hm⟩
        · obtain rfl := Option.some.inj ho
          have e6 : c 6 = (.pointer (some ⟨rb, roff + p * 2, none⟩)) := R.plain 6 _ (hdep ⟨6, .data⟩ (by simp) rfl) rfl
          have q0 := (R.below.cell (p := ⟨rb, roff + p * 2, none⟩) lr).trans ca0
          have q1 := (R.below.cell (p := ⟨rb, roff + p * 2 + 1, none⟩) lr).trans ca1
          have R' := R.made (clrStays x y u v N _) hn (fun j hj => by simp [clrD] at hj; subst hj; exact hdep ⟨_, .data⟩ (by simp) rfl) (Below.refl _ _) (v := (.agg #[.bool a1, .slice a2 a3 a4])) (fun u h => Option.some.inj h) (by simp only [clrS])
          clear R
          rw [e6]
          go_simp
          exact hK.out _ _ ⟨_, by simp [upd, e6], R'.next (by decide) hm⟩
        · obtain rfl := Option.some.inj ho
          have e3 : c 3 = (.agg #[.bool f1, .slice f2 f3 f4]) := R.plain 3 _ (hdep ⟨3, .data⟩ (by simp) rfl) rfl
          have e7 : c 7 = (.agg #[.bool a1, .slice a2 a3 a4]) := R.plain 7 _ (hdep ⟨7, .data⟩ (by simp) rfl) rfl
          rw [e3, e7]
          go_simp
          refine (mul_any w' _ _ x y N N (NX.out.below R.below (Nat.le_refl _)) (NY.out.below R.below (Nat.le_refl _)) (by omega) (by omega)).mono ?_
          rintro e w2 ⟨v8, rfl, m7, hb⟩
          have R' := R.made (clrStays x y u v N _) hn (fun j hj => by simp [clrD] at hj; rcases hj with rfl | rfl <;> exact hdep ⟨_, .data⟩ (by simp) rfl) hb (v := v8) (fun u h => by cases h) (by show clrS x y u v N wr.heap.size 8 _ _; simp only [clrS, upd_self]; exact m7)
          clear R m7 hb
          go_wp2_with fail
          exact hK.out _ _ ⟨_, by simp [upd, e3, e7], R'.next (by decide) hm⟩
        · obtain rfl := Option.some.inj ho
          have R' := R.made (clrStays x y u v N _) hn (fun j hj => absurd hj (by simp [clrD])) (Below.refl _ _) (v := (.slice (some ⟨rb, roff, none⟩) rs.length rcap)) (fun u h => Option.some.inj h) (by simp only [clrS])
          clear R
          go_simp
          exact hK.out _ _ ⟨_, by simp [upd], R'.next (by decide) hm⟩
        · obtain rfl := Option.some.inj ho
          have R' := R.made (clrStays x y u v N _) hn (fun j hj => absurd hj (by simp [clrD])) (Below.refl _ _) (v := (.int .i64 (k : Int))) (fun u h => Option.some.inj h) (by simp only [clrS])
          clear R
          go_simp
          exact hK.out _ _ ⟨_, by simp [upd], R'.next (by decide) hm⟩
        · obtain rfl := Option.some.inj ho
          have e9 : c 9 = (.slice (some ⟨rb, roff, none⟩) rs.length rcap) := R.plain 9 _ (hdep ⟨9, .data⟩ (by simp) rfl) rfl
          have e10 : c 10 = (.int .i64 (k : Int)) := R.plain 10 _ (hdep ⟨10, .data⟩ (by simp) rfl) rfl
          have R' := R.made (clrStays x y u v N _) hn (fun j hj => by simp [clrD] at hj; rcases hj with rfl | rfl <;> exact hdep ⟨_, .data⟩ (by simp) rfl) (Below.refl _ _) (v := (.pointer (some ⟨rb, roff + k * 2, none⟩))) (fun u h => Option.some.inj h) (by simp only [clrS])
          clear R
          rw [e9, e10]
          go_simp
          exact hK.out _ _ ⟨_, by simp [upd, e9, e10], R'.next (by decide) hm⟩
        · obtain rfl := Option.some.inj ho
          have e11 : c 11 = (.pointer (some ⟨rb, roff + k * 2, none⟩)) := R.plain 11 _ (hdep ⟨11, .data⟩ (by simp) rfl) rfl
          have q0 := (R.below.cell (p := ⟨rb, roff + k * 2, none⟩) lr).trans cb0
          have q1 := (R.below.cell (p := ⟨rb, roff + k * 2 + 1, none⟩) lr).trans cb1
          have R' := R.made (clrStays x y u v N _) hn (fun j hj => by simp [clrD] at hj; subst hj; exact hdep ⟨_, .data⟩ (by simp) rfl) (Below.refl _ _) (v := (.agg #[.bool b1, .slice b2 b3 b4])) (fun u h => Option.some.inj h) (by simp only [clrS])
          clear R
          rw [e11]
          go_simp
          exact hK.out _ _ ⟨_, by simp [upd, e11], R'.next (by decide) hm⟩
        · obtain rfl := Option.some.inj ho
          have R' := R.made (clrStays x y u v N _) hn (fun j hj => absurd hj (by simp [clrD])) (Below.refl _ _) (v := (.slice (some ⟨fb, foff, none⟩) fs.length fcap)) (fun u h => Option.some.inj h) (by simp only [clrS])
          clear R
          go_simp
          exact hK.out _ _ ⟨_, by simp [upd], R'.next (by decide) hm⟩
        · obtain rfl := Option.some.inj ho
          have R' := R.made (clrStays x y u v N _) hn (fun j hj => absurd hj (by simp [clrD])) (Below.refl _ _) (v := (.int .i64 (p : Int))) (fun u h => Option.some.inj h) (by simp only [clrS])
          clear R
          go_simp
          exact hK.out _ _ ⟨_, by simp [upd], R'.next (by decide) hm⟩
        · obtain rfl := Option.some.inj ho
          have e13 : c 13 = (.slice (some ⟨fb, foff, none⟩) fs.length fcap) := R.plain 13 _ (hdep ⟨13, .data⟩ (by simp) rfl) rfl
          have e14 : c 14 = (.int .i64 (p : Int)) := R.plain 14 _ (hdep ⟨14, .data⟩ (by simp) rfl) rfl
          have R' := R.made (clrStays x y u v N _) hn (fun j hj => by simp [clrD] at hj; rcases hj with rfl | rfl <;> exact hdep ⟨_, .data⟩ (by simp) rfl) (Below.refl _ _) (v := (.pointer (some ⟨fb, foff + p * 2, none⟩))) (fun u h => Option.some.inj h) (by simp only [clrS])
          clear R
          rw [e13, e14]
          go_simp
          exact hK.out _ _ ⟨_, by simp [upd, e13, e14], R'.next (by decide) hm⟩
        · obtain rfl := Option.some.inj ho
          have e15 : c 15 = (.pointer (some ⟨fb, foff + p * 2, none⟩)) := R.plain 15 _ (hdep ⟨15, .data⟩ (by simp) rfl) rfl
          have q0 := (R.below.cell (p := ⟨fb, foff + p * 2, none⟩) lf).trans cg0
          have q1 := (R.below.cell (p := ⟨fb, foff + p * 2 + 1, none⟩) lf).trans cg1
          have R' := R.made (clrStays x y u v N _) hn (fun j hj => by simp [clrD] at hj; subst hj; exact hdep ⟨_, .data⟩ (by simp) rfl) (Below.refl _ _) (v := (.agg #[.bool g1, .slice g2 g3 g4])) (fun u h => Option.some.inj h) (by simp only [clrS])
          clear R
          rw [e15]
          go_simp
          exact hK.out _ _ ⟨_, by simp [upd, e15], R'.next (by decide) hm⟩
        · obtain rfl := Option.some.inj ho
          have e12 : c 12 = (.agg #[.bool b1, .slice b2 b3 b4]) := R.plain 12 _ (hdep ⟨12, .data⟩ (by simp) rfl) rfl
          have e16 : c 16 = (.agg #[.bool g1, .slice g2 g3 g4]) := R.plain 16 _ (hdep ⟨16, .data⟩ (by simp) rfl) rfl
          rw [e12, e16]
          go_simp
          refine (mul_any w' _ _ u v N N (NU.out.below R.below (Nat.le_refl _)) (NV.out.below R.below (Nat.le_refl _)) (by omega) (by omega)).mono ?_
          rintro e w2 ⟨v17, rfl, m7, hb⟩
          have R' := R.made (clrStays x y u v N _) hn (fun j hj => by simp [clrD] at hj; rcases hj with rfl | rfl <;> exact hdep ⟨_, .data⟩ (by simp) rfl) hb (v := v17) (fun u h => by cases h) (by show clrS x y u v N wr.heap.size 17 _ _; simp only [clrS, upd_self]; exact m7)
          clear R m7 hb
          go_wp2_with fail
          exact hK.out _ _ ⟨_, by simp [upd, e12, e16], R'.next (by decide) hm⟩
        · obtain rfl := Option.some.inj ho
          have m8 : NumL w' (c 8) (x * y) (N + N) := R.spec 8 (hdep ⟨8, .data⟩ (by simp) rfl)
          have m17 : NumL w' (c 17) (u * v) (N + N) := R.spec 17 (hdep ⟨17, .data⟩ (by simp) rfl)
          go_simp
          refine (sub_any w' _ _ (x * y) (u * v) (N + N) m8 m17 (by omega)).mono ?_
          clear m8 m17
          rintro e w2 ⟨v18, rfl, m7, hb⟩
          have R' := R.made (clrStays x y u v N _) hn (fun j hj => by simp [clrD] at hj; rcases hj with rfl | rfl <;> exact hdep ⟨_, .data⟩ (by simp) rfl) hb (v := v18) (fun u h => by cases h) (by show clrS x y u v N wr.heap.size 18 _ _; simp only [clrS, upd_self]; exact m7.mono (by omega))
          clear R m7 hb
          go_wp2_with fail
          exact hK.out _ _ ⟨_, by simp [upd], R'.next (by decide) hm⟩
        · obtain rfl := Option.some.inj ho
          have hb := (Below.refl w'.heap.size w').alloc (Nat.le_refl _) (.cells #[.bool false, .slice none 0 0] 29)
          have m7 := box_new w' (.bool false) (.slice none 0 0) 29 _ rfl
          have R' := R.made (clrStays x y u v N _) hn (fun j hj => absurd hj (by simp [clrD])) hb (v := .pointer (some ⟨w'.heap.size, 0, none⟩)) (fun u h => by cases h) (by show clrS x y u v N wr.heap.size 19 _ _; simp only [clrS]; rw [upd_self]; exact ⟨_, rfl, R.below.size, by simp, m7⟩)
          clear R m7 hb
          go_simp
          exact hK.out _ _ ⟨_, by simp [upd], R'.next (by decide) hm⟩
        · obtain rfl := Option.some.inj ho
          have t18 := hdep ⟨18, .data⟩ (by simp) rfl
          have t19 := hdep ⟨19, .data⟩ (by simp) rfl
          have t8 := R.closed 18 t18 8 (by simp [clrD])
          have t17 := R.closed 18 t18 17 (by simp [clrD])
          have t12 := R.closed 17 t17 12 (by simp [clrD])
          have t16 := R.closed 17 t17 16 (by simp [clrD])
          have t15 := R.closed 16 t16 15 (by simp [clrD])
          have t13 := R.closed 15 t15 13 (by simp [clrD])
          have t14 := R.closed 15 t15 14 (by simp [clrD])
          have t11 := R.closed 12 t12 11 (by simp [clrD])
          have t9 := R.closed 11 t11 9 (by simp [clrD])
          have t10 := R.closed 11 t11 10 (by simp [clrD])
          have t3 := R.closed 8 t8 3 (by simp [clrD])
          have t7 := R.closed 8 t8 7 (by simp [clrD])
          have t6 := R.closed 7 t7 6 (by simp [clrD])
          have t4 := R.closed 6 t6 4 (by simp [clrD])
          have t5 := R.closed 6 t6 5 (by simp [clrD])
          have t2 := R.closed 3 t3 2 (by simp [clrD])
          have t0 := R.closed 2 t2 0 (by simp [clrD])
          have t1 := R.closed 2 t2 1 (by simp [clrD])
          have hall : ∀ j, j < 20 → L.getD j false = true := fun j hj => by
            rcases (by omega : j = 0 ∨ j = 1 ∨ j = 2 ∨ j = 3 ∨ j = 4 ∨ j = 5 ∨ j = 6 ∨ j = 7 ∨ j = 8 ∨ j = 9 ∨ j = 10 ∨ j = 11 ∨ j = 12 ∨ j = 13 ∨ j = 14 ∨ j = 15 ∨ j = 16 ∨ j = 17 ∨ j = 18 ∨ j = 19) with rfl | rfl | rfl | rfl | rfl | rfl | rfl | rfl | rfl | rfl | rfl | rfl | rfl | rfl | rfl | rfl | rfl | rfl | rfl | rfl <;> assumption
          have m18 : NumL w' (c 18) (x * y - u * v) (N + N + 2) := R.spec 18 t18
          obtain ⟨B, e19, hCB, hBl, hbx⟩ : ∃ B, c 19 = .pointer (some ⟨B, 0, none⟩) ∧ wr.heap.size ≤ B ∧ B < w'.heap.size ∧ Box w' B (.bool false) (.slice none 0 0) := R.spec 19 t19
          have hbl := R.below
          clear t0 t1 t2 t3 t4 t5 t6 t7 t8 t9 t10 t11 t12 t13 t14 t15 t16 t17 t18 t19
          obtain ⟨⟨sn, so, sl, sc⟩, e18⟩ := m18.nm
          rw [e18] at m18
          have hfin : clrFin x y u v N wr (upd c 20 undef) ((w'.setCell ⟨B, 0, none⟩ (.bool sn)).setCell ⟨B, 1, none⟩ (.slice so sl sc)) := ⟨B, sn, so, sl, sc, by rw [upd_ne _ _ (by decide)]; exact e19, hCB, ⟨hbx.write _ _, by simpa using hBl⟩, m18.wrote hbx (by simp) (by simp), (hbl.setCell (p := ⟨B, 0, none⟩) hCB _).setCell (p := ⟨B, 1, none⟩) hCB _⟩
          have R' := FSx.last (deps := clrD) (kv := (clrK fb foff rb roff k p (.slice (some ⟨fb, foff, none⟩) fs.length fcap) (.slice (some ⟨rb, roff, none⟩) rs.length rcap) (.agg #[.bool f1, .slice f2 f3 f4]) (.agg #[.bool a1, .slice a2 a3 a4]) (.agg #[.bool b1, .slice b2 b3 b4]) (.agg #[.bool g1, .slice g2 g3 g4]))) (Sp := clrS x y u v N wr.heap.size) (w := wr) hall hn hfin
          obtain ⟨z0, z1, z2, z3⟩ := hbx
          clear R hfin hbl m18 hall
          rw [e18, e19]
          go_simp
          exact hK.out _ _ ⟨_, by simp [upd, e18, e19], R'⟩
      · rintro L a' w0 ⟨cc, rfl, R⟩ hall
        obtain ⟨B, sn, so, sl, sc, eB, hCB, hbx, ncr, hb1⟩ := R.fin (hall 20 (by decide))
        have XB := hide hbx; have NC := hide ncr; have HB1 := hide hb1
        have HI1 := hide (HI.out.later hb1); have XA1 := hide (XA.out.later hb1)
        have HQ0 : Hid (w.heap.size + 1 < wr.heap.size) := HI.out.lt
        have hBQ : Hid (w.heap.size + 1 ≠ B) := by have := HQ0.out; show _ ≠ _; omega
        clear R hall hbx ncr hb1 cf0 cf1 ca0 ca1 cb0 cb1 cg0 cg1 lf lr HI XA NX NY NU NV
        dsimp only at *
        rw [eB]
        clear eB
        obtain ⟨z0, z1, -, -⟩ := XB.out.1
        obtain ⟨y0, y1, -, -⟩ := XA1.out.1
        go_wp2_with fail
        refine (div_any w0 _ _ (x * y - u * v) last (N + N + 2) N (by exact NC.out) (by exact HLA.out.below (HI1.out.below) (Nat.le_refl _)) hl0 (by omega)).mono ?_
        rintro e w1 ⟨vq, vt, s, t, rfl, m1, -, m3, m4, hb2⟩
        have HS := hide (quo_exact hl0 HQP.out m3 m4)
        obtain ⟨⟨qn, qo, ql, qc⟩, rfl⟩ := m1.nm
        have N1 : Hid (NumL w1 (.agg #[.bool qn, .slice qo ql qc]) (q p) M) := by
          show NumL _ _ _ _
          rw [← HS.out]
          exact m1.tight (by rw [HS.out]; exact HQB.out)
        have HI2 := hide (HI1.out.later hb2); have XA2 := hide (XA1.out.later hb2)
        have HI3 := hide (HI2.out.set (k := p) (by rw [clrL_len]; have := HRL.out; omega) N1.out)
        have HEQ : Hid ((clrL n k j q).set p (q p) = clrL n k (j + 1) q) := by
          show _ = _
          rw [← HP.out]
          exact clrL_set n k j q hjl
        rw [HEQ.out] at HI3
        have fz0 := HI2.out.thaw (p * 2)
        have fz1 := HI2.out.thaw (p * 2 + 1)
        obtain ⟨en, eo, el, ec, e0, e1, -⟩ := HI2.out.at p (by rw [clrL_len]; have := HRL.out; omega)
        have XA3 : Hid (BoxL ((w1.setCell ⟨w.heap.size + 1, p * 2, none⟩ (.bool qn)).setCell ⟨w.heap.size + 1, p * 2 + 1, none⟩ (.slice qo ql qc)) w.heap.size (.bool ln) (.slice lo ll lc)) := ⟨(XA2.out.1.other (B := w.heap.size + 1) (by omega) (p * 2) (.bool qn)).other (B := w.heap.size + 1) (by omega) (p * 2 + 1) (.slice qo ql qc), by simpa using XA2.out.2⟩
        clear m1 m3 m4 hb2 z0 z1 y0 y1 HI1 XA1 XB NC HEQ
        go_wp2
        go_roundw
        case rel => exact ⟨j + 1, by omega, by go_num, HI3, XA3⟩
        case measure => simp [intOf]; omega
    · have gj : decide ((j : Int) < (rs.length : Int) - (k : Int)) = false := decide_eq_false (by have := HRL.out; omega)
      have HE : Hid (VecPost w (clrL n k (n - k) q) M (.returned (.slice (some ⟨w.heap.size + 1, 0, none⟩) rs.length rs.length)) wr) := ⟨_, by rw [clrL_len, HRL.out], by have := HI.out; rwa [show j = n - k by omega] at this⟩
      go_wp2
      go_ret
      exact HE.out

end Go.Proofs.YtdedolkgcdlmeaaGreatDoor
