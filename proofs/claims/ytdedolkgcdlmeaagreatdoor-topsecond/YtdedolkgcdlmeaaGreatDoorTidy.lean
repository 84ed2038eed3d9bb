/- What stands above pivots becomes less than they. -/
import Derived.Test.YtdedolkgcdlmeaaGreatDoorStairs
namespace Go.Proofs.YtdedolkgcdlmeaaGreatDoor
open Go.RowKit Limbs

theorem lowN_keep {rows : Nat → Option (List Int)} {f : Nat} {us : List Int} (hl : ∀ i r, rows i = some r → r.length = us.length) {j : Nat} (hj : j < us.length) (hz : ∀ i r, f ≤ i → rows i = some r → r.getD j 0 = 0) (k : Nat) : (lowN rows f us k).getD j 0 = us.getD j 0 := by
  induction k with
  | zero => rfl
  | succ k ih =>
    have hlk := lowN_len (f := f) hl k
    unfold lowN lowAt
    split
    · exact ih
    · rename_i r hr
      unfold lowRow
      rw [zip_getD _ _ _ (hlk.trans (hl _ r hr).symm) j (by omega), hz _ r (by omega) hr, ih]
      omega

/-- The row at a place is lowered by those behind it. -/
def tidyAt (rows : Nat → Option (List Int)) (m a : Nat) : Nat → Option (List Int) := fun i => if i = a then (rows a).map (fun r => lowN rows (a + 1) r (m - (a + 1))) else rows i

def tidyN (rows : Nat → Option (List Int)) (m : Nat) : Nat → Nat → Option (List Int)
  | 0 => rows
  | i + 1 => tidyAt (tidyN rows m i) m (m - 1 - i)

/-- Each row has so many numbers, and nought ahead of its pivot. -/
structure Ech (rows : Nat → Option (List Int)) (len m : Nat) : Prop where
  len : ∀ i r, rows i = some r → r.length = len
  zero : ∀ i r, rows i = some r → ∀ j, j < i → r.getD j 0 = 0
  lt : ∀ i r, rows i = some r → i < m

theorem Ech.step {rows : Nat → Option (List Int)} {len m a : Nat} (h : Ech rows len m) (hm : m ≤ len) : Ech (tidyAt rows m a) len m := by
  have key : ∀ i r, tidyAt rows m a i = some r → r.length = len ∧ (∀ j, j < i → r.getD j 0 = 0) ∧ i < m := by
    intro i r e
    unfold tidyAt at e
    by_cases hi : i = a
    · rw [if_pos hi] at e
      subst hi
      obtain ⟨r0, e0, rfl⟩ := Option.map_eq_some_iff.1 e
      have hl0 := h.len _ _ e0
      have hlt := h.lt _ _ e0
      have hl : ∀ i r, rows i = some r → r.length = r0.length := fun i r e => (h.len i r e).trans hl0.symm
      refine ⟨(lowN_len hl _).trans hl0, fun j hj => ?_, hlt⟩
      rw [lowN_keep hl (by omega) (fun i' r' hi' e' => h.zero i' r' e' j (by omega))]
      exact h.zero _ _ e0 j hj
    · rw [if_neg hi] at e
      exact ⟨h.len i r e, h.zero i r e, h.lt i r e⟩
  exact ⟨fun i r e => (key i r e).1, fun i r e => (key i r e).2.1, fun i r e => (key i r e).2.2⟩

theorem Ech.all {rows : Nat → Option (List Int)} {len m : Nat} (h : Ech rows len m) (hm : m ≤ len) (k : Nat) : Ech (tidyN rows m k) len m := by
  induction k with
  | zero => exact h
  | succ k ih => exact ih.step hm

theorem VecN.tight {w : World} {v : Value} {zs : List Int} {n m : Nat} (h : VecN w v zs n) (hz : ∀ j, j < zs.length → ab (zs.getD j 0) < bp m) : VecN w v zs m := by
  obtain ⟨ao, cap, hv, h1, h2⟩ := h
  refine ⟨ao, cap, hv, h1, fun h0 => ?_⟩
  obtain ⟨b, off, e, hlt, hc⟩ := h2 h0
  refine ⟨b, off, e, hlt, fun i hi => ?_⟩
  obtain ⟨neg, o, l, c, h3, h4, h5⟩ := hc i hi
  exact ⟨neg, o, l, c, h3, h4, h5.tight (hz i hi)⟩

theorem run_nil_ne (w : World) : Sem.run Tryz.prog (binOp .neq 72 (.slice none 0 0) (.slice none 0 0)) w = .ok (.bool false) w := by kernel_rfl

theorem run_some_ne (w : World) (a : Addr) (l c : Nat) : Sem.run Tryz.prog (binOp .neq 72 (.slice (some a) l c) (.slice none 0 0)) w = .ok (.bool true) w := by kernel_rfl

/-- How many limbs while rows from the end on have been lowered. -/
def tb (m S0 N i : Nat) : Nat → Nat := fun a => if m - i ≤ a then S0 else N

set_option maxRecDepth 100000 in
set_option maxHeartbeats 4000000 in
theorem tidy_any (w W : World) (sb m len S0 N : Nat) (rows : Nat → Option (List Int)) (hs : StairO w W sb m rows len (fun _ => N)) (he : Ech rows len m) (hm : m ≤ len) (h8 : len ≤ 1000) (hN : N + m * (S0 + 3) ≤ 300000)
    (hB : ∀ i a r, i ≤ m → m - i ≤ a → tidyN rows m i a = some r → ∀ j, j < r.length → ab (r.getD j 0) < bp S0) :
    Calls Tryz.prog 105 #[.slice (some ⟨sb, 0, none⟩) m m] W fun e w' => e = .returned (.tuple #[]) ∧ StairO w w' sb m (tidyN rows m m) len (fun _ => S0) := by
  have HS := hide hs; have HE := hide he; have HB := hide hB
  clear hs he hB
  go_enter Tryz.func105, Tryz.ntmps105
  go_wp2_with fail
  go_loopw [6] (fun i wr => ∃ k : Nat, k ≤ m ∧ i = .int .i64 k ∧ Hid (StairO w wr sb m (tidyN rows m k) len (tb m S0 N k))) (fun i _ => m - (intOf i).toNat)
  case atStart =>
    refine ⟨0, Nat.zero_le _, rfl, hide (HS.out.mono fun i hi _ => ?_)⟩
    unfold tb
    rw [if_neg (by omega)]
    exact Nat.le_refl _
  case round =>
    obtain ⟨k, hk, rfl, HI⟩ := hrel
    by_cases hkl : k < m
    · have HNX := hide (show tidyN rows m (k + 1) = tidyAt (tidyN rows m k) m (m - 1 - k) from rfl)
      have HEK := hide (HE.out.all hm k)
      have HBK := hide (HB.out (k + 1))
      obtain ⟨a, ha⟩ : ∃ a, a = m - 1 - k := ⟨_, rfl⟩
      have hac : (m : Int) - 1 - (k : Int) = (a : Int) := by omega
      have ham : a < m := by omega
      rw [← ha] at HNX
      have HA := hide ha
      clear ha
      cases hr : tidyN rows m k a with
      | none =>
        have c0 := HI.out.nil a ham hr
        have hbo := run_nil_ne wr
        have HN : Hid (StairO w wr sb m (tidyN rows m (k + 1)) len (tb m S0 N (k + 1))) := by
          have e : tidyN rows m (k + 1) = tidyN rows m k := by
            rw [HNX.out]
            funext i
            unfold tidyAt
            by_cases hi : i = a
            · rw [if_pos hi, hi, hr]; rfl
            · rw [if_neg hi]
          rw [e]
          refine hide (HI.out.mono fun i hi hne => ?_)
          unfold tb
          have : i ≠ a := fun h => hne (by rw [h, hr])
          have := HA.out
          by_cases h1 : m - k ≤ i
          · rw [if_pos h1, if_pos (by omega)]; exact Nat.le_refl _
          · rw [if_neg h1, if_neg (by omega)]; exact Nat.le_refl _
        clear hr HI HNX HEK HBK
        go_wp2
        go_roundw
        case rel => exact ⟨k + 1, by omega, by go_num, HN⟩
        case measure => simp [intOf]; omega
      | some r =>
        obtain ⟨P, c0, hv, hP, hlen, hpos⟩ := HI.out.row a ham r hr
        have hbo := run_some_ne wr ⟨P, 0, none⟩ r.length r.length
        have lsb := HI.out.lt
        have htb : tb m S0 N k a = N := by unfold tb; rw [if_neg (by have := HA.out; omega)]
        rw [htb] at hv
        clear htb
        have hcast : ((a + 1 : Nat) : Int) = (a : Int) + 1 := by omega
        have hst : Stair wr sb (a + 1) m (tidyN rows m k) r.length S0 := by
          rw [hlen]
          exact HI.out.stair (fun i hf hi => by unfold tb; rw [if_pos (by have := HA.out; omega)]; exact Nat.le_refl _)
        have hcap : N + m * (S0 + 3) ≤ 300000 := hN
        have hL := lower_any wr sb m (a + 1) N S0 (tidyN rows m k) (.slice (some ⟨P, 0, none⟩) r.length r.length) r hst (fun i r' e => (HEK.out.len i r' e).trans hlen.symm) hv.vec (by omega) (by omega) (by omega) (by omega)
        rw [hcast] at hL
        have HL := hide hL
        have hr'l : (lowN (tidyN rows m k) (a + 1) r (m - (a + 1))).length = r.length := lowN_len (fun i r' e => (HEK.out.len i r' e).trans hlen.symm) _
        have hr'p : (lowN (tidyN rows m k) (a + 1) r (m - (a + 1))).getD a 0 = r.getD a 0 := lowN_keep (fun i r' e => (HEK.out.len i r' e).trans hlen.symm) (by omega) (fun i r' hi e => HEK.out.zero i r' e a (by omega)) _
        have hnx : tidyN rows m (k + 1) = fun i => if i = a then some (lowN (tidyN rows m k) (a + 1) r (m - (a + 1))) else tidyN rows m k i := by
          rw [HNX.out]
          funext i
          unfold tidyAt
          rw [hr]
          rfl
        have hti := HBK.out a (lowN (tidyN rows m k) (a + 1) r (m - (a + 1))) (by omega) (by have := HA.out; omega) (by rw [hnx]; exact if_pos rfl)
        clear hL hst hcast
        generalize lowN (tidyN rows m k) (a + 1) r (m - (a + 1)) = r' at *
        have HF := hide (show r'.length = r.length ∧ r'.getD a 0 = r.getD a 0 ∧ (tidyN rows m (k + 1) = fun i => if i = a then some r' else tidyN rows m k i) ∧ (∀ j, j < r'.length → ab (r'.getD j 0) < bp S0) ∧ r.length = len ∧ VecO w wr P r N from ⟨hr'l, hr'p, hnx, hti, hlen, hv⟩)
        clear hr'l hr'p hnx hti hlen hv hr HNX HEK HBK
        go_wp2_with fail
        refine HL.out.mono ?_
        rintro e w1 ⟨v, rfl, hlow⟩
        obtain ⟨P', rfl, HV, hP'⟩ : ∃ P', v = .slice (some ⟨P', 0, none⟩) r'.length r'.length ∧ Hid (VecO w w1 P' r' S0) ∧ P' ≠ sb := by
          obtain ⟨h1, h2, h3, h4, h5, h6⟩ := HF.out
          have hvt := hlow.vec.tight h4
          rcases hlow.own with rfl | ⟨P', rfl, ho⟩
          · have h7 := h6.later hlow.below
            rw [← h1] at hvt
            exact ⟨P, by rw [h1], hide ⟨hvt, h7.low, h7.below, h7.blk⟩, hP⟩
          · exact ⟨P', rfl, hide ⟨hvt, Nat.le_trans HI.out.below.size ho.low, HI.out.below.trans (ho.below.mono HI.out.below.size), ho.blk⟩, by have := ho.low; omega⟩
        have HI1 := hide (HI.out.later hlow.below)
        have c1 := (hlow.below.cell (p := ⟨sb, a, none⟩) lsb).trans c0
        have hfz := HI1.out.thaw a
        have HN : Hid (StairO w (w1.setCell ⟨sb, a, none⟩ (.slice (some ⟨P', 0, none⟩) r'.length r'.length)) sb m (tidyN rows m (k + 1)) len (tb m S0 N (k + 1))) := by
          obtain ⟨h1, h2, h3, h4, h5, h6⟩ := HF.out
          have := HI1.out.set ham HV.out hP' (h1.trans h5) (by rw [h2]; exact hpos)
          rw [← h3] at this
          refine hide (this.mono fun i hi _ => ?_)
          have := HA.out
          unfold tb
          by_cases hia : i = a
          · rw [if_pos hia, if_pos (by omega)]; exact Nat.le_refl _
          · rw [if_neg hia]
            by_cases h7 : m - k ≤ i
            · rw [if_pos h7, if_pos (by omega)]; exact Nat.le_refl _
            · rw [if_neg h7, if_neg (by omega)]; exact Nat.le_refl _
        clear hlow HF HL HI HI1 HV c0 hbo hpos hP hP'
        go_wp2
        go_roundw
        case rel => exact ⟨k + 1, by omega, by go_num, HN⟩
        case measure => simp [intOf]; omega
    · obtain rfl : k = m := by omega
      have HN := hide (HI.out.mono (ns' := fun _ => S0) fun i hi _ => by unfold tb; rw [if_pos (by omega)]; exact Nat.le_refl _)
      go_wp2
      exact bodyPost_end (results_none rfl _ _ _) rfl ⟨rfl, HN.out⟩

end Go.Proofs.YtdedolkgcdlmeaaGreatDoor
