/- Limbs without noughts behind; the order of limbs. -/
import Derived.Test.YtdedolkgcdlmeaaGreatDoorLeaf
import Derived.Deep.QuietTactic
import Derived.BigQuiet
import Derived.Deep.RegionHeld3
import Derived.Deep.DrawnRows
namespace Go.Proofs.YtdedolkgcdlmeaaGreatDoor
open Go.RowKit Limbs

def lenOf : Value → Nat | .slice _ n _ => n | _ => 0

theorem Lim.take {w : World} {ao : Option Addr} {cap : Nat} {zs : List Int} (h : Lim w (.slice ao zs.length cap) zs) (n : Nat) (hn : n ≤ zs.length) : Lim w (.slice ao n cap) (zs.take n) := by
  obtain ⟨ao', cap', hv, h1, h2, h3, h4⟩ := h
  simp only [Value.slice.injEq, true_and] at hv
  obtain ⟨rfl, rfl⟩ := hv
  have hl : (zs.take n).length = n := by rw [List.length_take]; omega
  refine ⟨ao, cap, by rw [hl], by omega, by omega, LB_take h3 n, fun h0 => ?_⟩
  obtain ⟨b, off, e, hlt, hc⟩ := h4 (by omega)
  refine ⟨b, off, e, hlt, fun i hi => ?_⟩
  rw [hc i (by omega), getD_take zs n i (by omega)]

theorem nrm_take {zs : List Int} {n : Nat} (hn : n ≤ zs.length) (h : n = 0 ∨ zs.getD (n - 1) 0 ≠ 0) : Nrm (zs.take n) := by
  have hl : (zs.take n).length = n := by rw [List.length_take]; omega
  unfold Nrm
  rw [hl]
  rcases h with h | h
  · exact .inl h
  · by_cases h0 : n = 0
    · exact .inl h0
    · right
      rw [getD_take zs n (n - 1) (by omega)]
      exact h

theorem lv_take_pred {zs : List Int} {n : Nat} (h0 : 0 < n) (h : zs.getD (n - 1) 0 = 0) : lv (zs.take (n - 1)) = lv (zs.take n) := by
  have := lv_take_succ zs (n - 1)
  rw [show n - 1 + 1 = n by omega, h] at this
  omega

/-- The same memory, fewer limbs, the same number. -/
def TrimPost (w : World) (ao : Option Addr) (cap : Nat) (zs : List Int) (e : Ending) (w' : World) : Prop :=
  ∃ m, m ≤ zs.length ∧ e = .returned (.slice ao m cap) ∧ lv (zs.take m) = lv zs ∧ Nrm (zs.take m) ∧ w' = w

set_option maxHeartbeats 400000 in
theorem trim_any (w : World) (ao : Option Addr) (cap : Nat) (zs : List Int) (h : Lim w (.slice ao zs.length cap) zs) :
    Calls Tryz.prog 124 #[.slice ao zs.length cap] w fun e w' => TrimPost w ao cap zs e w' := by
  obtain ⟨ao', cap', hv, hcap, hlen, hlb, hc⟩ := h
  simp only [Value.slice.injEq, true_and] at hv
  obtain ⟨rfl, rfl⟩ := hv
  go_enter Tryz.func124, Tryz.ntmps124
  go_wp2
  go_loop [0] (fun t => ∃ n : Nat, n ≤ zs.length ∧ t = .slice ao n cap ∧ Hid (lv (zs.take n) = lv zs)) (fun t => lenOf t)
  case atStart => exact ⟨zs.length, Nat.le_refl _, rfl, by show lv _ = _; rw [List.take_length]⟩
  case round =>
    obtain ⟨n, hn, rfl, HV⟩ := hrel
    by_cases h0 : n = 0
    · subst h0
      go_wp2
      go_ret
      exact ⟨0, hn, rfl, HV.out, nrm_take hn (.inl rfl), rfl⟩
    · obtain ⟨b, off, rfl, hb, hc⟩ := hc (by omega)
      obtain ⟨m, rfl⟩ : ∃ m, n = m + 1 := ⟨n - 1, by omega⟩
      have hcm := hc m (by omega)
      clear hc
      have HG : Hid (zs.getD (m + 1 - 1) 0 = zs.getD m 0) := by show _ = _; rw [Nat.add_sub_cancel]
      have hzb := hlb m
      generalize hz : zs.getD m 0 = z at *
      by_cases hz0 : z = 0
      · subst hz0
        go_wp2
        go_round
        case rel => exact ⟨m, by omega, rfl, by have := lv_take_pred (zs := zs) (n := m + 1) (by omega) HG.out; rw [Nat.add_sub_cancel] at this; exact this.trans HV.out⟩
        case measure => simp [lenOf]
      · have hz1 : (z == 0) = false := by simp [hz0]
        go_wp2
        go_ret
        exact ⟨m + 1, hn, rfl, HV.out, nrm_take hn (.inr (by rw [HG.out]; exact hz0)), rfl⟩

theorem cmpI_lt {a b : Int} (h : a < b) : cmpI a b = -1 := by unfold cmpI; rw [if_pos h]
theorem cmpI_gt {a b : Int} (h : b < a) : cmpI a b = 1 := by unfold cmpI; rw [if_neg (by omega), if_pos h]
theorem cmpI_eq {a b : Int} (h : a = b) : cmpI a b = 0 := by unfold cmpI; rw [if_neg (by omega), if_neg (by omega)]

theorem cmp_lengths {a b : List Int} (ha : LB a) (hb : LB b) (na : Nrm a) (nb : Nrm b) (h : a.length ≠ b.length) : cmpI (a.length : Int) (b.length : Int) = cmpI (lv a) (lv b) := by
  by_cases h1 : a.length < b.length
  · rw [cmpI_lt (by omega), cmpI_lt (lv_lt_of_length ha hb nb h1)]
  · rw [cmpI_gt (by omega), cmpI_gt (lv_lt_of_length hb ha na (by omega))]

theorem cmp_place {a b : List Int} (ha : LB a) (hb : LB b) (hl : a.length = b.length) {k : Nat} (hk : k < a.length) (hd : a.drop (k + 1) = b.drop (k + 1)) (hx : a.getD k 0 ≠ b.getD k 0) : cmpI (a.getD k 0) (b.getD k 0) = cmpI (lv a) (lv b) := by
  by_cases h1 : a.getD k 0 < b.getD k 0
  · rw [cmpI_lt h1, cmpI_lt (lv_lt_of_place ha hb hl hk hd h1)]
  · have h2 : b.getD k 0 < a.getD k 0 := by omega
    rw [cmpI_gt h2, cmpI_gt (lv_lt_of_place hb ha hl.symm (by omega) hd.symm h2)]

theorem drop_step {a b : List Int} (hl : a.length = b.length) {k : Nat} (hk : k < a.length) (hd : a.drop (k + 1) = b.drop (k + 1)) (hx : a.getD k 0 = b.getD k 0) : a.drop k = b.drop k := by
  rw [drop_cons_getD a k hk, drop_cons_getD b k (by omega), hd, hx]

theorem ret_i64 {a b : Int} (h : a = b) : Ending.returned (.int .i64 a) = .returned (.int .i64 b) := by rw [h]

def CmpPost (w : World) (r : Int) (e : Ending) (w' : World) : Prop := e = .returned (.int .i64 r) ∧ Below w.heap.size w w'

theorem below_drewN {B : Nat} {w w' : World} (h : Below B w w') (n : Nat) : Below B w (w'.drewN n) := ⟨h.os, h.tape, h.output, h.size, h.block⟩

set_option maxHeartbeats 400000 in
theorem compareLimbs_any (w : World) (va vb : Value) (a b : List Int) (ha : Lim w va a) (hb : Lim w vb b) (na : Nrm a) (nb : Nrm b) :
    Calls Tryz.prog 116 #[va, vb] w fun e w' => CmpPost w (cmpI (lv a) (lv b)) e w' := by
  obtain ⟨ao, acap, rfl, hacap, halen, halb, hac⟩ := ha
  obtain ⟨bo, bcap, rfl, hbcap, hblen, hblb, hbc⟩ := hb
  by_cases hl : a.length = b.length
  · have hne : ((a.length : Int) != (b.length : Int)) = false := by rw [bne_eq_false_iff_eq]; omega
    have HLL : Hid (a.length = b.length) := hl
    clear hl
    go_enter Tryz.func116, Tryz.ntmps116
    go_wp2
    go_loopw [19] (fun i wr => ∃ k nq : Nat, k ≤ a.length ∧ i = .int .i64 k ∧ wr = w.drewN nq ∧ Hid (a.drop (a.length - k) = b.drop (a.length - k))) (fun i _ => a.length - (intOf i).toNat)
    case atStart => exact ⟨0, 0, Nat.zero_le _, rfl, by simp [World.drewN_zero], by show _ = _; rw [Nat.sub_zero, List.drop_length, HLL.out, List.drop_length]⟩
    case round =>
      obtain ⟨k, nq, hk, rfl, rfl, HD⟩ := hrel
      by_cases hlt : k < a.length
      · obtain ⟨ab, aoff, rfl, hab, hac⟩ := hac (by omega)
        obtain ⟨bb, boff, rfl, hbb, hbc⟩ := hbc (by have := HLL.out; omega)
        have hblt : a.length - 1 - k < b.length := by have := HLL.out; omega
        have hca := hac (a.length - 1 - k) (by omega)
        have hcb := hbc (a.length - 1 - k) hblt
        clear hac hbc
        have HE : Hid (∀ h : a.getD (a.length - 1 - k) 0 = b.getD (a.length - 1 - k) 0, a.drop (a.length - (k + 1)) = b.drop (a.length - (k + 1))) := fun h => by
          have hd := HD.out
          rw [show a.length - k = a.length - 1 - k + 1 by omega] at hd
          rw [show a.length - (k + 1) = a.length - 1 - k by omega]
          exact drop_step HLL.out (by omega) hd h
        have HN : Hid (∀ h : a.getD (a.length - 1 - k) 0 ≠ b.getD (a.length - 1 - k) 0, cmpI (a.getD (a.length - 1 - k) 0) (b.getD (a.length - 1 - k) 0) = cmpI (lv a) (lv b)) := fun h => by
          have hd := HD.out
          rw [show a.length - k = a.length - 1 - k + 1 by omega] at hd
          exact cmp_place halb hblb HLL.out (by omega) hd h
        generalize a.getD (a.length - 1 - k) 0 = x at *
        generalize b.getD (a.length - 1 - k) 0 = y at *
        by_cases hxy : x = y
        · subst hxy
          have HE' : Hid (a.drop (a.length - (k + 1)) = b.drop (a.length - (k + 1))) := HE.out rfl
          clear HE HN
          go_wp2
          go_quiet (fail)
          go_wp2
          go_roundw
          case rel => exact ⟨k + 1, _, by omega, by go_num, rfl, HE'⟩
          case measure => simp [intOf]; omega
        · have hb1 : (x != y) = true := by rw [bne_iff_ne]; exact hxy
          have HC : Hid _ := HN.out hxy
          clear HN HE
          have HX : Hid (x ≠ y) := hxy
          clear hxy
          have hpa : a.length - 1 - k < a.length := by omega
          obtain ⟨p, hp⟩ : ∃ p, p = a.length - 1 - k := ⟨_, rfl⟩
          have hP : (a.length : Int) - 1 - (k : Int) = (p : Int) := by omega
          rw [← hp] at hca hcb hpa hblt
          clear hp
          go_wp2
          go_quiet (fail)
          go_wp2
          go_region_held3 (fun w' => w'.cell? ⟨ab, aoff + p, none⟩ = some (.int .u32 x) ∧ w'.cell? ⟨bb, boff + p, none⟩ = some (.int .u32 y)) (go_keep) ((go_at_call 136; refine (cmp_u32 _ _ _).mono ?_; rintro e w' ⟨rfl, rfl⟩))
          go_wp2
          go_ret
          exact ⟨ret_i64 HC.out, below_drewN (Below.refl _ _) _⟩
      · have HK : Hid (cmpI (lv a) (lv b) = 0) := by
          have hd := HD.out
          rw [show a.length - k = 0 by omega, List.drop_zero, List.drop_zero] at hd
          show _ = _
          rw [hd]; exact cmpI_eq rfl
        go_wp2
        go_ret
        exact ⟨ret_i64 HK.out.symm, below_drewN (Below.refl _ _) _⟩
  · have HC : Hid _ := cmp_lengths halb hblb na nb hl
    have hne : ((a.length : Int) != (b.length : Int)) = true := by rw [bne_iff_ne]; omega
    clear hac hbc
    go_enter Tryz.func116, Tryz.ntmps116
    go_wp2_with (go_at_call 135; refine (cmp_int _ _ _).mono ?_; rintro e w' ⟨rfl, rfl⟩)
    go_ret
    exact ⟨ret_i64 HC.out, Below.refl _ _⟩

end Go.Proofs.YtdedolkgcdlmeaaGreatDoor
