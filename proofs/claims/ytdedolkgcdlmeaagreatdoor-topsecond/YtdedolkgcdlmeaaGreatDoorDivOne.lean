/- Limbs divided by one limb. -/
import Derived.Test.YtdedolkgcdlmeaaGreatDoorOps2
namespace Go.Proofs.YtdedolkgcdlmeaaGreatDoor
open Go.RowKit Limbs

theorem or_join (hi lo : Int) (h0 : 0 ≤ hi) (h1 : hi < 4294967296) (h2 : 0 ≤ lo) (h3 : lo < 4294967296) : bits BinOp.or IntKind.u64 (hi * 4294967296) lo = hi * 4294967296 + lo := by
  rw [u64_or _ _ (by omega) (by omega) (by omega) (by omega), nat_join 32 _ _ (by omega) (by omega)]
  omega

theorem shl_join (hi lo : Int) (h0 : 0 ≤ hi) (h1 : hi < 4294967296) (h2 : 0 ≤ lo) (h3 : lo < 4294967296) : 0 ≤ hi * 4294967296 + lo ∧ hi * 4294967296 + lo < 18446744073709551616 := by omega

theorem quo_lt {hi lo y : Int} (h0 : 0 ≤ hi) (h1 : hi < y) (h2 : 0 ≤ lo) (h3 : lo < 4294967296) : 0 ≤ (hi * 4294967296 + lo) / y ∧ (hi * 4294967296 + lo) / y < 4294967296 := by
  have hy : 0 < y := by omega
  refine ⟨Int.ediv_nonneg (by omega) (by omega), ?_⟩
  rw [Int.ediv_lt_iff_lt_mul hy]
  have : (hi + 1) * 4294967296 ≤ y * 4294967296 := Int.mul_le_mul_of_nonneg_right (by omega) (by decide)
  rw [Int.mul_comm 4294967296 y]
  omega

/-- The world but for draws. -/
def Drawn (w w' : World) : Prop := ∃ nq, w' = w.drewN nq

set_option maxRecDepth 100000 in
set_option maxHeartbeats 400000 in
theorem div32 (hi lo y : Int) (w : World) (h0 : 0 ≤ hi) (h1 : hi < y) (h2 : 0 ≤ lo) (h3 : lo < 4294967296) (h4 : y < 4294967296) :
    Calls Tryz.prog 153 #[.int .u32 hi, .int .u32 lo, .int .u32 y] w fun e w' => e = .returned (.tuple #[.int .u32 ((hi * 4294967296 + lo) / y), .int .u32 ((hi * 4294967296 + lo) % y)]) ∧ Drawn w w' := by
  have hor := or_join hi lo h0 (by omega) h2 h3
  have hsh := shl_join hi lo h0 (by omega) h2 h3
  have hq := quo_lt h0 h1 h2 h3
  have hr0 := Int.emod_nonneg (hi * 4294967296 + lo) (show y ≠ 0 by omega)
  have hr1 := Int.emod_lt_of_pos (hi * 4294967296 + lo) (show 0 < y by omega)
  have hy1 : (y != 0) = true := by rw [bne_iff_ne]; omega
  have hy2 : decide (y ≤ hi) = false := decide_eq_false (by omega)
  have hy3 : (y == 0) = false := by rw [beq_eq_false_iff_ne]; omega
  go_enter Tryz.func153, Tryz.ntmps153
  go_wp2
  go_quiet (fail)
  go_wp2
  go_ret2
  exact ⟨rfl, _, rfl⟩

theorem Row.drewN {w : World} {g : Nat} {zs : List Int} (h : Row w g zs) (n : Nat) : Row (w.drewN n) g zs := h

theorem grown_drewN {w w' : World} {r : Option Nat} (h : w.grownBy w' r) (n : Nat) : w.grownBy (w'.drewN n) r := ⟨h.os, h.tape, h.output, h.size, h.block⟩

theorem grown_set {w w' : World} {g : Nat} (h : w.grownBy w' (some g)) (k : Nat) (u : Value) : w.grownBy (w'.setCell ⟨g, k, none⟩ u) (some g) :=
  ⟨h.os, h.tape, h.output, by simpa using h.size, fun j hj hne => by
    rw [heap_setCell_other _ _ _ _ (fun e => hne (by simp [e]))]
    exact h.block j hj hne⟩

/-- So many limbs are still to be divided. -/
def DivInv (w wr : World) (g : Nat) (b : Int) (zs : List Int) (p : Nat) (r : Int) (qs : List Int) : Prop :=
  qs.length = zs.length ∧ Row wr g qs ∧ w.grownBy wr (some g) ∧ qs.take p = zs.take p ∧ lv (zs.drop p) = b * lv (qs.drop p) + r

theorem DivInv.start {w : World} {g : Nat} {zs : List Int} (h : Row w g zs) (b : Int) : DivInv w w g b zs zs.length 0 zs :=
  ⟨rfl, h, World.grownBy.refl _ _, rfl, by rw [List.drop_length]; simp [lv]⟩

theorem getD_of_take {a b : List Int} {p i : Nat} (h : a.take p = b.take p) (hi : i < p) : a.getD i 0 = b.getD i 0 := by
  rw [← getD_take a p i hi, h, getD_take b p i hi]

theorem DivInv.step {w wr : World} {g : Nat} {b : Int} {zs : List Int} {p : Nat} {r : Int} {qs : List Int} (h : DivInv w wr g b zs (p + 1) r qs) (hp : p < zs.length) {q s : Int} (hq : 0 ≤ q ∧ q < 4294967296) (hs : r * 4294967296 + zs.getD p 0 = b * q + s) (nq : Nat) :
    DivInv w ((wr.drewN nq).setCell ⟨g, p, none⟩ (.int .u32 q)) g b zs p s (qs.set p q) := by
  obtain ⟨h1, h2, h3, h4, h5⟩ := h
  refine ⟨by rw [List.length_set]; exact h1, (h2.drewN nq).store (by omega) hq, grown_set (grown_drewN h3 nq) _ _, ?_, ?_⟩
  · rw [take_set_ge _ _ _ _ (Nat.le_refl _)]
    have := congrArg (List.take p) h4
    rwa [List.take_take, List.take_take, Nat.min_eq_left (by omega)] at this
  · rw [drop_cons_getD zs p hp, drop_cons_getD (qs.set p q) p (by rw [List.length_set]; omega), drop_set_lt _ _ _ _ (Nat.lt_succ_self p), getD_set _ _ _ _ (by omega), if_pos rfl]
    simp only [lv]
    rw [h5, Int.mul_add, Int.mul_add]
    have e : b * (4294967296 * lv (qs.drop (p + 1))) = 4294967296 * (b * lv (qs.drop (p + 1))) := by rw [Int.mul_left_comm]
    rw [e]
    omega

/-- In place: what is there becomes how often; what is left comes back. -/
def DivOnePost (w : World) (g : Nat) (b : Int) (zs : List Int) (e : Ending) (w' : World) : Prop :=
  ∃ r qs, e = .returned (.int .u32 r) ∧ 0 ≤ r ∧ r < b ∧ qs.length = zs.length ∧ Row w' g qs ∧ w.grownBy w' (some g) ∧ lv zs = b * lv qs + r

set_option maxRecDepth 100000 in
set_option maxHeartbeats 800000 in
theorem divByLimb_any (w : World) (g cap : Nat) (zs : List Int) (b : Int) (hr : Row w g zs) (hl : zs.length ≤ 1000000) (hb0 : 0 < b) (hb1 : b < 4294967296) :
    Calls Tryz.prog 137 #[.slice (some ⟨g, 0, none⟩) zs.length cap, .int .u32 b] w fun e w' => DivOnePost w g b zs e w' := by
  have HR := hide hr
  have hlb := hr.2.1
  clear hr
  go_enter Tryz.func137, Tryz.ntmps137
  go_wp2
  go_loopw [5, 10] (fun c i wr => ∃ (k : Nat) (r : Int) (qs : List Int), k ≤ zs.length ∧ i = .int .i64 k ∧ c = .int .u32 r ∧ 0 ≤ r ∧ r < b ∧ DivInv w wr g b zs (zs.length - k) r qs) (fun _ i _ => zs.length - (intOf i).toNat)
  case atStart => exact ⟨0, 0, zs, Nat.zero_le _, rfl, rfl, Int.le_refl _, hb0, DivInv.start HR.out b⟩
  case round =>
    obtain ⟨k, r, qs, hk, rfl, rfl, hr0, hr1, hinv⟩ := hrel
    by_cases hlt : k < zs.length
    · obtain ⟨p, hp⟩ : ∃ p, p = zs.length - 1 - k := ⟨_, rfl⟩
      have hP : (zs.length : Int) - 1 - (k : Int) = (p : Int) := by omega
      have hpl : p < zs.length := by omega
      rw [show zs.length - k = p + 1 by omega] at hinv
      have hz := hlb p
      obtain ⟨hcell, hfr⟩ := hinv.2.1.2.2 p (by have := hinv.1; omega)
      rw [getD_of_take hinv.2.2.2.1 (Nat.lt_succ_self p)] at hcell
      have hst := fun q s hq hs nq => hinv.step hpl (q := q) (s := s) hq hs nq
      have HK := hide (show zs.length - (k + 1) = p by omega)
      clear hp
      generalize zs.getD p 0 = z at *
      go_wp2_with fail
      refine (div32 r z b _ hr0 hr1 hz.1 hz.2 hb1).mono ?_
      rintro e w' ⟨rfl, nq, rfl⟩
      have hq := quo_lt hr0 hr1 hz.1 hz.2
      have hm0 := Int.emod_nonneg (r * 4294967296 + z) (show b ≠ 0 by omega)
      have hm1 := Int.emod_lt_of_pos (r * 4294967296 + z) hb0
      have HS := hide (hst _ _ hq (Int.mul_ediv_add_emod (r * 4294967296 + z) b).symm nq)
      clear hst
      generalize (r * 4294967296 + z) / b = q at *
      generalize (r * 4294967296 + z) % b = s at *
      go_wp2
      go_roundw
      case rel => exact ⟨k + 1, s, _, by omega, by go_num, rfl, hm0, hm1, by rw [HK.out]; exact HS.out⟩
      case measure => simp [intOf]; omega
    · obtain rfl : k = zs.length := by omega
      rw [Nat.sub_self] at hinv
      go_wp2
      go_ret
      exact ⟨r, qs, rfl, hr0, hr1, hinv.1, hinv.2.1, hinv.2.2.1, by have := hinv.2.2.2.2; simpa using this⟩

end Go.Proofs.YtdedolkgcdlmeaaGreatDoor
