/- Limbs moved up and down by some bits. -/
import Derived.Test.YtdedolkgcdlmeaaGreatDoorDivOne
namespace Go.Proofs.YtdedolkgcdlmeaaGreatDoor
open Go.RowKit Limbs

/-- A power of two that goes into the base: its counterpart. -/
structure Pow (s : Nat) (P Q : Int) : Prop where
  eq : (2 : Int) ^ s = P
  pos : 1 ≤ P
  top : P ≤ 2147483648
  co : P * Q = 4294967296
  cpos : 2 ≤ Q
  small : s ≤ 31

theorem pow_any (s : Nat) (h : s ≤ 31) : ∃ P Q, Pow s P Q := by
  refine ⟨2 ^ s, 2 ^ (32 - s), rfl, ?_, ?_, ?_, ?_, h⟩
  · have : 0 < (2 : Int) ^ s := Int.pow_pos (by decide)
    omega
  · have : ((2 ^ s : Nat) : Int) ≤ ((2 ^ 31 : Nat) : Int) := Int.ofNat_le.2 (Nat.pow_le_pow_right (by decide) h)
    have e : ((2 ^ s : Nat) : Int) = (2 : Int) ^ s := by norm_cast
    rw [e] at this
    exact this
  · rw [← Int.pow_add, show s + (32 - s) = 32 by omega]; decide
  · have : ((2 ^ 1 : Nat) : Int) ≤ ((2 ^ (32 - s) : Nat) : Int) := Int.ofNat_le.2 (Nat.pow_le_pow_right (by decide) (by omega))
    have e : ((2 ^ (32 - s) : Nat) : Int) = (2 : Int) ^ (32 - s) := by norm_cast
    rw [e] at this
    exact this

/-- What is below the power, and what is a multiple of it, side by side. -/
theorem or_pow {s : Nat} {P Q : Int} (h : Pow s P Q) (o x : Int) (h0 : 0 ≤ o) (h1 : o < P) :
    bits BinOp.or IntKind.u32 o (x * P % 4294967296) = o + x * P % 4294967296 ∧ o + x * P % 4294967296 < 4294967296 := by
  have hc := h.co
  have hp := h.pos
  have hq := h.cpos
  have e : x * P % 4294967296 = (x % Q) * P := by
    rw [← hc, Int.mul_comm x P, Int.mul_emod_mul_of_pos x Q (by omega : 0 < P), Int.mul_comm]
  have m0 := Int.emod_nonneg x (show Q ≠ 0 by omega)
  have m1 := Int.emod_lt_of_pos x (show 0 < Q by omega)
  have b1 : (x % Q + 1) * P ≤ Q * P := Int.mul_le_mul_of_nonneg_right (by omega) (by omega)
  rw [Int.mul_comm Q P, hc, Int.add_mul, Int.one_mul] at b1
  have b0 : 0 ≤ (x % Q) * P := Int.mul_nonneg m0 (by omega)
  have t := h.top
  rw [e]
  refine ⟨?_, by omega⟩
  rw [u32_or _ _ h0 (by omega) b0 (by omega), Nat.or_comm, nat_join s]
  · omega
  · have ep : P = ((2 ^ s : Nat) : Int) := by rw [← h.eq]; norm_cast
    obtain ⟨k, hk⟩ := Int.eq_ofNat_of_zero_le m0
    rw [hk, ep, ← Int.natCast_mul, Int.toNat_natCast]
    exact Nat.mul_mod_left _ _
  · have ep : P = ((2 ^ s : Nat) : Int) := by rw [← h.eq]; norm_cast
    omega

def UpInv (w wr : World) (l : List Int) (P : Int) (k : Nat) (zs : List Int) : Prop :=
  zs.length = l.length + 1 ∧ Row wr w.heap.size zs ∧ Below w.heap.size w wr ∧ lv (zs.take (k + 1)) = lv (l.take k) * P ∧ zs.getD k 0 < P

theorem UpInv.start (w : World) (l : List Int) {P : Int} (hp : 1 ≤ P) : UpInv w (w.alloc (.cells (madeCells #[.int .u32 0] (l.length + 1)) 104)) l P 0 (List.replicate (l.length + 1) 0) :=
  ⟨List.length_replicate, Row.made w _, (Below.refl _ _).alloc (Nat.le_refl _) _, by simp [lv], by rw [getD_replicate]; omega⟩

theorem UpInv.step {w wr : World} {l : List Int} {P : Int} {k : Nat} {zs : List Int} (h : UpInv w wr l P k zs) (hk : k < l.length) {s : Nat} {Q : Int} (hP : Pow s P Q) (hl : LB l) {o x : Int} (ho : zs.getD k 0 = o) (hx : l.getD k 0 = x) :
    UpInv w ((wr.setCell ⟨w.heap.size, k, none⟩ (.int .u32 (o + x * P % 4294967296))).setCell ⟨w.heap.size, k + 1, none⟩ (.int .u32 (x * P / 4294967296))) l P (k + 1) ((zs.set k (o + x * P % 4294967296)).set (k + 1) (x * P / 4294967296)) := by
  obtain ⟨h1, h2, h3, h4, h5⟩ := h
  subst ho; subst hx
  have hx := hl k
  have ho := h2.2.1 k
  have hor := (or_pow hP _ (l.getD k 0) ho.1 h5).2
  have hp := hP.pos
  have ht := hP.top
  have hw0 : 0 ≤ l.getD k 0 * P := Int.mul_nonneg hx.1 (by omega)
  have hw1 : (l.getD k 0 + 1) * P ≤ 4294967296 * P := Int.mul_le_mul_of_nonneg_right (by omega) (by omega)
  rw [Int.add_mul, Int.one_mul] at hw1
  have e' : (lv (l.take k) + bp k * l.getD k 0) * P = lv (zs.take (k + 1)) + bp k * (l.getD k 0 * P) := by rw [Int.add_mul, h4, Int.mul_assoc]
  generalize l.getD k 0 * P = W at *
  have e := lv_take_succ l k
  refine ⟨by rw [List.length_set, List.length_set]; exact h1, ?_, (h3.setCell (Nat.le_refl _) _).setCell (Nat.le_refl _) _, ?_, ?_⟩
  · have hr := h2.store (show k < zs.length by omega) (z := zs.getD k 0 + W % 4294967296) (by omega)
    exact hr.store (by rw [List.length_set]; omega) (by omega)
  · have e1 := lv_take_succ zs k
    have e2 : bp (k + 1) * (W / 4294967296) = bp k * (4294967296 * (W / 4294967296)) := by simp only [bp]; rw [Int.mul_comm 4294967296 (bp k), Int.mul_assoc]
    have e3 : bp k * (W % 4294967296 + 4294967296 * (W / 4294967296)) = bp k * W := by rw [Int.emod_add_mul_ediv]
    rw [lv_take_succ, take_set_ge _ _ _ _ (Nat.le_refl _), getD_set _ _ _ _ (by rw [List.length_set]; omega), if_pos rfl, lv_take_succ, take_set_ge _ _ _ _ (Nat.le_refl _), getD_set _ _ _ _ (by omega), if_pos rfl, e, e', e2, Int.mul_add]
    rw [Int.mul_add] at e3
    omega
  · rw [getD_set _ _ _ _ (by rw [List.length_set]; omega), if_pos rfl]
    omega

/-- The limbs, so many times, in a new row, one limb longer. -/
def UpPost (w : World) (l : List Int) (P : Int) (e : Ending) (w' : World) : Prop :=
  ∃ zs, e = .returned (.slice (some ⟨w.heap.size, 0, none⟩) (l.length + 1) (l.length + 1)) ∧ zs.length = l.length + 1 ∧ Row w' w.heap.size zs ∧ lv zs = lv l * P ∧ Below w.heap.size w w'

set_option maxRecDepth 100000 in
set_option maxHeartbeats 800000 in
theorem shiftUp_any (w : World) (v : Value) (l : List Int) (s : Nat) {P Q : Int} (hl : Lim w v l) (hP : Pow s P Q) (hla : l.length ≤ 900000) :
    Calls Tryz.prog 142 #[v, .int .i64 (s : Int)] w fun e w' => UpPost w l P e w' := by
  obtain ⟨ao, acap, rfl, hacap, halen, hlb, hac⟩ := hl
  have hmk := run_mk (l.length + 1) (by omega)
  rw [show ((l.length + 1 : Nat) : Int) = (l.length : Int) + 1 by omega] at hmk
  have hs := hP.small
  have hmin : min s 64 = s := by omega
  have hpe := hP.eq
  have HP := hide hP
  have hp1 := hP.pos
  have hp2 := hP.top
  go_enter Tryz.func142, Tryz.ntmps142
  go_wp2
  go_loopw [14] (fun i wr => ∃ (k : Nat) (zs : List Int), k ≤ l.length ∧ i = .int .i64 k ∧ UpInv w wr l P k zs) (fun i _ => l.length - (intOf i).toNat)
  case atStart => exact ⟨0, _, Nat.zero_le _, rfl, UpInv.start w l hp1⟩
  case round =>
    obtain ⟨k, zs, hk, rfl, hinv⟩ := hrel
    by_cases hlt : k < l.length
    · obtain ⟨b, off, rfl, hb, hc⟩ := hac (by omega)
      have hcl : wr.cell? ⟨b, off + k, none⟩ = some (.int .u32 (l.getD k 0)) := (hinv.2.2.1.cell (p := ⟨b, off + k, none⟩) hb).trans (hc k hlt)
      have hst := hinv.step hlt HP.out hlb rfl rfl
      obtain ⟨hcell, hfr⟩ := hinv.2.1.2.2 k (by have := hinv.1; omega)
      obtain ⟨hcell1, hfr1⟩ := hinv.2.1.2.2 (k + 1) (by have := hinv.1; omega)
      have hg := hlb k
      have ho := hinv.2.1.2.1 k
      have hor := or_pow HP.out _ (l.getD k 0) ho.1 hinv.2.2.2.2
      clear hc hac
      generalize zs.getD k 0 = o at *
      generalize zs.getD (k + 1) 0 = o1 at *
      generalize l.getD k 0 = x at *
      have hw0 : 0 ≤ x * P := Int.mul_nonneg hg.1 (by omega)
      have hw1 : x * P ≤ 4294967295 * 2147483648 := Int.mul_le_mul (by omega) hp2 (by omega) (by decide)
      go_wp2
      go_roundw
      case rel => exact ⟨k + 1, _, by omega, by go_num, hst⟩
      case measure => simp [intOf]; omega
    · obtain rfl : k = l.length := by omega
      have hl := hinv.1
      have HV := hide (show lv zs = lv l * P by have := hinv.2.2.2.1; rwa [lv_take_ge zs (by omega), List.take_length] at this)
      go_wp2
      go_ret
      exact ⟨zs, rfl, hl, hinv.2.1, HV.out, hinv.2.2.1⟩

/-- What one limb, and the one above it, give when moved down. -/
theorem down_limb {s : Nat} {P Q : Int} (h : Pow s P Q) (x y : Int) (hx : 0 ≤ x ∧ x < 4294967296) :
    P * ((y * 4294967296 + x) / P % 4294967296) = (y % P) * 4294967296 + x - x % P := by
  have hc := h.co
  have hp := h.pos
  have hq := h.cpos
  have e1 : (y * 4294967296 + x) / P = y * Q + x / P := by
    rw [← hc, Int.mul_comm P Q, ← Int.mul_assoc, Int.add_comm, Int.add_mul_ediv_right _ _ (by omega : P ≠ 0), Int.add_comm]
  have dy := Int.mul_ediv_add_emod y P
  have dx := Int.mul_ediv_add_emod x P
  have y0 := Int.emod_nonneg y (show P ≠ 0 by omega)
  have y1 := Int.emod_lt_of_pos y (show 0 < P by omega)
  have x0 := Int.emod_nonneg x (show P ≠ 0 by omega)
  have x1 := Int.emod_lt_of_pos x (show 0 < P by omega)
  have e2 : y * Q = 4294967296 * (y / P) + (y % P) * Q := by
    conv => lhs; rw [← dy]
    rw [Int.add_mul, Int.mul_right_comm, hc]
  have q0 : 0 ≤ x / P := Int.ediv_nonneg hx.1 (by omega)
  have q1 : x / P < Q := by
    rw [Int.ediv_lt_iff_lt_mul (by omega : 0 < P), Int.mul_comm, hc]; exact hx.2
  have b1 : (y % P + 1) * Q ≤ P * Q := Int.mul_le_mul_of_nonneg_right (by omega) (by omega)
  rw [Int.add_mul, Int.one_mul, hc] at b1
  have b0 : 0 ≤ (y % P) * Q := Int.mul_nonneg y0 (by omega)
  have e3 : (y * Q + x / P) % 4294967296 = (y % P) * Q + x / P := by rw [e2]; omega
  rw [e1, e3, Int.mul_add, Int.mul_left_comm, hc]
  omega

def DownInv (w wr : World) (l : List Int) (P : Int) (k : Nat) (zs : List Int) : Prop :=
  zs.length = l.length ∧ Row wr w.heap.size zs ∧ Below w.heap.size w wr ∧ P * lv (zs.take k) + l.getD 0 0 % P = lv (l.take k) + bp k * (l.getD k 0 % P)

theorem DownInv.start (w : World) (l : List Int) (P : Int) : DownInv w (w.alloc (.cells (madeCells #[.int .u32 0] l.length) 104)) l P 0 (List.replicate l.length 0) :=
  ⟨List.length_replicate, Row.made w _, (Below.refl _ _).alloc (Nat.le_refl _) _, by simp [lv, bp]⟩

theorem DownInv.drewN {w wr : World} {l : List Int} {P : Int} {k : Nat} {zs : List Int} (h : DownInv w wr l P k zs) (n : Nat) : DownInv w (wr.drewN n) l P k zs :=
  ⟨h.1, h.2.1, below_drewN h.2.2.1 n, h.2.2.2⟩

theorem DownInv.step {w wr : World} {l : List Int} {P : Int} {k : Nat} {zs : List Int} (h : DownInv w wr l P k zs) (hk : k < l.length) {s : Nat} {Q : Int} (hP : Pow s P Q) (hl : LB l) {x y : Int} (hy : l.getD (k + 1) 0 = y) (hx : l.getD k 0 = x) :
    DownInv w (wr.setCell ⟨w.heap.size, k, none⟩ (.int .u32 ((y * 4294967296 + x) / P % 4294967296))) l P (k + 1) (zs.set k ((y * 4294967296 + x) / P % 4294967296)) := by
  obtain ⟨h1, h2, h3, h4⟩ := h
  subst hy; subst hx
  have hd := down_limb hP _ (l.getD (k + 1) 0) (hl k)
  refine ⟨by rw [List.length_set]; exact h1, h2.store (by omega) (by omega), h3.setCell (Nat.le_refl _) _, ?_⟩
  rw [lv_take_succ, lv_take_succ, take_set_ge _ _ _ _ (Nat.le_refl _), getD_set _ _ _ _ (by omega), if_pos rfl, Int.mul_add, Int.mul_left_comm P, hd]
  have e2 : bp (k + 1) * (l.getD (k + 1) 0 % P) = bp k * (l.getD (k + 1) 0 % P * 4294967296) := by simp only [bp]; rw [Int.mul_comm 4294967296 (bp k), Int.mul_assoc, Int.mul_comm 4294967296]
  rw [e2, Int.mul_sub, Int.mul_add]
  omega

theorem DownInv.done {w wr : World} {l : List Int} {P : Int} {zs : List Int} (h : DownInv w wr l P l.length zs) (hp : 1 ≤ P) : lv zs = lv l / P := by
  obtain ⟨h1, h2, h3, h4⟩ := h
  rw [lv_take_ge zs (by omega), lv_take_ge l (Nat.le_refl _), getD_ge l l.length (Nat.le_refl _)] at h4
  have m0 := Int.emod_nonneg (l.getD 0 0) (show P ≠ 0 by omega)
  have m1 := Int.emod_lt_of_pos (l.getD 0 0) (show 0 < P by omega)
  have e : lv l = l.getD 0 0 % P + P * lv zs := by rw [Int.zero_emod, Int.mul_zero] at h4; omega
  rw [e, Int.add_mul_ediv_left _ _ (by omega : P ≠ 0), Int.ediv_eq_zero_of_lt m0 m1]
  omega

/-- The limbs' own part, in a new row. -/
def DownPost (w : World) (l : List Int) (P : Int) (e : Ending) (w' : World) : Prop :=
  ∃ zs, e = .returned (.slice (some ⟨w.heap.size, 0, none⟩) l.length l.length) ∧ zs.length = l.length ∧ Row w' w.heap.size zs ∧ lv zs = lv l / P ∧ Below w.heap.size w w'

set_option maxRecDepth 100000 in
set_option maxHeartbeats 800000 in
theorem shiftDown_any (w : World) (v : Value) (l : List Int) (s : Nat) {P Q : Int} (hl : Lim w v l) (hP : Pow s P Q) :
    Calls Tryz.prog 144 #[v, .int .i64 (s : Int)] w fun e w' => DownPost w l P e w' := by
  have HL := hide hl
  obtain ⟨ao, acap, rfl, hacap, halen, hlb, hac⟩ := hl
  have hmk := run_mk l.length (by omega)
  have hs := hP.small
  have hmin : min s 64 = s := by omega
  have hpe := hP.eq
  have HP := hide hP
  have hp1 := hP.pos
  have hp2 := hP.top
  go_enter Tryz.func144, Tryz.ntmps144
  go_wp2
  go_loopw [13] (fun i wr => ∃ (k : Nat) (zs : List Int), k ≤ l.length ∧ i = .int .i64 k ∧ DownInv w wr l P k zs) (fun i _ => l.length - (intOf i).toNat)
  case atStart => exact ⟨0, _, Nat.zero_le _, rfl, DownInv.start w l P⟩
  case round =>
    obtain ⟨k, zs, hk, rfl, hinv⟩ := hrel
    by_cases hlt : k < l.length
    · have hwk : IntKind.i64.wrap ((k : Int) + 1) = (k : Int) + 1 := by rw [IntKind.wrap_i64]; omega
      have hlb' := fun W (h : Below w.heap.size w W) => limb_any W (.slice ao l.length acap) l (IntKind.i64.wrap ((k : Int) + 1)) (HL.out.below h (Nat.le_refl _)) (by omega) (by omega)
      rw [show (IntKind.i64.wrap ((k : Int) + 1)).toNat = k + 1 by omega] at hlb'
      clear hwk
      obtain ⟨b, off, rfl, hb, hc⟩ := hac (by omega)
      have hbe := hinv.2.2.1
      have hcl : wr.cell? ⟨b, off + k, none⟩ = some (.int .u32 (l.getD k 0)) := (hbe.cell (p := ⟨b, off + k, none⟩) hb).trans (hc k hlt)
      have hst := hinv.step hlt HP.out hlb rfl rfl
      obtain ⟨hcell, hfr⟩ := hinv.2.1.2.2 k (by have := hinv.1; omega)
      have hg := hlb k
      have hg1 := hlb (k + 1)
      clear hc hac
      generalize zs.getD k 0 = o at *
      generalize l.getD (k + 1) 0 = y at *
      generalize l.getD k 0 = x at *
      have hor := or_join y x hg1.1 hg1.2 hg.1 hg.2
      have hsh := shl_join y x hg1.1 hg1.2 hg.1 hg.2
      go_wp2
      go_region_held3 (fun w' => w'.cell? ⟨b, off + k, none⟩ = some (.int .u32 x)) (go_keep) ((go_at_call 146; refine (hlb' _ (by first | exact hbe.drew | exact hbe)).mono ?_; rintro e w' ⟨rfl, rfl⟩))
      go_wp2
      go_roundw
      case rel => exact ⟨k + 1, _, by omega, by go_num, hst.drewN _⟩
      case measure => simp [intOf]; omega
    · obtain rfl : k = l.length := by omega
      have hl := hinv.1
      have HV := hide (hinv.done hp1)
      go_wp2
      go_ret
      exact ⟨zs, rfl, hl, hinv.2.1, HV.out, hinv.2.2.1⟩

end Go.Proofs.YtdedolkgcdlmeaaGreatDoor
