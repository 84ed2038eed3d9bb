/- Products of limbs. -/
import Derived.Test.YtdedolkgcdlmeaaGreatDoorAddSub
namespace Go.Proofs.YtdedolkgcdlmeaaGreatDoor
open Go.RowKit Limbs

/-- Inside the inner loop. -/
def MulInv (w wr : World) (a b : List Int) (i j : Nat) (cy : Int) (zs : List Int) : Prop :=
  zs.length = a.length + b.length ∧ Row wr w.heap.size zs ∧ Below w.heap.size w wr ∧
    lv zs + bp (i + j) * cy = lv (a.take i) * lv b + bp i * (a.getD i 0 * lv (b.take j)) ∧ ∀ t, i + b.length ≤ t → zs.getD t 0 = 0

/-- At the outer loop's head. -/
def MulOut (w wr : World) (a b : List Int) (i : Nat) (zs : List Int) : Prop :=
  zs.length = a.length + b.length ∧ Row wr w.heap.size zs ∧ Below w.heap.size w wr ∧
    lv zs = lv (a.take i) * lv b ∧ ∀ t, i + b.length ≤ t → zs.getD t 0 = 0

theorem getD_replicate (n t : Nat) : (List.replicate n (0 : Int)).getD t 0 = 0 := by
  rw [List.getD_eq_getElem?_getD]
  by_cases h : t < n
  · simp [h]
  · simp [h]

theorem MulOut.start (w : World) (a b : List Int) : MulOut w (w.alloc (.cells (madeCells #[.int .u32 0] (a.length + b.length)) 104)) a b 0 (List.replicate (a.length + b.length) 0) :=
  ⟨List.length_replicate, Row.made w _, (Below.refl _ _).alloc (Nat.le_refl _) _, by simp [lv, lv_replicate], fun _ _ => getD_replicate _ _⟩

theorem MulOut.inner {w wr : World} {a b : List Int} {i : Nat} {zs : List Int} (h : MulOut w wr a b i zs) : MulInv w wr a b i 0 0 zs := by
  obtain ⟨h1, h2, h3, h4, h5⟩ := h
  exact ⟨h1, h2, h3, by simp [lv, h4], h5⟩

theorem MulInv.drewN {w wr : World} {a b : List Int} {i j : Nat} {cy : Int} {zs : List Int} (h : MulInv w wr a b i j cy zs) (n : Nat) : MulInv w (wr.drewN n) a b i j cy zs := by
  obtain ⟨h1, h2, h3, h4, h5⟩ := h
  exact ⟨h1, h2, below_drewN h3 n, h4, h5⟩

theorem MulInv.step {w wr : World} {a b : List Int} {i j : Nat} {cy : Int} {zs : List Int} (h : MulInv w wr a b i j cy zs) (hi : i < a.length) (hj : j < b.length) {T : Int} (hT : T = cy + (a.getD i 0 * b.getD j 0 + zs.getD (i + j) 0)) :
    MulInv w (wr.setCell ⟨w.heap.size, i + j, none⟩ (.int .u32 (T % 4294967296))) a b i (j + 1) (T / 4294967296) (zs.set (i + j) (T % 4294967296)) := by
  obtain ⟨h1, h2, h3, h4, h5⟩ := h
  refine ⟨by rw [List.length_set]; exact h1, h2.store (by omega) (by omega), h3.setCell (Nat.le_refl _) _, ?_, fun t ht => ?_⟩
  · rw [lv_set _ _ _ (by omega), lv_take_succ]
    have e : bp (i + j) * (T % 4294967296 + 4294967296 * (T / 4294967296)) = bp (i + j) * T := by rw [Int.emod_add_mul_ediv]
    have e2 : bp (i + (j + 1)) * (T / 4294967296) = bp (i + j) * (4294967296 * (T / 4294967296)) := by rw [← Nat.add_assoc]; simp only [bp]; rw [Int.mul_comm 4294967296 (bp (i + j)), Int.mul_assoc]
    have e3 : bp (i + j) * (a.getD i 0 * b.getD j 0) = bp i * (a.getD i 0 * (bp j * b.getD j 0)) := by
      rw [bp_add, Int.mul_assoc, Int.mul_left_comm (bp j)]
    rw [e2, Int.mul_sub]
    rw [Int.mul_add] at e
    rw [hT, Int.mul_add, Int.mul_add] at e
    rw [← hT] at e
    rw [Int.mul_add, Int.mul_add]
    omega
  · rw [getD_set _ _ _ _ (by omega), if_neg (by omega)]
    exact h5 t ht

theorem MulInv.done {w wr : World} {a b : List Int} {i : Nat} {cy : Int} {zs : List Int} (h : MulInv w wr a b i b.length cy zs) (hi : i < a.length) (hc : 0 ≤ cy ∧ cy < 4294967296) :
    MulOut w (wr.setCell ⟨w.heap.size, i + b.length, none⟩ (.int .u32 cy)) a b (i + 1) (zs.set (i + b.length) cy) := by
  obtain ⟨h1, h2, h3, h4, h5⟩ := h
  refine ⟨by rw [List.length_set]; exact h1, h2.store (by omega) hc, h3.setCell (Nat.le_refl _) _, ?_, fun t ht => ?_⟩
  · rw [lv_set _ _ _ (by omega), lv_take_succ, h5 _ (Nat.le_refl _), Int.sub_zero, h4, List.take_length, Int.add_mul, Int.mul_assoc]
  · rw [getD_set _ _ _ _ (by omega), if_neg (by omega)]
    exact h5 t (by omega)

theorem mul_le_limbs {x y : Int} (hx : 0 ≤ x ∧ x < 4294967296) (hy : 0 ≤ y ∧ y < 4294967296) : 0 ≤ x * y ∧ x * y ≤ 18446744065119617025 := by
  have h1 : x * y ≤ 4294967295 * 4294967295 := Int.mul_le_mul (by omega) (by omega) hy.1 (by omega)
  exact ⟨Int.mul_nonneg hx.1 hy.1, by omega⟩

set_option maxHeartbeats 800000 in
theorem mulLimbs_any (w : World) (va vb : Value) (a b : List Int) (ha : Lim w va a) (hb : Lim w vb b) (hla : a.length ≤ 400000) (hlb : b.length ≤ 400000) :
    Calls Tryz.prog 99 #[va, vb] w fun e w' => LimPost w (lv a * lv b) (a.length + b.length) e w' := by
  obtain ⟨ao, acap, rfl, hacap, halen, halb, hac⟩ := ha
  obtain ⟨bo, bcap, rfl, hbcap, hblen, hblb, hbc⟩ := hb
  have hmk := run_mk (a.length + b.length) (by omega)
  rw [Int.natCast_add] at hmk
  go_enter Tryz.func99, Tryz.ntmps99
  go_wp2
  go_loopw [17] (fun i wr => ∃ (k : Nat) (zs : List Int), k ≤ a.length ∧ i = .int .i64 k ∧ MulOut w wr a b k zs) (fun i _ => a.length - (intOf i).toNat)
  case atStart => exact ⟨0, _, Nat.zero_le _, rfl, MulOut.start w a b⟩
  case round =>
    obtain ⟨i, zs, hi, rfl, hout⟩ := hrel
    by_cases hlt : i < a.length
    · obtain ⟨wo, rfl⟩ : ∃ wo : World, wo = wr := ⟨_, rfl⟩
      replace hac := hac (by omega)
      obtain ⟨ab, aoff, rfl, hab, hac⟩ := hac
      have hai := hac i hlt
      clear hac
      have hgx := halb i
      go_wp2
      go_loopw [7, 22] (fun c j wr => ∃ (k : Nat) (cy : Int) (zs : List Int), k ≤ b.length ∧ j = .int .i64 k ∧ c = .int .u64 cy ∧ 0 ≤ cy ∧ cy < 4294967296 ∧ MulInv w wr a b i k cy zs) (fun _ j _ => b.length - (intOf j).toNat)
      case atStart => exact ⟨0, 0, zs, Nat.zero_le _, rfl, rfl, by decide, by decide, hout.inner⟩
      case round =>
        obtain ⟨j, cy, ys, hj, rfl, rfl, hc0, hc1, hinv⟩ := hrel
        by_cases hjl : j < b.length
        · replace hbc := hbc (by omega)
          obtain ⟨bb, boff, rfl, hbb, hbc⟩ := hbc
          have hbj := hbc j hjl
          clear hbc
          have hgy := hblb j
          have hgz := hinv.2.1.2.1 (i + j)
          have hbe := hinv.2.2.1
          obtain ⟨hcell, hfr⟩ := hinv.2.1.2.2 (i + j) (by have := hinv.1; omega)
          have hca : wr.cell? ⟨ab, aoff + i, none⟩ = some (.int .u32 (a.getD i 0)) := (hbe.cell (p := ⟨ab, aoff + i, none⟩) hab).trans hai
          have hcb : wr.cell? ⟨bb, boff + j, none⟩ = some (.int .u32 (b.getD j 0)) := (hbe.cell (p := ⟨bb, boff + j, none⟩) hbb).trans hbj
          have hpr := mul_le_limbs hgx hgy
          have hst := hinv.step hlt hjl rfl
          have hsz := hinv.2.1.1
          clear hai hbj
          generalize a.getD i 0 = x at *
          generalize b.getD j 0 = y at *
          generalize ys.getD (i + j) 0 = z at *
          go_wp2
          go_quiet (fail)
          have hT0 : 0 ≤ cy + (x * y + z) := by omega
          have hT1 : cy + (x * y + z) < 18446744073709551616 := by omega
          generalize cy + (x * y + z) = T at *
          go_wp2
          go_roundw
          case rel => exact ⟨j + 1, T / 4294967296, _, by omega, by go_num, rfl, by omega, by omega, hst.drewN _⟩
          case measure => simp [intOf]; omega
        · obtain rfl : j = b.length := by omega
          have hdo := hinv.done hlt ⟨hc0, hc1⟩
          obtain ⟨hcell, hfr⟩ := hinv.2.1.2.2 (i + b.length) (by have := hinv.1; omega)
          generalize ys.getD (i + b.length) 0 = z at *
          go_wp2
          go_roundw
          case rel => exact ⟨i + 1, _, by omega, by go_num, hdo⟩
          case measure => simp [intOf]; omega
    · obtain rfl : i = a.length := by omega
      have hl := hout.1
      have hv : Hid (lv zs = lv a * lv b) := by have := hout.2.2.2.1; rw [List.take_length] at this; exact this
      go_wp2
      go_ret
      exact limPost_row hl hout.2.1 hout.2.2.1 hv.out (by omega) (Nat.le_refl _)

end Go.Proofs.YtdedolkgcdlmeaaGreatDoor
