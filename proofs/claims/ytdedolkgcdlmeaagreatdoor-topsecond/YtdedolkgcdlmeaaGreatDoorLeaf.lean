/- The leaves: one limb, its sums, orders. Conditions: the slices hold limbs. -/
import Derived.Test.YtdedolkgcdlmeaaGreatDoorRows
import Derived.Test.YtdedolkgcdlmeaaGreatDoorLimbs
import Derived.WalkKit
import Derived.WalkSpells
import Derived.WalkLawsBesides
namespace Go.Proofs.YtdedolkgcdlmeaaGreatDoor
open Go.RowKit Limbs

theorem hide {p : Prop} (h : p) : Hid p := h

/-- A slice value that holds these limbs in this world. -/
def Lim (w : World) (v : Value) (zs : List Int) : Prop :=
  ∃ ao cap, v = .slice ao zs.length cap ∧ zs.length ≤ cap ∧ zs.length ≤ 1000000 ∧ LB zs ∧
    (0 < zs.length → ∃ b off, ao = some ⟨b, off, none⟩ ∧ b < w.heap.size ∧ ∀ i, i < zs.length → w.cell? ⟨b, off + i, none⟩ = some (.int .u32 (zs.getD i 0)))

theorem Lim.below {B : Nat} {w w' : World} {v : Value} {zs : List Int} (h : Lim w v zs) (hb : Below B w w') (hB : w.heap.size ≤ B) : Lim w' v zs := by
  obtain ⟨ao, cap, hv, h1, h2, h3, h4⟩ := h
  refine ⟨ao, cap, hv, h1, h2, h3, fun h0 => ?_⟩
  obtain ⟨b, off, e, hlt, hc⟩ := h4 h0
  exact ⟨b, off, e, Nat.lt_of_lt_of_le hlt hb.size, fun i hi => (hb.cell (p := ⟨b, off + i, none⟩) (Nat.lt_of_lt_of_le hlt hB)).trans (hc i hi)⟩

set_option maxHeartbeats 400000 in
theorem limb_any (w : World) (v : Value) (zs : List Int) (i : Int) (h : Lim w v zs) (h0 : 0 ≤ i) (h1 : i ≤ 2000000) :
    Calls Tryz.prog 146 #[v, .int .i64 i] w fun e w' => e = .returned (.int .u32 (zs.getD i.toNat 0)) ∧ w' = w := by
  obtain ⟨ao, cap, rfl, hcap, hlen, hlb, hc⟩ := h
  obtain ⟨k, rfl⟩ := Int.eq_ofNat_of_zero_le h0
  rw [Int.toNat_natCast]
  by_cases hk : k < zs.length
  · obtain ⟨b, off, rfl, hb, hc⟩ := hc (by omega)
    have hck := hc k hk
    clear hc
    generalize zs.getD k 0 = z at *
    go_enter Tryz.func146, Tryz.ntmps146
    go_wp2
    go_ret
    exact ⟨rfl, rfl⟩
  · have hz : zs.getD k 0 = 0 := by simp [List.getD_eq_getElem?_getD, List.getElem?_eq_none (Nat.le_of_not_lt hk)]
    clear hc
    rw [hz]; clear hz
    go_enter Tryz.func146, Tryz.ntmps146
    go_wp2
    go_ret
    exact ⟨rfl, rfl⟩

/-- -1, 0, 1. -/
def cmpI (a b : Int) : Int := if a < b then -1 else if b < a then 1 else 0

theorem cmp_int (x y : Int) (w : World) :
    Calls Tryz.prog 135 #[.int .i64 x, .int .i64 y] w fun e w' => e = .returned (.int .i64 (cmpI x y)) ∧ w' = w := by
  unfold cmpI
  by_cases h1 : x < y
  · rw [if_pos h1]
    go_enter Tryz.func135, Tryz.ntmps135
    go_wp2
    go_ret
    exact ⟨rfl, rfl⟩
  · rw [if_neg h1]
    by_cases h2 : y < x
    · rw [if_pos h2]
      go_enter Tryz.func135, Tryz.ntmps135
      go_wp2
      go_ret
      exact ⟨rfl, rfl⟩
    · rw [if_neg h2]
      obtain rfl : x = y := by omega
      go_enter Tryz.func135, Tryz.ntmps135
      go_wp2
      go_ret
      exact ⟨rfl, rfl⟩

theorem cmp_u32 (x y : Int) (w : World) :
    Calls Tryz.prog 136 #[.int .u32 x, .int .u32 y] w fun e w' => e = .returned (.int .i64 (cmpI x y)) ∧ w' = w := by
  unfold cmpI
  by_cases h1 : x < y
  · rw [if_pos h1]
    go_enter Tryz.func136, Tryz.ntmps136
    go_wp2
    go_ret
    exact ⟨rfl, rfl⟩
  · rw [if_neg h1]
    by_cases h2 : y < x
    · rw [if_pos h2]
      go_enter Tryz.func136, Tryz.ntmps136
      go_wp2
      go_ret
      exact ⟨rfl, rfl⟩
    · rw [if_neg h2]
      obtain rfl : x = y := by omega
      go_enter Tryz.func136, Tryz.ntmps136
      go_wp2
      go_ret
      exact ⟨rfl, rfl⟩

theorem ret_tup2 {k l : IntKind} {a b c d : Int} (h : a = b) (g : c = d) : Ending.returned (.tuple #[.int k a, .int l c]) = .returned (.tuple #[.int k b, .int l d]) := by rw [h, g]

theorem add32 (x y c : Int) (w : World) (hx : 0 ≤ x ∧ x < 4294967296) (hy : 0 ≤ y ∧ y < 4294967296) (hc : 0 ≤ c ∧ c ≤ 1) :
    Calls Tryz.prog 145 #[.int .u32 x, .int .u32 y, .int .u32 c] w fun e w' => e = .returned (.tuple #[.int .u32 ((x + y + c) % 4294967296), .int .u32 ((x + y + c) / 4294967296)]) ∧ w' = w := by
  obtain ⟨_, _⟩ := hx; obtain ⟨_, _⟩ := hy; obtain ⟨_, _⟩ := hc
  go_enter Tryz.func145, Tryz.ntmps145
  go_wp2
  go_ret2
  exact ⟨ret_tup2 (by omega) (by omega), rfl⟩

/-- what is borrowed -/
def bor (x y : Int) : Int := if x < y then 1 else 0

theorem bit_cases (xb yb db : Nat) (hx : xb ≤ 1) (hy : yb ≤ 1) (hd : db ≤ 1) :
    (((1 ^^^ xb) &&& yb) ||| ((1 ^^^ (xb ^^^ yb)) &&& db)) = if xb = yb then db else yb := by
  rcases (by omega : xb = 0 ∨ xb = 1) with rfl | rfl <;> rcases (by omega : yb = 0 ∨ yb = 1) with rfl | rfl <;> rcases (by omega : db = 0 ∨ db = 1) with rfl | rfl <;> decide

theorem sub32_bits (x y c : Int) (hx : 0 ≤ x ∧ x < 4294967296) (hy : 0 ≤ y ∧ y < 4294967296) (hc : 0 ≤ c ∧ c ≤ 1) :
    bits BinOp.or IntKind.u32 (bits BinOp.and IntKind.u32 (bits BinOp.xor IntKind.u32 IntKind.u32.max x) y) (bits BinOp.and IntKind.u32 (bits BinOp.xor IntKind.u32 IntKind.u32.max (bits BinOp.xor IntKind.u32 x y)) ((x - y - c) % 4294967296)) / 2147483648 = bor x (y + c) := by
  have hm : IntKind.u32.max = ((4294967295 : Nat) : Int) := by decide
  obtain ⟨d, hd⟩ : ∃ d : Nat, (x - y - c) % 4294967296 = (d : Int) := Int.eq_ofNat_of_zero_le (by omega)
  obtain ⟨x, rfl⟩ := Int.eq_ofNat_of_zero_le hx.1
  obtain ⟨y, rfl⟩ := Int.eq_ofNat_of_zero_le hy.1
  have hx' : x < 4294967296 := by omega
  have hy' : y < 4294967296 := by omega
  have hd' : d < 4294967296 := by omega
  have l1 : 4294967295 ^^^ x < 4294967296 := Nat.xor_lt_two_pow (n := 32) (by decide) hx'
  have l2 : x ^^^ y < 4294967296 := Nat.xor_lt_two_pow (n := 32) hx' hy'
  have l3 : 4294967295 ^^^ (x ^^^ y) < 4294967296 := Nat.xor_lt_two_pow (n := 32) (by decide) l2
  have l4 : (4294967295 ^^^ x) &&& y < 4294967296 := Nat.and_lt_two_pow (n := 32) _ hy'
  have l5 : (4294967295 ^^^ (x ^^^ y)) &&& d < 4294967296 := Nat.and_lt_two_pow (n := 32) _ hd'
  rw [hm, hd, u32_xor_nat _ _ (by decide) hx', u32_and_nat _ _ l1 hy', u32_xor_nat _ _ hx' hy', u32_xor_nat _ _ (by decide) l2, u32_and_nat _ _ l3 hd', u32_or_nat _ _ l4 l5]
  have e : (((4294967295 ^^^ x) &&& y) ||| ((4294967295 ^^^ (x ^^^ y)) &&& d)) / 2147483648 = if x / 2147483648 = y / 2147483648 then d / 2147483648 else y / 2147483648 := by
    rw [show (2147483648 : Nat) = 2 ^ 31 from by decide]
    simp only [← Nat.shiftRight_eq_div_pow, Nat.shiftRight_or_distrib, Nat.shiftRight_and_distrib, Nat.shiftRight_xor_distrib]
    rw [show (4294967295 : Nat) >>> 31 = 1 from by decide]
    simp only [Nat.shiftRight_eq_div_pow]
    exact bit_cases _ _ _ (by omega) (by omega) (by omega)
  have e2 : ((((4294967295 ^^^ x) &&& y) ||| ((4294967295 ^^^ (x ^^^ y)) &&& d) : Nat) : Int) / 2147483648 = ((if x / 2147483648 = y / 2147483648 then d / 2147483648 else y / 2147483648 : Nat) : Int) := by rw [← e]; rfl
  rw [e2]
  unfold bor
  split <;> split <;> omega

theorem sub32 (x y c : Int) (w : World) (hx : 0 ≤ x ∧ x < 4294967296) (hy : 0 ≤ y ∧ y < 4294967296) (hc : 0 ≤ c ∧ c ≤ 1) :
    Calls Tryz.prog 147 #[.int .u32 x, .int .u32 y, .int .u32 c] w fun e w' => e = .returned (.tuple #[.int .u32 ((x - y - c) % 4294967296), .int .u32 (bor x (y + c))]) ∧ w' = w := by
  have HB : Hid _ := sub32_bits x y c hx hy hc
  obtain ⟨_, _⟩ := hx; obtain ⟨_, _⟩ := hy; obtain ⟨_, _⟩ := hc
  have hs : IntKind.u32.signed = false := rfl
  go_enter Tryz.func147, Tryz.ntmps147
  go_wp2
  go_ret2
  exact ⟨ret_tup2 (by omega) HB.out, rfl⟩

end Go.Proofs.YtdedolkgcdlmeaaGreatDoor
