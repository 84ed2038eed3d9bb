/- Which writes are kept: one bit of a number. -/
import Derived.Test.YtjgodhfnnifchaaDkN
namespace Go.Proofs.Ytjgodhfnnifchaa
open Go.RowKit

theorem bits_nat (a b : Nat) (ha : a < 18446744073709551616) (hb : b < 18446744073709551616) : bits .and .u64 (a : Int) (b : Int) = ((a &&& b : Nat) : Int) := by
  have h : (a &&& b) < 2 ^ 64 := Nat.and_lt_two_pow _ (by omega)
  show IntKind.u64.wrap ((BitVec.ofInt 64 (a : Int) &&& BitVec.ofInt 64 (b : Int)).toNat : Nat) = _
  have e1 : ((a : Int) % ((2 ^ 64 : Nat) : Int)).toNat = a := by omega
  have e2 : ((b : Int) % ((2 ^ 64 : Nat) : Int)).toNat = b := by omega
  rw [BitVec.toNat_and, BitVec.toNat_ofInt, BitVec.toNat_ofInt, e1, e2, IntKind.wrap_u64]
  omega

theorem bit_kept (keep : Int) (n : Nat) (h0 : 0 ≤ keep) (h1 : keep < 18446744073709551616) (hn : n < 64) : (bits .and .u64 (keep / 2 ^ n) 1 == 1) = true ↔ ¬ bits .and .u64 ((2 ^ n : Nat) : Int) keep = 0 := by
  obtain ⟨K, rfl⟩ := Int.eq_ofNat_of_zero_le h0
  have hK : K < 18446744073709551616 := by omega
  have e : (K : Int) / 2 ^ n = ((K / 2 ^ n : Nat) : Int) := by simp [Int.natCast_ediv, Int.natCast_pow]
  have hd : K / 2 ^ n < 18446744073709551616 := Nat.lt_of_le_of_lt (Nat.div_le_self _ _) hK
  have hp : 2 ^ n < 18446744073709551616 := Nat.pow_lt_pow_right (a := 2) (by decide) hn
  have e1 := bits_nat (K / 2 ^ n) 1 hd (by decide)
  have e2 := bits_nat (2 ^ n) K hp hK
  rw [e, show (1 : Int) = ((1 : Nat) : Int) from rfl, e1, e2, Nat.and_one_is_mod]
  have ht : K.testBit n = decide (K / 2 ^ n % 2 = 1) := Nat.testBit_eq_decide_div_mod_eq
  have hb : (2 ^ n &&& K).testBit n = K.testBit n := by rw [Nat.testBit_and, Nat.testBit_two_pow_self, Bool.true_and]
  rcases Nat.mod_two_eq_zero_or_one (K / 2 ^ n) with h | h
  · have hf : K.testBit n = false := by rw [ht, h]; decide
    have hz : 2 ^ n &&& K = 0 := by
      apply Nat.eq_of_testBit_eq
      intro i
      rw [Nat.testBit_and, Nat.testBit_two_pow, Nat.zero_testBit]
      by_cases hi : n = i
      · subst hi; rw [hf]; simp
      · simp [hi]
    rw [h, hz]; simp
  · have hne : ¬ (2 ^ n &&& K = 0) := fun hz => by
      rw [hz, Nat.zero_testBit, ht, h] at hb
      exact absurd hb (by decide)
    rw [h]
    constructor
    · intro _ he
      exact hne (by omega)
    · intro _
      rfl

end Go.Proofs.Ytjgodhfnnifchaa
