/- Texts put together with one byte between, and cut at it again. No Go in it. -/
import Derived.Test.YtjblidoilphifacDoorTrim
import Derived.Lib.Split
import Derived.Lib.Join
namespace Go.Proofs.YtjblidoilphifacDoor
open Go

theorem index_hit (c : UInt8) : ∀ (x r : List UInt8), c ∉ x → Lib.index (x ++ c :: r) [c] = x.length
  | [], r, _ => by simp [Lib.index, List.isPrefixOf]
  | b :: x, r, h => by
    have hb : (c == b) = false := by rw [beq_eq_false_iff_ne]; exact fun e => h (by rw [e]; exact List.mem_cons_self)
    have ih := index_hit c x r fun h' => h (List.mem_cons_of_mem _ h')
    rw [List.cons_append, Lib.index, ih]
    simp only [List.isPrefixOf, hb, Bool.false_and, Bool.false_eq_true, if_false]
    rw [if_neg (by rw [beq_iff_eq]; omega)]
    simp

theorem index_miss (c : UInt8) : ∀ x : List UInt8, c ∉ x → Lib.index x [c] = -1
  | [], _ => by simp [Lib.index]
  | b :: x, h => by
    have hb : (c == b) = false := by rw [beq_eq_false_iff_ne]; exact fun e => h (by rw [e]; exact List.mem_cons_self)
    have ih := index_miss c x fun h' => h (List.mem_cons_of_mem _ h')
    rw [Lib.index, ih]
    simp [List.isPrefixOf, hb]

theorem join_two (x y : List UInt8) (r : List (List UInt8)) (c : UInt8) : Lib.join (x :: y :: r) [c] = x ++ c :: Lib.join (y :: r) [c] := by
  rw [Lib.join_cons, Lib.join_cons]
  simp [Lib.joinTail]

theorem split_join (c : UInt8) : ∀ xs : List (List UInt8), xs ≠ [] → (∀ x ∈ xs, c ∉ x) → Lib.count (Lib.join xs [c]) [c] + 1 = xs.length ∧ Lib.splitK [c] 0 (xs.length - 1) (Lib.join xs [c]) = xs
  | [], h, _ => absurd rfl h
  | [x], _, hx => by
    rw [Lib.join_one, Lib.count_miss (index_miss c x (hx x (by simp)))]
    exact ⟨rfl, rfl⟩
  | x :: y :: r, _, hx => by
    have hc := hx x (by simp)
    obtain ⟨i1, i2⟩ := split_join c (y :: r) (by simp) fun z hz => hx z (List.mem_cons_of_mem _ hz)
    have hi := index_hit c x (Lib.join (y :: r) [c]) hc
    have hd : (x ++ c :: Lib.join (y :: r) [c]).drop (x.length + 1) = Lib.join (y :: r) [c] := by
      rw [List.drop_append, List.drop_eq_nil_of_le (by omega)]
      simp
    rw [join_two]
    constructor
    · rw [Lib.count_hit (by simp) hi, List.length_singleton, hd, List.length_cons, ← i1]
      omega
    · have e : (x :: y :: r).length - 1 = ((y :: r).length - 1) + 1 := by simp
      rw [e, Lib.splitK, hi, if_neg (by rw [beq_iff_eq]; omega), Int.toNat_natCast, Nat.add_zero, List.length_singleton, hd, i2]
      simp

end Go.Proofs.YtjblidoilphifacDoor
