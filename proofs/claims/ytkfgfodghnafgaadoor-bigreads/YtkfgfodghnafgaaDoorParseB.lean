/- Are these digits? -/
import Derived.Test.YtkfgfodghnafgaaDoorRefG
import Derived.Lib.Strings
namespace Go.Proofs.YtkfgfodghnafgaaDoor
open Go.RowKit Limbs Digs

/-- A text's byte. -/
def byt (s : ByteArray) (k : Nat) : Int := if h : k < s.size then ((s[k]'h).toNat : Int) else 0

theorem byt_eq {s : ByteArray} {k : Nat} (h : k < s.size) : ((s[k]'h).toNat : Int) = byt s k := by simp [byt, h]

/-- Digits alone, one at least, no nought ahead of others. -/
def isDec (s : ByteArray) : Prop := (∀ k, k < s.size → 48 ≤ byt s k ∧ byt s k ≤ 57) ∧ (s = ⟨#[48]⟩ ∨ (s.size ≠ 0 ∧ byt s 0 ≠ 48))

theorem size_zero {s : ByteArray} (h : s.size = 0) : s = ⟨#[]⟩ := by
  cases s with
  | mk d =>
    congr 1
    exact Array.eq_empty_of_size_eq_zero h

theorem str_eq (s : ByteArray) (l : List UInt8) : s.toList = l ↔ s = ⟨l.toArray⟩ := by
  rw [Lib.toList_data]
  constructor
  · intro h; subst h; cases s; rfl
  · intro h; subst h; rfl

set_option maxRecDepth 100000 in
set_option maxHeartbeats 1600000 in
theorem decimal_any (w : World) (s : ByteArray) (hl : s.size ≤ 400) (b : Bool) (hb : b = true ↔ isDec s) :
    Calls Tryd.prog 64 #[.string s] w fun e w' => e = .returned (.bool b) ∧ w' = w := by
  have HB := hide hb; clear hb
  go_enter Tryd.func64, Tryd.ntmps64
  go_wp2
  go_loop [6] (fun i => ∃ k : Nat, k ≤ s.size ∧ i = .int .i64 k ∧ Hid (∀ j, j < k → 48 ≤ byt s j ∧ byt s j ≤ 57)) (fun i => s.size - (intOf i).toNat)
  case atStart => exact ⟨0, Nat.zero_le _, rfl, fun j hj => absurd hj (by omega)⟩
  case round =>
    obtain ⟨k, hk, rfl, HD⟩ := hrel
    by_cases hlt : k < s.size
    · by_cases hc : 48 ≤ byt s k ∧ byt s k ≤ 57
      · have h1 : decide (((s[k]'hlt).toNat : Int) < 48) = false := by rw [byt_eq hlt]; simp; omega
        have h2 : decide (57 < ((s[k]'hlt).toNat : Int)) = false := by rw [byt_eq hlt]; simp; omega
        have HD' : Hid (∀ j, j < k + 1 → 48 ≤ byt s j ∧ byt s j ≤ 57) := fun j hj => by
          rcases Nat.lt_succ_iff_lt_or_eq.1 hj with h | h
          · exact HD.out j h
          · subst h; exact hc
        clear hc
        go_wp2
        go_round
        case rel => exact ⟨k + 1, by omega, by go_num, HD'⟩
        case measure => simp [intOf]; omega
      · have hbf : b = false := by
          cases b with
          | false => rfl
          | true => exact absurd ((HB.out.1 rfl).1 k hlt) hc
        subst hbf
        by_cases h48 : byt s k < 48
        · have h1 : decide (((s[k]'hlt).toNat : Int) < 48) = true := by rw [byt_eq hlt]; simp; omega
          clear HB hc
          go_wp2
          go_ret
          exact ⟨rfl, rfl⟩
        · have h1 : decide (((s[k]'hlt).toNat : Int) < 48) = false := by rw [byt_eq hlt]; simp; omega
          have h2 : decide (57 < ((s[k]'hlt).toNat : Int)) = true := by rw [byt_eq hlt]; simp; omega
          clear HB hc
          go_wp2
          go_ret
          exact ⟨rfl, rfl⟩
    · obtain rfl : k = s.size := by omega
      have HB' := hide (show b = true ↔ (s = ⟨#[48]⟩ ∨ (s.size ≠ 0 ∧ byt s 0 ≠ 48)) from ⟨fun h => (HB.out.1 h).2, fun h => HB.out.2 ⟨HD.out, h⟩⟩)
      clear HB HD
      by_cases e1 : s = ⟨#[48]⟩
      · obtain rfl : b = true := HB'.out.2 (.inl e1)
        subst e1
        clear HB'
        go_wp2
        go_ret
        exact ⟨rfl, rfl⟩
      · by_cases e0 : s.size = 0
        · obtain rfl := size_zero e0
          have hbf : b = false := by
            cases b with
            | false => rfl
            | true => rcases HB'.out.1 rfl with h | h; exact absurd h e1; exact absurd rfl h.1
          subst hbf
          clear HB'
          go_wp2
          go_ret
          exact ⟨rfl, rfl⟩
        · have h0 : 0 < s.size := by omega
          have f1 : ¬ s.toList = [48] := fun h => e1 ((str_eq s _).1 h)
          have f2 : ¬ s.toList = [] := fun h => e0 (by rw [(str_eq s _).1 h]; rfl)
          have hb2 : b = ((((s[0]'h0).toNat : Int) != 48)) := by
            rw [byt_eq h0]
            cases b with
            | true => rcases HB'.out.1 rfl with h | h; exact absurd h e1; symm; rw [bne_iff_ne]; exact h.2
            | false => symm; rw [bne_eq_false_iff_eq]; by_cases h : byt s 0 = 48; exact h; exact absurd (HB'.out.2 (.inr ⟨e0, h⟩)) (by simp)
          have f3 : (s.toList == [48]) = false := by rw [beq_eq_false_iff_ne]; exact f1
          have f4 : s.toList.isEmpty = false := by rw [List.isEmpty_eq_false_iff]; exact f2
          subst hb2
          clear HB'
          go_wp2
          go_ret
          exact ⟨rfl, rfl⟩

end Go.Proofs.YtkfgfodghnafgaaDoor
