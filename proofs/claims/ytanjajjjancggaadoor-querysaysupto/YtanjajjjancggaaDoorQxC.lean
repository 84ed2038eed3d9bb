/- Expressions: what may be, what they are made of, their texts: the pure part. -/
import Derived.Test.YtanjajjjancggaaDoorBgL
import Derived.Lib.Strings
import Derived.Lib.IndexAny
import Derived.Lib.ItoaNum
import Derived.Deep.AppendLies
import Derived.Deep.RegionHeld3
import Derived.Lib.AppendZeros
import Derived.Lib.AppendStr

namespace Go.Proofs.YtanjajjjancggaaDoor
open Go.RowKit

def fillB : List UInt8 := [102, 105, 108, 108]
def wholeB : List UInt8 := [119, 104, 111, 108, 101]

def calledS (s : ByteArray) : Bool := nmOk s && !(s.toList == [102, 105, 108, 108]) && !(s.toList == [119, 104, 111, 108, 101])

def usedE (k n : Int) (s : ByteArray) (m : Nat) : Bool :=
 if k = 1 then calledS s && n == 0 && m == 0
 else if k = 2 ∨ k = 3 then s.toList.isEmpty && n == 0 && m == 2
 else if k = 4 then s.toList.isEmpty && n == 0 && m == 1
 else if k = 5 then s.toList.isEmpty && decide (1 ≤ n) && decide (n ≤ 4) && m == 0
 else false

mutual
def shapedE : Ex → Bool
 | .mk k n s a => usedE k n s a.length && shapedL a
def shapedL : List Ex → Bool
 | [] => true
 | x :: t => shapedE x && shapedL t
end

mutual
def roomE : Ex → Nat → Int → Int
 | .mk _ _ _ a, d, m => if d = 0 then -1 else roomL a (d - 1) (m - 1)
def roomL : List Ex → Nat → Int → Int
 | [], _, m => m
 | x :: t, d, m => if 0 ≤ m then roomL t d (roomE x d m) else m
end

mutual
theorem roomE_le : ∀ (e : Ex) (d : Nat) (m : Int), 0 ≤ m → -1 ≤ roomE e d m ∧ roomE e d m < m
 | .mk k n s a, d, m, h => by
  rw [roomE]
  split
  ·omega
  ·have := roomL_le a (d - 1) (m - 1) (by omega)
   omega
theorem roomL_le : ∀ (l : List Ex) (d : Nat) (m : Int), -1 ≤ m → -1 ≤ roomL l d m ∧ roomL l d m ≤ m
 | [], d, m, h => by rw [roomL]; omega
 | x :: t, d, m, h => by
  rw [roomL]
  split
  ·rename_i h0
   have h1 := roomE_le x d m h0
   have h2 := roomL_le t d _ h1.1
   omega
  ·omega
end

inductive Qx where
 | name (s : ByteArray)
 | two (k : Bool) (a b : Qx)
 | fill (a : Qx)
 | whole (n : Nat)

def kindQ (k : Bool) : Int := if k then 3 else 2

def Qx.ex : Qx → Ex
 | .name s => .mk 1 0 s []
 | .two k a b => .mk (kindQ k) 0 ⟨#[]⟩ [a.ex, b.ex]
 | .fill a => .mk 4 0 ⟨#[]⟩ [a.ex]
 | .whole n => .mk 5 n ⟨#[]⟩ []

def Qx.ok : Qx → Prop
 | .name s => calledS s = true
 | .two _ a b => a.ok ∧ b.ok
 | .fill a => a.ok
 | .whole n => 1 ≤ n ∧ n ≤ 4

def Qx.deep : Qx → Nat
 | .name _ => 1
 | .two _ a b => max a.deep b.deep + 1
 | .fill a => a.deep + 1
 | .whole _ => 1

def signB (k : Bool) : UInt8 := if k then 38 else 43
def spacedB (k : Bool) : List UInt8 := [32, signB k, 32]

def Qx.text : Qx → List UInt8
 | .name s => s.data.toList
 | .two k a b => 40 :: (a.text ++ (spacedB k ++ (b.text ++ [41])))
 | .fill a => fillB ++ 32 :: a.text
 | .whole n => wholeB ++ 32 :: Lib.decDigits n

theorem and3 {a b c : Bool} (h : (a && b && c) = true) : a = true ∧ b = true ∧ c = true := by
 cases a <;> cases b <;> cases c <;> simp_all

theorem empty_str {s : ByteArray} (h : s.toList.isEmpty = true) : s = ⟨#[]⟩ := by
 rw [Lib.toList_data, List.isEmpty_iff] at h
 obtain ⟨d⟩ := s
 have : d = #[] := by simpa using h
 rw [this]

theorem shaped_q : ∀ (e : Ex), shapedE e = true → ∃ q : Qx, q.ok ∧ q.ex = e
 | .mk k n s a, h => by
  rw [shapedE, Bool.and_eq_true] at h
  obtain ⟨h1, h2⟩ := h
  unfold usedE at h1
  split at h1
  ·rename_i hk
   obtain ⟨h3, h4, h5⟩ := and3 h1
   rw [beq_iff_eq] at h4 h5
   have : a = [] := List.eq_nil_of_length_eq_zero h5
   subst this hk h4
   exact ⟨.name s, h3, rfl⟩
  ·split at h1
   ·rename_i hk
    obtain ⟨h3, h4, h5⟩ := and3 h1
    rw [beq_iff_eq] at h4 h5
    have h3 := empty_str h3
    obtain ⟨x, y, rfl⟩ : ∃ x y, a = [x, y] := by
     match a, h5 with
     | [x, y], _ => exact ⟨x, y, rfl⟩
    rw [shapedL, shapedL, shapedL, Bool.and_true, Bool.and_eq_true] at h2
    obtain ⟨p, hp, ep⟩ := shaped_q x h2.1
    obtain ⟨q, hq, eq⟩ := shaped_q y h2.2
    subst h3 h4
    rcases hk with rfl | rfl
    ·exact ⟨.two false p q, ⟨hp, hq⟩, by rw [Qx.ex, ep, eq]; rfl⟩
    ·exact ⟨.two true p q, ⟨hp, hq⟩, by rw [Qx.ex, ep, eq]; rfl⟩
   ·split at h1
    ·rename_i hk
     obtain ⟨h3, h4, h5⟩ := and3 h1
     rw [beq_iff_eq] at h4 h5
     have h3 := empty_str h3
     obtain ⟨x, rfl⟩ : ∃ x, a = [x] := by
      match a, h5 with
      | [x], _ => exact ⟨x, rfl⟩
     rw [shapedL, shapedL, Bool.and_true] at h2
     obtain ⟨p, hp, ep⟩ := shaped_q x h2
     subst h3 h4 hk
     exact ⟨.fill p, hp, by rw [Qx.ex, ep]⟩
    ·split at h1
     ·rename_i hk
      rw [Bool.and_eq_true] at h1
      obtain ⟨h6, h5⟩ := h1
      obtain ⟨h3, h4, h4'⟩ := and3 h6
      rw [beq_iff_eq] at h5
      have h3 := empty_str h3
      have h4 := of_decide_eq_true h4
      have h4' := of_decide_eq_true h4'
      have : a = [] := List.eq_nil_of_length_eq_zero h5
      subst this hk h3
      obtain ⟨m, rfl⟩ := Int.eq_ofNat_of_zero_le (show 0 ≤ n by omega)
      exact ⟨.whole m, ⟨by omega, by omega⟩, rfl⟩
     ·cases h1

theorem empty_toList : (⟨#[]⟩ : ByteArray).toList.isEmpty = true := by rw [Lib.toList_data]; rfl

theorem q_shaped : ∀ (q : Qx), q.ok → shapedE q.ex = true
 | .name s, h => by
  rw [Qx.ex, shapedE, shapedL]
  unfold usedE
  rw [if_pos rfl, show calledS s = true from h]
  rfl
 | .two k a b, h => by
  rw [Qx.ex, shapedE, shapedL, shapedL, shapedL, q_shaped a h.1, q_shaped b h.2]
  unfold usedE
  rw [empty_toList]
  cases k <;> rfl
 | .fill a, h => by
  rw [Qx.ex, shapedE, shapedL, shapedL, q_shaped a h]
  unfold usedE
  rw [empty_toList]
  rfl
 | .whole n, h => by
  rw [Qx.ex, shapedE, shapedL]
  unfold usedE
  rw [if_neg (by decide), if_neg (by decide), if_neg (by decide), if_pos rfl]
  have h1 : decide ((1 : Int) ≤ (n : Int)) = true := decide_eq_true (by have := h.1; omega)
  have h2 : decide ((n : Int) ≤ 4) = true := decide_eq_true (by have := h.2; omega)
  rw [h1, h2, empty_toList]
  rfl

theorem room_deep : ∀ (q : Qx) (d : Nat) (m : Int), 0 ≤ m → 0 ≤ roomE q.ex d m → q.deep ≤ d
 | .name s, d, m, h0, h => by
  rw [Qx.ex, roomE] at h
  split at h
  ·omega
  ·rw [Qx.deep]; omega
 | .two k a b, d, m, h0, h => by
  rw [Qx.ex, roomE] at h
  split at h
  ·omega
  ·rename_i hd
   rw [roomL] at h
   split at h
   ·rename_i h1
    rw [roomL] at h
    split at h
    ·rename_i h2
     rw [roomL] at h
     have ha := room_deep a (d - 1) (m - 1) h1 h2
     have hb := room_deep b (d - 1) _ h2 h
     rw [Qx.deep]
     omega
    ·omega
   ·omega
 | .fill a, d, m, h0, h => by
  rw [Qx.ex, roomE] at h
  split at h
  ·omega
  ·rename_i hd
   rw [roomL] at h
   split at h
   ·rename_i h1
    rw [roomL] at h
    have ha := room_deep a (d - 1) (m - 1) h1 h
    rw [Qx.deep]
    omega
   ·omega
 | .whole n, d, m, h0, h => by
  rw [Qx.ex, roomE] at h
  split at h
  ·omega
  ·rw [Qx.deep]; omega

def faultE (e : Ex) : Nat := if roomE e 6 20 < 0 then 2 else if shapedE e = true then 0 else 3

theorem fault_q {e : Ex} (h : faultE e = 0) : ∃ q : Qx, q.ok ∧ q.ex = e ∧ q.deep ≤ 6 := by
 unfold faultE at h
 split at h
 ·cases h
 ·split at h
  ·rename_i h1 h2
   obtain ⟨q, hq, rfl⟩ := shaped_q e h2
   exact ⟨q, hq, rfl, room_deep q 6 20 (by decide) (by omega)⟩
  ·cases h

end Go.Proofs.YtanjajjjancggaaDoor

/- Catalogs in memory: named lattices in a row. -/
namespace Go.Proofs.YtanjajjjancggaaDoor
open Go.RowKit

structure Nc where
 x : Nmd
 o : Option Addr
 l : Nat
 c : Nat

def Nc.cells (q : Nc) : List Value := [.string q.x.name, .int .i64 q.x.n, .slice q.o q.l q.c]
def Nc.val (q : Nc) : Value := .agg #[.string q.x.name, .int .i64 q.x.n, .slice q.o q.l q.c]

end Go.Proofs.YtanjajjjancggaaDoor

/- Names, sizes and generators of catalogs: what the program's and the reference's words say of them. -/
namespace Go.Proofs.YtanjajjjancggaaDoor
open Go.RowKit

def nmTo (s : ByteArray) (k : Nat) : Prop := ∀ i, i < k → (97 ≤ byt s i ∧ byt s i ≤ 122) ∨ (48 ≤ byt s i ∧ byt s i ≤ 57 ∧ i ≠ 0)

theorem nmOk_true {s : ByteArray} (h1 : 1 ≤ s.size) (h8 : s.size ≤ 8) (h : nmTo s s.size) : nmOk s = true := decide_eq_true ⟨h1, h8, h⟩

theorem nmOk_at {s : ByteArray} {k : Nat} (hk : k < s.size) (h : ¬ ((97 ≤ byt s k ∧ byt s k ≤ 122) ∨ (48 ≤ byt s k ∧ byt s k ≤ 57 ∧ k ≠ 0))) : nmOk s = false := decide_eq_false fun h' => h (h'.2.2 k hk)

theorem nmOk_len {s : ByteArray} (h : ¬ (1 ≤ s.size ∧ s.size ≤ 8)) : nmOk s = false := decide_eq_false fun h' => h ⟨h'.1, h'.2.1⟩

set_option linter.unusedSimpArgs false in
set_option maxRecDepth 100000 in
set_option maxHeartbeats 1600000 in
theorem name_any (s : ByteArray) (w : World) : Calls Tryd.prog 45 #[.string s] w fun e w' => e = .returned (.bool (nmOk s)) ∧ w' = w := by
 by_cases h1 : (s.size : Int) < 1
 ·have g1 : decide ((s.size : Int) < 1) = true := decide_eq_true h1
  rw [nmOk_len (by omega)]
  go_enter Tryd.func45, Tryd.ntmps45
  go_wp2
  go_ret
  exact ⟨rfl, rfl⟩
 have g1 : decide ((s.size : Int) < 1) = false := decide_eq_false h1
 by_cases h8 : 8 < (s.size : Int)
 ·have g2 : decide (8 < (s.size : Int)) = true := decide_eq_true h8
  rw [nmOk_len (by omega)]
  go_enter Tryd.func45, Tryd.ntmps45
  go_wp2
  go_ret
  exact ⟨rfl, rfl⟩
 have g2 : decide (8 < (s.size : Int)) = false := decide_eq_false h8
 have hs8 : s.size ≤ 8 := by omega
 generalize hr : nmOk s = r
 have HR := hide hr
 clear hr
 go_enter Tryd.func45, Tryd.ntmps45
 go_wp2
 go_loopw [16] (fun i wr => ∃ k : Nat, k ≤ s.size ∧ i = .int .i64 k ∧ Hid (nmTo s k) ∧ wr = w) (fun i _ => s.size - (intOf i).toNat)
 case atStart => exact ⟨0, Nat.zero_le _, rfl, hide (fun i hi => absurd hi (by omega)), rfl⟩
 case round =>
  obtain ⟨k, hk, rfl, HT, hw⟩ := hrel
  subst wr
  by_cases hlt : k < s.size
  ·have hb := byt_eq hlt
   by_cases a1 : 97 ≤ byt s k ∧ byt s k ≤ 122
   ·have e1 : decide (97 ≤ ((s[k]'hlt).toNat : Int)) = true := by rw [hb]; simp; omega
    have e2 : decide (((s[k]'hlt).toNat : Int) ≤ 122) = true := by rw [hb]; simp; omega
    have HT' : Hid (nmTo s (k + 1)) := fun i hi => by
     by_cases h : i < k
     ·exact HT.out i h
     ·obtain rfl : i = k := by omega
      exact .inl a1
    cases d1 : decide (48 ≤ ((s[k]'hlt).toNat : Int)) with
    | false =>
     go_wp2
     go_roundw
     case rel => exact ⟨k + 1, by omega, by go_num, HT', by first | rfl | trivial⟩
     case measure => simp [intOf]; omega
    | true =>
     go_wp2
     go_roundw
     case rel => exact ⟨k + 1, by omega, by go_num, HT', by first | rfl | trivial⟩
     case measure => simp [intOf]; omega
   ·have HA : Hid (¬ (97 ≤ byt s k ∧ byt s k ≤ 122)) := a1
    by_cases a2 : 48 ≤ byt s k ∧ byt s k ≤ 57
    ·have e1 : decide (48 ≤ ((s[k]'hlt).toNat : Int)) = true := by rw [hb]; simp; omega
     have e2 : decide (((s[k]'hlt).toNat : Int) ≤ 57) = true := by rw [hb]; simp; omega
     have e3 : decide (97 ≤ ((s[k]'hlt).toNat : Int)) = false := by rw [hb]; simp; omega
     by_cases h0 : k = 0
     ·subst h0
      obtain rfl : false = r := (nmOk_at hlt (by rintro (h | h); exact HA.out h; exact h.2.2 rfl)).symm.trans HR.out
      go_wp2
      go_ret
      exact ⟨rfl, rfl⟩
     ·have e4 : ((k : Int) == 0) = false := beq_eq_false_iff_ne.2 (by omega)
      have HT' : Hid (nmTo s (k + 1)) := fun i hi => by
       by_cases h : i < k
       ·exact HT.out i h
       ·obtain rfl : i = k := by omega
        exact .inr ⟨a2.1, a2.2, h0⟩
      go_wp2
      go_roundw
      case rel => exact ⟨k + 1, by omega, by go_num, HT', by first | rfl | trivial⟩
      case measure => simp [intOf]; omega
    ·obtain rfl : false = r := (nmOk_at hlt (by rintro (h | h); exact HA.out h; exact a2 ⟨h.1, h.2.1⟩)).symm.trans HR.out
     by_cases b1 : 97 ≤ byt s k
     ·have e1 : decide (97 ≤ ((s[k]'hlt).toNat : Int)) = true := by rw [hb]; simp; omega
      have e2 : decide (((s[k]'hlt).toNat : Int) ≤ 122) = false := by rw [hb]; simp; omega
      have e3 : decide (48 ≤ ((s[k]'hlt).toNat : Int)) = true := by rw [hb]; simp; omega
      have e4 : decide (((s[k]'hlt).toNat : Int) ≤ 57) = false := by rw [hb]; simp; omega
      clear hb a1 a2 b1
      go_wp2
      go_ret
      exact ⟨rfl, rfl⟩
     ·have e1 : decide (97 ≤ ((s[k]'hlt).toNat : Int)) = false := by rw [hb]; simp; omega
      by_cases b2 : 48 ≤ byt s k
      ·have e3 : decide (48 ≤ ((s[k]'hlt).toNat : Int)) = true := by rw [hb]; simp; omega
       have e4 : decide (((s[k]'hlt).toNat : Int) ≤ 57) = false := by rw [hb]; simp; omega
       clear hb a1 a2 b1 b2
       go_wp2
       go_ret
       exact ⟨rfl, rfl⟩
      ·have e3 : decide (48 ≤ ((s[k]'hlt).toNat : Int)) = false := by rw [hb]; simp; omega
       clear hb a1 a2 b1 b2
       go_wp2
       go_ret
       exact ⟨rfl, rfl⟩
  ·obtain rfl : k = s.size := by omega
   obtain rfl : true = r := (nmOk_true (by omega) hs8 HT.out).symm.trans HR.out
   go_wp2
   go_ret
   exact ⟨rfl, rfl⟩

set_option linter.unusedSimpArgs false in
set_option maxRecDepth 100000 in
set_option maxHeartbeats 1600000 in
theorem nameR_any (s : ByteArray) (w : World) : Calls Tryd.prog 24 #[.string s] w fun e w' => e = .returned (.bool (nmOk s)) ∧ w' = w := by
 by_cases h1 : (s.size : Int) < 1
 ·have g1 : decide ((s.size : Int) < 1) = true := decide_eq_true h1
  rw [nmOk_len (by omega)]
  go_enter Tryd.func24, Tryd.ntmps24
  go_wp2
  go_ret
  exact ⟨rfl, rfl⟩
 have g1 : decide ((s.size : Int) < 1) = false := decide_eq_false h1
 by_cases h8 : 8 < (s.size : Int)
 ·have g2 : decide (8 < (s.size : Int)) = true := decide_eq_true h8
  rw [nmOk_len (by omega)]
  go_enter Tryd.func24, Tryd.ntmps24
  go_wp2
  go_ret
  exact ⟨rfl, rfl⟩
 have g2 : decide (8 < (s.size : Int)) = false := decide_eq_false h8
 have hs8 : s.size ≤ 8 := by omega
 have h0 : 0 < s.size := by omega
 have hb0 := byt_eq h0
 by_cases a0 : byt s 0 < 97
 ·have e0 : decide (((s[0]'h0).toNat : Int) < 97) = true := by rw [hb0]; simp; omega
  rw [nmOk_at h0 (by rintro (h | h); omega; exact h.2.2 rfl)]
  go_enter Tryd.func24, Tryd.ntmps24
  go_wp2
  go_ret
  exact ⟨rfl, rfl⟩
 have e0 : decide (((s[0]'h0).toNat : Int) < 97) = false := by rw [hb0]; simp; omega
 by_cases b0 : 122 < byt s 0
 ·have e1 : decide (122 < ((s[0]'h0).toNat : Int)) = true := by rw [hb0]; simp; omega
  rw [nmOk_at h0 (by rintro (h | h); omega; exact h.2.2 rfl)]
  go_enter Tryd.func24, Tryd.ntmps24
  go_wp2
  go_ret
  exact ⟨rfl, rfl⟩
 have e1 : decide (122 < ((s[0]'h0).toNat : Int)) = false := by rw [hb0]; simp; omega
 have HF : Hid (97 ≤ byt s 0 ∧ byt s 0 ≤ 122) := ⟨by omega, by omega⟩
 generalize hr : nmOk s = r
 have HR := hide hr
 clear hr
 go_enter Tryd.func24, Tryd.ntmps24
 go_wp2
 clear e0 e1 hb0
 go_loopw [3] (fun i wr => ∃ k : Nat, k ≤ s.size ∧ i = .int .i64 k ∧ Hid (nmTo s k) ∧ wr = w) (fun i _ => s.size - (intOf i).toNat)
 case atStart => exact ⟨0, Nat.zero_le _, rfl, hide (fun i hi => absurd hi (by omega)), rfl⟩
 case round =>
  obtain ⟨k, hk, rfl, HT, hw⟩ := hrel
  subst wr
  by_cases hlt : k < s.size
  ·have hb := byt_eq hlt
   by_cases a1 : 97 ≤ byt s k ∧ byt s k ≤ 122
   ·have e1 : decide (97 ≤ ((s[k]'hlt).toNat : Int)) = true := by rw [hb]; simp; omega
    have e2 : decide (((s[k]'hlt).toNat : Int) ≤ 122) = true := by rw [hb]; simp; omega
    have HT' : Hid (nmTo s (k + 1)) := fun i hi => by
     by_cases h : i < k
     ·exact HT.out i h
     ·obtain rfl : i = k := by omega
      exact .inl a1
    go_wp2
    go_roundw
    case rel => exact ⟨k + 1, by omega, by go_num, HT', by first | rfl | trivial⟩
    case measure => simp [intOf]; omega
   ·have HA : Hid (¬ (97 ≤ byt s k ∧ byt s k ≤ 122)) := a1
    by_cases a2 : 48 ≤ byt s k ∧ byt s k ≤ 57
    ·have e1 : decide (48 ≤ ((s[k]'hlt).toNat : Int)) = true := by rw [hb]; simp; omega
     have e2 : decide (((s[k]'hlt).toNat : Int) ≤ 57) = true := by rw [hb]; simp; omega
     have e3 : decide (97 ≤ ((s[k]'hlt).toNat : Int)) = false := by rw [hb]; simp; omega
     have hk0 : k ≠ 0 := fun h => by subst h; exact HA.out HF.out
     have HT' : Hid (nmTo s (k + 1)) := fun i hi => by
      by_cases h : i < k
      ·exact HT.out i h
      ·obtain rfl : i = k := by omega
       exact .inr ⟨a2.1, a2.2, hk0⟩
     go_wp2
     go_roundw
     case rel => exact ⟨k + 1, by omega, by go_num, HT', by first | rfl | trivial⟩
     case measure => simp [intOf]; omega
    ·obtain rfl : false = r := (nmOk_at hlt (by rintro (h | h); exact HA.out h; exact a2 ⟨h.1, h.2.1⟩)).symm.trans HR.out
     by_cases b1 : 97 ≤ byt s k
     ·have e1 : decide (97 ≤ ((s[k]'hlt).toNat : Int)) = true := by rw [hb]; simp; omega
      have e2 : decide (((s[k]'hlt).toNat : Int) ≤ 122) = false := by rw [hb]; simp; omega
      have e3 : decide (48 ≤ ((s[k]'hlt).toNat : Int)) = true := by rw [hb]; simp; omega
      have e4 : decide (((s[k]'hlt).toNat : Int) ≤ 57) = false := by rw [hb]; simp; omega
      clear hb a1 a2 b1
      go_wp2
      go_ret
      exact ⟨rfl, rfl⟩
     ·have e1 : decide (97 ≤ ((s[k]'hlt).toNat : Int)) = false := by rw [hb]; simp; omega
      by_cases b2 : 48 ≤ byt s k
      ·have e3 : decide (48 ≤ ((s[k]'hlt).toNat : Int)) = true := by rw [hb]; simp; omega
       have e4 : decide (((s[k]'hlt).toNat : Int) ≤ 57) = false := by rw [hb]; simp; omega
       clear hb a1 a2 b1 b2
       go_wp2
       go_ret
       exact ⟨rfl, rfl⟩
      ·have e3 : decide (48 ≤ ((s[k]'hlt).toNat : Int)) = false := by rw [hb]; simp; omega
       clear hb a1 a2 b1 b2
       go_wp2
       go_ret
       exact ⟨rfl, rfl⟩
  ·obtain rfl : k = s.size := by omega
   obtain rfl : true = r := (nmOk_true (by omega) hs8 HT.out).symm.trans HR.out
   go_wp2
   go_ret
   exact ⟨rfl, rfl⟩

def sizeOk (n : Int) : Bool := decide (1 ≤ n ∧ n ≤ 4)

end Go.Proofs.YtanjajjjancggaaDoor

/- Small things that operations and catalogs share. -/
namespace Go.Proofs.YtanjajjjancggaaDoor
open Go.RowKit

def errV (c : Nat) : Value := if c = 0 then .nilIface else .iface 44 (.int .i64 (c : Int))

theorem alloc_below (W : World) (ob : Obj) : Below W.heap.size W (W.alloc ob) := (Below.refl _ _).alloc (Nat.le_refl _) _

def FourV (W : World) (B : Nat) (u0 u1 u2 u3 : Value) : Prop := W.cell? ⟨B, 0, none⟩ = some u0 ∧ W.cell? ⟨B, 1, none⟩ = some u1 ∧ W.cell? ⟨B, 2, none⟩ = some u2 ∧ W.cell? ⟨B, 3, none⟩ = some u3 ∧ B < W.heap.size

theorem FourV.later {W W' : World} {B : Nat} {u0 u1 u2 u3 : Value} (h : FourV W B u0 u1 u2 u3) (hb : Below W.heap.size W W') : FourV W' B u0 u1 u2 u3 :=
 ⟨(hb.cell (p := ⟨B, 0, none⟩) h.2.2.2.2).trans h.1, (hb.cell (p := ⟨B, 1, none⟩) h.2.2.2.2).trans h.2.1, (hb.cell (p := ⟨B, 2, none⟩) h.2.2.2.2).trans h.2.2.1, (hb.cell (p := ⟨B, 3, none⟩) h.2.2.2.2).trans h.2.2.2.1, Nat.lt_of_lt_of_le h.2.2.2.2 hb.size⟩

theorem FourV.new (W : World) (u0 u1 u2 u3 : Value) (t : TypeId) : FourV (W.alloc (.cells #[u0, u1, u2, u3] t)) W.heap.size u0 u1 u2 u3 :=
 ⟨by rw [World.cell?_alloc_new]; rfl, by rw [World.cell?_alloc_new]; rfl, by rw [World.cell?_alloc_new]; rfl, by rw [World.cell?_alloc_new]; rfl, by simp⟩

end Go.Proofs.YtanjajjjancggaaDoor

/- package query: what an expression is made of. -/
namespace Go.Proofs.YtanjajjjancggaaDoor
open Go.RowKit

set_option linter.unusedSimpArgs false in
set_option maxRecDepth 100000 in
theorem called_any (s : ByteArray) (w : World) : Calls Tryd.prog 37 #[.string s] w fun e w' => e = .returned (.bool (calledS s)) ∧ w' = w := by
 have HN := hide (name_any s w)
 unfold calledS
 generalize nmOk s = b at *
 go_enter Tryd.func37, Tryd.ntmps37
 go_wp2_with fail
 refine HN.out.mono ?_
 rintro e w1 ⟨rfl, hw⟩
 subst hw
 cases b with
 | false =>
  go_wp2
  go_ret
  exact ⟨rfl, rfl⟩
 | true =>
  by_cases h1 : s.toList = [102, 105, 108, 108]
  ·have e1 : (s.toList == [102, 105, 108, 108]) = true := by rw [h1]; rfl
   go_wp2
   go_ret
   exact ⟨by rw [e1]; rfl, rfl⟩
  ·have e1 : (s.toList == [102, 105, 108, 108]) = false := beq_eq_false_iff_ne.2 h1
   go_wp2
   go_ret
   exact ⟨by rw [e1]; rfl, rfl⟩

def ExB (W : World) (b : Nat) (k n : Int) (s : ByteArray) (v : Value) : Prop := W.heap[b]? = some (.cells #[.int .i64 k, .int .i64 n, .string s, v] 24 (0, 0))

theorem ExB.new (W : World) (k n : Int) (s : ByteArray) (v : Value) : ExB (W.alloc (.cells #[.int .i64 k, .int .i64 n, .string s, v] 24)) W.heap.size k n s v := heap_alloc_new W _

theorem ExB.later {W W' : World} {b : Nat} {k n : Int} {s : ByteArray} {v : Value} (x : ExB W b k n s v) (hb : Below W.heap.size W W') : ExB W' b k n s v := (hb.block _ (heap_lt x)).trans x

theorem ExB.cells {W : World} {b : Nat} {k n : Int} {s : ByteArray} {v : Value} (x : ExB W b k n s v) : W.cell? ⟨b, 0, none⟩ = some (.int .i64 k) ∧ W.cell? ⟨b, 1, none⟩ = some (.int .i64 n) ∧ W.cell? ⟨b, 2, none⟩ = some (.string s) ∧ W.cell? ⟨b, 3, none⟩ = some v ∧ ∀ j, W.frozen? ⟨b, j, none⟩ = false := by
 refine ⟨?_, ?_, ?_, ?_, fun k => by simp [World.frozen?, show W.heap[b]? = _ from x]⟩
 all_goals rw [cell_of_row W b _ _ _ _ x]; rfl

set_option linter.unusedSimpArgs false in
set_option maxRecDepth 100000 in
set_option maxHeartbeats 1600000 in
theorem used_any (w : World) (k n : Int) (s : ByteArray) (o : Option Addr) (m cap : Nat) :
  Calls Tryd.prog 28 #[.agg #[.int .i64 k, .int .i64 n, .string s, .slice o m cap]] w fun e w' => e = .returned (.bool (usedE k n s m)) ∧ Below w.heap.size w w' := by
 have HB := hide (alloc_below w (.cells #[.int .i64 k, .int .i64 n, .string s, .slice o m cap] 24))
 obtain ⟨z0, z1, z2, z3, -⟩ := (ExB.new w k n s (.slice o m cap)).cells
 unfold usedE
 by_cases k1 : k = 1
 ·subst k1
  rw [if_pos rfl]
  cases hs : calledS s with
  | false =>
   go_enter Tryd.func28, Tryd.ntmps28
   go_wp2_with fail
   refine (called_any s _).mono ?_
   rintro e w1 ⟨rfl, hw⟩
   subst hw
   rw [hs]
   go_wp2
   go_ret
   exact ⟨rfl, HB.out⟩
  | true =>
   by_cases hn : n = 0
   ·subst hn
    by_cases hm : m = 0
    ·subst hm
     go_enter Tryd.func28, Tryd.ntmps28
     go_wp2_with fail
     refine (called_any s _).mono ?_
     rintro e w1 ⟨rfl, hw⟩
     subst hw
     rw [hs]
     go_wp2
     go_ret
     exact ⟨rfl, HB.out⟩
    ·have gm : ((m : Int) == 0) = false := beq_eq_false_iff_ne.2 (by omega)
     have gm' : (m == 0) = false := beq_eq_false_iff_ne.2 hm
     rw [gm']
     go_enter Tryd.func28, Tryd.ntmps28
     go_wp2_with fail
     refine (called_any s _).mono ?_
     rintro e w1 ⟨rfl, hw⟩
     subst hw
     rw [hs]
     go_wp2
     go_ret
     exact ⟨rfl, HB.out⟩
   ·have gn : (n == 0) = false := beq_eq_false_iff_ne.2 hn
    rw [gn]
    go_enter Tryd.func28, Tryd.ntmps28
    go_wp2_with fail
    refine (called_any s _).mono ?_
    rintro e w1 ⟨rfl, hw⟩
    subst hw
    rw [hs]
    go_wp2
    go_ret
    exact ⟨rfl, HB.out⟩
 rw [if_neg k1]
 have g1 : (k == 1) = false := beq_eq_false_iff_ne.2 k1
 cases hs : s.toList.isEmpty with
 | false =>
  have e0 : (if k = 2 ∨ k = 3 then false && n == 0 && m == 2 else if k = 4 then false && n == 0 && m == 1 else if k = 5 then false && decide (1 ≤ n) && decide (n ≤ 4) && m == 0 else false) = false := by
   split
   ·rfl
   ·split
    ·rfl
    ·split <;> rfl
  rw [e0]
  clear e0
  by_cases k2 : k = 2
  ·subst k2
   go_enter Tryd.func28, Tryd.ntmps28
   go_wp2
   go_ret
   exact ⟨rfl, HB.out⟩
  have g2 : (k == 2) = false := beq_eq_false_iff_ne.2 k2
  by_cases k3 : k = 3
  ·subst k3
   go_enter Tryd.func28, Tryd.ntmps28
   go_wp2
   go_ret
   exact ⟨rfl, HB.out⟩
  have g3 : (k == 3) = false := beq_eq_false_iff_ne.2 k3
  by_cases k4 : k = 4
  ·subst k4
   go_enter Tryd.func28, Tryd.ntmps28
   go_wp2
   go_ret
   exact ⟨rfl, HB.out⟩
  have g4 : (k == 4) = false := beq_eq_false_iff_ne.2 k4
  by_cases k5 : k = 5
  ·subst k5
   go_enter Tryd.func28, Tryd.ntmps28
   go_wp2
   go_ret
   exact ⟨rfl, HB.out⟩
  have g5 : (k == 5) = false := beq_eq_false_iff_ne.2 k5
  go_enter Tryd.func28, Tryd.ntmps28
  go_wp2
  go_ret
  exact ⟨rfl, HB.out⟩
 | true =>
  obtain ⟨bn, hbn⟩ : ∃ b, (n == 0) = b := ⟨_, rfl⟩
  by_cases k2 : k = 2 ∨ k = 3
  ·rw [if_pos k2, hbn]
   have gm : ((m : Int) == 2) = (m == 2) := by
    by_cases h : m = 2
    ·subst h; rfl
    ·rw [beq_eq_false_iff_ne.2 h, beq_eq_false_iff_ne.2 (show (m : Int) ≠ 2 by omega)]
   cases hm : (m == 2) <;> rw [hm] at gm <;> cases bn <;> rcases k2 with rfl | rfl <;>
   (go_enter Tryd.func28, Tryd.ntmps28
    go_wp2
    go_ret
    exact ⟨rfl, HB.out⟩)
  rw [if_neg k2]
  have g2 : (k == 2) = false := beq_eq_false_iff_ne.2 (fun h => k2 (.inl h))
  have g3 : (k == 3) = false := beq_eq_false_iff_ne.2 (fun h => k2 (.inr h))
  clear k2
  by_cases k4 : k = 4
  ·subst k4
   rw [if_pos rfl, hbn]
   have gm : ((m : Int) == 1) = (m == 1) := by
    by_cases h : m = 1
    ·subst h; rfl
    ·rw [beq_eq_false_iff_ne.2 h, beq_eq_false_iff_ne.2 (show (m : Int) ≠ 1 by omega)]
   cases hm : (m == 1) <;> rw [hm] at gm <;> cases bn <;>
   (go_enter Tryd.func28, Tryd.ntmps28
    go_wp2
    go_ret
    exact ⟨rfl, HB.out⟩)
  rw [if_neg k4]
  have g4 : (k == 4) = false := beq_eq_false_iff_ne.2 k4
  by_cases k5 : k = 5
  ·subst k5
   rw [if_pos rfl]
   have gm : ((m : Int) == 0) = (m == 0) := by
    by_cases h : m = 0
    ·subst h; rfl
    ·rw [beq_eq_false_iff_ne.2 h, beq_eq_false_iff_ne.2 (show (m : Int) ≠ 0 by omega)]
   clear hbn
   cases hn1 : decide (1 ≤ n) <;> cases hn2 : decide (n ≤ 4) <;> cases hm : (m == 0) <;> rw [hm] at gm <;>
   (go_enter Tryd.func28, Tryd.ntmps28
    go_wp2
    go_ret
    exact ⟨rfl, HB.out⟩)
  rw [if_neg k5]
  have g5 : (k == 5) = false := beq_eq_false_iff_ne.2 k5
  go_enter Tryd.func28, Tryd.ntmps28
  go_wp2
  go_ret
  exact ⟨rfl, HB.out⟩

end Go.Proofs.YtanjajjjancggaaDoor
