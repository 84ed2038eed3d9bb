/- What all texts lean on: memory that stays, bytes of a text, rows of whole numbers. -/
import Derived.Test.YtlkenhfhnpohhaaRows
import Derived.WalkKit
import Derived.WalkSpells
import Derived.WalkLawsBesides
import Derived.Laws.AppendOwn
import Derived.OwnWalk
import Derived.Lib.Strings
import Derived.Deep.AppendLies
import Derived.Deep.RegionHeld3
import Derived.Lib.AppendZeros
import Derived.Lib.AppendStr
import Derived.Lib.UnsafeStr
import Derived.Laws.IdiomStrings

namespace Go.Proofs.Ytlkenhfhnpohhaa
open Go.RowKit

theorem hide {p : Prop} (h : p) : Hid p := h

theorem heap_lt {w : World} {b : Nat} {o : Obj} (h : w.heap[b]? = some o) : b < w.heap.size := by
 rcases Nat.lt_or_ge b w.heap.size with hlt | hge
 ·exact hlt
 ·rw [Array.getElem?_eq_none hge] at h; cases h

def byt (s : ByteArray) (k : Nat) : Int := if h : k < s.size then ((s[k]'h).toNat : Int) else 0

theorem byt_eq {s : ByteArray} {k : Nat} (h : k < s.size) : ((s[k]'h).toNat : Int) = byt s k := by simp [byt, h]

theorem ownsRow_later {W W' : World} {base : Nat} {e : TypeId} {size : Nat} {v : Value} {n : Nat} {xs : List Value} (h : W.ownsRow base e size v n xs) (hb : Below W.heap.size W W') : W'.ownsRow base e size v n xs := by
 refine ⟨h.1, ?_⟩
 rcases h.2 with hn | ⟨g, cap, cur, e, hbg, hh, rest⟩
 ·exact .inl hn
 ·exact .inr ⟨g, cap, cur, e, hbg, (hb.block _ (heap_lt hh)).trans hh, rest⟩

theorem owns_below {base : Nat} {wr w3 : World} {e : TypeId} {size : Nat} {v : Value} {n : Nat} {xs : List Value} {ob : Obj} (h : wr.ownsRow base e size v n xs) (hB : base ≤ wr.heap.size) (hg : (wr.alloc ob).grownBy w3 v.ownBlock) : Below base wr w3 :=
 ((Below.refl _ _).alloc hB _).grown hg (by simp; omega) (fun k hk => (h.lt k hk).1)

def RowS (w : World) (v : Value) (ks : List Int) : Prop :=
 ∃ ao cap, v = .slice ao ks.length cap ∧ ks.length ≤ cap ∧ (∀ i, -9223372036854775808 ≤ ks.getD i 0 ∧ ks.getD i 0 ≤ 9223372036854775807) ∧
  (0 < ks.length → ∃ b off, ao = some ⟨b, off, none⟩ ∧ b < w.heap.size ∧ ∀ i, i < ks.length → w.cell? ⟨b, off + i, none⟩ = some (.int .i64 (ks.getD i 0)))

theorem RowS.below {C : Nat} {w w' : World} {v : Value} {ks : List Int} (h : RowS w v ks) (hb : Below C w w') (hC : w.heap.size ≤ C) : RowS w' v ks := by
 obtain ⟨ao, cap, hv, h1, hk, h2⟩ := h
 refine ⟨ao, cap, hv, h1, hk, fun h0 => ?_⟩
 obtain ⟨b, off, e, hlt, hc⟩ := h2 h0
 exact ⟨b, off, e, Nat.lt_of_lt_of_le hlt hb.size, fun i hi => (hb.cell (p := ⟨b, off + i, none⟩) (Nat.lt_of_lt_of_le hlt hC)).trans (hc i hi)⟩

def RowsS (w : World) (v : Value) (rs : List (List Int)) : Prop :=
 ∃ ao cap, v = .slice ao rs.length cap ∧ rs.length ≤ cap ∧ (0 < rs.length → ∃ b off, ao = some ⟨b, off, none⟩ ∧ b < w.heap.size ∧ ∀ i r, rs[i]? = some r → ∃ u, w.cell? ⟨b, off + i, none⟩ = some u ∧ RowS w u r)

theorem RowsS.below {w w' : World} {v : Value} {rs : List (List Int)} (h : RowsS w v rs) (hb : Below w.heap.size w w') : RowsS w' v rs := by
 obtain ⟨ao, cap, hv, h1, h2⟩ := h
 refine ⟨ao, cap, hv, h1, fun h0 => ?_⟩
 obtain ⟨b, off, e, hlt, hc⟩ := h2 h0
 refine ⟨b, off, e, Nat.lt_of_lt_of_le hlt hb.size, fun i r hi => ?_⟩
 obtain ⟨u, h3, h4⟩ := hc i r hi
 exact ⟨u, (hb.cell (p := ⟨b, off + i, none⟩) hlt).trans h3, h4.below hb (Nat.le_refl _)⟩

theorem RowsS.at {w : World} {v : Value} {rs : List (List Int)} (h : RowsS w v rs) (i : Nat) (hi : i < rs.length) : ∃ b off cap, v = .slice (some ⟨b, off, none⟩) rs.length cap ∧ b < w.heap.size ∧ ∃ u, w.cell? ⟨b, off + i, none⟩ = some u ∧ RowS w u rs[i] := by
 obtain ⟨ao, cap, hv, h1, h2⟩ := h
 obtain ⟨b, off, e, hlt, hc⟩ := h2 (by omega)
 subst e
 exact ⟨b, off, cap, hv, hlt, hc i rs[i] (by simp [hi])⟩

end Go.Proofs.Ytlkenhfhnpohhaa

/- Catalogs, by themselves: names in their order, operations, what they leave. -/
namespace Go.Proofs.Ytlkenhfhnpohhaa

structure Nmd where
 name : ByteArray
 n : Int
 gens : List (List Int)

structure OpV where
 kind : Int
 name : ByteArray
 n : Int
 v : List Int

def nlt (a b : ByteArray) : Bool := Op.bytesLess a.toList b.toList

theorem toList_beq (a b : ByteArray) : (a.toList == b.toList) = decide (a = b) := by
 rw [Lib.toList_data, Lib.toList_data]
 by_cases h : a = b
 ·rw [h]; simp
 ·rw [decide_eq_false h]
  exact beq_eq_false_iff_ne.2 fun e => h (ByteArray.ext (Array.toList_inj.1 e))

def nmOk (s : ByteArray) : Bool := decide (1 ≤ s.size ∧ s.size ≤ 8 ∧ ∀ i, i < s.size → (97 ≤ byt s i ∧ byt s i ≤ 122) ∨ (48 ≤ byt s i ∧ byt s i ≤ 57 ∧ i ≠ 0))

def genF (v : List Int) (n : Int) : Nat := if (v.length : Int) = n then (if v.all (fun z => decide (-999 ≤ z ∧ z ≤ 999)) then 0 else 1) else 6

def opOk (o : OpV) : Bool := nmOk o.name && (decide (o.kind = 1 ∧ o.v.length = 0) || decide (o.kind = 2 ∧ o.n = 0 ∧ o.v.length = 0) || decide ((o.kind = 3 ∨ o.kind = 4) ∧ o.n = 0))

def placeL (cs : List Nmd) (s : ByteArray) : Nat := cs.findIdx (fun x => !nlt x.name s)

def hasL (cs : List Nmd) (s : ByteArray) : Bool := cs.any (fun x => decide (x.name = s))

def applyC (cs : List Nmd) (o : OpV) : Nat × List Nmd :=
 if opOk o = false then (3, [])
 else if o.kind = 1 then
  if ¬ (1 ≤ o.n ∧ o.n ≤ 4) then (1, [])
  else if hasL cs o.name then (8, [])
  else if 8 ≤ cs.length then (2, [])
  else (0, cs.take (placeL cs o.name) ++ (⟨o.name, o.n, []⟩ :: cs.drop (placeL cs o.name)))
 else if hasL cs o.name = false then (7, [])
 else if o.kind = 2 then (0, cs.take (placeL cs o.name) ++ cs.drop (placeL cs o.name + 1))
 else match cs[placeL cs o.name]? with
  | none => (7, [])
  | some x =>
   if genF o.v x.n ≠ 0 then (genF o.v x.n, [])
   else if o.kind = 3 then (if 10 ≤ x.gens.length then (2, []) else (0, cs.set (placeL cs o.name) ⟨x.name, x.n, x.gens ++ [o.v]⟩))
   else (if x.gens.contains o.v then (0, cs.set (placeL cs o.name) ⟨x.name, x.n, x.gens.erase o.v⟩) else (7, []))

structure NmOk (x : Nmd) : Prop where
 name : nmOk x.name = true
 n : 1 ≤ x.n ∧ x.n ≤ 4
 few : x.gens.length ≤ 10
 gens : ∀ g ∈ x.gens, genF g x.n = 0

structure CatOk (cs : List Nmd) : Prop where
 rise : cs.Pairwise (fun x y => nlt x.name y.name = true)
 few : cs.length ≤ 8
 all : ∀ x ∈ cs, NmOk x

end Go.Proofs.Ytlkenhfhnpohhaa

/- Catalogs in memory: named lattices in a row. -/
namespace Go.Proofs.Ytlkenhfhnpohhaa
open Go.RowKit

structure Nc where
 x : Nmd
 o : Option Addr
 l : Nat
 c : Nat

def Nc.cells (q : Nc) : List Value := [.string q.x.name, .int .i64 q.x.n, .slice q.o q.l q.c]
def Nc.val (q : Nc) : Value := .agg #[.string q.x.name, .int .i64 q.x.n, .slice q.o q.l q.c]

def NcIn (W : World) (q : Nc) : Prop := RowsS W (.slice q.o q.l q.c) q.x.gens

theorem NcIn.below {W W' : World} {q : Nc} (h : NcIn W q) (hb : Below W.heap.size W W') : NcIn W' q := RowsS.below h hb

def CatN (W : World) (v : Value) (qs : List Nc) : Prop :=
 ∃ ao cap, v = .slice ao qs.length cap ∧ qs.length ≤ cap ∧ (0 < qs.length → ∃ b off, ao = some ⟨b, off, none⟩ ∧ b < W.heap.size ∧ ∀ i (q : Nc), qs[i]? = some q →
  W.cell? ⟨b, off + i * 3, none⟩ = some (.string q.x.name) ∧ W.cell? ⟨b, off + i * 3 + 1, none⟩ = some (.int .i64 q.x.n) ∧ W.cell? ⟨b, off + i * 3 + 2, none⟩ = some (.slice q.o q.l q.c) ∧ NcIn W q)

theorem CatN.below {W W' : World} {v : Value} {qs : List Nc} (h : CatN W v qs) (hb : Below W.heap.size W W') : CatN W' v qs := by
 obtain ⟨ao, cap, e, hn, h⟩ := h
 refine ⟨ao, cap, e, hn, fun h0 => ?_⟩
 obtain ⟨b, off, e, hlt, h⟩ := h h0
 refine ⟨b, off, e, Nat.lt_of_lt_of_le hlt hb.size, fun i p hp => ?_⟩
 obtain ⟨h1, h2, h3, h4⟩ := h i p hp
 exact ⟨(hb.cell (p := ⟨b, off + i * 3, none⟩) hlt).trans h1, (hb.cell (p := ⟨b, off + i * 3 + 1, none⟩) hlt).trans h2, (hb.cell (p := ⟨b, off + i * 3 + 2, none⟩) hlt).trans h3, h4.below hb⟩

theorem CatN.form {W : World} {v : Value} {qs : List Nc} (h : CatN W v qs) (h0 : 0 < qs.length) : ∃ b off cap, v = .slice (some ⟨b, off, none⟩) qs.length cap := by
 obtain ⟨ao, cap, e, hn, h⟩ := h
 obtain ⟨b, off, e', -⟩ := h h0
 exact ⟨b, off, cap, by rw [e, e']⟩

theorem CatN.at {W : World} {b off cap : Nat} {qs : List Nc} (h : CatN W (.slice (some ⟨b, off, none⟩) qs.length cap) qs) (i : Nat) (hi : i < qs.length) : b < W.heap.size ∧
  W.cell? ⟨b, off + i * 3, none⟩ = some (.string qs[i].x.name) ∧ W.cell? ⟨b, off + i * 3 + 1, none⟩ = some (.int .i64 qs[i].x.n) ∧ W.cell? ⟨b, off + i * 3 + 2, none⟩ = some (.slice qs[i].o qs[i].l qs[i].c) ∧ NcIn W qs[i] := by
 obtain ⟨ao, cap', e, hn, h⟩ := h
 simp only [Value.slice.injEq, true_and] at e
 obtain ⟨rfl, rfl⟩ := e
 obtain ⟨b', off', e, hlt, h⟩ := h (by omega)
 simp only [Option.some.injEq, Addr.mk.injEq, and_true] at e
 obtain ⟨rfl, rfl⟩ := e
 exact ⟨hlt, h i qs[i] (by simp [hi])⟩

end Go.Proofs.Ytlkenhfhnpohhaa

/- Names, sizes and generators of catalogs: what the program's and the reference's words say of them. -/
namespace Go.Proofs.Ytlkenhfhnpohhaa
open Go.RowKit

def nmTo (s : ByteArray) (k : Nat) : Prop := ∀ i, i < k → (97 ≤ byt s i ∧ byt s i ≤ 122) ∨ (48 ≤ byt s i ∧ byt s i ≤ 57 ∧ i ≠ 0)

theorem nmOk_true {s : ByteArray} (h1 : 1 ≤ s.size) (h8 : s.size ≤ 8) (h : nmTo s s.size) : nmOk s = true := decide_eq_true ⟨h1, h8, h⟩

theorem nmOk_at {s : ByteArray} {k : Nat} (hk : k < s.size) (h : ¬ ((97 ≤ byt s k ∧ byt s k ≤ 122) ∨ (48 ≤ byt s k ∧ byt s k ≤ 57 ∧ k ≠ 0))) : nmOk s = false := decide_eq_false fun h' => h (h'.2.2 k hk)

theorem nmOk_len {s : ByteArray} (h : ¬ (1 ≤ s.size ∧ s.size ≤ 8)) : nmOk s = false := decide_eq_false fun h' => h ⟨h'.1, h'.2.1⟩

set_option linter.unusedSimpArgs false in
set_option maxRecDepth 100000 in
set_option maxHeartbeats 1600000 in
theorem name_any (s : ByteArray) (w : World) : Calls Try.prog 53 #[.string s] w fun e w' => e = .returned (.bool (nmOk s)) ∧ w' = w := by
 by_cases h1 : (s.size : Int) < 1
 ·have g1 : decide ((s.size : Int) < 1) = true := decide_eq_true h1
  rw [nmOk_len (by omega)]
  go_enter Try.func53, Try.ntmps53
  go_wp2
  go_ret
  exact ⟨rfl, rfl⟩
 have g1 : decide ((s.size : Int) < 1) = false := decide_eq_false h1
 by_cases h8 : 8 < (s.size : Int)
 ·have g2 : decide (8 < (s.size : Int)) = true := decide_eq_true h8
  rw [nmOk_len (by omega)]
  go_enter Try.func53, Try.ntmps53
  go_wp2
  go_ret
  exact ⟨rfl, rfl⟩
 have g2 : decide (8 < (s.size : Int)) = false := decide_eq_false h8
 have hs8 : s.size ≤ 8 := by omega
 generalize hr : nmOk s = r
 have HR := hide hr
 clear hr
 go_enter Try.func53, Try.ntmps53
 go_wp2
 go_loopw [16] (fun i wr => ∃ k : Nat, k ≤ s.size ∧ i = .int .i64 k ∧ Hid (nmTo s k) ∧ wr = w) (fun i _ => s.size - (intOf i).toNat)
 case atStart => exact ⟨0, Nat.zero_le _, rfl, hide (fun i hi => absurd hi (by omega)), rfl⟩
 case round =>
  obtain ⟨k, hk, rfl, HT, hw⟩ := hrel
  subst wr
  by_cases hlt : k < s.size
  ·have hb := byt_eq hlt
   by_cases a1 : 97 ≤ byt s k ∧ byt s k ≤ 122
   ·have e1 : decide (97 ≤ ((s[k]'hlt).toNat : Int)) = true := by rw [hb]; simp; omega
    have e2 : decide (((s[k]'hlt).toNat : Int) ≤ 122) = true := by rw [hb]; simp; omega
    have HT' : Hid (nmTo s (k + 1)) := fun i hi => by
     by_cases h : i < k
     ·exact HT.out i h
     ·obtain rfl : i = k := by omega
      exact .inl a1
    cases d1 : decide (48 ≤ ((s[k]'hlt).toNat : Int)) with
    | false =>
     go_wp2
     go_roundw
     case rel => exact ⟨k + 1, by omega, by go_num, HT', by first | rfl | trivial⟩
     case measure => simp [intOf]; omega
    | true =>
     go_wp2
     go_roundw
     case rel => exact ⟨k + 1, by omega, by go_num, HT', by first | rfl | trivial⟩
     case measure => simp [intOf]; omega
   ·have HA : Hid (¬ (97 ≤ byt s k ∧ byt s k ≤ 122)) := a1
    by_cases a2 : 48 ≤ byt s k ∧ byt s k ≤ 57
    ·have e1 : decide (48 ≤ ((s[k]'hlt).toNat : Int)) = true := by rw [hb]; simp; omega
     have e2 : decide (((s[k]'hlt).toNat : Int) ≤ 57) = true := by rw [hb]; simp; omega
     have e3 : decide (97 ≤ ((s[k]'hlt).toNat : Int)) = false := by rw [hb]; simp; omega
     by_cases h0 : k = 0
     ·subst h0
      obtain rfl : false = r := (nmOk_at hlt (by rintro (h | h); exact HA.out h; exact h.2.2 rfl)).symm.trans HR.out
      go_wp2
      go_ret
      exact ⟨rfl, rfl⟩
     ·have e4 : ((k : Int) == 0) = false := beq_eq_false_iff_ne.2 (by omega)
      have HT' : Hid (nmTo s (k + 1)) := fun i hi => by
       by_cases h : i < k
       ·exact HT.out i h
       ·obtain rfl : i = k := by omega
        exact .inr ⟨a2.1, a2.2, h0⟩
      go_wp2
      go_roundw
      case rel => exact ⟨k + 1, by omega, by go_num, HT', by first | rfl | trivial⟩
      case measure => simp [intOf]; omega
    ·obtain rfl : false = r := (nmOk_at hlt (by rintro (h | h); exact HA.out h; exact a2 ⟨h.1, h.2.1⟩)).symm.trans HR.out
     by_cases b1 : 97 ≤ byt s k
     ·have e1 : decide (97 ≤ ((s[k]'hlt).toNat : Int)) = true := by rw [hb]; simp; omega
      have e2 : decide (((s[k]'hlt).toNat : Int) ≤ 122) = false := by rw [hb]; simp; omega
      have e3 : decide (48 ≤ ((s[k]'hlt).toNat : Int)) = true := by rw [hb]; simp; omega
      have e4 : decide (((s[k]'hlt).toNat : Int) ≤ 57) = false := by rw [hb]; simp; omega
      clear hb a1 a2 b1
      go_wp2
      go_ret
      exact ⟨rfl, rfl⟩
     ·have e1 : decide (97 ≤ ((s[k]'hlt).toNat : Int)) = false := by rw [hb]; simp; omega
      by_cases b2 : 48 ≤ byt s k
      ·have e3 : decide (48 ≤ ((s[k]'hlt).toNat : Int)) = true := by rw [hb]; simp; omega
       have e4 : decide (((s[k]'hlt).toNat : Int) ≤ 57) = false := by rw [hb]; simp; omega
       clear hb a1 a2 b1 b2
       go_wp2
       go_ret
       exact ⟨rfl, rfl⟩
      ·have e3 : decide (48 ≤ ((s[k]'hlt).toNat : Int)) = false := by rw [hb]; simp; omega
       clear hb a1 a2 b1 b2
       go_wp2
       go_ret
       exact ⟨rfl, rfl⟩
  ·obtain rfl : k = s.size := by omega
   obtain rfl : true = r := (nmOk_true (by omega) hs8 HT.out).symm.trans HR.out
   go_wp2
   go_ret
   exact ⟨rfl, rfl⟩

set_option linter.unusedSimpArgs false in
set_option maxRecDepth 100000 in
set_option maxHeartbeats 1600000 in
theorem nameR_any (s : ByteArray) (w : World) : Calls Try.prog 43 #[.string s] w fun e w' => e = .returned (.bool (nmOk s)) ∧ w' = w := by
 by_cases h1 : (s.size : Int) < 1
 ·have g1 : decide ((s.size : Int) < 1) = true := decide_eq_true h1
  rw [nmOk_len (by omega)]
  go_enter Try.func43, Try.ntmps43
  go_wp2
  go_ret
  exact ⟨rfl, rfl⟩
 have g1 : decide ((s.size : Int) < 1) = false := decide_eq_false h1
 by_cases h8 : 8 < (s.size : Int)
 ·have g2 : decide (8 < (s.size : Int)) = true := decide_eq_true h8
  rw [nmOk_len (by omega)]
  go_enter Try.func43, Try.ntmps43
  go_wp2
  go_ret
  exact ⟨rfl, rfl⟩
 have g2 : decide (8 < (s.size : Int)) = false := decide_eq_false h8
 have hs8 : s.size ≤ 8 := by omega
 have h0 : 0 < s.size := by omega
 have hb0 := byt_eq h0
 by_cases a0 : byt s 0 < 97
 ·have e0 : decide (((s[0]'h0).toNat : Int) < 97) = true := by rw [hb0]; simp; omega
  rw [nmOk_at h0 (by rintro (h | h); omega; exact h.2.2 rfl)]
  go_enter Try.func43, Try.ntmps43
  go_wp2
  go_ret
  exact ⟨rfl, rfl⟩
 have e0 : decide (((s[0]'h0).toNat : Int) < 97) = false := by rw [hb0]; simp; omega
 by_cases b0 : 122 < byt s 0
 ·have e1 : decide (122 < ((s[0]'h0).toNat : Int)) = true := by rw [hb0]; simp; omega
  rw [nmOk_at h0 (by rintro (h | h); omega; exact h.2.2 rfl)]
  go_enter Try.func43, Try.ntmps43
  go_wp2
  go_ret
  exact ⟨rfl, rfl⟩
 have e1 : decide (122 < ((s[0]'h0).toNat : Int)) = false := by rw [hb0]; simp; omega
 have HF : Hid (97 ≤ byt s 0 ∧ byt s 0 ≤ 122) := ⟨by omega, by omega⟩
 generalize hr : nmOk s = r
 have HR := hide hr
 clear hr
 go_enter Try.func43, Try.ntmps43
 go_wp2
 clear e0 e1 hb0
 go_loopw [3] (fun i wr => ∃ k : Nat, k ≤ s.size ∧ i = .int .i64 k ∧ Hid (nmTo s k) ∧ wr = w) (fun i _ => s.size - (intOf i).toNat)
 case atStart => exact ⟨0, Nat.zero_le _, rfl, hide (fun i hi => absurd hi (by omega)), rfl⟩
 case round =>
  obtain ⟨k, hk, rfl, HT, hw⟩ := hrel
  subst wr
  by_cases hlt : k < s.size
  ·have hb := byt_eq hlt
   by_cases a1 : 97 ≤ byt s k ∧ byt s k ≤ 122
   ·have e1 : decide (97 ≤ ((s[k]'hlt).toNat : Int)) = true := by rw [hb]; simp; omega
    have e2 : decide (((s[k]'hlt).toNat : Int) ≤ 122) = true := by rw [hb]; simp; omega
    have HT' : Hid (nmTo s (k + 1)) := fun i hi => by
     by_cases h : i < k
     ·exact HT.out i h
     ·obtain rfl : i = k := by omega
      exact .inl a1
    go_wp2
    go_roundw
    case rel => exact ⟨k + 1, by omega, by go_num, HT', by first | rfl | trivial⟩
    case measure => simp [intOf]; omega
   ·have HA : Hid (¬ (97 ≤ byt s k ∧ byt s k ≤ 122)) := a1
    by_cases a2 : 48 ≤ byt s k ∧ byt s k ≤ 57
    ·have e1 : decide (48 ≤ ((s[k]'hlt).toNat : Int)) = true := by rw [hb]; simp; omega
     have e2 : decide (((s[k]'hlt).toNat : Int) ≤ 57) = true := by rw [hb]; simp; omega
     have e3 : decide (97 ≤ ((s[k]'hlt).toNat : Int)) = false := by rw [hb]; simp; omega
     have hk0 : k ≠ 0 := fun h => by subst h; exact HA.out HF.out
     have HT' : Hid (nmTo s (k + 1)) := fun i hi => by
      by_cases h : i < k
      ·exact HT.out i h
      ·obtain rfl : i = k := by omega
       exact .inr ⟨a2.1, a2.2, hk0⟩
     go_wp2
     go_roundw
     case rel => exact ⟨k + 1, by omega, by go_num, HT', by first | rfl | trivial⟩
     case measure => simp [intOf]; omega
    ·obtain rfl : false = r := (nmOk_at hlt (by rintro (h | h); exact HA.out h; exact a2 ⟨h.1, h.2.1⟩)).symm.trans HR.out
     by_cases b1 : 97 ≤ byt s k
     ·have e1 : decide (97 ≤ ((s[k]'hlt).toNat : Int)) = true := by rw [hb]; simp; omega
      have e2 : decide (((s[k]'hlt).toNat : Int) ≤ 122) = false := by rw [hb]; simp; omega
      have e3 : decide (48 ≤ ((s[k]'hlt).toNat : Int)) = true := by rw [hb]; simp; omega
      have e4 : decide (((s[k]'hlt).toNat : Int) ≤ 57) = false := by rw [hb]; simp; omega
      clear hb a1 a2 b1
      go_wp2
      go_ret
      exact ⟨rfl, rfl⟩
     ·have e1 : decide (97 ≤ ((s[k]'hlt).toNat : Int)) = false := by rw [hb]; simp; omega
      by_cases b2 : 48 ≤ byt s k
      ·have e3 : decide (48 ≤ ((s[k]'hlt).toNat : Int)) = true := by rw [hb]; simp; omega
       have e4 : decide (((s[k]'hlt).toNat : Int) ≤ 57) = false := by rw [hb]; simp; omega
       clear hb a1 a2 b1 b2
       go_wp2
       go_ret
       exact ⟨rfl, rfl⟩
      ·have e3 : decide (48 ≤ ((s[k]'hlt).toNat : Int)) = false := by rw [hb]; simp; omega
       clear hb a1 a2 b1 b2
       go_wp2
       go_ret
       exact ⟨rfl, rfl⟩
  ·obtain rfl : k = s.size := by omega
   obtain rfl : true = r := (nmOk_true (by omega) hs8 HT.out).symm.trans HR.out
   go_wp2
   go_ret
   exact ⟨rfl, rfl⟩

def sizeOk (n : Int) : Bool := decide (1 ≤ n ∧ n ≤ 4)

end Go.Proofs.Ytlkenhfhnpohhaa

/- Small things that operations and catalogs share. -/
namespace Go.Proofs.Ytlkenhfhnpohhaa
open Go.RowKit

def errV (c : Nat) : Value := if c = 0 then .nilIface else .iface 58 (.int .i64 (c : Int))

theorem alloc_below (W : World) (ob : Obj) : Below W.heap.size W (W.alloc ob) := (Below.refl _ _).alloc (Nat.le_refl _) _

theorem owns_form {W : World} {base : Nat} {e : TypeId} {sz : Nat} {v : Value} {n : Nat} {xs : List Value} (h : W.ownsRow base e sz v n xs) : ∃ o c, v = .slice o n c ∧ n ≤ c := by
 rcases h.2 with ⟨rfl, rfl⟩ | ⟨g, cap, cur, rfl, -, -, hle, -⟩
 ·exact ⟨_, _, rfl, Nat.le_refl _⟩
 ·exact ⟨_, _, rfl, hle⟩

theorem info_got {P : Program} {t : TypeId} {z : Value} {s b : Nat} (h : (P.info? t).map (fun i => (i.zero, i.size, i.bytes)) = some (some z, s, b)) : ∃ i, P.info? t = some i ∧ i.zero = some z ∧ i.size = s ∧ i.bytes = b := by
 cases e : P.info? t with
 | none => rw [e] at h; cases h
 | some i =>
  rw [e] at h
  simp only [Option.map_some, Option.some.injEq, Prod.mk.injEq] at h
  exact ⟨i, rfl, h.1, h.2.1, h.2.2⟩

def FourV (W : World) (B : Nat) (u0 u1 u2 u3 : Value) : Prop := W.cell? ⟨B, 0, none⟩ = some u0 ∧ W.cell? ⟨B, 1, none⟩ = some u1 ∧ W.cell? ⟨B, 2, none⟩ = some u2 ∧ W.cell? ⟨B, 3, none⟩ = some u3 ∧ B < W.heap.size

theorem FourV.later {W W' : World} {B : Nat} {u0 u1 u2 u3 : Value} (h : FourV W B u0 u1 u2 u3) (hb : Below W.heap.size W W') : FourV W' B u0 u1 u2 u3 :=
 ⟨(hb.cell (p := ⟨B, 0, none⟩) h.2.2.2.2).trans h.1, (hb.cell (p := ⟨B, 1, none⟩) h.2.2.2.2).trans h.2.1, (hb.cell (p := ⟨B, 2, none⟩) h.2.2.2.2).trans h.2.2.1, (hb.cell (p := ⟨B, 3, none⟩) h.2.2.2.2).trans h.2.2.2.1, Nat.lt_of_lt_of_le h.2.2.2.2 hb.size⟩

theorem FourV.new (W : World) (u0 u1 u2 u3 : Value) (t : TypeId) : FourV (W.alloc (.cells #[u0, u1, u2, u3] t)) W.heap.size u0 u1 u2 u3 :=
 ⟨by rw [World.cell?_alloc_new]; rfl, by rw [World.cell?_alloc_new]; rfl, by rw [World.cell?_alloc_new]; rfl, by rw [World.cell?_alloc_new]; rfl, by simp⟩

theorem step_append_run {P : Program} {ops : Array Oper} {o : Oper} {a : Act} {w : World} {K : Act → World → Prop} {Q : Exit → Act → World → Prop} {E : Prop} (hg : o.guard = none) (s x : Operand) (t tn : TypeId)
  (ho : o.op = .call { callee := .builtin .append, args := #[s, x], argTypes := #[t, tn] }) (vs vx : Value) (hs : a.eval s = vs) (hx : a.eval x = vx)
  (v' : Value) (w' : World) (hr : (Builtin.append_ #[t, tn] o.type #[vs, vx]).run P w = .ok v' w') (hK : K (a.put o.dst v') w') :
  if Region.wanted o (yielded ops a.tmps) = true then Oper.wp P o a w K Q else E := by
 rw [if_pos (by simp [Region.wanted, hg])]
 exact Lib.wp_append_run w s x t tn ho vs vx hs hx v' w' hr hK

theorem own_snoc {P : Program} (W : World) (base : Nat) (hbase : base ≤ W.heap.size) (t ty e : TypeId) (i : TypeInfo) (z : Value) (sz by' : Nat) (ht : P.underlying t = some (.slice e)) (hi : P.info? e = some i) (hz : i.zero = some z)
  (hsize : i.size = sz) (hby : i.bytes = by') (hzs : z.cells.size = sz) (hsz : 0 < sz) (v : Value) (n : Nat) (xs : List Value) (hown : W.ownsRow base e sz v n xs)
  (ys : Array Value) (tb : TypeId) (hl : ys.size = sz) (h1 : ∀ y ∈ ys.toList, y.oneCell' = true) (h63 : n + 1 ≤ maxLen) (hbytes : (n + 1) * by' ≤ 140737488355328) :
  ∃ o c W', (Builtin.append_ #[t, t] ty #[v, .slice (some ⟨W.heap.size, 0, none⟩) 1 1]).run P (W.alloc (.cells ys tb)) = .ok (.slice o (n + 1) c) W' ∧ W'.ownsRow base e sz (.slice o (n + 1) c) (n + 1) (xs ++ ys.toList) ∧ Below base W W' := by
 obtain ⟨v', W', hr, hown', hg, -⟩ := run_append_own (P := P) (W.alloc (.cells ys tb)) base t ty e i z sz by' ht hi hz hsize hby hzs hsz v n xs (hown.alloc _) ⟨W.heap.size, 0, none⟩ 1 1 ys.toList (by rw [Array.length_toList, hl, Nat.one_mul]) (World.news_of_block (heap_alloc_new W _)) h1 h63 hbytes (by simp; omega)
 obtain ⟨o, c, rfl, -⟩ := owns_form hown'
 exact ⟨o, c, W', hr, hown', owns_below hown hbase hg⟩

end Go.Proofs.Ytlkenhfhnpohhaa

/- Bytes under construction: an operation's bytes, without memory; a list of bytes of one's own that grows. -/
namespace Go.Proofs.Ytlkenhfhnpohhaa
open Go.RowKit

def lowB (z : Int) : UInt8 := UInt8.ofNat (z % 256).toNat

theorem lowB_nat (z : Int) : ((lowB z).toNat : Int) = z % 256 := by
 unfold lowB
 have h0 : 0 ≤ z % 256 := Int.emod_nonneg _ (by decide)
 have h1 : z % 256 < 256 := Int.emod_lt_of_pos _ (by decide)
 rw [UInt8.toNat_ofNat']
 omega

def twoB (z : Int) : List UInt8 := [lowB z, lowB (z / 256)]

def shapeB (o : OpV) : Bool := decide (1 ≤ o.kind ∧ o.kind ≤ 4) && nmOk o.name && decide (0 ≤ o.n ∧ o.n ≤ 4) && decide (o.v.length ≤ 4)

def bigB (o : OpV) : Bool := o.v.any fun z => decide (z < -999 ∨ 999 < z)

def opF (o : OpV) : Nat := if shapeB o = false then 3 else if bigB o then 1 else 0

def headB (o : OpV) : List UInt8 := [lowB o.kind, lowB o.name.size] ++ o.name.data.toList ++ [lowB o.n, lowB o.v.length]

def opB (o : OpV) : List UInt8 := headB o ++ o.v.flatMap twoB

def opS (o : OpV) : ByteArray := if opF o = 0 then ⟨(opB o).toArray⟩ else ⟨#[]⟩

theorem Try.infoU8 : (Try.prog.info? 5).map (fun i => (i.zero, i.size, i.bytes)) = some (some (.int .u8 0), 1, 1) := by kernel_rfl

def BufB (base : Nat) (W : World) (v : Value) (l : List UInt8) : Prop := W.ownsRow base 5 1 v l.length (Lib.byteCells l)

theorem BufB.form {base : Nat} {W : World} {v : Value} {l : List UInt8} (h : BufB base W v l) : ∃ o c, v = .slice o l.length c := by
 obtain ⟨o, c, e, -⟩ := owns_form h
 exact ⟨o, c, e⟩

theorem BufB.len {base : Nat} {W : World} {o : Option Addr} {n c : Nat} {l : List UInt8} (h : BufB base W (.slice o n c) l) : n = l.length := by
 obtain ⟨o', c', e⟩ := h.form
 simp only [Value.slice.injEq] at e
 exact e.2.1

theorem BufB.later {base : Nat} {W W' : World} {v : Value} {l : List UInt8} (h : BufB base W v l) (hb : Below W.heap.size W W') : BufB base W' v l := ownsRow_later h hb

theorem cell_lowB (z : Int) : Value.int .u8 ((lowB z).toNat : Int) = .int .u8 (z % 256) := by rw [lowB_nat]

theorem BufB.two (W : World) (a b : Int) : BufB W.heap.size (W.alloc (.cells #[.int .u8 (a % 256), .int .u8 (b % 256)] 5)) (.slice (some ⟨W.heap.size, 0, none⟩) 2 2) [lowB a, lowB b] := by
 refine ⟨by simp [Lib.byteCells], .inr ⟨W.heap.size, 2, _, rfl, Nat.le_refl _, heap_alloc_new W _, Nat.le_refl _, by unfold maxLen; decide, rfl, ?_⟩⟩
 simp only [Lib.byteCells, List.map_cons, List.map_nil, cell_lowB]
 rfl

theorem BufB.str {W : World} {base : Nat} {v : Value} {l : List UInt8} (h : BufB base W v l) (hbase : base ≤ W.heap.size) (s : ByteArray) (ty : TypeId) (hl : l.length + s.size ≤ 1000000) :
  ∃ o c W', (Builtin.append_ #[76, 9] ty #[v, .string s]).run Try.prog W = .ok (.slice o (l ++ s.data.toList).length c) W' ∧ BufB base W' (.slice o (l ++ s.data.toList).length c) (l ++ s.data.toList) ∧ Below base W W' := by
 obtain ⟨j0, hj, hy0, hy1, hy2⟩ := info_got Try.infoU8
 obtain ⟨v', W', hr, hown, hg, -⟩ := Lib.run_append_own_string (P := Try.prog) W base 76 9 ty 5 j0 (by kernel_rfl) (by kernel_rfl) hj hy0 hy1 hy2 v l.length _ h s (by unfold maxLen; omega) (by omega) hbase
 have e1 : l.length + s.size = (l ++ s.data.toList).length := by rw [List.length_append, Array.length_toList]; rfl
 have e2 : Lib.byteCells l ++ Lib.strCells s = Lib.byteCells (l ++ s.data.toList) := by simp [Lib.byteCells, Lib.strCells]
 rw [e1, e2] at hown
 obtain ⟨o, c, rfl, -⟩ := owns_form hown
 exact ⟨o, c, W', hr, hown, (Below.refl base W).grown hg hbase (fun k hk => (World.ownsRow.lt h k hk).1)⟩

theorem BufB.more {W : World} {base : Nat} {v : Value} {l : List UInt8} (h : BufB base W v l) (hbase : base ≤ W.heap.size) (m : List UInt8) (cs : Array Value) (hcs : cs.toList = Lib.byteCells m) (ty tb : TypeId) (hl : l.length + m.length ≤ 1000000) :
  ∃ o c W', (Builtin.append_ #[76, 76] ty #[v, .slice (some ⟨W.heap.size, 0, none⟩) m.length m.length]).run Try.prog (W.alloc (.cells cs tb)) = .ok (.slice o (l ++ m).length c) W' ∧ BufB base W' (.slice o (l ++ m).length c) (l ++ m) ∧ Below base W W' := by
 obtain ⟨j0, hj, hy0, hy1, hy2⟩ := info_got Try.infoU8
 obtain ⟨v', W', hr, hown, hg, -⟩ := run_append_own (P := Try.prog) (W.alloc (.cells cs tb)) base 76 ty 5 j0 (.int .u8 0) 1 1 (by kernel_rfl) hj hy0 hy1 hy2 rfl (by decide) v l.length _ (World.ownsRow.alloc h _) ⟨W.heap.size, 0, none⟩ m.length m.length (Lib.byteCells m) (by simp [Lib.byteCells]) (by rw [← hcs]; exact World.news_of_block (heap_alloc_new W _)) (fun y hy => by
  simp only [Lib.byteCells, List.mem_map] at hy
  obtain ⟨b, -, rfl⟩ := hy
  rfl) (by unfold maxLen; omega) (by omega) (by simp; omega)
 have e1 : l.length + m.length = (l ++ m).length := by rw [List.length_append]
 have e2 : Lib.byteCells l ++ Lib.byteCells m = Lib.byteCells (l ++ m) := by simp [Lib.byteCells]
 rw [e1, e2] at hown
 obtain ⟨o, c, rfl, -⟩ := owns_form hown
 exact ⟨o, c, W', hr, hown, owns_below h hbase hg⟩

theorem BufB.back {W : World} {base : Nat} {o : Option Addr} {c : Nat} {l : List UInt8} (h : BufB base W (.slice o l.length c) l) (h0 : 0 < l.length) : (convert 76 9 (.slice o l.length c)).run Try.prog W = .ok (.string ⟨l.toArray⟩) W := by
 rcases h.2 with ⟨e, -⟩ | ⟨g, cap, cur, e, -, hg, -, -, -, -⟩
 ·simp only [Value.slice.injEq] at e
  omega
 ·simp only [Value.slice.injEq, true_and] at e
  obtain ⟨rfl, rfl⟩ := e
  refine run_convert_bytes_back W 76 9 5 ⟨g, 0, none⟩ c l (by kernel_rfl) (by kernel_rfl) (by kernel_rfl) fun j hj => ?_
  have := World.ownsRow.cells (g := g) h rfl j _ (show (Lib.byteCells l)[j]? = some (.int .u8 (l[j].toNat : Int)) by simp [Lib.byteCells, hj])
  exact this

end Go.Proofs.Ytlkenhfhnpohhaa

/- pack: has each part of an operation room in its bytes? -/
namespace Go.Proofs.Ytlkenhfhnpohhaa
open Go.RowKit

set_option linter.unusedSimpArgs false in
set_option maxRecDepth 100000 in
set_option maxHeartbeats 1600000 in
theorem shapedP_any (w : World) (o : OpV) (vo : Option Addr) (vc : Nat) :
  Calls Try.prog 51 #[.agg #[.int .i64 o.kind, .string o.name, .int .i64 o.n, .slice vo o.v.length vc]] w fun e w' => e = .returned (.bool (shapeB o)) ∧ Below w.heap.size w w' := by
 have hf := FourV.new w (.int .i64 o.kind) (.string o.name) (.int .i64 o.n) (.slice vo o.v.length vc) 46
 have HB0 := hide (alloc_below w (.cells #[.int .i64 o.kind, .string o.name, .int .i64 o.n, .slice vo o.v.length vc] 46))
 obtain ⟨c0, c1, c2, c3, -⟩ := hf
 generalize hr : shapeB o = r
 unfold shapeB at hr
 generalize o.kind = k at *
 generalize o.n = n at *
 generalize o.v.length = l at *
 by_cases hk : 1 ≤ k ∧ k ≤ 4
 ·rw [decide_eq_true hk, Bool.true_and] at hr
  cases hn : nmOk o.name with
  | false =>
   rw [hn, Bool.false_and, Bool.false_and] at hr
   subst hr
   rcases (by omega : k = 1 ∨ k = 2 ∨ k = 3 ∨ k = 4) with rfl | rfl | rfl | rfl <;>
   ·clear hk
    go_enter Try.func51, Try.ntmps51
    go_wp2_with fail
    refine (name_any o.name _).mono ?_
    rintro e w1 ⟨rfl, rfl⟩
    rw [hn]
    go_wp2
    go_ret
    exact ⟨rfl, HB0.out⟩
  | true =>
   rw [hn, Bool.true_and] at hr
   have H : Hid (r = (decide (0 ≤ n ∧ n ≤ 4) && decide (l ≤ 4))) := hr.symm
   clear hr
   obtain ⟨b0, h0⟩ : ∃ b0, decide ((0 : Int) ≤ n) = b0 := ⟨_, rfl⟩
   obtain ⟨b1, h1⟩ : ∃ b1, decide (n ≤ 4) = b1 := ⟨_, rfl⟩
   obtain ⟨b2, h2⟩ : ∃ b2, decide ((l : Int) ≤ 4) = b2 := ⟨_, rfl⟩
   have HE : Hid (r = (b0 && b1 && b2)) := by
    show _ = _
    rw [H.out, ← h0, ← h1, ← h2]
    by_cases a0 : 0 ≤ n <;> by_cases a1 : n ≤ 4 <;> by_cases a2 : l ≤ 4 <;> simp [a0, a1, a2] <;> omega
   clear H
   rcases (by omega : k = 1 ∨ k = 2 ∨ k = 3 ∨ k = 4) with rfl | rfl | rfl | rfl <;>
   ·clear hk
    go_enter Try.func51, Try.ntmps51
    go_wp2_with fail
    refine (name_any o.name _).mono ?_
    rintro e w1 ⟨rfl, rfl⟩
    rw [hn]
    clear hn
    cases b0 <;> cases b1 <;> cases b2 <;>
    ·go_wp2
     go_ret
     exact ⟨by rw [HE.out]; rfl, HB0.out⟩
 ·rw [decide_eq_false hk, Bool.false_and, Bool.false_and, Bool.false_and] at hr
  subst hr
  have g1 : (k == 1) = false := beq_eq_false_iff_ne.2 (by omega)
  have g2 : (k == 2) = false := beq_eq_false_iff_ne.2 (by omega)
  have g3 : (k == 3) = false := beq_eq_false_iff_ne.2 (by omega)
  have g4 : (k == 4) = false := beq_eq_false_iff_ne.2 (by omega)
  clear hk
  go_enter Try.func51, Try.ntmps51
  go_wp2
  go_ret
  exact ⟨rfl, HB0.out⟩

end Go.Proofs.Ytlkenhfhnpohhaa

/- Moves of a region that draws its order, for operations whose guard says no. -/
namespace Go.Proofs.Ytlkenhfhnpohhaa
open Go

variable {P : Program} {ops : Array Oper} {Q : Exit → Act → World → Prop} {md : Region.Mode} {S : World → Prop}

theorem held_run (i d : Nat) {oi : Oper} {v : Value} {fuel : Nat} {listed : Array Bool} {a : Act} {w : World} (hi : ops[i]? = some oi) (hd : oi.dst = some d)
  (hs : Region.noSelect ops = true) (hf : Region.free md ops listed i = true) (hr : (Region.ready md ops listed).contains i = true)
  (hQ : ∀ c a w, Q (.panic c) (a.put (some d) v) w → Q (.panic c) a w) (hw : Region.wanted oi (yielded ops a.tmps) = true) (hy : ∀ w, S w → (execOp a.eval oi).run P w = .ok (.value v) w) (hS : S w)
  (h : wpAnyH P md ops Q S fuel (listed.setIfInBounds i true) (a.put (some d) v) w) : wpAnyH P md ops Q S (fuel + 1) listed a w :=
 wpAnyH_take hi hs hf hr (by rw [hd]; exact hQ) (.inl ⟨hw, hy⟩) hS (by rw [hd]; exact h)

theorem held_skip (i d : Nat) {oi : Oper} {fuel : Nat} {listed : Array Bool} {a : Act} {w : World} (hi : ops[i]? = some oi) (hd : oi.dst = some d)
  (hs : Region.noSelect ops = true) (hf : Region.free md ops listed i = true) (hr : (Region.ready md ops listed).contains i = true)
  (hQ : ∀ c a w, Q (.panic c) (a.put (some d) undef) w → Q (.panic c) a w) (hw : Region.wanted oi (yielded ops a.tmps) = false) (hS : S w)
  (h : wpAnyH P md ops Q S fuel (listed.setIfInBounds i true) (a.put (some d) undef) w) : wpAnyH P md ops Q S (fuel + 1) listed a w :=
 wpAnyH_take hi hs hf hr (by rw [hd]; exact hQ) (.inr ⟨hw, rfl⟩) hS (by rw [hd]; exact h)

end Go.Proofs.Ytlkenhfhnpohhaa
