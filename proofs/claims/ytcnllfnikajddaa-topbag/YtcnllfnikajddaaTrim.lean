/- What all texts lean on: memory that stays, bytes of a text, rows of whole numbers. -/
import Derived.Test.YtcnllfnikajddaaRows
import Derived.WalkKit
import Derived.WalkSpells
import Derived.WalkLawsBesides
import Derived.Laws.AppendOwn
import Derived.OwnWalk
import Derived.Deep.QuietTactic
import Derived.BigQuiet
import Derived.Deep.RegionHeld3
import Derived.Deep.DrawnRows

namespace Go.Proofs.Ytcnllfnikajddaa
open Go.RowKit

theorem hide {p : Prop} (h : p) : Hid p := h

theorem heap_lt {w : World} {b : Nat} {o : Obj} (h : w.heap[b]? = some o) : b < w.heap.size := by
 rcases Nat.lt_or_ge b w.heap.size with hlt | hge
 ·exact hlt
 ·rw [Array.getElem?_eq_none hge] at h; cases h

def byt (s : ByteArray) (k : Nat) : Int := if h : k < s.size then ((s[k]'h).toNat : Int) else 0

theorem byt_eq {s : ByteArray} {k : Nat} (h : k < s.size) : ((s[k]'h).toNat : Int) = byt s k := by simp [byt, h]

theorem ownsRow_later {W W' : World} {base : Nat} {e : TypeId} {size : Nat} {v : Value} {n : Nat} {xs : List Value} (h : W.ownsRow base e size v n xs) (hb : Below W.heap.size W W') : W'.ownsRow base e size v n xs := by
 refine ⟨h.1, ?_⟩
 rcases h.2 with hn | ⟨g, cap, cur, e, hbg, hh, rest⟩
 ·exact .inl hn
 ·exact .inr ⟨g, cap, cur, e, hbg, (hb.block _ (heap_lt hh)).trans hh, rest⟩

theorem owns_below {base : Nat} {wr w3 : World} {e : TypeId} {size : Nat} {v : Value} {n : Nat} {xs : List Value} {ob : Obj} (h : wr.ownsRow base e size v n xs) (hB : base ≤ wr.heap.size) (hg : (wr.alloc ob).grownBy w3 v.ownBlock) : Below base wr w3 :=
 ((Below.refl _ _).alloc hB _).grown hg (by simp; omega) (fun k hk => (h.lt k hk).1)

def RowS (w : World) (v : Value) (ks : List Int) : Prop :=
 ∃ ao cap, v = .slice ao ks.length cap ∧ ks.length ≤ cap ∧ (∀ i, -9223372036854775808 ≤ ks.getD i 0 ∧ ks.getD i 0 ≤ 9223372036854775807) ∧
  (0 < ks.length → ∃ b off, ao = some ⟨b, off, none⟩ ∧ b < w.heap.size ∧ ∀ i, i < ks.length → w.cell? ⟨b, off + i, none⟩ = some (.int .i64 (ks.getD i 0)))

theorem RowS.below {C : Nat} {w w' : World} {v : Value} {ks : List Int} (h : RowS w v ks) (hb : Below C w w') (hC : w.heap.size ≤ C) : RowS w' v ks := by
 obtain ⟨ao, cap, hv, h1, hk, h2⟩ := h
 refine ⟨ao, cap, hv, h1, hk, fun h0 => ?_⟩
 obtain ⟨b, off, e, hlt, hc⟩ := h2 h0
 exact ⟨b, off, e, Nat.lt_of_lt_of_le hlt hb.size, fun i hi => (hb.cell (p := ⟨b, off + i, none⟩) (Nat.lt_of_lt_of_le hlt hC)).trans (hc i hi)⟩

def RowsS (w : World) (v : Value) (rs : List (List Int)) : Prop :=
 ∃ ao cap, v = .slice ao rs.length cap ∧ rs.length ≤ cap ∧ (0 < rs.length → ∃ b off, ao = some ⟨b, off, none⟩ ∧ b < w.heap.size ∧ ∀ i r, rs[i]? = some r → ∃ u, w.cell? ⟨b, off + i, none⟩ = some u ∧ RowS w u r)

theorem RowsS.below {w w' : World} {v : Value} {rs : List (List Int)} (h : RowsS w v rs) (hb : Below w.heap.size w w') : RowsS w' v rs := by
 obtain ⟨ao, cap, hv, h1, h2⟩ := h
 refine ⟨ao, cap, hv, h1, fun h0 => ?_⟩
 obtain ⟨b, off, e, hlt, hc⟩ := h2 h0
 refine ⟨b, off, e, Nat.lt_of_lt_of_le hlt hb.size, fun i r hi => ?_⟩
 obtain ⟨u, h3, h4⟩ := hc i r hi
 exact ⟨u, (hb.cell (p := ⟨b, off + i, none⟩) hlt).trans h3, h4.below hb (Nat.le_refl _)⟩

theorem RowsS.at {w : World} {v : Value} {rs : List (List Int)} (h : RowsS w v rs) (i : Nat) (hi : i < rs.length) : ∃ b off cap, v = .slice (some ⟨b, off, none⟩) rs.length cap ∧ b < w.heap.size ∧ ∃ u, w.cell? ⟨b, off + i, none⟩ = some u ∧ RowS w u rs[i] := by
 obtain ⟨ao, cap, hv, h1, h2⟩ := h
 obtain ⟨b, off, e, hlt, hc⟩ := h2 (by omega)
 subst e
 exact ⟨b, off, cap, hv, hlt, hc i rs[i] (by simp [hi])⟩

end Go.Proofs.Ytcnllfnikajddaa

/- Plain arithmetic of limbs: numbers to the base 4294967296, the lowest first. No Go in it. -/
namespace Go.Proofs.Ytcnllfnikajddaa.Limbs

def lv : List Int → Int
 | [] => 0
 | x :: xs => x + 4294967296 * lv xs

def LB (zs : List Int) : Prop := ∀ i : Nat, 0 ≤ zs.getD i 0 ∧ zs.getD i 0 < 4294967296

def Nrm (zs : List Int) : Prop := zs.length = 0 ∨ zs.getD (zs.length - 1) 0 ≠ 0

def bp : Nat → Int
 | 0 => 1
 | n + 1 => 4294967296 * bp n

theorem bp_pos (n : Nat) : 0 < bp n := by
 induction n with
 | zero => simp [bp]
 | succ n ih => simp only [bp]; omega

theorem bp_add (m n : Nat) : bp (m + n) = bp m * bp n := by
 induction m with
 | zero => simp [bp]
 | succ m ih => rw [Nat.succ_add]; simp only [bp]; rw [ih, Int.mul_assoc]

theorem bp_mono {m n : Nat} (h : m ≤ n) : bp m ≤ bp n := by
 obtain ⟨k, rfl⟩ := Nat.exists_eq_add_of_le h
 rw [bp_add]
 have h1 := bp_pos m
 have h2 := bp_pos k
 have : bp m * 1 ≤ bp m * bp k := Int.mul_le_mul_of_nonneg_left (by omega) (by omega)
 omega

theorem LB_nil : LB [] := by intro i; simp
theorem LB_tail {x : Int} {xs : List Int} (h : LB (x :: xs)) : LB xs := fun i => by simpa using h (i + 1)
theorem LB_head {x : Int} {xs : List Int} (h : LB (x :: xs)) : 0 ≤ x ∧ x < 4294967296 := by simpa using h 0
theorem LB_cons {x : Int} {xs : List Int} (hx : 0 ≤ x ∧ x < 4294967296) (h : LB xs) : LB (x :: xs) := by
 intro i
 cases i with
 | zero => simpa using hx
 | succ i => simpa using h i

theorem LB_mem {zs : List Int} (h : ∀ z ∈ zs, 0 ≤ z ∧ z < 4294967296) : LB zs := by
 induction zs with
 | nil => exact LB_nil
 | cons x xs ih => exact LB_cons (h x (by simp)) (ih fun z hz => h z (by simp [hz]))

theorem LB_take {zs : List Int} (h : LB zs) (k : Nat) : LB (zs.take k) := by
 intro i
 have := h i
 by_cases hk : i < k
 ·simpa [List.getD_eq_getElem?_getD, List.getElem?_take, hk] using this
 ·simp [List.getD_eq_getElem?_getD, List.getElem?_take, hk]

theorem LB_drop {zs : List Int} (h : LB zs) (k : Nat) : LB (zs.drop k) := by
 intro i
 have := h (k + i)
 simpa [List.getD_eq_getElem?_getD, List.getElem?_drop] using this

theorem getD_take (zs : List Int) (n i : Nat) (h : i < n) : (zs.take n).getD i 0 = zs.getD i 0 := by
 rw [List.getD_eq_getElem?_getD, List.getElem?_take, if_pos h, List.getD_eq_getElem?_getD]

theorem getD_drop (zs : List Int) (n i : Nat) : (zs.drop n).getD i 0 = zs.getD (n + i) 0 := by
 rw [List.getD_eq_getElem?_getD, List.getElem?_drop, List.getD_eq_getElem?_getD]

theorem getD_ge (zs : List Int) (i : Nat) (h : zs.length ≤ i) : zs.getD i 0 = 0 := by
 rw [List.getD_eq_getElem?_getD, List.getElem?_eq_none h]; rfl

theorem lv_nonneg {zs : List Int} (h : LB zs) : 0 ≤ lv zs := by
 induction zs with
 | nil => simp [lv]
 | cons x xs ih => have := ih (LB_tail h); have := LB_head h; simp only [lv]; omega

theorem lv_lt {zs : List Int} (h : LB zs) : lv zs < bp zs.length := by
 induction zs with
 | nil => simp [lv, bp]
 | cons x xs ih => have := ih (LB_tail h); have := LB_head h; simp only [lv, List.length_cons, bp]; omega

theorem lv_append (xs ys : List Int) : lv (xs ++ ys) = lv xs + bp xs.length * lv ys := by
 induction xs with
 | nil => simp [lv, bp]
 | cons x xs ih => simp only [List.cons_append, lv, ih, List.length_cons, bp]; rw [Int.mul_add, Int.mul_assoc]; omega

theorem lv_take_succ (zs : List Int) (k : Nat) : lv (zs.take (k + 1)) = lv (zs.take k) + bp k * zs.getD k 0 := by
 by_cases h : k < zs.length
 ·rw [List.take_succ_eq_append_getElem h, lv_append]
  simp [lv, List.length_take, Nat.min_eq_left (Nat.le_of_lt h), List.getD_eq_getElem?_getD, h]
 ·rw [List.take_of_length_le (by omega), List.take_of_length_le (by omega)]
  simp [List.getD_eq_getElem?_getD, List.getElem?_eq_none (Nat.le_of_not_lt h)]

theorem lv_split (zs : List Int) (k : Nat) (h : k ≤ zs.length) : lv zs = lv (zs.take k) + bp k * lv (zs.drop k) := by
 have := lv_append (zs.take k) (zs.drop k)
 rw [List.take_append_drop, List.length_take, Nat.min_eq_left h] at this
 exact this

theorem lv_take_ge (zs : List Int) {k : Nat} (h : zs.length ≤ k) : lv (zs.take k) = lv zs := by
 rw [List.take_of_length_le h]

theorem lv_take_lt {zs : List Int} (h : LB zs) (k : Nat) : lv (zs.take k) < bp k := by
 have h1 := lv_lt (LB_take h k)
 have h2 : bp (zs.take k).length ≤ bp k := bp_mono (List.length_take_le k zs)
 omega

theorem lv_take_nonneg {zs : List Int} (h : LB zs) (k : Nat) : 0 ≤ lv (zs.take k) := lv_nonneg (LB_take h k)

theorem drop_cons_getD (zs : List Int) (k : Nat) (h : k < zs.length) : zs.drop k = zs.getD k 0 :: zs.drop (k + 1) := by
 rw [List.drop_eq_getElem_cons h]
 simp [List.getD_eq_getElem?_getD, h]

theorem lv_lt_of_place {a b : List Int} (ha : LB a) (hb : LB b) (hl : a.length = b.length) {k : Nat} (hk : k < a.length) (hd : a.drop (k + 1) = b.drop (k + 1)) (hx : a.getD k 0 < b.getD k 0) : lv a < lv b := by
 have e1 := lv_split a k (by omega)
 have e2 := lv_split b k (by omega)
 rw [drop_cons_getD a k hk] at e1
 rw [drop_cons_getD b k (by omega), ← hd] at e2
 simp only [lv] at e1 e2
 have h1 := lv_take_lt ha k
 have h2 := lv_take_nonneg hb k
 generalize lv (a.drop (k + 1)) = t at e1 e2
 have hp := bp_pos k
 have h3 : bp k * (a.getD k 0 + 4294967296 * t + 1) ≤ bp k * (b.getD k 0 + 4294967296 * t) := Int.mul_le_mul_of_nonneg_left (by omega) (by omega)
 rw [Int.mul_add, Int.mul_one] at h3
 omega

theorem nrm_low {zs : List Int} (h : LB zs) (hn : Nrm zs) (h0 : 0 < zs.length) : bp (zs.length - 1) ≤ lv zs := by
 have e := lv_split zs (zs.length - 1) (by omega)
 rw [drop_cons_getD zs (zs.length - 1) (by omega)] at e
 have hd : zs.drop (zs.length - 1 + 1) = [] := List.drop_eq_nil_of_le (by omega)
 rw [hd] at e
 simp only [lv] at e
 have h1 := lv_take_nonneg h (zs.length - 1)
 have h2 := h (zs.length - 1)
 have h3 : zs.getD (zs.length - 1) 0 ≠ 0 := by rcases hn with hn | hn; omega; exact hn
 have hp := bp_pos (zs.length - 1)
 have h4 : bp (zs.length - 1) * 1 ≤ bp (zs.length - 1) * (zs.getD (zs.length - 1) 0 + 4294967296 * 0) := Int.mul_le_mul_of_nonneg_left (by omega) (by omega)
 omega

theorem lv_lt_of_length {a b : List Int} (ha : LB a) (hb : LB b) (hn : Nrm b) (hl : a.length < b.length) : lv a < lv b := by
 have h1 := lv_lt ha
 have h2 := nrm_low hb hn (by omega)
 have h3 : bp a.length ≤ bp (b.length - 1) := bp_mono (by omega)
 omega

theorem lv_zero_iff {zs : List Int} (h : LB zs) (hn : Nrm zs) : lv zs = 0 ↔ zs.length = 0 := by
 constructor
 ·intro h0
  by_cases hl : zs.length = 0
  ·exact hl
  ·have h1 := nrm_low h hn (by omega)
   have := bp_pos (zs.length - 1)
   omega
 ·intro hl
  rw [List.eq_nil_of_length_eq_zero hl]; rfl

theorem length_le_of_lt {zs : List Int} (h : LB zs) (hn : Nrm zs) {n : Nat} (hlt : lv zs < bp n) : zs.length ≤ n := by
 by_cases hl : zs.length ≤ n
 ·exact hl
 ·have h1 := nrm_low h hn (by omega)
  have h2 : bp n ≤ bp (zs.length - 1) := bp_mono (by omega)
  omega

theorem lv_inj {a b : List Int} (ha : LB a) (hb : LB b) (na : Nrm a) (nb : Nrm b) (h : lv a = lv b) : a = b := by
 have hl : a.length = b.length := by
  by_cases h1 : a.length < b.length
  ·have := lv_lt_of_length ha hb nb h1; omega
  ·by_cases h2 : b.length < a.length
   ·have := lv_lt_of_length hb ha na h2; omega
   ·omega
 clear na nb
 induction a generalizing b with
 | nil => exact (List.eq_nil_of_length_eq_zero hl.symm).symm
 | cons x xs ih =>
  match b, hl with
  | y :: ys, hl =>
   simp only [lv] at h
   have h1 := LB_head ha
   have h2 := LB_head hb
   have e : x = y := by omega
   rw [e, ih (LB_tail ha) (LB_tail hb) (by omega) (by simpa using hl)]

theorem LB_set {zs : List Int} (h : LB zs) (k : Nat) {z : Int} (hz : 0 ≤ z ∧ z < 4294967296) : LB (zs.set k z) := by
 intro i
 rw [List.getD_eq_getElem?_getD, List.getElem?_set]
 by_cases hk : k = i
 ·subst hk
  by_cases hl : k < zs.length <;> simp [hl, hz]
 ·have := h i
  simpa [hk, List.getD_eq_getElem?_getD] using this

theorem getD_set (zs : List Int) (k i : Nat) (z : Int) (hk : k < zs.length) : (zs.set k z).getD i 0 = if i = k then z else zs.getD i 0 := by
 rw [List.getD_eq_getElem?_getD, List.getElem?_set]
 by_cases h : k = i
 ·subst h; simp [hk]
 ·have h' : ¬ i = k := fun e => h e.symm
  simp [h, h', List.getD_eq_getElem?_getD]

theorem lv_set (zs : List Int) (k : Nat) (z : Int) (h : k < zs.length) : lv (zs.set k z) = lv zs + bp k * (z - zs.getD k 0) := by
 induction zs generalizing k with
 | nil => simp at h
 | cons x xs ih =>
  cases k with
  | zero => simp [lv, bp]; omega
  | succ k =>
   have := ih k (by simpa using h)
   simp only [List.set_cons_succ, lv, this, bp, List.getD_cons_succ]
   rw [Int.mul_add, Int.mul_assoc]; omega

theorem take_set_ge (zs : List Int) (k i : Nat) (z : Int) (h : i ≤ k) : (zs.set k z).take i = zs.take i := by
 rw [List.take_set_of_le h]

theorem drop_set_lt (zs : List Int) (k i : Nat) (z : Int) (h : k < i) : (zs.set k z).drop i = zs.drop i := by
 rw [List.drop_set_of_lt h]

theorem lv_replicate (n : Nat) : lv (List.replicate n 0) = 0 := by
 induction n with
 | zero => rfl
 | succ n ih => simp only [List.replicate_succ, lv, ih]; rfl

theorem LB_replicate (n : Nat) : LB (List.replicate n 0) := LB_mem fun z hz => by
 rw [List.eq_of_mem_replicate hz]; decide

end Go.Proofs.Ytcnllfnikajddaa.Limbs

/- The leaves: one limb, its sums, orders. Conditions: the slices hold limbs. -/
namespace Go.Proofs.Ytcnllfnikajddaa
open Go.RowKit Limbs

def Lim (w : World) (v : Value) (zs : List Int) : Prop :=
 ∃ ao cap, v = .slice ao zs.length cap ∧ zs.length ≤ cap ∧ zs.length ≤ 1000000 ∧ LB zs ∧
  (0 < zs.length → ∃ b off, ao = some ⟨b, off, none⟩ ∧ b < w.heap.size ∧ ∀ i, i < zs.length → w.cell? ⟨b, off + i, none⟩ = some (.int .u32 (zs.getD i 0)))

theorem Lim.below {B : Nat} {w w' : World} {v : Value} {zs : List Int} (h : Lim w v zs) (hb : Below B w w') (hB : w.heap.size ≤ B) : Lim w' v zs := by
 obtain ⟨ao, cap, hv, h1, h2, h3, h4⟩ := h
 refine ⟨ao, cap, hv, h1, h2, h3, fun h0 => ?_⟩
 obtain ⟨b, off, e, hlt, hc⟩ := h4 h0
 exact ⟨b, off, e, Nat.lt_of_lt_of_le hlt hb.size, fun i hi => (hb.cell (p := ⟨b, off + i, none⟩) (Nat.lt_of_lt_of_le hlt hB)).trans (hc i hi)⟩

set_option maxHeartbeats 400000 in
theorem limb_any (w : World) (v : Value) (zs : List Int) (i : Int) (h : Lim w v zs) (h0 : 0 ≤ i) (h1 : i ≤ 2000000) :
  Calls Try.prog 73 #[v, .int .i64 i] w fun e w' => e = .returned (.int .u32 (zs.getD i.toNat 0)) ∧ w' = w := by
 obtain ⟨ao, cap, rfl, hcap, hlen, hlb, hc⟩ := h
 obtain ⟨k, rfl⟩ := Int.eq_ofNat_of_zero_le h0
 rw [Int.toNat_natCast]
 by_cases hk : k < zs.length
 ·obtain ⟨b, off, rfl, hb, hc⟩ := hc (by omega)
  have hck := hc k hk
  clear hc
  generalize zs.getD k 0 = z at *
  go_enter Try.func73, Try.ntmps73
  go_wp2
  go_ret
  exact ⟨rfl, rfl⟩
 ·have hz : zs.getD k 0 = 0 := by simp [List.getD_eq_getElem?_getD, List.getElem?_eq_none (Nat.le_of_not_lt hk)]
  clear hc
  rw [hz]; clear hz
  go_enter Try.func73, Try.ntmps73
  go_wp2
  go_ret
  exact ⟨rfl, rfl⟩

def cmpI (a b : Int) : Int := if a < b then -1 else if b < a then 1 else 0

theorem cmp_int (x y : Int) (w : World) :
  Calls Try.prog 77 #[.int .i64 x, .int .i64 y] w fun e w' => e = .returned (.int .i64 (cmpI x y)) ∧ w' = w := by
 unfold cmpI
 by_cases h1 : x < y
 ·rw [if_pos h1]
  go_enter Try.func77, Try.ntmps77
  go_wp2
  go_ret
  exact ⟨rfl, rfl⟩
 ·rw [if_neg h1]
  by_cases h2 : y < x
  ·rw [if_pos h2]
   go_enter Try.func77, Try.ntmps77
   go_wp2
   go_ret
   exact ⟨rfl, rfl⟩
  ·rw [if_neg h2]
   obtain rfl : x = y := by omega
   go_enter Try.func77, Try.ntmps77
   go_wp2
   go_ret
   exact ⟨rfl, rfl⟩

theorem cmp_u32 (x y : Int) (w : World) :
  Calls Try.prog 78 #[.int .u32 x, .int .u32 y] w fun e w' => e = .returned (.int .i64 (cmpI x y)) ∧ w' = w := by
 unfold cmpI
 by_cases h1 : x < y
 ·rw [if_pos h1]
  go_enter Try.func78, Try.ntmps78
  go_wp2
  go_ret
  exact ⟨rfl, rfl⟩
 ·rw [if_neg h1]
  by_cases h2 : y < x
  ·rw [if_pos h2]
   go_enter Try.func78, Try.ntmps78
   go_wp2
   go_ret
   exact ⟨rfl, rfl⟩
  ·rw [if_neg h2]
   obtain rfl : x = y := by omega
   go_enter Try.func78, Try.ntmps78
   go_wp2
   go_ret
   exact ⟨rfl, rfl⟩

theorem ret_tup2 {k l : IntKind} {a b c d : Int} (h : a = b) (g : c = d) : Ending.returned (.tuple #[.int k a, .int l c]) = .returned (.tuple #[.int k b, .int l d]) := by rw [h, g]

theorem add32 (x y c : Int) (w : World) (hx : 0 ≤ x ∧ x < 4294967296) (hy : 0 ≤ y ∧ y < 4294967296) (hc : 0 ≤ c ∧ c ≤ 1) :
  Calls Try.prog 72 #[.int .u32 x, .int .u32 y, .int .u32 c] w fun e w' => e = .returned (.tuple #[.int .u32 ((x + y + c) % 4294967296), .int .u32 ((x + y + c) / 4294967296)]) ∧ w' = w := by
 obtain ⟨_, _⟩ := hx; obtain ⟨_, _⟩ := hy; obtain ⟨_, _⟩ := hc
 go_enter Try.func72, Try.ntmps72
 go_wp2
 go_ret2
 exact ⟨ret_tup2 (by omega) (by omega), rfl⟩

def bor (x y : Int) : Int := if x < y then 1 else 0

theorem bit_cases (xb yb db : Nat) (hx : xb ≤ 1) (hy : yb ≤ 1) (hd : db ≤ 1) :
  (((1 ^^^ xb) &&& yb) ||| ((1 ^^^ (xb ^^^ yb)) &&& db)) = if xb = yb then db else yb := by
 rcases (by omega : xb = 0 ∨ xb = 1) with rfl | rfl <;> rcases (by omega : yb = 0 ∨ yb = 1) with rfl | rfl <;> rcases (by omega : db = 0 ∨ db = 1) with rfl | rfl <;> decide

theorem sub32_bits (x y c : Int) (hx : 0 ≤ x ∧ x < 4294967296) (hy : 0 ≤ y ∧ y < 4294967296) (hc : 0 ≤ c ∧ c ≤ 1) :
  bits BinOp.or IntKind.u32 (bits BinOp.and IntKind.u32 (bits BinOp.xor IntKind.u32 IntKind.u32.max x) y) (bits BinOp.and IntKind.u32 (bits BinOp.xor IntKind.u32 IntKind.u32.max (bits BinOp.xor IntKind.u32 x y)) ((x - y - c) % 4294967296)) / 2147483648 = bor x (y + c) := by
 have hm : IntKind.u32.max = ((4294967295 : Nat) : Int) := by decide
 obtain ⟨d, hd⟩ : ∃ d : Nat, (x - y - c) % 4294967296 = (d : Int) := Int.eq_ofNat_of_zero_le (by omega)
 obtain ⟨x, rfl⟩ := Int.eq_ofNat_of_zero_le hx.1
 obtain ⟨y, rfl⟩ := Int.eq_ofNat_of_zero_le hy.1
 have hx' : x < 4294967296 := by omega
 have hy' : y < 4294967296 := by omega
 have hd' : d < 4294967296 := by omega
 have l1 : 4294967295 ^^^ x < 4294967296 := Nat.xor_lt_two_pow (n := 32) (by decide) hx'
 have l2 : x ^^^ y < 4294967296 := Nat.xor_lt_two_pow (n := 32) hx' hy'
 have l3 : 4294967295 ^^^ (x ^^^ y) < 4294967296 := Nat.xor_lt_two_pow (n := 32) (by decide) l2
 have l4 : (4294967295 ^^^ x) &&& y < 4294967296 := Nat.and_lt_two_pow (n := 32) _ hy'
 have l5 : (4294967295 ^^^ (x ^^^ y)) &&& d < 4294967296 := Nat.and_lt_two_pow (n := 32) _ hd'
 rw [hm, hd, u32_xor_nat _ _ (by decide) hx', u32_and_nat _ _ l1 hy', u32_xor_nat _ _ hx' hy', u32_xor_nat _ _ (by decide) l2, u32_and_nat _ _ l3 hd', u32_or_nat _ _ l4 l5]
 have e : (((4294967295 ^^^ x) &&& y) ||| ((4294967295 ^^^ (x ^^^ y)) &&& d)) / 2147483648 = if x / 2147483648 = y / 2147483648 then d / 2147483648 else y / 2147483648 := by
  rw [show (2147483648 : Nat) = 2 ^ 31 from by decide]
  simp only [← Nat.shiftRight_eq_div_pow, Nat.shiftRight_or_distrib, Nat.shiftRight_and_distrib, Nat.shiftRight_xor_distrib]
  rw [show (4294967295 : Nat) >>> 31 = 1 from by decide]
  simp only [Nat.shiftRight_eq_div_pow]
  exact bit_cases _ _ _ (by omega) (by omega) (by omega)
 have e2 : ((((4294967295 ^^^ x) &&& y) ||| ((4294967295 ^^^ (x ^^^ y)) &&& d) : Nat) : Int) / 2147483648 = ((if x / 2147483648 = y / 2147483648 then d / 2147483648 else y / 2147483648 : Nat) : Int) := by rw [← e]; rfl
 rw [e2]
 unfold bor
 split <;> split <;> omega

theorem sub32 (x y c : Int) (w : World) (hx : 0 ≤ x ∧ x < 4294967296) (hy : 0 ≤ y ∧ y < 4294967296) (hc : 0 ≤ c ∧ c ≤ 1) :
  Calls Try.prog 74 #[.int .u32 x, .int .u32 y, .int .u32 c] w fun e w' => e = .returned (.tuple #[.int .u32 ((x - y - c) % 4294967296), .int .u32 (bor x (y + c))]) ∧ w' = w := by
 have HB : Hid _ := sub32_bits x y c hx hy hc
 obtain ⟨_, _⟩ := hx; obtain ⟨_, _⟩ := hy; obtain ⟨_, _⟩ := hc
 have hs : IntKind.u32.signed = false := rfl
 go_enter Try.func74, Try.ntmps74
 go_wp2
 go_ret2
 exact ⟨ret_tup2 (by omega) HB.out, rfl⟩

end Go.Proofs.Ytcnllfnikajddaa

/- Limbs without noughts behind; the order of limbs. -/
namespace Go.Proofs.Ytcnllfnikajddaa
open Go.RowKit Limbs

def lenOf : Value → Nat | .slice _ n _ => n | _ => 0

theorem Lim.take {w : World} {ao : Option Addr} {cap : Nat} {zs : List Int} (h : Lim w (.slice ao zs.length cap) zs) (n : Nat) (hn : n ≤ zs.length) : Lim w (.slice ao n cap) (zs.take n) := by
 obtain ⟨ao', cap', hv, h1, h2, h3, h4⟩ := h
 simp only [Value.slice.injEq, true_and] at hv
 obtain ⟨rfl, rfl⟩ := hv
 have hl : (zs.take n).length = n := by rw [List.length_take]; omega
 refine ⟨ao, cap, by rw [hl], by omega, by omega, LB_take h3 n, fun h0 => ?_⟩
 obtain ⟨b, off, e, hlt, hc⟩ := h4 (by omega)
 refine ⟨b, off, e, hlt, fun i hi => ?_⟩
 rw [hc i (by omega), getD_take zs n i (by omega)]

theorem nrm_take {zs : List Int} {n : Nat} (hn : n ≤ zs.length) (h : n = 0 ∨ zs.getD (n - 1) 0 ≠ 0) : Nrm (zs.take n) := by
 have hl : (zs.take n).length = n := by rw [List.length_take]; omega
 unfold Nrm
 rw [hl]
 rcases h with h | h
 ·exact .inl h
 ·by_cases h0 : n = 0
  ·exact .inl h0
  ·right
   rw [getD_take zs n (n - 1) (by omega)]
   exact h

theorem lv_take_pred {zs : List Int} {n : Nat} (h0 : 0 < n) (h : zs.getD (n - 1) 0 = 0) : lv (zs.take (n - 1)) = lv (zs.take n) := by
 have := lv_take_succ zs (n - 1)
 rw [show n - 1 + 1 = n by omega, h] at this
 omega

def TrimPost (w : World) (ao : Option Addr) (cap : Nat) (zs : List Int) (e : Ending) (w' : World) : Prop :=
 ∃ m, m ≤ zs.length ∧ e = .returned (.slice ao m cap) ∧ lv (zs.take m) = lv zs ∧ Nrm (zs.take m) ∧ w' = w

set_option maxHeartbeats 400000 in
theorem trim_any (w : World) (ao : Option Addr) (cap : Nat) (zs : List Int) (h : Lim w (.slice ao zs.length cap) zs) :
  Calls Try.prog 45 #[.slice ao zs.length cap] w fun e w' => TrimPost w ao cap zs e w' := by
 obtain ⟨ao', cap', hv, hcap, hlen, hlb, hc⟩ := h
 simp only [Value.slice.injEq, true_and] at hv
 obtain ⟨rfl, rfl⟩ := hv
 go_enter Try.func45, Try.ntmps45
 go_wp2
 go_loop [0] (fun t => ∃ n : Nat, n ≤ zs.length ∧ t = .slice ao n cap ∧ Hid (lv (zs.take n) = lv zs)) (fun t => lenOf t)
 case atStart => exact ⟨zs.length, Nat.le_refl _, rfl, by show lv _ = _; rw [List.take_length]⟩
 case round =>
  obtain ⟨n, hn, rfl, HV⟩ := hrel
  by_cases h0 : n = 0
  ·subst h0
   go_wp2
   go_ret
   exact ⟨0, hn, rfl, HV.out, nrm_take hn (.inl rfl), rfl⟩
  ·obtain ⟨b, off, rfl, hb, hc⟩ := hc (by omega)
   obtain ⟨m, rfl⟩ : ∃ m, n = m + 1 := ⟨n - 1, by omega⟩
   have hcm := hc m (by omega)
   clear hc
   have HG : Hid (zs.getD (m + 1 - 1) 0 = zs.getD m 0) := by show _ = _; rw [Nat.add_sub_cancel]
   have hzb := hlb m
   generalize hz : zs.getD m 0 = z at *
   by_cases hz0 : z = 0
   ·subst hz0
    go_wp2
    go_round
    case rel => exact ⟨m, by omega, rfl, by have := lv_take_pred (zs := zs) (n := m + 1) (by omega) HG.out; rw [Nat.add_sub_cancel] at this; exact this.trans HV.out⟩
    case measure => simp [lenOf]
   ·have hz1 : (z == 0) = false := by simp [hz0]
    go_wp2
    go_ret
    exact ⟨m + 1, hn, rfl, HV.out, nrm_take hn (.inr (by rw [HG.out]; exact hz0)), rfl⟩

theorem cmpI_lt {a b : Int} (h : a < b) : cmpI a b = -1 := by unfold cmpI; rw [if_pos h]
theorem cmpI_gt {a b : Int} (h : b < a) : cmpI a b = 1 := by unfold cmpI; rw [if_neg (by omega), if_pos h]
theorem cmpI_eq {a b : Int} (h : a = b) : cmpI a b = 0 := by unfold cmpI; rw [if_neg (by omega), if_neg (by omega)]

theorem cmp_lengths {a b : List Int} (ha : LB a) (hb : LB b) (na : Nrm a) (nb : Nrm b) (h : a.length ≠ b.length) : cmpI (a.length : Int) (b.length : Int) = cmpI (lv a) (lv b) := by
 by_cases h1 : a.length < b.length
 ·rw [cmpI_lt (by omega), cmpI_lt (lv_lt_of_length ha hb nb h1)]
 ·rw [cmpI_gt (by omega), cmpI_gt (lv_lt_of_length hb ha na (by omega))]

theorem cmp_place {a b : List Int} (ha : LB a) (hb : LB b) (hl : a.length = b.length) {k : Nat} (hk : k < a.length) (hd : a.drop (k + 1) = b.drop (k + 1)) (hx : a.getD k 0 ≠ b.getD k 0) : cmpI (a.getD k 0) (b.getD k 0) = cmpI (lv a) (lv b) := by
 by_cases h1 : a.getD k 0 < b.getD k 0
 ·rw [cmpI_lt h1, cmpI_lt (lv_lt_of_place ha hb hl hk hd h1)]
 ·have h2 : b.getD k 0 < a.getD k 0 := by omega
  rw [cmpI_gt h2, cmpI_gt (lv_lt_of_place hb ha hl.symm (by omega) hd.symm h2)]

theorem drop_step {a b : List Int} (hl : a.length = b.length) {k : Nat} (hk : k < a.length) (hd : a.drop (k + 1) = b.drop (k + 1)) (hx : a.getD k 0 = b.getD k 0) : a.drop k = b.drop k := by
 rw [drop_cons_getD a k hk, drop_cons_getD b k (by omega), hd, hx]

theorem ret_i64 {a b : Int} (h : a = b) : Ending.returned (.int .i64 a) = .returned (.int .i64 b) := by rw [h]

def CmpPost (w : World) (r : Int) (e : Ending) (w' : World) : Prop := e = .returned (.int .i64 r) ∧ Below w.heap.size w w'

theorem below_drewN {B : Nat} {w w' : World} (h : Below B w w') (n : Nat) : Below B w (w'.drewN n) := ⟨h.os, h.tape, h.output, h.size, h.block⟩

set_option maxHeartbeats 400000 in
theorem compareLimbs_any (w : World) (va vb : Value) (a b : List Int) (ha : Lim w va a) (hb : Lim w vb b) (na : Nrm a) (nb : Nrm b) :
  Calls Try.prog 66 #[va, vb] w fun e w' => CmpPost w (cmpI (lv a) (lv b)) e w' := by
 obtain ⟨ao, acap, rfl, hacap, halen, halb, hac⟩ := ha
 obtain ⟨bo, bcap, rfl, hbcap, hblen, hblb, hbc⟩ := hb
 by_cases hl : a.length = b.length
 ·have hne : ((a.length : Int) != (b.length : Int)) = false := by rw [bne_eq_false_iff_eq]; omega
  have HLL : Hid (a.length = b.length) := hl
  clear hl
  go_enter Try.func66, Try.ntmps66
  go_wp2
  go_loopw [19] (fun i wr => ∃ k nq : Nat, k ≤ a.length ∧ i = .int .i64 k ∧ wr = w.drewN nq ∧ Hid (a.drop (a.length - k) = b.drop (a.length - k))) (fun i _ => a.length - (intOf i).toNat)
  case atStart => exact ⟨0, 0, Nat.zero_le _, rfl, by simp [World.drewN_zero], by show _ = _; rw [Nat.sub_zero, List.drop_length, HLL.out, List.drop_length]⟩
  case round =>
   obtain ⟨k, nq, hk, rfl, rfl, HD⟩ := hrel
   by_cases hlt : k < a.length
   ·obtain ⟨ab, aoff, rfl, hab, hac⟩ := hac (by omega)
    obtain ⟨bb, boff, rfl, hbb, hbc⟩ := hbc (by have := HLL.out; omega)
    have hblt : a.length - 1 - k < b.length := by have := HLL.out; omega
    have hca := hac (a.length - 1 - k) (by omega)
    have hcb := hbc (a.length - 1 - k) hblt
    clear hac hbc
    have HE : Hid (∀ h : a.getD (a.length - 1 - k) 0 = b.getD (a.length - 1 - k) 0, a.drop (a.length - (k + 1)) = b.drop (a.length - (k + 1))) := fun h => by
     have hd := HD.out
     rw [show a.length - k = a.length - 1 - k + 1 by omega] at hd
     rw [show a.length - (k + 1) = a.length - 1 - k by omega]
     exact drop_step HLL.out (by omega) hd h
    have HN : Hid (∀ h : a.getD (a.length - 1 - k) 0 ≠ b.getD (a.length - 1 - k) 0, cmpI (a.getD (a.length - 1 - k) 0) (b.getD (a.length - 1 - k) 0) = cmpI (lv a) (lv b)) := fun h => by
     have hd := HD.out
     rw [show a.length - k = a.length - 1 - k + 1 by omega] at hd
     exact cmp_place halb hblb HLL.out (by omega) hd h
    generalize a.getD (a.length - 1 - k) 0 = x at *
    generalize b.getD (a.length - 1 - k) 0 = y at *
    by_cases hxy : x = y
    ·subst hxy
     have HE' : Hid (a.drop (a.length - (k + 1)) = b.drop (a.length - (k + 1))) := HE.out rfl
     clear HE HN
     go_wp2
     go_quiet (fail)
     go_wp2
     go_roundw
     case rel => exact ⟨k + 1, _, by omega, by go_num, rfl, HE'⟩
     case measure => simp [intOf]; omega
    ·have hb1 : (x != y) = true := by rw [bne_iff_ne]; exact hxy
     have HC : Hid _ := HN.out hxy
     clear HN HE
     have HX : Hid (x ≠ y) := hxy
     clear hxy
     have hpa : a.length - 1 - k < a.length := by omega
     obtain ⟨p, hp⟩ : ∃ p, p = a.length - 1 - k := ⟨_, rfl⟩
     have hP : (a.length : Int) - 1 - (k : Int) = (p : Int) := by omega
     rw [← hp] at hca hcb hpa hblt
     clear hp
     go_wp2
     go_quiet (fail)
     go_wp2
     go_region_held3 (fun w' => w'.cell? ⟨ab, aoff + p, none⟩ = some (.int .u32 x) ∧ w'.cell? ⟨bb, boff + p, none⟩ = some (.int .u32 y)) (go_keep) ((go_at_call 78; refine (cmp_u32 _ _ _).mono ?_; rintro e w' ⟨rfl, rfl⟩))
     go_wp2
     go_ret
     exact ⟨ret_i64 HC.out, below_drewN (Below.refl _ _) _⟩
   ·have HK : Hid (cmpI (lv a) (lv b) = 0) := by
     have hd := HD.out
     rw [show a.length - k = 0 by omega, List.drop_zero, List.drop_zero] at hd
     show _ = _
     rw [hd]; exact cmpI_eq rfl
    go_wp2
    go_ret
    exact ⟨ret_i64 HK.out.symm, below_drewN (Below.refl _ _) _⟩
 ·have HC : Hid _ := cmp_lengths halb hblb na nb hl
  have hne : ((a.length : Int) != (b.length : Int)) = true := by rw [bne_iff_ne]; omega
  clear hac hbc
  go_enter Try.func66, Try.ntmps66
  go_wp2_with (go_at_call 77; refine (cmp_int _ _ _).mono ?_; rintro e w' ⟨rfl, rfl⟩)
  go_ret
  exact ⟨ret_i64 HC.out, Below.refl _ _⟩

end Go.Proofs.Ytcnllfnikajddaa
