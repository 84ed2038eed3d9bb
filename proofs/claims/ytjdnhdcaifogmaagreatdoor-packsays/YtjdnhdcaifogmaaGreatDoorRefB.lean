/- Groups of nine decimal digits. -/
import Derived.Test.YtjdnhdcaifogmaaGreatDoorDivOne
import Derived.Deep.AppendLies
import Derived.Test.YtjdnhdcaifogmaaGreatDoorBpL

namespace Go.Proofs.YtjdnhdcaifogmaaGreatDoor
open Go.RowKit Limbs

def gv : List Int → Int
 | [] => 0
 | x :: xs => x + 1000000000 * gv xs

def gp : Nat → Int
 | 0 => 1
 | n + 1 => 1000000000 * gp n

theorem gp_pos (n : Nat) : 0 < gp n := by
 induction n with
 | zero => simp [gp]
 | succ n ih => simp only [gp]; omega

theorem gp_mono {m n : Nat} (h : m ≤ n) : gp m ≤ gp n := by
 induction n with
 | zero => rw [Nat.le_zero.1 h]; exact Int.le_refl _
 | succ n ih =>
  by_cases e : m = n + 1
  ·rw [e]; exact Int.le_refl _
  ·have := ih (by omega); have := gp_pos n; simp only [gp]; omega

theorem gv_append (xs : List Int) (r : Int) : gv (xs ++ [r]) = gv xs + gp xs.length * r := by
 induction xs with
 | nil => simp [gv, gp]
 | cons x xs ih => simp only [List.cons_append, gv, ih, List.length_cons, gp]; rw [Int.mul_add, Int.mul_assoc]; omega

theorem bp_le_gp (n : Nat) : bp n ≤ gp (2 * n) := by
 induction n with
 | zero => simp [bp, gp]
 | succ n ih => rw [show 2 * (n + 1) = 2 * n + 1 + 1 by omega]; simp only [bp, gp]; have := gp_pos (2 * n); omega

theorem Row.take {w : World} {g : Nat} {zs : List Int} (h : Row w g zs) (n : Nat) : Row w g (zs.take n) := by
 obtain ⟨h1, h2, h3⟩ := h
 refine ⟨h1, LB_take h2 n, fun j hj => ?_⟩
 rw [List.length_take] at hj
 rw [getD_take zs n j (by omega)]
 exact h3 j (by omega)

theorem Row.kept {w w' : World} {g : Nat} {zs : List Int} {r : Option Nat} (h : Row w g zs) (hg : w.grownBy w' r) (hne : r ≠ some g) : Row w' g zs := by
 obtain ⟨h1, h2, h3⟩ := h
 have hb : w'.heap[g]? = w.heap[g]? := hg.block g h1 (fun e => hne e.symm)
 exact ⟨Nat.lt_of_lt_of_le h1 hg.size, h2, fun j hj => ⟨(World.cell?_of_block (a := ⟨g, j, none⟩) hb).trans (h3 j hj).1, (World.frozen?_of_block (a := ⟨g, j, none⟩) hb).trans (h3 j hj).2⟩⟩

def GrpInv (w wr : World) (zs : List Int) (v : Value) (gs ys : List Int) : Prop :=
 Row wr w.heap.size ys ∧ Nrm ys ∧ ys.length ≤ zs.length ∧ wr.ownsRow (w.heap.size + 1) 3 1 v gs.length (gs.map (Value.int .i64)) ∧ Below w.heap.size w wr ∧
  lv zs = gv gs + gp gs.length * lv ys ∧ (∀ g ∈ gs, 0 ≤ g ∧ g < 1000000000) ∧ (lv ys = 0 → gs.length = 0 ∨ gs.getD (gs.length - 1) 0 ≠ 0) ∧ lenOf v = gs.length ∧ w.heap.size < wr.heap.size ∧ 0 ≤ gv gs

theorem lenOf_owns {w : World} {base n : Nat} {e : TypeId} {v : Value} {xs : List Value} (h : w.ownsRow base e 1 v n xs) : lenOf v = n := by
 rcases h.2 with ⟨rfl, h0⟩ | ⟨g, cap, cur, rfl, _⟩
 ·simp [lenOf, h0]
 ·rfl

theorem GrpInv.few {w wr : World} {zs : List Int} {v : Value} {gs ys : List Int} (h : GrpInv w wr zs v gs ys) (hlb : LB zs) (hy : ys.length ≠ 0) : gs.length < 2 * zs.length := by
 obtain ⟨h1, h2, h3, h4, h5, h6, h7, h8, h9, h10, h11⟩ := h
 have e1 := lv_pos h1.2.1 h2 hy
 have e2 := lv_lt hlb
 have e3 := bp_le_gp zs.length
 have e4 := gp_pos gs.length
 have e5 : gp gs.length * 1 ≤ gp gs.length * lv ys := Int.mul_le_mul_of_nonneg_left (by omega) (by omega)
 by_cases hk : gs.length < 2 * zs.length
 ·exact hk
 ·have := gp_mono (m := 2 * zs.length) (n := gs.length) (by omega)
  omega

theorem GrpInv.step {w wr w1 w2 : World} {zs : List Int} {v v' : Value} {gs ys qs : List Int} {r : Int} {m : Nat} (h : GrpInv w wr zs v gs ys) (hr0 : 0 ≤ r) (hr1 : r < 1000000000)
  (hq : qs.length = ys.length) (hrow : Row w1 w.heap.size qs) (hg1 : wr.grownBy w1 (some w.heap.size)) (hlv : lv ys = 1000000000 * lv qs + r) (hpos : lv ys ≠ 0)
  (hown : w2.ownsRow (w.heap.size + 1) 3 1 v' (gs.length + 1) (gs.map (Value.int .i64) ++ [.int .i64 r])) (hg2 : (w1.alloc (.cells #[.int .i64 r] 3)).grownBy w2 v.ownBlock)
  (hm : m ≤ qs.length) (hlm : lv (qs.take m) = lv qs) (hnm : Nrm (qs.take m)) : GrpInv w w2 zs v' (gs ++ [r]) (qs.take m) := by
 obtain ⟨h1, h2, h3, h4, h5, h6, h7, h8, h9, h10, h11⟩ := h
 have hne : v.ownBlock ≠ some w.heap.size := fun e => by have := h4.lt _ e; omega
 have hbase : ∀ k, v.ownBlock = some k → w.heap.size ≤ k := fun k e => by have := h4.lt _ e; omega
 have b1 := h5.grown hg1 (by omega) (fun k hk => by simp at hk; omega)
 have b2 := b1.alloc b1.size (.cells #[.int .i64 r] 3)
 have b3 := b2.grown hg2 (by simp; have := b1.size; omega) hbase
 refine ⟨((hrow.kept (World.grownBy_alloc w1 _ none) (by simp)).kept hg2 hne).take m, hnm, by rw [List.length_take]; omega, ?_, b3, ?_, ?_, ?_, ?_, ?_, ?_⟩
 ·rw [List.length_append, List.map_append]; exact hown
 ·rw [gv_append, List.length_append, hlm, h6, hlv]
  simp only [List.length_singleton, gp]
  rw [Int.mul_add]
  have e : gp gs.length * (1000000000 * lv qs) = 1000000000 * gp gs.length * lv qs := by rw [Int.mul_left_comm, Int.mul_assoc]
  rw [e]
  omega
 ·intro g hg
  rcases List.mem_append.1 hg with hg | hg
  ·exact h7 g hg
  ·rw [List.mem_singleton.1 hg]; exact ⟨hr0, hr1⟩
 ·intro h0
  right
  rw [hlm] at h0
  rw [List.length_append, List.length_singleton, Nat.add_sub_cancel, List.getD_eq_getElem?_getD, List.getElem?_append_right (Nat.le_refl _), Nat.sub_self]
  simp
  omega
 ·rw [lenOf_owns hown]; simp
 ·have := b1.size; have := hg2.size; simp at this; have := h10; have := hg1.size; omega
 ·rw [gv_append]
  have := Int.mul_nonneg (show 0 ≤ gp gs.length from by have := gp_pos gs.length; omega) hr0
  omega

def GrpPost (w : World) (zs : List Int) (e : Ending) (w' : World) : Prop :=
 ∃ v gs, e = .returned v ∧ w'.ownsRow (w.heap.size + 1) 3 1 v gs.length (gs.map (Value.int .i64)) ∧ Below w.heap.size w w' ∧ lv zs = gv gs ∧ (∀ g ∈ gs, 0 ≤ g ∧ g < 1000000000) ∧ (gs.length = 0 ∨ gs.getD (gs.length - 1) 0 ≠ 0) ∧ gs.length ≤ 2 * zs.length

theorem Tryz.infoInt : (Tryz.prog.info? 3).map (fun i => (i.zero, i.size, i.bytes)) = some (some (.int .i64 0), 1, 8) := by kernel_rfl

end Go.Proofs.YtjdnhdcaifogmaaGreatDoor

/- Rows that one more is put to. -/
namespace Go.Proofs.YtjdnhdcaifogmaaGreatDoor
open Go.RowKit Limbs

theorem below_app {wr w3 : World} {B n : Nat} {t : TypeId} {v x : Value} {xs : List Value} (hown : wr.ownsRow B t 1 v n xs) (hB : B ≤ wr.heap.size) (hg : (wr.alloc (.cells #[x] t)).grownBy w3 v.ownBlock) : Below B wr w3 :=
 ((Below.refl _ _).alloc hB _).grown hg (by simp; omega) (fun k hk => (hown.lt k hk).1)

theorem Lim.owns {w : World} {base n : Nat} {v : Value} {ls : List Int} (h : w.ownsRow base 143 1 v n (ls.map (Value.int .u32))) (hd : LB ls) (hl : ls.length ≤ 1000000) : Lim w v ls := by
 have hn : n = ls.length := by have := h.1; rw [List.length_map] at this; omega
 subst hn
 rcases h.2 with ⟨rfl, h0⟩ | ⟨g, cap, cur, rfl, hb, hg, hc, hm, hs, ht⟩
 ·have : ls = [] := List.eq_nil_of_length_eq_zero h0
  subst this
  exact ⟨none, 0, rfl, Nat.le_refl _, by simp, hd, fun h => absurd h (by simp)⟩
 ·refine ⟨_, cap, rfl, hc, hl, hd, fun h0 => ⟨g, 0, rfl, heap_lt hg, fun i hi => ?_⟩⟩
  have := h.cellAt i (by omega)
  rw [Nat.zero_add, this]
  simp [List.getD_eq_getElem?_getD, hi]

theorem LB_snoc {ls : List Int} (h : LB ls) {r : Int} (hr : 0 ≤ r ∧ r < 4294967296) : LB (ls ++ [r]) := by
 intro i
 rw [List.getD_eq_getElem?_getD]
 rcases Nat.lt_trichotomy i ls.length with hi | hi | hi
 ·rw [List.getElem?_append_left hi, ← List.getD_eq_getElem?_getD]; exact h i
 ·subst hi; simp; omega
 ·rw [List.getElem?_eq_none (by simp; omega)]; simp

theorem lv_snoc (ls : List Int) (r : Int) : lv (ls ++ [r]) = lv ls + bp ls.length * r := by
 rw [lv_append]; simp [lv]

end Go.Proofs.YtjdnhdcaifogmaaGreatDoor

/- Plain arithmetic of the reference's digits: numbers to the base 10000, the lowest first. No Go in it. -/
namespace Go.Proofs.YtjdnhdcaifogmaaGreatDoor.Digs
open Limbs

def dv : List Int → Int
 | [] => 0
 | x :: xs => x + 10000 * dv xs

def DB (zs : List Int) : Prop := ∀ i : Nat, 0 ≤ zs.getD i 0 ∧ zs.getD i 0 < 10000

def dp : Nat → Int
 | 0 => 1
 | n + 1 => 10000 * dp n

theorem dp_pos (n : Nat) : 0 < dp n := by
 induction n with
 | zero => simp [dp]
 | succ n ih => simp only [dp]; omega

theorem dp_add (m n : Nat) : dp (m + n) = dp m * dp n := by
 induction m with
 | zero => simp [dp]
 | succ m ih => rw [Nat.succ_add]; simp only [dp]; rw [ih, Int.mul_assoc]

theorem dp_mono {m n : Nat} (h : m ≤ n) : dp m ≤ dp n := by
 obtain ⟨k, rfl⟩ := Nat.exists_eq_add_of_le h
 rw [dp_add]
 have h1 := dp_pos m
 have h2 := dp_pos k
 have : dp m * 1 ≤ dp m * dp k := Int.mul_le_mul_of_nonneg_left (by omega) (by omega)
 omega

theorem DB_nil : DB [] := by intro i; simp
theorem DB_tail {x : Int} {xs : List Int} (h : DB (x :: xs)) : DB xs := fun i => by simpa using h (i + 1)
theorem DB_head {x : Int} {xs : List Int} (h : DB (x :: xs)) : 0 ≤ x ∧ x < 10000 := by simpa using h 0
theorem DB_cons {x : Int} {xs : List Int} (hx : 0 ≤ x ∧ x < 10000) (h : DB xs) : DB (x :: xs) := by
 intro i
 cases i with
 | zero => simpa using hx
 | succ i => simpa using h i

theorem DB_mem {zs : List Int} (h : ∀ z ∈ zs, 0 ≤ z ∧ z < 10000) : DB zs := by
 induction zs with
 | nil => exact DB_nil
 | cons x xs ih => exact DB_cons (h x (by simp)) (ih fun z hz => h z (by simp [hz]))

theorem DB_take {zs : List Int} (h : DB zs) (k : Nat) : DB (zs.take k) := by
 intro i
 have := h i
 by_cases hk : i < k
 ·simpa [List.getD_eq_getElem?_getD, List.getElem?_take, hk] using this
 ·simp [List.getD_eq_getElem?_getD, List.getElem?_take, hk]

theorem DB_drop {zs : List Int} (h : DB zs) (k : Nat) : DB (zs.drop k) := by
 intro i
 have := h (k + i)
 simpa [List.getD_eq_getElem?_getD, List.getElem?_drop] using this

theorem dv_nonneg {zs : List Int} (h : DB zs) : 0 ≤ dv zs := by
 induction zs with
 | nil => simp [dv]
 | cons x xs ih => have := ih (DB_tail h); have := DB_head h; simp only [dv]; omega

theorem dv_lt {zs : List Int} (h : DB zs) : dv zs < dp zs.length := by
 induction zs with
 | nil => simp [dv, dp]
 | cons x xs ih => have := ih (DB_tail h); have := DB_head h; simp only [dv, List.length_cons, dp]; omega

theorem dv_append (xs ys : List Int) : dv (xs ++ ys) = dv xs + dp xs.length * dv ys := by
 induction xs with
 | nil => simp [dv, dp]
 | cons x xs ih => simp only [List.cons_append, dv, ih, List.length_cons, dp]; rw [Int.mul_add, Int.mul_assoc]; omega

theorem dv_take_succ (zs : List Int) (k : Nat) : dv (zs.take (k + 1)) = dv (zs.take k) + dp k * zs.getD k 0 := by
 by_cases h : k < zs.length
 ·rw [List.take_succ_eq_append_getElem h, dv_append]
  simp [dv, List.length_take, Nat.min_eq_left (Nat.le_of_lt h), List.getD_eq_getElem?_getD, h]
 ·rw [List.take_of_length_le (by omega), List.take_of_length_le (by omega)]
  simp [List.getD_eq_getElem?_getD, List.getElem?_eq_none (Nat.le_of_not_lt h)]

theorem dv_split (zs : List Int) (k : Nat) (h : k ≤ zs.length) : dv zs = dv (zs.take k) + dp k * dv (zs.drop k) := by
 have := dv_append (zs.take k) (zs.drop k)
 rw [List.take_append_drop, List.length_take, Nat.min_eq_left h] at this
 exact this

theorem dv_take_ge (zs : List Int) {k : Nat} (h : zs.length ≤ k) : dv (zs.take k) = dv zs := by
 rw [List.take_of_length_le h]

theorem dv_take_lt {zs : List Int} (h : DB zs) (k : Nat) : dv (zs.take k) < dp k := by
 have h1 := dv_lt (DB_take h k)
 have h2 : dp (zs.take k).length ≤ dp k := dp_mono (List.length_take_le k zs)
 omega

theorem dv_take_nonneg {zs : List Int} (h : DB zs) (k : Nat) : 0 ≤ dv (zs.take k) := dv_nonneg (DB_take h k)

theorem dv_lt_of_place {a b : List Int} (ha : DB a) (hb : DB b) (hl : a.length = b.length) {k : Nat} (hk : k < a.length) (hd : a.drop (k + 1) = b.drop (k + 1)) (hx : a.getD k 0 < b.getD k 0) : dv a < dv b := by
 have e1 := dv_split a k (by omega)
 have e2 := dv_split b k (by omega)
 rw [drop_cons_getD a k hk] at e1
 rw [drop_cons_getD b k (by omega), ← hd] at e2
 simp only [dv] at e1 e2
 have h1 := dv_take_lt ha k
 have h2 := dv_take_nonneg hb k
 generalize dv (a.drop (k + 1)) = t at e1 e2
 have hp := dp_pos k
 have h3 : dp k * (a.getD k 0 + 10000 * t + 1) ≤ dp k * (b.getD k 0 + 10000 * t) := Int.mul_le_mul_of_nonneg_left (by omega) (by omega)
 rw [Int.mul_add, Int.mul_one] at h3
 omega

theorem nrm_low10 {zs : List Int} (h : DB zs) (hn : Nrm zs) (h0 : 0 < zs.length) : dp (zs.length - 1) ≤ dv zs := by
 have e := dv_split zs (zs.length - 1) (by omega)
 rw [drop_cons_getD zs (zs.length - 1) (by omega)] at e
 have hd : zs.drop (zs.length - 1 + 1) = [] := List.drop_eq_nil_of_le (by omega)
 rw [hd] at e
 simp only [dv] at e
 have h1 := dv_take_nonneg h (zs.length - 1)
 have h2 := h (zs.length - 1)
 have h3 : zs.getD (zs.length - 1) 0 ≠ 0 := by rcases hn with hn | hn; omega; exact hn
 have hp := dp_pos (zs.length - 1)
 have h4 : dp (zs.length - 1) * 1 ≤ dp (zs.length - 1) * (zs.getD (zs.length - 1) 0 + 10000 * 0) := Int.mul_le_mul_of_nonneg_left (by omega) (by omega)
 omega

theorem dv_lt_of_length {a b : List Int} (ha : DB a) (hb : DB b) (hn : Nrm b) (hl : a.length < b.length) : dv a < dv b := by
 have h1 := dv_lt ha
 have h2 := nrm_low10 hb hn (by omega)
 have h3 : dp a.length ≤ dp (b.length - 1) := dp_mono (by omega)
 omega

theorem dv_zero_iff {zs : List Int} (h : DB zs) (hn : Nrm zs) : dv zs = 0 ↔ zs.length = 0 := by
 constructor
 ·intro h0
  by_cases hl : zs.length = 0
  ·exact hl
  ·have h1 := nrm_low10 h hn (by omega)
   have := dp_pos (zs.length - 1)
   omega
 ·intro hl
  rw [List.eq_nil_of_length_eq_zero hl]; rfl

theorem len10_le_of_lt {zs : List Int} (h : DB zs) (hn : Nrm zs) {n : Nat} (hlt : dv zs < dp n) : zs.length ≤ n := by
 by_cases hl : zs.length ≤ n
 ·exact hl
 ·have h1 := nrm_low10 h hn (by omega)
  have h2 : dp n ≤ dp (zs.length - 1) := dp_mono (by omega)
  omega

theorem DB_set {zs : List Int} (h : DB zs) (k : Nat) {z : Int} (hz : 0 ≤ z ∧ z < 10000) : DB (zs.set k z) := by
 intro i
 rw [List.getD_eq_getElem?_getD, List.getElem?_set]
 by_cases hk : k = i
 ·subst hk
  by_cases hl : k < zs.length <;> simp [hl, hz]
 ·have := h i
  simpa [hk, List.getD_eq_getElem?_getD] using this

theorem dv_set (zs : List Int) (k : Nat) (z : Int) (h : k < zs.length) : dv (zs.set k z) = dv zs + dp k * (z - zs.getD k 0) := by
 induction zs generalizing k with
 | nil => simp at h
 | cons x xs ih =>
  cases k with
  | zero => simp [dv, dp]; omega
  | succ k =>
   have := ih k (by simpa using h)
   simp only [List.set_cons_succ, dv, this, dp, List.getD_cons_succ]
   rw [Int.mul_add, Int.mul_assoc]; omega

theorem dv_replicate (n : Nat) : dv (List.replicate n 0) = 0 := by
 induction n with
 | zero => rfl
 | succ n ih => simp only [List.replicate_succ, dv, ih]; rfl

theorem DB_replicate (n : Nat) : DB (List.replicate n 0) := DB_mem fun z hz => by
 rw [List.eq_of_mem_replicate hz]; decide

end Go.Proofs.YtjdnhdcaifogmaaGreatDoor.Digs

/- The reference's numbers: digits to the base 10000 in memory; noughts behind are taken off. -/
namespace Go.Proofs.YtjdnhdcaifogmaaGreatDoor
open Go.RowKit Limbs Digs

def Dig (w : World) (v : Value) (ds : List Int) : Prop :=
 ∃ ao cap, v = .slice ao ds.length cap ∧ ds.length ≤ cap ∧ ds.length ≤ 1000000000000 ∧ DB ds ∧
  (0 < ds.length → ∃ b off cur fz, ao = some ⟨b, off, none⟩ ∧ w.heap[b]? = some (.cells cur 3 fz) ∧ ∀ i, i < ds.length → w.cell? ⟨b, off + i, none⟩ = some (.int .i64 (ds.getD i 0)))

theorem Dig.below {B : Nat} {w w' : World} {v : Value} {ds : List Int} (h : Dig w v ds) (hb : Below B w w') (hB : w.heap.size ≤ B) : Dig w' v ds := by
 obtain ⟨ao, cap, hv, h1, h2, h3, h4⟩ := h
 refine ⟨ao, cap, hv, h1, h2, h3, fun h0 => ?_⟩
 obtain ⟨b, off, cur, fz, e, hlt, hc⟩ := h4 h0
 have hl := heap_lt hlt
 exact ⟨b, off, cur, fz, e, (hb.block b (by omega)).trans hlt, fun i hi => (hb.cell (p := ⟨b, off + i, none⟩) (Nat.lt_of_lt_of_le hl hB)).trans (hc i hi)⟩

theorem Dig.nil (w : World) : Dig w (.slice none 0 0) [] := ⟨none, 0, rfl, Nat.le_refl _, by simp, DB_nil, fun h => absurd h (by simp)⟩

theorem Dig.take {w : World} {ao : Option Addr} {cap : Nat} {ds : List Int} (h : Dig w (.slice ao ds.length cap) ds) (n : Nat) (hn : n ≤ ds.length) : Dig w (.slice ao n n) (ds.take n) := by
 obtain ⟨ao', cap', hv, h1, h2, h3, h4⟩ := h
 simp only [Value.slice.injEq, true_and] at hv
 obtain ⟨rfl, rfl⟩ := hv
 have hl : (ds.take n).length = n := by rw [List.length_take]; omega
 refine ⟨ao, n, by rw [hl], by omega, by omega, DB_take h3 n, fun h0 => ?_⟩
 obtain ⟨b, off, cur, fz, e, hlt, hc⟩ := h4 (by omega)
 refine ⟨b, off, cur, fz, e, hlt, fun i hi => ?_⟩
 rw [hc i (by omega), getD_take ds n i (by omega)]

theorem Dig.owns {w : World} {base n : Nat} {v : Value} {ds : List Int} (h : w.ownsRow base 3 1 v n (ds.map (Value.int .i64))) (hd : DB ds) (hl : ds.length ≤ 1000000000000) : Dig w v ds := by
 have hn : n = ds.length := by have := h.1; rw [List.length_map] at this; omega
 subst hn
 rcases h.2 with ⟨rfl, h0⟩ | ⟨g, cap, cur, rfl, hb, hg, hc, hm, hs, ht⟩
 ·have : ds = [] := List.eq_nil_of_length_eq_zero h0
  subst this
  exact Dig.nil w
 ·refine ⟨_, cap, rfl, hc, hl, hd, fun h0 => ⟨g, 0, cur, (0, 0), rfl, hg, fun i hi => ?_⟩⟩
  have := h.cellAt i (by omega)
  rw [Nat.zero_add, this]
  simp [List.getD_eq_getElem?_getD, hi]

def NumR (w : World) (v : Value) (z : Int) (n : Nat) : Prop :=
 ∃ (s : Int) (sl : Value) (ds : List Int), v = .agg #[.int .i64 s, sl] ∧ Dig w sl ds ∧ Nrm ds ∧ z = s * dv ds ∧ ((ds.length = 0 ∧ s = 0 ∧ sl = .slice none 0 0) ∨ (0 < ds.length ∧ (s = 1 ∨ s = -1))) ∧ ds.length ≤ n

theorem NumR.below {B : Nat} {w w' : World} {v : Value} {z : Int} {n : Nat} (h : NumR w v z n) (hb : Below B w w') (hB : w.heap.size ≤ B) : NumR w' v z n := by
 obtain ⟨s, sl, ds, h1, h2, h3⟩ := h
 exact ⟨s, sl, ds, h1, h2.below hb hB, h3⟩

theorem NumR.mono {w : World} {v : Value} {z : Int} {n m : Nat} (h : NumR w v z n) (hm : n ≤ m) : NumR w v z m := by
 obtain ⟨s, sl, ds, h1, h2, h3, h4, h5, h6⟩ := h
 exact ⟨s, sl, ds, h1, h2, h3, h4, h5, by omega⟩

theorem NumR.zero (w : World) (n : Nat) : NumR w (.agg #[.int .i64 0, .slice none 0 0]) 0 n :=
 ⟨0, _, [], rfl, Dig.nil w, .inl rfl, by simp, .inl ⟨rfl, rfl, rfl⟩, by simp⟩

def RefPost (w : World) (z : Int) (n : Nat) (e : Ending) (w' : World) : Prop :=
 ∃ v, e = .returned v ∧ NumR w' v z n ∧ Below w.heap.size w w'

theorem dv_take_pred {ds : List Int} {n : Nat} (h0 : 0 < n) (h : ds.getD (n - 1) 0 = 0) : dv (ds.take (n - 1)) = dv (ds.take n) := by
 have := dv_take_succ ds (n - 1)
 rw [show n - 1 + 1 = n by omega, h] at this
 omega

theorem dv_pos {ds : List Int} (h : DB ds) (hn : Nrm ds) (h0 : ds.length ≠ 0) : 0 < dv ds := by
 have h1 := dv_nonneg h
 have h2 := dv_zero_iff h hn
 rcases (by omega : dv ds = 0 ∨ 0 < dv ds) with e | e
 ·exact absurd (h2.1 e) h0
 ·exact e

set_option maxRecDepth 100000 in
set_option maxHeartbeats 800000 in
theorem cutNum_any (w : World) (s : Int) (v : Value) (ds : List Int) (h : Dig w v ds) (hs : s = 1 ∨ s = -1 ∨ dv ds = 0) :
  Calls Tryz.prog 67 #[.int .i64 s, v] w fun e w' => RefPost w (s * dv ds) ds.length e w' := by
 have HD := hide h
 have HS := hide hs
 obtain ⟨ao, cap, rfl, hcap, hlen, hdb, hc⟩ := h
 have hW : Below w.heap.size w (w.alloc (.cells #[.int .i64 0, .slice none 0 0] 95)) := (Below.refl _ _).alloc (Nat.le_refl _) _
 have HW := hide hW
 have hc' : 0 < ds.length → ∃ b off, ao = some ⟨b, off, none⟩ ∧ ∀ i, i < ds.length → (w.alloc (.cells #[.int .i64 0, .slice none 0 0] 95)).cell? ⟨b, off + i, none⟩ = some (.int .i64 (ds.getD i 0)) := fun h0 => by
  obtain ⟨b, off, cur, fz, e, hlt, hc⟩ := hc h0
  have hl := heap_lt hlt
  exact ⟨b, off, e, fun i hi => (hW.cell (p := ⟨b, off + i, none⟩) hl).trans (hc i hi)⟩
 clear hc hs hW
 go_enter Tryz.func67, Tryz.ntmps67
 go_wp2
 go_loop [5] (fun t => ∃ n : Nat, n ≤ ds.length ∧ t = .int .i64 n ∧ Hid (dv (ds.take n) = dv ds)) (fun t => (intOf t).toNat)
 case atStart => exact ⟨ds.length, Nat.le_refl _, rfl, by show dv _ = _; rw [List.take_length]⟩
 case round =>
  obtain ⟨n, hn, rfl, HV⟩ := hrel
  by_cases h0 : n = 0
  ·subst h0
   have HF : Hid (RefPost w (s * dv ds) ds.length (.returned (.agg #[.int .i64 0, .slice none 0 0])) (w.alloc (.cells #[.int .i64 0, .slice none 0 0] 95))) := by
    refine ⟨_, rfl, ?_, HW.out⟩
    have e : s * dv ds = 0 := by rw [← HV.out]; simp [dv]
    rw [e]
    exact NumR.zero _ _
   clear HV
   go_wp2
   exact bodyPost_ret (v := .agg #[.int .i64 0, .slice none 0 0]) (by simp [results, Tryz.results67, go_sem]) rfl HF.out
  ·obtain ⟨b, off, rfl, hc⟩ := hc' (by omega)
   obtain ⟨m, rfl⟩ : ∃ m, n = m + 1 := ⟨n - 1, by omega⟩
   have hcm := hc m (by omega)
   clear hc
   have HG : Hid (ds.getD (m + 1 - 1) 0 = ds.getD m 0) := by show _ = _; rw [Nat.add_sub_cancel]
   have hzb := hdb m
   generalize hz : ds.getD m 0 = z at *
   by_cases hz0 : z = 0
   ·subst hz0
    go_wp2
    go_round
    case rel => exact ⟨m, by omega, by go_num, by have := dv_take_pred (ds := ds) (n := m + 1) (by omega) HG.out; rw [Nat.add_sub_cancel] at this; exact this.trans HV.out⟩
    case measure => simp [intOf]
   ·have hz1 : (z == 0) = false := by simp [hz0]
    have HF : Hid (RefPost w (s * dv ds) ds.length (.returned (.agg #[.int .i64 s, .slice (some ⟨b, off, none⟩) (m + 1) (m + 1)])) (w.alloc (.cells #[.int .i64 s, .slice (some ⟨b, off, none⟩) (m + 1) (m + 1)] 95))) := by
     refine ⟨_, rfl, ⟨s, _, ds.take (m + 1), rfl, (HD.out.take (m + 1) hn).below ((Below.refl _ _).alloc (Nat.le_refl _) _) (Nat.le_refl _), nrm_take hn (.inr (by rw [HG.out]; exact hz0)), by rw [HV.out], .inr ⟨by rw [List.length_take]; omega, ?_⟩, by rw [List.length_take]; omega⟩, (Below.refl _ _).alloc (Nat.le_refl _) _⟩
     rcases HS.out with h | h | h
     ·exact .inl h
     ·exact .inr h
     ·exfalso
      have hp := dv_pos (DB_take hdb (m + 1)) (nrm_take hn (.inr (by rw [HG.out]; exact hz0))) (by rw [List.length_take]; omega)
      rw [HV.out] at hp
      omega
    clear HV HS HD HG
    go_wp2
    exact bodyPost_ret (v := .agg #[.int .i64 s, .slice (some ⟨b, off, none⟩) (m + 1) (m + 1)]) (by simp [results, Tryz.results67, go_sem]) rfl HF.out

end Go.Proofs.YtjdnhdcaifogmaaGreatDoor

/- The reference: a number of 64 bits. -/
namespace Go.Proofs.YtjdnhdcaifogmaaGreatDoor
open Go.RowKit Limbs Digs

def BoxR (w : World) (B : Nat) (u0 u1 : Value) : Prop := w.heap[B]? = some (.cells #[u0, u1] 95 (0, 0))

theorem BoxR.box {w : World} {B : Nat} {u0 u1 : Value} (h : BoxR w B u0 u1) : Box w B u0 u1 := by
 unfold BoxR at h
 simp [Box, World.cell?, World.frozen?, h]

theorem BoxR.lt {w : World} {B : Nat} {u0 u1 : Value} (h : BoxR w B u0 u1) : B < w.heap.size := heap_lt h

theorem BoxR.later {W w1 : World} {B C : Nat} {u0 u1 : Value} (h : BoxR W B u0 u1) (hb : Below C W w1) (hB : B < C) : BoxR w1 B u0 u1 := (hb.block B hB).trans h

theorem boxR_new (W : World) (u0 u1 : Value) (B : Nat) (hB : B = W.heap.size) : BoxR (W.alloc (.cells #[u0, u1] 95)) B u0 u1 := by
 subst hB; exact heap_alloc_new W _

theorem BoxR.set {w : World} {B : Nat} {u0 u1 : Value} (h : BoxR w B u0 u1) (v0 v1 : Value) : BoxR ((w.setCell ⟨B, 0, none⟩ v0).setCell ⟨B, 1, none⟩ v1) B v0 v1 := by
 have h1 := heap_setCell_same w B 0 _ _ v0 h
 have h2 := heap_setCell_same _ B 1 _ _ v1 h1
 exact h2

theorem BoxR.other {w : World} {B C : Nat} {u0 u1 : Value} (h : BoxR w B u0 u1) (hne : B ≠ C) (k : Nat) (v : Value) : BoxR (w.setCell ⟨C, k, none⟩ v) B u0 u1 :=
 (heap_setCell_other w ⟨C, k, none⟩ B v hne).trans h

theorem Dig.setCell {w : World} {v : Value} {ds : List Int} (h : Dig w v ds) {B : Nat} {c : Array Value} {t : TypeId} {fz : Nat × Nat} (hB : w.heap[B]? = some (.cells c t fz)) (ht : t ≠ 3) (k : Nat) (u : Value) : Dig (w.setCell ⟨B, k, none⟩ u) v ds := by
 obtain ⟨ao, cap, hv, h1, h2, h3, h4⟩ := h
 refine ⟨ao, cap, hv, h1, h2, h3, fun h0 => ?_⟩
 obtain ⟨b, off, cur, fz', e, hlt, hc⟩ := h4 h0
 have hne : b ≠ B := fun e => by
  subst e
  rw [hlt] at hB
  simp only [Option.some.injEq, Obj.cells.injEq] at hB
  exact ht hB.2.1.symm
 exact ⟨b, off, cur, fz', e, (heap_setCell_other w _ b u hne).trans hlt, fun i hi => (World.cell?_of_block (a := ⟨b, off + i, none⟩) (heap_setCell_other w ⟨B, k, none⟩ b u hne)).trans (hc i hi)⟩

theorem NumR.setCell {w : World} {v : Value} {z : Int} {n : Nat} (h : NumR w v z n) {B : Nat} {u0 u1 : Value} (hB : BoxR w B u0 u1) (v0 v1 : Value) : NumR ((w.setCell ⟨B, 0, none⟩ v0).setCell ⟨B, 1, none⟩ v1) v z n := by
 obtain ⟨s, sl, ds, h1, h2, h3⟩ := h
 have hb := heap_setCell_same w B 0 _ _ v0 hB
 exact ⟨s, sl, ds, h1, (h2.setCell hB (by decide) 0 v0).setCell hb (by decide) 1 v1, h3⟩

theorem boxedR {w w2 : World} {B : Nat} {z : Int} {n : Nat} {s : Int} {sl : Value} {u0 u1 : Value} (hr : NumR w2 (.agg #[.int .i64 s, sl]) z n) (hB : BoxR w2 B u0 u1) (hb : Below w.heap.size w w2) (hle : w.heap.size ≤ B) :
  RefPost w z n (.returned (.agg #[.int .i64 s, sl])) ((w2.setCell ⟨B, 0, none⟩ (.int .i64 s)).setCell ⟨B, 1, none⟩ sl) :=
 ⟨_, rfl, hr.setCell hB _ _, (hb.setCell (by exact hle) _).setCell (by exact hle) _⟩

theorem NumR.form {w : World} {v : Value} {z : Int} {n : Nat} (h : NumR w v z n) : ∃ (s : Int) (o : Option Addr) (l c : Nat), v = .agg #[.int .i64 s, .slice o l c] ∧ (s = 0 ∨ s = 1 ∨ s = -1) := by
 obtain ⟨s, sl, ds, h1, ⟨ao, cap, rfl, -⟩, -, -, hs, -⟩ := h
 exact ⟨s, ao, ds.length, cap, h1, by omega⟩

theorem DB_append {ds : List Int} (h : DB ds) {r : Int} (hr : 0 ≤ r ∧ r < 10000) : DB (ds ++ [r]) := by
 intro i
 rw [List.getD_eq_getElem?_getD]
 rcases Nat.lt_trichotomy i ds.length with hi | hi | hi
 ·rw [List.getElem?_append_left hi, ← List.getD_eq_getElem?_getD]; exact h i
 ·subst hi; simp; omega
 ·rw [List.getElem?_eq_none (by simp; omega)]; simp

theorem dv_snoc (ds : List Int) (r : Int) : dv (ds ++ [r]) = dv ds + dp ds.length * r := by
 rw [dv_append]; simp [dv]

def NInv (w wr : World) (m X : Int) (d : Value) (ds : List Int) : Prop :=
 wr.ownsRow (w.heap.size + 1) 3 1 d ds.length (ds.map (Value.int .i64)) ∧ BoxR wr w.heap.size (.int .i64 0) (.slice none 0 0) ∧ Below w.heap.size w wr ∧ DB ds ∧ m = dv ds + dp ds.length * X ∧ 0 ≤ X ∧ X ≤ 9223372036854775808 ∧ ds.length ≤ 5

theorem NInv.few {w wr : World} {m X : Int} {d : Value} {ds : List Int} (h : NInv w wr m X d ds) (hm : m ≤ 9223372036854775808) (hX : X ≠ 0) : ds.length < 5 := by
 obtain ⟨-, -, -, h4, h5, h6, -, h8⟩ := h
 by_cases hk : ds.length < 5
 ·exact hk
 ·have e : ds.length = 5 := by omega
  rw [e] at h5
  have := dv_nonneg h4
  have e5 : dp 5 = 100000000000000000000 := by decide
  rw [e5] at h5
  omega

theorem NInv.step {w wr w3 : World} {m X r : Int} {d d' : Value} {ds : List Int} (h : NInv w wr m X d ds) (hm : m ≤ 9223372036854775808) (hX : X ≠ 0) (hr : X % 10000 = r)
  (hown : w3.ownsRow (w.heap.size + 1) 3 1 d' (ds.length + 1) (ds.map (Value.int .i64) ++ [.int .i64 r])) (hg : (wr.alloc (.cells #[.int .i64 r] 3)).grownBy w3 d.ownBlock) : NInv w w3 m (X / 10000) d' (ds ++ [r]) := by
 have hf := h.few hm hX
 obtain ⟨h1, h2, h3, h4, h5, h6, h7, h8⟩ := h
 have hb := below_app h1 (by have := h2.lt; omega) hg
 refine ⟨by rw [List.length_append, List.map_append]; exact hown, h2.later hb (by omega), h3.trans (hb.mono (by omega)), DB_append h4 (by omega), ?_, by omega, by omega, by simp; omega⟩
 rw [dv_snoc, List.length_append, List.length_singleton, h5]
 simp only [dp]
 have e : 10000 * dp ds.length * (X / 10000) = dp ds.length * (10000 * (X / 10000)) := by rw [Int.mul_comm 10000, Int.mul_assoc]
 rw [e, Int.add_assoc, ← Int.mul_add]
 congr 2
 omega

set_option maxRecDepth 100000 in
set_option maxHeartbeats 1600000 in
theorem n_walk (w : World) (n s m : Int) (h0 : -9223372036854775808 ≤ n) (h1 : n ≤ 9223372036854775807) (hs : s = if n < 0 then -1 else 1) (hm : m = if n < 0 then -n else n) :
  Calls Tryz.prog 48 #[.int .i64 n] w fun e w' => RefPost w n 5 e w' := by
 obtain ⟨i0, hi, hz0, hz1, hz2⟩ := info_parts Tryz.infoInt
 have HM := hide (show n = s * m by rw [hs, hm]; split <;> omega)
 have HS := hide (show s = 1 ∨ s = -1 by rw [hs]; split <;> simp)
 have hm0 : 0 ≤ m := by rw [hm]; split <;> omega
 have hm1 : m ≤ 9223372036854775808 := by rw [hm]; split <;> omega
 have hx : Hid (NInv w (w.alloc (.cells #[.int .i64 0, .slice none 0 0] 95)) m m (.slice none 0 0) []) :=
  ⟨World.ownsRow_nil _ _ _ _, boxR_new w _ _ _ rfl, (Below.refl _ _).alloc (Nat.le_refl _) _, DB_nil, by simp [dv, dp], hm0, hm1, by simp⟩
 have hw : n < 0 → IntKind.u64.wrap (-IntKind.u64.wrap n) = m := fun h => by rw [IntKind.wrap_u64, IntKind.wrap_u64, hm, if_pos h]; omega
 have HW : Hid (Below w.heap.size w (w.alloc (.cells #[.int .i64 0, .slice none 0 0] 95))) := (Below.refl _ _).alloc (Nat.le_refl _) _
 go_enter Tryz.func48, Tryz.ntmps48
 by_cases hn : n < 0
 ·have hw' := hw hn
  rw [if_pos hn] at hs
  subst hs
  clear hm hw
  go_wp2
  go_loopw [4, 5] (fun x d wr => ∃ (X : Int) (ds : List Int), x = .int .u64 X ∧ NInv w wr m X d ds) (fun x _ _ => (intOf x).toNat)
  case atStart => exact ⟨m, [], rfl, hx.out⟩
  case round =>
   obtain ⟨X, ds, rfl, hinv⟩ := hrel
   have hX0 := hinv.2.2.2.2.2.1
   have hX1 := hinv.2.2.2.2.2.2.1
   by_cases hX : X = 0
   ·subst hX
    have HE := hide (show m = dv ds by have := hinv.2.2.2.2.1; simpa using this)
    have HD := hide (Dig.owns hinv.1 hinv.2.2.2.1 (by have := hinv.2.2.2.2.2.2.2; omega))
    have HBX := hide hinv.2.1
    have HBL := hide hinv.2.2.1
    have HL5 := hide hinv.2.2.2.2.2.2.2
    clear hinv
    go_wp2_with fail
    refine (cutNum_any wr _ _ ds HD.out (by simp)).mono ?_
    rintro e w2 ⟨r, rfl, hr, hb2⟩
    have hB := HBX.out.later hb2 HBX.out.lt
    rw [← HE.out, ← HM.out] at hr
    have hr5 := hr.mono HL5.out
    obtain ⟨sr, o, l, c, rfl, -⟩ := hr.form
    obtain ⟨c0, c1, f0, f1⟩ := hB.box
    have HF := hide (boxedR hr5 hB (HBL.out.trans (hb2.mono HBL.out.size)) (Nat.le_refl _))
    clear hr hr5 hB hb2 HBX HBL HD HE HM
    go_wp2
    exact bodyPost_ret (v := .agg #[.int .i64 sr, .slice o l c]) (by simp [results, Tryz.results48, go_sem, c0, c1]) rfl HF.out
   ·have hfew := hinv.few hm1 hX
    have hown := hinv.1
    have HBX := hide hinv.2.1.lt
    have HST := hide (fun d' w3 hown' hg => hinv.step (d' := d') (w3 := w3) hm1 hX rfl hown' hg)
    have hXp : 0 < X := by omega
    have hmod : X % 10000 ≤ 9999 := by omega
    have hmod0 : 0 ≤ X % 10000 := by omega
    have hdec : decide (0 < X) = true := decide_eq_true hXp
    clear hinv
    go_wp2_with (at_builtin; refine wpList_append_lies _ rfl _ _ 44 rfl (w.heap.size + 1) 3 i0 (.int .i64 0) 1 8 Tryz.underlying44 hi hz0 hz1 hz2 rfl (by decide) u5 ds.length (ds.map (Value.int .i64)) rfl (hown.alloc _) ⟨wr.heap.size, 0, none⟩ 1 1 [.int .i64 (X % 10000)] rfl rfl ?c1 ?c2 (by decide) ?c3 ?c4 ?c5 (wr.heap.size + 1) (by simp) ?_)
    case c1 => exact World.news_of_block (heap_alloc_new wr _)
    case c2 => intro u hu; simp at hu; subst hu; rfl
    case c3 => unfold maxLen; omega
    case c4 => omega
    case c5 => simp; have := HBX.out; omega
    intro g cap' w3 hown3 hgrow3 hat3 hlt3
    have HF := hide (HST.out _ _ hown3 hgrow3)
    clear hown3 hgrow3 hat3 hown HST HBX
    go_wp2
    go_roundw
    case rel => exact ⟨_, _, rfl, HF.out⟩
    case measure => simp [intOf]; omega
 ·rw [if_neg hn] at hs hm
  subst hs hm
  clear hw
  go_wp2
  go_loopw [4, 5] (fun x d wr => ∃ (X : Int) (ds : List Int), x = .int .u64 X ∧ NInv w wr m X d ds) (fun x _ _ => (intOf x).toNat)
  case atStart => exact ⟨m, [], rfl, hx.out⟩
  case round =>
   obtain ⟨X, ds, rfl, hinv⟩ := hrel
   have hX0 := hinv.2.2.2.2.2.1
   have hX1 := hinv.2.2.2.2.2.2.1
   by_cases hX : X = 0
   ·subst hX
    have HE := hide (show m = dv ds by have := hinv.2.2.2.2.1; simpa using this)
    have HD := hide (Dig.owns hinv.1 hinv.2.2.2.1 (by have := hinv.2.2.2.2.2.2.2; omega))
    have HBX := hide hinv.2.1
    have HBL := hide hinv.2.2.1
    have HL5 := hide hinv.2.2.2.2.2.2.2
    clear hinv
    go_wp2_with fail
    refine (cutNum_any wr _ _ ds HD.out (by simp)).mono ?_
    rintro e w2 ⟨r, rfl, hr, hb2⟩
    have hB := HBX.out.later hb2 HBX.out.lt
    rw [← HE.out, ← HM.out] at hr
    have hr5 := hr.mono HL5.out
    obtain ⟨sr, o, l, c, rfl, -⟩ := hr.form
    obtain ⟨c0, c1, f0, f1⟩ := hB.box
    have HF := hide (boxedR hr5 hB (HBL.out.trans (hb2.mono HBL.out.size)) (Nat.le_refl _))
    clear hr hr5 hB hb2 HBX HBL HD HE HM
    go_wp2
    exact bodyPost_ret (v := .agg #[.int .i64 sr, .slice o l c]) (by simp [results, Tryz.results48, go_sem, c0, c1]) rfl HF.out
   ·have hfew := hinv.few hm1 hX
    have hown := hinv.1
    have HBX := hide hinv.2.1.lt
    have HST := hide (fun d' w3 hown' hg => hinv.step (d' := d') (w3 := w3) hm1 hX rfl hown' hg)
    have hXp : 0 < X := by omega
    have hmod : X % 10000 ≤ 9999 := by omega
    have hmod0 : 0 ≤ X % 10000 := by omega
    have hdec : decide (0 < X) = true := decide_eq_true hXp
    clear hinv
    go_wp2_with (at_builtin; refine wpList_append_lies _ rfl _ _ 44 rfl (w.heap.size + 1) 3 i0 (.int .i64 0) 1 8 Tryz.underlying44 hi hz0 hz1 hz2 rfl (by decide) u5 ds.length (ds.map (Value.int .i64)) rfl (hown.alloc _) ⟨wr.heap.size, 0, none⟩ 1 1 [.int .i64 (X % 10000)] rfl rfl ?c1 ?c2 (by decide) ?c3 ?c4 ?c5 (wr.heap.size + 1) (by simp) ?_)
    case c1 => exact World.news_of_block (heap_alloc_new wr _)
    case c2 => intro u hu; simp at hu; subst hu; rfl
    case c3 => unfold maxLen; omega
    case c4 => omega
    case c5 => simp; have := HBX.out; omega
    intro g cap' w3 hown3 hgrow3 hat3 hlt3
    have HF := hide (HST.out _ _ hown3 hgrow3)
    clear hown3 hgrow3 hat3 hown HST HBX
    go_wp2
    go_roundw
    case rel => exact ⟨_, _, rfl, HF.out⟩
    case measure => simp [intOf]; omega

theorem n_any (w : World) (n : Int) (h0 : -9223372036854775808 ≤ n) (h1 : n ≤ 9223372036854775807) :
  Calls Tryz.prog 48 #[.int .i64 n] w fun e w' => RefPost w n 5 e w' := n_walk w n _ _ h0 h1 rfl rfl

end Go.Proofs.YtjdnhdcaifogmaaGreatDoor
