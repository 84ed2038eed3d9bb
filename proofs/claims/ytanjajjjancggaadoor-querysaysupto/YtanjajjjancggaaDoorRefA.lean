/- Limbs divided by one limb. -/
import Derived.Test.YtanjajjjancggaaDoorOps2
import Derived.Deep.AppendLies

namespace Go.Proofs.YtanjajjjancggaaDoor
open Go.RowKit Limbs

def Drawn (w w' : World) : Prop := ∃ nq, w' = w.drewN nq

theorem Row.drewN {w : World} {g : Nat} {zs : List Int} (h : Row w g zs) (n : Nat) : Row (w.drewN n) g zs := h

theorem grown_drewN {w w' : World} {r : Option Nat} (h : w.grownBy w' r) (n : Nat) : w.grownBy (w'.drewN n) r := ⟨h.os, h.tape, h.output, h.size, h.block⟩

theorem grown_set {w w' : World} {g : Nat} (h : w.grownBy w' (some g)) (k : Nat) (u : Value) : w.grownBy (w'.setCell ⟨g, k, none⟩ u) (some g) :=
 ⟨h.os, h.tape, h.output, by simpa using h.size, fun j hj hne => by
  rw [heap_setCell_other _ _ _ _ (fun e => hne (by simp [e]))]
  exact h.block j hj hne⟩

def DivInv (w wr : World) (g : Nat) (b : Int) (zs : List Int) (p : Nat) (r : Int) (qs : List Int) : Prop :=
 qs.length = zs.length ∧ Row wr g qs ∧ w.grownBy wr (some g) ∧ qs.take p = zs.take p ∧ lv (zs.drop p) = b * lv (qs.drop p) + r

theorem DivInv.start {w : World} {g : Nat} {zs : List Int} (h : Row w g zs) (b : Int) : DivInv w w g b zs zs.length 0 zs :=
 ⟨rfl, h, World.grownBy.refl _ _, rfl, by rw [List.drop_length]; simp [lv]⟩

theorem getD_of_take {a b : List Int} {p i : Nat} (h : a.take p = b.take p) (hi : i < p) : a.getD i 0 = b.getD i 0 := by
 rw [← getD_take a p i hi, h, getD_take b p i hi]

theorem DivInv.step {w wr : World} {g : Nat} {b : Int} {zs : List Int} {p : Nat} {r : Int} {qs : List Int} (h : DivInv w wr g b zs (p + 1) r qs) (hp : p < zs.length) {q s : Int} (hq : 0 ≤ q ∧ q < 4294967296) (hs : r * 4294967296 + zs.getD p 0 = b * q + s) (nq : Nat) :
  DivInv w ((wr.drewN nq).setCell ⟨g, p, none⟩ (.int .u32 q)) g b zs p s (qs.set p q) := by
 obtain ⟨h1, h2, h3, h4, h5⟩ := h
 refine ⟨by rw [List.length_set]; exact h1, (h2.drewN nq).store (by omega) hq, grown_set (grown_drewN h3 nq) _ _, ?_, ?_⟩
 ·rw [take_set_ge _ _ _ _ (Nat.le_refl _)]
  have := congrArg (List.take p) h4
  rwa [List.take_take, List.take_take, Nat.min_eq_left (by omega)] at this
 ·rw [drop_cons_getD zs p hp, drop_cons_getD (qs.set p q) p (by rw [List.length_set]; omega), drop_set_lt _ _ _ _ (Nat.lt_succ_self p), getD_set _ _ _ _ (by omega), if_pos rfl]
  simp only [lv]
  rw [h5, Int.mul_add, Int.mul_add]
  have e : b * (4294967296 * lv (qs.drop (p + 1))) = 4294967296 * (b * lv (qs.drop (p + 1))) := by rw [Int.mul_left_comm]
  rw [e]
  omega

def DivOnePost (w : World) (g : Nat) (b : Int) (zs : List Int) (e : Ending) (w' : World) : Prop :=
 ∃ r qs, e = .returned (.int .u32 r) ∧ 0 ≤ r ∧ r < b ∧ qs.length = zs.length ∧ Row w' g qs ∧ w.grownBy w' (some g) ∧ lv zs = b * lv qs + r

end Go.Proofs.YtanjajjjancggaaDoor

/- Groups of nine decimal digits. -/
namespace Go.Proofs.YtanjajjjancggaaDoor
open Go.RowKit Limbs

def gv : List Int → Int
 | [] => 0
 | x :: xs => x + 1000000000 * gv xs

def gp : Nat → Int
 | 0 => 1
 | n + 1 => 1000000000 * gp n

theorem gp_pos (n : Nat) : 0 < gp n := by
 induction n with
 | zero => simp [gp]
 | succ n ih => simp only [gp]; omega

theorem gp_mono {m n : Nat} (h : m ≤ n) : gp m ≤ gp n := by
 induction n with
 | zero => rw [Nat.le_zero.1 h]; exact Int.le_refl _
 | succ n ih =>
  by_cases e : m = n + 1
  ·rw [e]; exact Int.le_refl _
  ·have := ih (by omega); have := gp_pos n; simp only [gp]; omega

theorem gv_append (xs : List Int) (r : Int) : gv (xs ++ [r]) = gv xs + gp xs.length * r := by
 induction xs with
 | nil => simp [gv, gp]
 | cons x xs ih => simp only [List.cons_append, gv, ih, List.length_cons, gp]; rw [Int.mul_add, Int.mul_assoc]; omega

theorem bp_le_gp (n : Nat) : bp n ≤ gp (2 * n) := by
 induction n with
 | zero => simp [bp, gp]
 | succ n ih => rw [show 2 * (n + 1) = 2 * n + 1 + 1 by omega]; simp only [bp, gp]; have := gp_pos (2 * n); omega

theorem Row.take {w : World} {g : Nat} {zs : List Int} (h : Row w g zs) (n : Nat) : Row w g (zs.take n) := by
 obtain ⟨h1, h2, h3⟩ := h
 refine ⟨h1, LB_take h2 n, fun j hj => ?_⟩
 rw [List.length_take] at hj
 rw [getD_take zs n j (by omega)]
 exact h3 j (by omega)

theorem Row.kept {w w' : World} {g : Nat} {zs : List Int} {r : Option Nat} (h : Row w g zs) (hg : w.grownBy w' r) (hne : r ≠ some g) : Row w' g zs := by
 obtain ⟨h1, h2, h3⟩ := h
 have hb : w'.heap[g]? = w.heap[g]? := hg.block g h1 (fun e => hne e.symm)
 exact ⟨Nat.lt_of_lt_of_le h1 hg.size, h2, fun j hj => ⟨(World.cell?_of_block (a := ⟨g, j, none⟩) hb).trans (h3 j hj).1, (World.frozen?_of_block (a := ⟨g, j, none⟩) hb).trans (h3 j hj).2⟩⟩

def GrpInv (w wr : World) (zs : List Int) (v : Value) (gs ys : List Int) : Prop :=
 Row wr w.heap.size ys ∧ Nrm ys ∧ ys.length ≤ zs.length ∧ wr.ownsRow (w.heap.size + 1) 3 1 v gs.length (gs.map (Value.int .i64)) ∧ Below w.heap.size w wr ∧
  lv zs = gv gs + gp gs.length * lv ys ∧ (∀ g ∈ gs, 0 ≤ g ∧ g < 1000000000) ∧ (lv ys = 0 → gs.length = 0 ∨ gs.getD (gs.length - 1) 0 ≠ 0) ∧ lenOf v = gs.length ∧ w.heap.size < wr.heap.size ∧ 0 ≤ gv gs

theorem lenOf_owns {w : World} {base n : Nat} {e : TypeId} {v : Value} {xs : List Value} (h : w.ownsRow base e 1 v n xs) : lenOf v = n := by
 rcases h.2 with ⟨rfl, h0⟩ | ⟨g, cap, cur, rfl, _⟩
 ·simp [lenOf, h0]
 ·rfl

theorem GrpInv.few {w wr : World} {zs : List Int} {v : Value} {gs ys : List Int} (h : GrpInv w wr zs v gs ys) (hlb : LB zs) (hy : ys.length ≠ 0) : gs.length < 2 * zs.length := by
 obtain ⟨h1, h2, h3, h4, h5, h6, h7, h8, h9, h10, h11⟩ := h
 have e1 := lv_pos h1.2.1 h2 hy
 have e2 := lv_lt hlb
 have e3 := bp_le_gp zs.length
 have e4 := gp_pos gs.length
 have e5 : gp gs.length * 1 ≤ gp gs.length * lv ys := Int.mul_le_mul_of_nonneg_left (by omega) (by omega)
 by_cases hk : gs.length < 2 * zs.length
 ·exact hk
 ·have := gp_mono (m := 2 * zs.length) (n := gs.length) (by omega)
  omega

theorem GrpInv.step {w wr w1 w2 : World} {zs : List Int} {v v' : Value} {gs ys qs : List Int} {r : Int} {m : Nat} (h : GrpInv w wr zs v gs ys) (hr0 : 0 ≤ r) (hr1 : r < 1000000000)
  (hq : qs.length = ys.length) (hrow : Row w1 w.heap.size qs) (hg1 : wr.grownBy w1 (some w.heap.size)) (hlv : lv ys = 1000000000 * lv qs + r) (hpos : lv ys ≠ 0)
  (hown : w2.ownsRow (w.heap.size + 1) 3 1 v' (gs.length + 1) (gs.map (Value.int .i64) ++ [.int .i64 r])) (hg2 : (w1.alloc (.cells #[.int .i64 r] 3)).grownBy w2 v.ownBlock)
  (hm : m ≤ qs.length) (hlm : lv (qs.take m) = lv qs) (hnm : Nrm (qs.take m)) : GrpInv w w2 zs v' (gs ++ [r]) (qs.take m) := by
 obtain ⟨h1, h2, h3, h4, h5, h6, h7, h8, h9, h10, h11⟩ := h
 have hne : v.ownBlock ≠ some w.heap.size := fun e => by have := h4.lt _ e; omega
 have hbase : ∀ k, v.ownBlock = some k → w.heap.size ≤ k := fun k e => by have := h4.lt _ e; omega
 have b1 := h5.grown hg1 (by omega) (fun k hk => by simp at hk; omega)
 have b2 := b1.alloc b1.size (.cells #[.int .i64 r] 3)
 have b3 := b2.grown hg2 (by simp; have := b1.size; omega) hbase
 refine ⟨((hrow.kept (World.grownBy_alloc w1 _ none) (by simp)).kept hg2 hne).take m, hnm, by rw [List.length_take]; omega, ?_, b3, ?_, ?_, ?_, ?_, ?_, ?_⟩
 ·rw [List.length_append, List.map_append]; exact hown
 ·rw [gv_append, List.length_append, hlm, h6, hlv]
  simp only [List.length_singleton, gp]
  rw [Int.mul_add]
  have e : gp gs.length * (1000000000 * lv qs) = 1000000000 * gp gs.length * lv qs := by rw [Int.mul_left_comm, Int.mul_assoc]
  rw [e]
  omega
 ·intro g hg
  rcases List.mem_append.1 hg with hg | hg
  ·exact h7 g hg
  ·rw [List.mem_singleton.1 hg]; exact ⟨hr0, hr1⟩
 ·intro h0
  right
  rw [hlm] at h0
  rw [List.length_append, List.length_singleton, Nat.add_sub_cancel, List.getD_eq_getElem?_getD, List.getElem?_append_right (Nat.le_refl _), Nat.sub_self]
  simp
  omega
 ·rw [lenOf_owns hown]; simp
 ·have := b1.size; have := hg2.size; simp at this; have := h10; have := hg1.size; omega
 ·rw [gv_append]
  have := Int.mul_nonneg (show 0 ≤ gp gs.length from by have := gp_pos gs.length; omega) hr0
  omega

def GrpPost (w : World) (zs : List Int) (e : Ending) (w' : World) : Prop :=
 ∃ v gs, e = .returned v ∧ w'.ownsRow (w.heap.size + 1) 3 1 v gs.length (gs.map (Value.int .i64)) ∧ Below w.heap.size w w' ∧ lv zs = gv gs ∧ (∀ g ∈ gs, 0 ≤ g ∧ g < 1000000000) ∧ (gs.length = 0 ∨ gs.getD (gs.length - 1) 0 ≠ 0) ∧ gs.length ≤ 2 * zs.length

theorem Tryd.infoInt : (Tryd.prog.info? 3).map (fun i => (i.zero, i.size, i.bytes)) = some (some (.int .i64 0), 1, 8) := by kernel_rfl

end Go.Proofs.YtanjajjjancggaaDoor

/- Rows that one more is put to. -/
namespace Go.Proofs.YtanjajjjancggaaDoor
open Go.RowKit Limbs

theorem below_app {wr w3 : World} {B n : Nat} {t : TypeId} {v x : Value} {xs : List Value} (hown : wr.ownsRow B t 1 v n xs) (hB : B ≤ wr.heap.size) (hg : (wr.alloc (.cells #[x] t)).grownBy w3 v.ownBlock) : Below B wr w3 :=
 ((Below.refl _ _).alloc hB _).grown hg (by simp; omega) (fun k hk => (hown.lt k hk).1)

theorem Lim.owns {w : World} {base n : Nat} {v : Value} {ls : List Int} (h : w.ownsRow base 106 1 v n (ls.map (Value.int .u32))) (hd : LB ls) (hl : ls.length ≤ 1000000) : Lim w v ls := by
 have hn : n = ls.length := by have := h.1; rw [List.length_map] at this; omega
 subst hn
 rcases h.2 with ⟨rfl, h0⟩ | ⟨g, cap, cur, rfl, hb, hg, hc, hm, hs, ht⟩
 ·have : ls = [] := List.eq_nil_of_length_eq_zero h0
  subst this
  exact ⟨none, 0, rfl, Nat.le_refl _, by simp, hd, fun h => absurd h (by simp)⟩
 ·refine ⟨_, cap, rfl, hc, hl, hd, fun h0 => ⟨g, 0, rfl, heap_lt hg, fun i hi => ?_⟩⟩
  have := h.cellAt i (by omega)
  rw [Nat.zero_add, this]
  simp [List.getD_eq_getElem?_getD, hi]

theorem LB_snoc {ls : List Int} (h : LB ls) {r : Int} (hr : 0 ≤ r ∧ r < 4294967296) : LB (ls ++ [r]) := by
 intro i
 rw [List.getD_eq_getElem?_getD]
 rcases Nat.lt_trichotomy i ls.length with hi | hi | hi
 ·rw [List.getElem?_append_left hi, ← List.getD_eq_getElem?_getD]; exact h i
 ·subst hi; simp; omega
 ·rw [List.getElem?_eq_none (by simp; omega)]; simp

theorem lv_snoc (ls : List Int) (r : Int) : lv (ls ++ [r]) = lv ls + bp ls.length * r := by
 rw [lv_append]; simp [lv]

end Go.Proofs.YtanjajjjancggaaDoor

/- Plain arithmetic of the reference's digits: numbers to the base 10000, the lowest first. No Go in it. -/
namespace Go.Proofs.YtanjajjjancggaaDoor.Digs
open Limbs

def dv : List Int → Int
 | [] => 0
 | x :: xs => x + 10000 * dv xs

def DB (zs : List Int) : Prop := ∀ i : Nat, 0 ≤ zs.getD i 0 ∧ zs.getD i 0 < 10000

def dp : Nat → Int
 | 0 => 1
 | n + 1 => 10000 * dp n

theorem dp_pos (n : Nat) : 0 < dp n := by
 induction n with
 | zero => simp [dp]
 | succ n ih => simp only [dp]; omega

theorem dp_add (m n : Nat) : dp (m + n) = dp m * dp n := by
 induction m with
 | zero => simp [dp]
 | succ m ih => rw [Nat.succ_add]; simp only [dp]; rw [ih, Int.mul_assoc]

theorem DB_nil : DB [] := by intro i; simp
theorem DB_tail {x : Int} {xs : List Int} (h : DB (x :: xs)) : DB xs := fun i => by simpa using h (i + 1)
theorem DB_head {x : Int} {xs : List Int} (h : DB (x :: xs)) : 0 ≤ x ∧ x < 10000 := by simpa using h 0
theorem DB_cons {x : Int} {xs : List Int} (hx : 0 ≤ x ∧ x < 10000) (h : DB xs) : DB (x :: xs) := by
 intro i
 cases i with
 | zero => simpa using hx
 | succ i => simpa using h i

theorem DB_mem {zs : List Int} (h : ∀ z ∈ zs, 0 ≤ z ∧ z < 10000) : DB zs := by
 induction zs with
 | nil => exact DB_nil
 | cons x xs ih => exact DB_cons (h x (by simp)) (ih fun z hz => h z (by simp [hz]))

theorem DB_take {zs : List Int} (h : DB zs) (k : Nat) : DB (zs.take k) := by
 intro i
 have := h i
 by_cases hk : i < k
 ·simpa [List.getD_eq_getElem?_getD, List.getElem?_take, hk] using this
 ·simp [List.getD_eq_getElem?_getD, List.getElem?_take, hk]

theorem DB_drop {zs : List Int} (h : DB zs) (k : Nat) : DB (zs.drop k) := by
 intro i
 have := h (k + i)
 simpa [List.getD_eq_getElem?_getD, List.getElem?_drop] using this

theorem dv_nonneg {zs : List Int} (h : DB zs) : 0 ≤ dv zs := by
 induction zs with
 | nil => simp [dv]
 | cons x xs ih => have := ih (DB_tail h); have := DB_head h; simp only [dv]; omega

theorem dv_append (xs ys : List Int) : dv (xs ++ ys) = dv xs + dp xs.length * dv ys := by
 induction xs with
 | nil => simp [dv, dp]
 | cons x xs ih => simp only [List.cons_append, dv, ih, List.length_cons, dp]; rw [Int.mul_add, Int.mul_assoc]; omega

theorem dv_take_succ (zs : List Int) (k : Nat) : dv (zs.take (k + 1)) = dv (zs.take k) + dp k * zs.getD k 0 := by
 by_cases h : k < zs.length
 ·rw [List.take_succ_eq_append_getElem h, dv_append]
  simp [dv, List.length_take, Nat.min_eq_left (Nat.le_of_lt h), List.getD_eq_getElem?_getD, h]
 ·rw [List.take_of_length_le (by omega), List.take_of_length_le (by omega)]
  simp [List.getD_eq_getElem?_getD, List.getElem?_eq_none (Nat.le_of_not_lt h)]

theorem dv_split (zs : List Int) (k : Nat) (h : k ≤ zs.length) : dv zs = dv (zs.take k) + dp k * dv (zs.drop k) := by
 have := dv_append (zs.take k) (zs.drop k)
 rw [List.take_append_drop, List.length_take, Nat.min_eq_left h] at this
 exact this

theorem dv_take_ge (zs : List Int) {k : Nat} (h : zs.length ≤ k) : dv (zs.take k) = dv zs := by
 rw [List.take_of_length_le h]

theorem dv_take_nonneg {zs : List Int} (h : DB zs) (k : Nat) : 0 ≤ dv (zs.take k) := dv_nonneg (DB_take h k)

theorem nrm_low10 {zs : List Int} (h : DB zs) (hn : Nrm zs) (h0 : 0 < zs.length) : dp (zs.length - 1) ≤ dv zs := by
 have e := dv_split zs (zs.length - 1) (by omega)
 rw [drop_cons_getD zs (zs.length - 1) (by omega)] at e
 have hd : zs.drop (zs.length - 1 + 1) = [] := List.drop_eq_nil_of_le (by omega)
 rw [hd] at e
 simp only [dv] at e
 have h1 := dv_take_nonneg h (zs.length - 1)
 have h2 := h (zs.length - 1)
 have h3 : zs.getD (zs.length - 1) 0 ≠ 0 := by rcases hn with hn | hn; omega; exact hn
 have hp := dp_pos (zs.length - 1)
 have h4 : dp (zs.length - 1) * 1 ≤ dp (zs.length - 1) * (zs.getD (zs.length - 1) 0 + 10000 * 0) := Int.mul_le_mul_of_nonneg_left (by omega) (by omega)
 omega

theorem dv_zero_iff {zs : List Int} (h : DB zs) (hn : Nrm zs) : dv zs = 0 ↔ zs.length = 0 := by
 constructor
 ·intro h0
  by_cases hl : zs.length = 0
  ·exact hl
  ·have h1 := nrm_low10 h hn (by omega)
   have := dp_pos (zs.length - 1)
   omega
 ·intro hl
  rw [List.eq_nil_of_length_eq_zero hl]; rfl

theorem DB_set {zs : List Int} (h : DB zs) (k : Nat) {z : Int} (hz : 0 ≤ z ∧ z < 10000) : DB (zs.set k z) := by
 intro i
 rw [List.getD_eq_getElem?_getD, List.getElem?_set]
 by_cases hk : k = i
 ·subst hk
  by_cases hl : k < zs.length <;> simp [hl, hz]
 ·have := h i
  simpa [hk, List.getD_eq_getElem?_getD] using this

theorem dv_set (zs : List Int) (k : Nat) (z : Int) (h : k < zs.length) : dv (zs.set k z) = dv zs + dp k * (z - zs.getD k 0) := by
 induction zs generalizing k with
 | nil => simp at h
 | cons x xs ih =>
  cases k with
  | zero => simp [dv, dp]; omega
  | succ k =>
   have := ih k (by simpa using h)
   simp only [List.set_cons_succ, dv, this, dp, List.getD_cons_succ]
   rw [Int.mul_add, Int.mul_assoc]; omega

theorem DB_replicate (n : Nat) : DB (List.replicate n 0) := DB_mem fun z hz => by
 rw [List.eq_of_mem_replicate hz]; decide

end Go.Proofs.YtanjajjjancggaaDoor.Digs

/- The reference's numbers: digits to the base 10000 in memory; noughts behind are taken off. -/
namespace Go.Proofs.YtanjajjjancggaaDoor
open Go.RowKit Limbs Digs

def Dig (w : World) (v : Value) (ds : List Int) : Prop :=
 ∃ ao cap, v = .slice ao ds.length cap ∧ ds.length ≤ cap ∧ ds.length ≤ 1000000000000 ∧ DB ds ∧
  (0 < ds.length → ∃ b off cur fz, ao = some ⟨b, off, none⟩ ∧ w.heap[b]? = some (.cells cur 3 fz) ∧ ∀ i, i < ds.length → w.cell? ⟨b, off + i, none⟩ = some (.int .i64 (ds.getD i 0)))

theorem Dig.below {B : Nat} {w w' : World} {v : Value} {ds : List Int} (h : Dig w v ds) (hb : Below B w w') (hB : w.heap.size ≤ B) : Dig w' v ds := by
 obtain ⟨ao, cap, hv, h1, h2, h3, h4⟩ := h
 refine ⟨ao, cap, hv, h1, h2, h3, fun h0 => ?_⟩
 obtain ⟨b, off, cur, fz, e, hlt, hc⟩ := h4 h0
 have hl := heap_lt hlt
 exact ⟨b, off, cur, fz, e, (hb.block b (by omega)).trans hlt, fun i hi => (hb.cell (p := ⟨b, off + i, none⟩) (Nat.lt_of_lt_of_le hl hB)).trans (hc i hi)⟩

theorem Dig.nil (w : World) : Dig w (.slice none 0 0) [] := ⟨none, 0, rfl, Nat.le_refl _, by simp, DB_nil, fun h => absurd h (by simp)⟩

theorem Dig.take {w : World} {ao : Option Addr} {cap : Nat} {ds : List Int} (h : Dig w (.slice ao ds.length cap) ds) (n : Nat) (hn : n ≤ ds.length) : Dig w (.slice ao n n) (ds.take n) := by
 obtain ⟨ao', cap', hv, h1, h2, h3, h4⟩ := h
 simp only [Value.slice.injEq, true_and] at hv
 obtain ⟨rfl, rfl⟩ := hv
 have hl : (ds.take n).length = n := by rw [List.length_take]; omega
 refine ⟨ao, n, by rw [hl], by omega, by omega, DB_take h3 n, fun h0 => ?_⟩
 obtain ⟨b, off, cur, fz, e, hlt, hc⟩ := h4 (by omega)
 refine ⟨b, off, cur, fz, e, hlt, fun i hi => ?_⟩
 rw [hc i (by omega), getD_take ds n i (by omega)]

theorem Dig.owns {w : World} {base n : Nat} {v : Value} {ds : List Int} (h : w.ownsRow base 3 1 v n (ds.map (Value.int .i64))) (hd : DB ds) (hl : ds.length ≤ 1000000000000) : Dig w v ds := by
 have hn : n = ds.length := by have := h.1; rw [List.length_map] at this; omega
 subst hn
 rcases h.2 with ⟨rfl, h0⟩ | ⟨g, cap, cur, rfl, hb, hg, hc, hm, hs, ht⟩
 ·have : ds = [] := List.eq_nil_of_length_eq_zero h0
  subst this
  exact Dig.nil w
 ·refine ⟨_, cap, rfl, hc, hl, hd, fun h0 => ⟨g, 0, cur, (0, 0), rfl, hg, fun i hi => ?_⟩⟩
  have := h.cellAt i (by omega)
  rw [Nat.zero_add, this]
  simp [List.getD_eq_getElem?_getD, hi]

def NumR (w : World) (v : Value) (z : Int) (n : Nat) : Prop :=
 ∃ (s : Int) (sl : Value) (ds : List Int), v = .agg #[.int .i64 s, sl] ∧ Dig w sl ds ∧ Nrm ds ∧ z = s * dv ds ∧ ((ds.length = 0 ∧ s = 0 ∧ sl = .slice none 0 0) ∨ (0 < ds.length ∧ (s = 1 ∨ s = -1))) ∧ ds.length ≤ n

theorem NumR.below {B : Nat} {w w' : World} {v : Value} {z : Int} {n : Nat} (h : NumR w v z n) (hb : Below B w w') (hB : w.heap.size ≤ B) : NumR w' v z n := by
 obtain ⟨s, sl, ds, h1, h2, h3⟩ := h
 exact ⟨s, sl, ds, h1, h2.below hb hB, h3⟩

theorem NumR.mono {w : World} {v : Value} {z : Int} {n m : Nat} (h : NumR w v z n) (hm : n ≤ m) : NumR w v z m := by
 obtain ⟨s, sl, ds, h1, h2, h3, h4, h5, h6⟩ := h
 exact ⟨s, sl, ds, h1, h2, h3, h4, h5, by omega⟩

theorem NumR.zero (w : World) (n : Nat) : NumR w (.agg #[.int .i64 0, .slice none 0 0]) 0 n :=
 ⟨0, _, [], rfl, Dig.nil w, .inl rfl, by simp, .inl ⟨rfl, rfl, rfl⟩, by simp⟩

def RefPost (w : World) (z : Int) (n : Nat) (e : Ending) (w' : World) : Prop :=
 ∃ v, e = .returned v ∧ NumR w' v z n ∧ Below w.heap.size w w'

theorem dv_take_pred {ds : List Int} {n : Nat} (h0 : 0 < n) (h : ds.getD (n - 1) 0 = 0) : dv (ds.take (n - 1)) = dv (ds.take n) := by
 have := dv_take_succ ds (n - 1)
 rw [show n - 1 + 1 = n by omega, h] at this
 omega

theorem dv_pos {ds : List Int} (h : DB ds) (hn : Nrm ds) (h0 : ds.length ≠ 0) : 0 < dv ds := by
 have h1 := dv_nonneg h
 have h2 := dv_zero_iff h hn
 rcases (by omega : dv ds = 0 ∨ 0 < dv ds) with e | e
 ·exact absurd (h2.1 e) h0
 ·exact e

set_option maxRecDepth 100000 in
set_option maxHeartbeats 800000 in
theorem cutNum_any (w : World) (s : Int) (v : Value) (ds : List Int) (h : Dig w v ds) (hs : s = 1 ∨ s = -1 ∨ dv ds = 0) :
  Calls Tryd.prog 38 #[.int .i64 s, v] w fun e w' => RefPost w (s * dv ds) ds.length e w' := by
 have HD := hide h
 have HS := hide hs
 obtain ⟨ao, cap, rfl, hcap, hlen, hdb, hc⟩ := h
 have hW : Below w.heap.size w (w.alloc (.cells #[.int .i64 0, .slice none 0 0] 58)) := (Below.refl _ _).alloc (Nat.le_refl _) _
 have HW := hide hW
 have hc' : 0 < ds.length → ∃ b off, ao = some ⟨b, off, none⟩ ∧ ∀ i, i < ds.length → (w.alloc (.cells #[.int .i64 0, .slice none 0 0] 58)).cell? ⟨b, off + i, none⟩ = some (.int .i64 (ds.getD i 0)) := fun h0 => by
  obtain ⟨b, off, cur, fz, e, hlt, hc⟩ := hc h0
  have hl := heap_lt hlt
  exact ⟨b, off, e, fun i hi => (hW.cell (p := ⟨b, off + i, none⟩) hl).trans (hc i hi)⟩
 clear hc hs hW
 go_enter Tryd.func38, Tryd.ntmps38
 go_wp2
 go_loop [5] (fun t => ∃ n : Nat, n ≤ ds.length ∧ t = .int .i64 n ∧ Hid (dv (ds.take n) = dv ds)) (fun t => (intOf t).toNat)
 case atStart => exact ⟨ds.length, Nat.le_refl _, rfl, by show dv _ = _; rw [List.take_length]⟩
 case round =>
  obtain ⟨n, hn, rfl, HV⟩ := hrel
  by_cases h0 : n = 0
  ·subst h0
   have HF : Hid (RefPost w (s * dv ds) ds.length (.returned (.agg #[.int .i64 0, .slice none 0 0])) (w.alloc (.cells #[.int .i64 0, .slice none 0 0] 58))) := by
    refine ⟨_, rfl, ?_, HW.out⟩
    have e : s * dv ds = 0 := by rw [← HV.out]; simp [dv]
    rw [e]
    exact NumR.zero _ _
   clear HV
   go_wp2
   exact bodyPost_ret (v := .agg #[.int .i64 0, .slice none 0 0]) (by simp [results, Tryd.results38, go_sem]) rfl HF.out
  ·obtain ⟨b, off, rfl, hc⟩ := hc' (by omega)
   obtain ⟨m, rfl⟩ : ∃ m, n = m + 1 := ⟨n - 1, by omega⟩
   have hcm := hc m (by omega)
   clear hc
   have HG : Hid (ds.getD (m + 1 - 1) 0 = ds.getD m 0) := by show _ = _; rw [Nat.add_sub_cancel]
   have hzb := hdb m
   generalize hz : ds.getD m 0 = z at *
   by_cases hz0 : z = 0
   ·subst hz0
    go_wp2
    go_round
    case rel => exact ⟨m, by omega, by go_num, by have := dv_take_pred (ds := ds) (n := m + 1) (by omega) HG.out; rw [Nat.add_sub_cancel] at this; exact this.trans HV.out⟩
    case measure => simp [intOf]
   ·have hz1 : (z == 0) = false := by simp [hz0]
    have HF : Hid (RefPost w (s * dv ds) ds.length (.returned (.agg #[.int .i64 s, .slice (some ⟨b, off, none⟩) (m + 1) (m + 1)])) (w.alloc (.cells #[.int .i64 s, .slice (some ⟨b, off, none⟩) (m + 1) (m + 1)] 58))) := by
     refine ⟨_, rfl, ⟨s, _, ds.take (m + 1), rfl, (HD.out.take (m + 1) hn).below ((Below.refl _ _).alloc (Nat.le_refl _) _) (Nat.le_refl _), nrm_take hn (.inr (by rw [HG.out]; exact hz0)), by rw [HV.out], .inr ⟨by rw [List.length_take]; omega, ?_⟩, by rw [List.length_take]; omega⟩, (Below.refl _ _).alloc (Nat.le_refl _) _⟩
     rcases HS.out with h | h | h
     ·exact .inl h
     ·exact .inr h
     ·exfalso
      have hp := dv_pos (DB_take hdb (m + 1)) (nrm_take hn (.inr (by rw [HG.out]; exact hz0))) (by rw [List.length_take]; omega)
      rw [HV.out] at hp
      omega
    clear HV HS HD HG
    go_wp2
    exact bodyPost_ret (v := .agg #[.int .i64 s, .slice (some ⟨b, off, none⟩) (m + 1) (m + 1)]) (by simp [results, Tryd.results38, go_sem]) rfl HF.out

end Go.Proofs.YtanjajjjancggaaDoor
