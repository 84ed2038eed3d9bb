/- Products, the order of numbers, numbers of 64 bits, nought. -/
import Derived.Test.YtjdnhdcaifogmaaGreatDoorNum
import Derived.Laws.CopyOwn
import Derived.Deep.AppendLies
import Derived.Test.YtjdnhdcaifogmaaGreatDoorBpL

namespace Go.Proofs.YtjdnhdcaifogmaaGreatDoor
open Go.RowKit Limbs

theorem Box.drew {w : World} {B : Nat} {u0 u1 : Value} (h : Box w B u0 u1) : Box w.drew B u0 u1 := h

structure Three (w W : World) (a0 a1 b0 b1 r0 r1 : Value) : Prop where
 fst : Box W w.heap.size a0 a1
 snd : Box W (w.heap.size + 1) b0 b1
 res : Box W (w.heap.size + 2) r0 r1
 below : Below w.heap.size w W
 size : w.heap.size + 2 < W.heap.size

theorem three (w : World) (a0 a1 b0 b1 r0 r1 : Value) (t1 t2 t3 : TypeId) : Three w (((w.alloc (.cells #[a0, a1] t1)).alloc (.cells #[b0, b1] t2)).alloc (.cells #[r0, r1] t3)) a0 a1 b0 b1 r0 r1 where
 fst := (box_new w _ _ _ _ rfl).later (((Below.refl _ _).alloc (by simp) _).alloc (by simp) _ : Below (w.heap.size + 1) _ _) (by omega)
 snd := (box_new (w.alloc _) _ _ _ _ (by simp)).later ((Below.refl _ _).alloc (by simp) _ : Below (w.heap.size + 2) _ _) (by omega)
 res := box_new _ _ _ _ _ (by simp)
 below := (((Below.refl _ _).alloc (Nat.le_refl _) _).alloc (by simp) _).alloc (by simp; omega) _
 size := by simp

theorem Three.later {w W W' : World} {a0 a1 b0 b1 r0 r1 : Value} (h : Three w W a0 a1 b0 b1 r0 r1) (hb : Below W.heap.size W W') : Three w W' a0 a1 b0 b1 r0 r1 where
 fst := h.fst.later hb (by have := h.size; omega)
 snd := h.snd.later hb (by have := h.size; omega)
 res := h.res.later hb h.size
 below := h.below.trans (hb.mono h.below.size)
 size := Nat.lt_of_lt_of_le h.size hb.size

theorem Three.drew {w W : World} {a0 a1 b0 b1 r0 r1 : Value} (h : Three w W a0 a1 b0 b1 r0 r1) : Three w W.drew a0 a1 b0 b1 r0 r1 := ⟨h.fst, h.snd, h.res, h.below.drew, h.size⟩

theorem lv_pos {zs : List Int} (h : LB zs) (hn : Nrm zs) (h0 : zs.length ≠ 0) : 0 < lv zs := by
 have h1 := lv_nonneg h
 have h2 := lv_zero_iff h hn
 by_cases e : lv zs = 0
 ·exact absurd (h2.1 e) h0
 ·omega

end Go.Proofs.YtjdnhdcaifogmaaGreatDoor

/- Numbers of 64 bits; what may be. -/
namespace Go.Proofs.YtjdnhdcaifogmaaGreatDoor
open Go.RowKit Limbs

def isNum (neg : Bool) (zs : List Int) : Bool := if zs.length = 0 then !neg else zs.getD (zs.length - 1) 0 != 0

def checked (b : Bool) : Value := if b = true then .nilIface else .iface 71 (.int .i64 3)

end Go.Proofs.YtjdnhdcaifogmaaGreatDoor

/- Limbs in memory of their own; signs turned; differences; likeness. -/
namespace Go.Proofs.YtjdnhdcaifogmaaGreatDoor
open Go.RowKit Limbs

def FreshPost (w : World) (zs : List Int) (e : Ending) (w' : World) : Prop :=
 e = .returned (.slice (some ⟨w.heap.size, 0, none⟩) zs.length zs.length) ∧ Row w' w.heap.size zs ∧ Below w.heap.size w w'

theorem FreshPost.lim {w w' : World} {zs : List Int} (hr : Row w' w.heap.size zs) (hl : zs.length ≤ 1000000) : Lim w' (.slice (some ⟨w.heap.size, 0, none⟩) zs.length zs.length) zs := hr.lim _ (Nat.le_refl _) hl

structure Two (w W : World) (a0 a1 r0 r1 : Value) : Prop where
 fst : Box W w.heap.size a0 a1
 res : Box W (w.heap.size + 1) r0 r1
 below : Below w.heap.size w W
 size : w.heap.size + 1 < W.heap.size

theorem two (w : World) (a0 a1 r0 r1 : Value) (t1 t2 : TypeId) : Two w ((w.alloc (.cells #[a0, a1] t1)).alloc (.cells #[r0, r1] t2)) a0 a1 r0 r1 where
 fst := (box_new w _ _ _ _ rfl).later ((Below.refl _ _).alloc (by simp) _ : Below (w.heap.size + 1) _ _) (by omega)
 res := box_new _ _ _ _ _ (by simp)
 below := ((Below.refl _ _).alloc (Nat.le_refl _) _).alloc (by simp) _
 size := by simp

theorem Two.later {w W W' : World} {a0 a1 r0 r1 : Value} (h : Two w W a0 a1 r0 r1) (hb : Below W.heap.size W W') : Two w W' a0 a1 r0 r1 where
 fst := h.fst.later hb (by have := h.size; omega)
 res := h.res.later hb h.size
 below := h.below.trans (hb.mono h.below.size)
 size := Nat.lt_of_lt_of_le h.size hb.size

theorem Two.drew {w W : World} {a0 a1 r0 r1 : Value} (h : Two w W a0 a1 r0 r1) : Two w W.drew a0 a1 r0 r1 := ⟨h.fst, h.res, h.below.drew, h.size⟩

end Go.Proofs.YtjdnhdcaifogmaaGreatDoor

/- Limbs divided by one limb. -/
namespace Go.Proofs.YtjdnhdcaifogmaaGreatDoor
open Go.RowKit Limbs

def Drawn (w w' : World) : Prop := ∃ nq, w' = w.drewN nq

theorem Row.drewN {w : World} {g : Nat} {zs : List Int} (h : Row w g zs) (n : Nat) : Row (w.drewN n) g zs := h

theorem grown_drewN {w w' : World} {r : Option Nat} (h : w.grownBy w' r) (n : Nat) : w.grownBy (w'.drewN n) r := ⟨h.os, h.tape, h.output, h.size, h.block⟩

theorem grown_set {w w' : World} {g : Nat} (h : w.grownBy w' (some g)) (k : Nat) (u : Value) : w.grownBy (w'.setCell ⟨g, k, none⟩ u) (some g) :=
 ⟨h.os, h.tape, h.output, by simpa using h.size, fun j hj hne => by
  rw [heap_setCell_other _ _ _ _ (fun e => hne (by simp [e]))]
  exact h.block j hj hne⟩

def DivInv (w wr : World) (g : Nat) (b : Int) (zs : List Int) (p : Nat) (r : Int) (qs : List Int) : Prop :=
 qs.length = zs.length ∧ Row wr g qs ∧ w.grownBy wr (some g) ∧ qs.take p = zs.take p ∧ lv (zs.drop p) = b * lv (qs.drop p) + r

theorem DivInv.start {w : World} {g : Nat} {zs : List Int} (h : Row w g zs) (b : Int) : DivInv w w g b zs zs.length 0 zs :=
 ⟨rfl, h, World.grownBy.refl _ _, rfl, by rw [List.drop_length]; simp [lv]⟩

theorem getD_of_take {a b : List Int} {p i : Nat} (h : a.take p = b.take p) (hi : i < p) : a.getD i 0 = b.getD i 0 := by
 rw [← getD_take a p i hi, h, getD_take b p i hi]

theorem DivInv.step {w wr : World} {g : Nat} {b : Int} {zs : List Int} {p : Nat} {r : Int} {qs : List Int} (h : DivInv w wr g b zs (p + 1) r qs) (hp : p < zs.length) {q s : Int} (hq : 0 ≤ q ∧ q < 4294967296) (hs : r * 4294967296 + zs.getD p 0 = b * q + s) (nq : Nat) :
  DivInv w ((wr.drewN nq).setCell ⟨g, p, none⟩ (.int .u32 q)) g b zs p s (qs.set p q) := by
 obtain ⟨h1, h2, h3, h4, h5⟩ := h
 refine ⟨by rw [List.length_set]; exact h1, (h2.drewN nq).store (by omega) hq, grown_set (grown_drewN h3 nq) _ _, ?_, ?_⟩
 ·rw [take_set_ge _ _ _ _ (Nat.le_refl _)]
  have := congrArg (List.take p) h4
  rwa [List.take_take, List.take_take, Nat.min_eq_left (by omega)] at this
 ·rw [drop_cons_getD zs p hp, drop_cons_getD (qs.set p q) p (by rw [List.length_set]; omega), drop_set_lt _ _ _ _ (Nat.lt_succ_self p), getD_set _ _ _ _ (by omega), if_pos rfl]
  simp only [lv]
  rw [h5, Int.mul_add, Int.mul_add]
  have e : b * (4294967296 * lv (qs.drop (p + 1))) = 4294967296 * (b * lv (qs.drop (p + 1))) := by rw [Int.mul_left_comm]
  rw [e]
  omega

def DivOnePost (w : World) (g : Nat) (b : Int) (zs : List Int) (e : Ending) (w' : World) : Prop :=
 ∃ r qs, e = .returned (.int .u32 r) ∧ 0 ≤ r ∧ r < b ∧ qs.length = zs.length ∧ Row w' g qs ∧ w.grownBy w' (some g) ∧ lv zs = b * lv qs + r

end Go.Proofs.YtjdnhdcaifogmaaGreatDoor

/- Groups of nine decimal digits. -/
namespace Go.Proofs.YtjdnhdcaifogmaaGreatDoor
open Go.RowKit Limbs

def gv : List Int → Int
 | [] => 0
 | x :: xs => x + 1000000000 * gv xs

def gp : Nat → Int
 | 0 => 1
 | n + 1 => 1000000000 * gp n

theorem gp_pos (n : Nat) : 0 < gp n := by
 induction n with
 | zero => simp [gp]
 | succ n ih => simp only [gp]; omega

theorem gp_mono {m n : Nat} (h : m ≤ n) : gp m ≤ gp n := by
 induction n with
 | zero => rw [Nat.le_zero.1 h]; exact Int.le_refl _
 | succ n ih =>
  by_cases e : m = n + 1
  ·rw [e]; exact Int.le_refl _
  ·have := ih (by omega); have := gp_pos n; simp only [gp]; omega

theorem gv_append (xs : List Int) (r : Int) : gv (xs ++ [r]) = gv xs + gp xs.length * r := by
 induction xs with
 | nil => simp [gv, gp]
 | cons x xs ih => simp only [List.cons_append, gv, ih, List.length_cons, gp]; rw [Int.mul_add, Int.mul_assoc]; omega

theorem bp_le_gp (n : Nat) : bp n ≤ gp (2 * n) := by
 induction n with
 | zero => simp [bp, gp]
 | succ n ih => rw [show 2 * (n + 1) = 2 * n + 1 + 1 by omega]; simp only [bp, gp]; have := gp_pos (2 * n); omega

theorem Row.take {w : World} {g : Nat} {zs : List Int} (h : Row w g zs) (n : Nat) : Row w g (zs.take n) := by
 obtain ⟨h1, h2, h3⟩ := h
 refine ⟨h1, LB_take h2 n, fun j hj => ?_⟩
 rw [List.length_take] at hj
 rw [getD_take zs n j (by omega)]
 exact h3 j (by omega)

theorem Row.kept {w w' : World} {g : Nat} {zs : List Int} {r : Option Nat} (h : Row w g zs) (hg : w.grownBy w' r) (hne : r ≠ some g) : Row w' g zs := by
 obtain ⟨h1, h2, h3⟩ := h
 have hb : w'.heap[g]? = w.heap[g]? := hg.block g h1 (fun e => hne e.symm)
 exact ⟨Nat.lt_of_lt_of_le h1 hg.size, h2, fun j hj => ⟨(World.cell?_of_block (a := ⟨g, j, none⟩) hb).trans (h3 j hj).1, (World.frozen?_of_block (a := ⟨g, j, none⟩) hb).trans (h3 j hj).2⟩⟩

def GrpInv (w wr : World) (zs : List Int) (v : Value) (gs ys : List Int) : Prop :=
 Row wr w.heap.size ys ∧ Nrm ys ∧ ys.length ≤ zs.length ∧ wr.ownsRow (w.heap.size + 1) 3 1 v gs.length (gs.map (Value.int .i64)) ∧ Below w.heap.size w wr ∧
  lv zs = gv gs + gp gs.length * lv ys ∧ (∀ g ∈ gs, 0 ≤ g ∧ g < 1000000000) ∧ (lv ys = 0 → gs.length = 0 ∨ gs.getD (gs.length - 1) 0 ≠ 0) ∧ lenOf v = gs.length ∧ w.heap.size < wr.heap.size ∧ 0 ≤ gv gs

theorem lenOf_owns {w : World} {base n : Nat} {e : TypeId} {v : Value} {xs : List Value} (h : w.ownsRow base e 1 v n xs) : lenOf v = n := by
 rcases h.2 with ⟨rfl, h0⟩ | ⟨g, cap, cur, rfl, _⟩
 ·simp [lenOf, h0]
 ·rfl

theorem GrpInv.few {w wr : World} {zs : List Int} {v : Value} {gs ys : List Int} (h : GrpInv w wr zs v gs ys) (hlb : LB zs) (hy : ys.length ≠ 0) : gs.length < 2 * zs.length := by
 obtain ⟨h1, h2, h3, h4, h5, h6, h7, h8, h9, h10, h11⟩ := h
 have e1 := lv_pos h1.2.1 h2 hy
 have e2 := lv_lt hlb
 have e3 := bp_le_gp zs.length
 have e4 := gp_pos gs.length
 have e5 : gp gs.length * 1 ≤ gp gs.length * lv ys := Int.mul_le_mul_of_nonneg_left (by omega) (by omega)
 by_cases hk : gs.length < 2 * zs.length
 ·exact hk
 ·have := gp_mono (m := 2 * zs.length) (n := gs.length) (by omega)
  omega

theorem GrpInv.step {w wr w1 w2 : World} {zs : List Int} {v v' : Value} {gs ys qs : List Int} {r : Int} {m : Nat} (h : GrpInv w wr zs v gs ys) (hr0 : 0 ≤ r) (hr1 : r < 1000000000)
  (hq : qs.length = ys.length) (hrow : Row w1 w.heap.size qs) (hg1 : wr.grownBy w1 (some w.heap.size)) (hlv : lv ys = 1000000000 * lv qs + r) (hpos : lv ys ≠ 0)
  (hown : w2.ownsRow (w.heap.size + 1) 3 1 v' (gs.length + 1) (gs.map (Value.int .i64) ++ [.int .i64 r])) (hg2 : (w1.alloc (.cells #[.int .i64 r] 3)).grownBy w2 v.ownBlock)
  (hm : m ≤ qs.length) (hlm : lv (qs.take m) = lv qs) (hnm : Nrm (qs.take m)) : GrpInv w w2 zs v' (gs ++ [r]) (qs.take m) := by
 obtain ⟨h1, h2, h3, h4, h5, h6, h7, h8, h9, h10, h11⟩ := h
 have hne : v.ownBlock ≠ some w.heap.size := fun e => by have := h4.lt _ e; omega
 have hbase : ∀ k, v.ownBlock = some k → w.heap.size ≤ k := fun k e => by have := h4.lt _ e; omega
 have b1 := h5.grown hg1 (by omega) (fun k hk => by simp at hk; omega)
 have b2 := b1.alloc b1.size (.cells #[.int .i64 r] 3)
 have b3 := b2.grown hg2 (by simp; have := b1.size; omega) hbase
 refine ⟨((hrow.kept (World.grownBy_alloc w1 _ none) (by simp)).kept hg2 hne).take m, hnm, by rw [List.length_take]; omega, ?_, b3, ?_, ?_, ?_, ?_, ?_, ?_⟩
 ·rw [List.length_append, List.map_append]; exact hown
 ·rw [gv_append, List.length_append, hlm, h6, hlv]
  simp only [List.length_singleton, gp]
  rw [Int.mul_add]
  have e : gp gs.length * (1000000000 * lv qs) = 1000000000 * gp gs.length * lv qs := by rw [Int.mul_left_comm, Int.mul_assoc]
  rw [e]
  omega
 ·intro g hg
  rcases List.mem_append.1 hg with hg | hg
  ·exact h7 g hg
  ·rw [List.mem_singleton.1 hg]; exact ⟨hr0, hr1⟩
 ·intro h0
  right
  rw [hlm] at h0
  rw [List.length_append, List.length_singleton, Nat.add_sub_cancel, List.getD_eq_getElem?_getD, List.getElem?_append_right (Nat.le_refl _), Nat.sub_self]
  simp
  omega
 ·rw [lenOf_owns hown]; simp
 ·have := b1.size; have := hg2.size; simp at this; have := h10; have := hg1.size; omega
 ·rw [gv_append]
  have := Int.mul_nonneg (show 0 ≤ gp gs.length from by have := gp_pos gs.length; omega) hr0
  omega

def GrpPost (w : World) (zs : List Int) (e : Ending) (w' : World) : Prop :=
 ∃ v gs, e = .returned v ∧ w'.ownsRow (w.heap.size + 1) 3 1 v gs.length (gs.map (Value.int .i64)) ∧ Below w.heap.size w w' ∧ lv zs = gv gs ∧ (∀ g ∈ gs, 0 ≤ g ∧ g < 1000000000) ∧ (gs.length = 0 ∨ gs.getD (gs.length - 1) 0 ≠ 0) ∧ gs.length ≤ 2 * zs.length

end Go.Proofs.YtjdnhdcaifogmaaGreatDoor

/- Rows that one more is put to. -/
namespace Go.Proofs.YtjdnhdcaifogmaaGreatDoor
open Go.RowKit Limbs

theorem below_app {wr w3 : World} {B n : Nat} {t : TypeId} {v x : Value} {xs : List Value} (hown : wr.ownsRow B t 1 v n xs) (hB : B ≤ wr.heap.size) (hg : (wr.alloc (.cells #[x] t)).grownBy w3 v.ownBlock) : Below B wr w3 :=
 ((Below.refl _ _).alloc hB _).grown hg (by simp; omega) (fun k hk => (hown.lt k hk).1)

theorem Lim.owns {w : World} {base n : Nat} {v : Value} {ls : List Int} (h : w.ownsRow base 143 1 v n (ls.map (Value.int .u32))) (hd : LB ls) (hl : ls.length ≤ 1000000) : Lim w v ls := by
 have hn : n = ls.length := by have := h.1; rw [List.length_map] at this; omega
 subst hn
 rcases h.2 with ⟨rfl, h0⟩ | ⟨g, cap, cur, rfl, hb, hg, hc, hm, hs, ht⟩
 ·have : ls = [] := List.eq_nil_of_length_eq_zero h0
  subst this
  exact ⟨none, 0, rfl, Nat.le_refl _, by simp, hd, fun h => absurd h (by simp)⟩
 ·refine ⟨_, cap, rfl, hc, hl, hd, fun h0 => ⟨g, 0, rfl, heap_lt hg, fun i hi => ?_⟩⟩
  have := h.cellAt i (by omega)
  rw [Nat.zero_add, this]
  simp [List.getD_eq_getElem?_getD, hi]

theorem LB_snoc {ls : List Int} (h : LB ls) {r : Int} (hr : 0 ≤ r ∧ r < 4294967296) : LB (ls ++ [r]) := by
 intro i
 rw [List.getD_eq_getElem?_getD]
 rcases Nat.lt_trichotomy i ls.length with hi | hi | hi
 ·rw [List.getElem?_append_left hi, ← List.getD_eq_getElem?_getD]; exact h i
 ·subst hi; simp; omega
 ·rw [List.getElem?_eq_none (by simp; omega)]; simp

theorem lv_snoc (ls : List Int) (r : Int) : lv (ls ++ [r]) = lv ls + bp ls.length * r := by
 rw [lv_append]; simp [lv]

end Go.Proofs.YtjdnhdcaifogmaaGreatDoor

/- Plain arithmetic of the reference's digits: numbers to the base 10000, the lowest first. No Go in it. -/
namespace Go.Proofs.YtjdnhdcaifogmaaGreatDoor.Digs
open Limbs

def dv : List Int → Int
 | [] => 0
 | x :: xs => x + 10000 * dv xs

def DB (zs : List Int) : Prop := ∀ i : Nat, 0 ≤ zs.getD i 0 ∧ zs.getD i 0 < 10000

def dp : Nat → Int
 | 0 => 1
 | n + 1 => 10000 * dp n

theorem dp_pos (n : Nat) : 0 < dp n := by
 induction n with
 | zero => simp [dp]
 | succ n ih => simp only [dp]; omega

theorem dp_add (m n : Nat) : dp (m + n) = dp m * dp n := by
 induction m with
 | zero => simp [dp]
 | succ m ih => rw [Nat.succ_add]; simp only [dp]; rw [ih, Int.mul_assoc]

theorem DB_nil : DB [] := by intro i; simp
theorem DB_tail {x : Int} {xs : List Int} (h : DB (x :: xs)) : DB xs := fun i => by simpa using h (i + 1)
theorem DB_head {x : Int} {xs : List Int} (h : DB (x :: xs)) : 0 ≤ x ∧ x < 10000 := by simpa using h 0
theorem DB_cons {x : Int} {xs : List Int} (hx : 0 ≤ x ∧ x < 10000) (h : DB xs) : DB (x :: xs) := by
 intro i
 cases i with
 | zero => simpa using hx
 | succ i => simpa using h i

theorem DB_mem {zs : List Int} (h : ∀ z ∈ zs, 0 ≤ z ∧ z < 10000) : DB zs := by
 induction zs with
 | nil => exact DB_nil
 | cons x xs ih => exact DB_cons (h x (by simp)) (ih fun z hz => h z (by simp [hz]))

theorem DB_take {zs : List Int} (h : DB zs) (k : Nat) : DB (zs.take k) := by
 intro i
 have := h i
 by_cases hk : i < k
 ·simpa [List.getD_eq_getElem?_getD, List.getElem?_take, hk] using this
 ·simp [List.getD_eq_getElem?_getD, List.getElem?_take, hk]

theorem dv_nonneg {zs : List Int} (h : DB zs) : 0 ≤ dv zs := by
 induction zs with
 | nil => simp [dv]
 | cons x xs ih => have := ih (DB_tail h); have := DB_head h; simp only [dv]; omega

theorem dv_append (xs ys : List Int) : dv (xs ++ ys) = dv xs + dp xs.length * dv ys := by
 induction xs with
 | nil => simp [dv, dp]
 | cons x xs ih => simp only [List.cons_append, dv, ih, List.length_cons, dp]; rw [Int.mul_add, Int.mul_assoc]; omega

theorem dv_take_succ (zs : List Int) (k : Nat) : dv (zs.take (k + 1)) = dv (zs.take k) + dp k * zs.getD k 0 := by
 by_cases h : k < zs.length
 ·rw [List.take_succ_eq_append_getElem h, dv_append]
  simp [dv, List.length_take, Nat.min_eq_left (Nat.le_of_lt h), List.getD_eq_getElem?_getD, h]
 ·rw [List.take_of_length_le (by omega), List.take_of_length_le (by omega)]
  simp [List.getD_eq_getElem?_getD, List.getElem?_eq_none (Nat.le_of_not_lt h)]

theorem dv_split (zs : List Int) (k : Nat) (h : k ≤ zs.length) : dv zs = dv (zs.take k) + dp k * dv (zs.drop k) := by
 have := dv_append (zs.take k) (zs.drop k)
 rw [List.take_append_drop, List.length_take, Nat.min_eq_left h] at this
 exact this

theorem dv_take_ge (zs : List Int) {k : Nat} (h : zs.length ≤ k) : dv (zs.take k) = dv zs := by
 rw [List.take_of_length_le h]

theorem dv_take_nonneg {zs : List Int} (h : DB zs) (k : Nat) : 0 ≤ dv (zs.take k) := dv_nonneg (DB_take h k)

theorem nrm_low10 {zs : List Int} (h : DB zs) (hn : Nrm zs) (h0 : 0 < zs.length) : dp (zs.length - 1) ≤ dv zs := by
 have e := dv_split zs (zs.length - 1) (by omega)
 rw [drop_cons_getD zs (zs.length - 1) (by omega)] at e
 have hd : zs.drop (zs.length - 1 + 1) = [] := List.drop_eq_nil_of_le (by omega)
 rw [hd] at e
 simp only [dv] at e
 have h1 := dv_take_nonneg h (zs.length - 1)
 have h2 := h (zs.length - 1)
 have h3 : zs.getD (zs.length - 1) 0 ≠ 0 := by rcases hn with hn | hn; omega; exact hn
 have hp := dp_pos (zs.length - 1)
 have h4 : dp (zs.length - 1) * 1 ≤ dp (zs.length - 1) * (zs.getD (zs.length - 1) 0 + 10000 * 0) := Int.mul_le_mul_of_nonneg_left (by omega) (by omega)
 omega

theorem dv_zero_iff {zs : List Int} (h : DB zs) (hn : Nrm zs) : dv zs = 0 ↔ zs.length = 0 := by
 constructor
 ·intro h0
  by_cases hl : zs.length = 0
  ·exact hl
  ·have h1 := nrm_low10 h hn (by omega)
   have := dp_pos (zs.length - 1)
   omega
 ·intro hl
  rw [List.eq_nil_of_length_eq_zero hl]; rfl

theorem DB_set {zs : List Int} (h : DB zs) (k : Nat) {z : Int} (hz : 0 ≤ z ∧ z < 10000) : DB (zs.set k z) := by
 intro i
 rw [List.getD_eq_getElem?_getD, List.getElem?_set]
 by_cases hk : k = i
 ·subst hk
  by_cases hl : k < zs.length <;> simp [hl, hz]
 ·have := h i
  simpa [hk, List.getD_eq_getElem?_getD] using this

theorem dv_set (zs : List Int) (k : Nat) (z : Int) (h : k < zs.length) : dv (zs.set k z) = dv zs + dp k * (z - zs.getD k 0) := by
 induction zs generalizing k with
 | nil => simp at h
 | cons x xs ih =>
  cases k with
  | zero => simp [dv, dp]; omega
  | succ k =>
   have := ih k (by simpa using h)
   simp only [List.set_cons_succ, dv, this, dp, List.getD_cons_succ]
   rw [Int.mul_add, Int.mul_assoc]; omega

theorem DB_replicate (n : Nat) : DB (List.replicate n 0) := DB_mem fun z hz => by
 rw [List.eq_of_mem_replicate hz]; decide

end Go.Proofs.YtjdnhdcaifogmaaGreatDoor.Digs

/- The reference's numbers: digits to the base 10000 in memory; noughts behind are taken off. -/
namespace Go.Proofs.YtjdnhdcaifogmaaGreatDoor
open Go.RowKit Limbs Digs

def Dig (w : World) (v : Value) (ds : List Int) : Prop :=
 ∃ ao cap, v = .slice ao ds.length cap ∧ ds.length ≤ cap ∧ ds.length ≤ 1000000000000 ∧ DB ds ∧
  (0 < ds.length → ∃ b off cur fz, ao = some ⟨b, off, none⟩ ∧ w.heap[b]? = some (.cells cur 3 fz) ∧ ∀ i, i < ds.length → w.cell? ⟨b, off + i, none⟩ = some (.int .i64 (ds.getD i 0)))

theorem Dig.below {B : Nat} {w w' : World} {v : Value} {ds : List Int} (h : Dig w v ds) (hb : Below B w w') (hB : w.heap.size ≤ B) : Dig w' v ds := by
 obtain ⟨ao, cap, hv, h1, h2, h3, h4⟩ := h
 refine ⟨ao, cap, hv, h1, h2, h3, fun h0 => ?_⟩
 obtain ⟨b, off, cur, fz, e, hlt, hc⟩ := h4 h0
 have hl := heap_lt hlt
 exact ⟨b, off, cur, fz, e, (hb.block b (by omega)).trans hlt, fun i hi => (hb.cell (p := ⟨b, off + i, none⟩) (Nat.lt_of_lt_of_le hl hB)).trans (hc i hi)⟩

theorem Dig.nil (w : World) : Dig w (.slice none 0 0) [] := ⟨none, 0, rfl, Nat.le_refl _, by simp, DB_nil, fun h => absurd h (by simp)⟩

theorem Dig.take {w : World} {ao : Option Addr} {cap : Nat} {ds : List Int} (h : Dig w (.slice ao ds.length cap) ds) (n : Nat) (hn : n ≤ ds.length) : Dig w (.slice ao n n) (ds.take n) := by
 obtain ⟨ao', cap', hv, h1, h2, h3, h4⟩ := h
 simp only [Value.slice.injEq, true_and] at hv
 obtain ⟨rfl, rfl⟩ := hv
 have hl : (ds.take n).length = n := by rw [List.length_take]; omega
 refine ⟨ao, n, by rw [hl], by omega, by omega, DB_take h3 n, fun h0 => ?_⟩
 obtain ⟨b, off, cur, fz, e, hlt, hc⟩ := h4 (by omega)
 refine ⟨b, off, cur, fz, e, hlt, fun i hi => ?_⟩
 rw [hc i (by omega), getD_take ds n i (by omega)]

theorem Dig.owns {w : World} {base n : Nat} {v : Value} {ds : List Int} (h : w.ownsRow base 3 1 v n (ds.map (Value.int .i64))) (hd : DB ds) (hl : ds.length ≤ 1000000000000) : Dig w v ds := by
 have hn : n = ds.length := by have := h.1; rw [List.length_map] at this; omega
 subst hn
 rcases h.2 with ⟨rfl, h0⟩ | ⟨g, cap, cur, rfl, hb, hg, hc, hm, hs, ht⟩
 ·have : ds = [] := List.eq_nil_of_length_eq_zero h0
  subst this
  exact Dig.nil w
 ·refine ⟨_, cap, rfl, hc, hl, hd, fun h0 => ⟨g, 0, cur, (0, 0), rfl, hg, fun i hi => ?_⟩⟩
  have := h.cellAt i (by omega)
  rw [Nat.zero_add, this]
  simp [List.getD_eq_getElem?_getD, hi]

def NumR (w : World) (v : Value) (z : Int) (n : Nat) : Prop :=
 ∃ (s : Int) (sl : Value) (ds : List Int), v = .agg #[.int .i64 s, sl] ∧ Dig w sl ds ∧ Nrm ds ∧ z = s * dv ds ∧ ((ds.length = 0 ∧ s = 0 ∧ sl = .slice none 0 0) ∨ (0 < ds.length ∧ (s = 1 ∨ s = -1))) ∧ ds.length ≤ n

theorem NumR.below {B : Nat} {w w' : World} {v : Value} {z : Int} {n : Nat} (h : NumR w v z n) (hb : Below B w w') (hB : w.heap.size ≤ B) : NumR w' v z n := by
 obtain ⟨s, sl, ds, h1, h2, h3⟩ := h
 exact ⟨s, sl, ds, h1, h2.below hb hB, h3⟩

theorem NumR.mono {w : World} {v : Value} {z : Int} {n m : Nat} (h : NumR w v z n) (hm : n ≤ m) : NumR w v z m := by
 obtain ⟨s, sl, ds, h1, h2, h3, h4, h5, h6⟩ := h
 exact ⟨s, sl, ds, h1, h2, h3, h4, h5, by omega⟩

theorem NumR.zero (w : World) (n : Nat) : NumR w (.agg #[.int .i64 0, .slice none 0 0]) 0 n :=
 ⟨0, _, [], rfl, Dig.nil w, .inl rfl, by simp, .inl ⟨rfl, rfl, rfl⟩, by simp⟩

def RefPost (w : World) (z : Int) (n : Nat) (e : Ending) (w' : World) : Prop :=
 ∃ v, e = .returned v ∧ NumR w' v z n ∧ Below w.heap.size w w'

theorem dv_pos {ds : List Int} (h : DB ds) (hn : Nrm ds) (h0 : ds.length ≠ 0) : 0 < dv ds := by
 have h1 := dv_nonneg h
 have h2 := dv_zero_iff h hn
 rcases (by omega : dv ds = 0 ∨ 0 < dv ds) with e | e
 ·exact absurd (h2.1 e) h0
 ·exact e

end Go.Proofs.YtjdnhdcaifogmaaGreatDoor

/- The reference: a number of 64 bits. -/
namespace Go.Proofs.YtjdnhdcaifogmaaGreatDoor
open Go.RowKit Limbs Digs

def BoxR (w : World) (B : Nat) (u0 u1 : Value) : Prop := w.heap[B]? = some (.cells #[u0, u1] 95 (0, 0))

theorem BoxR.box {w : World} {B : Nat} {u0 u1 : Value} (h : BoxR w B u0 u1) : Box w B u0 u1 := by
 unfold BoxR at h
 simp [Box, World.cell?, World.frozen?, h]

theorem BoxR.lt {w : World} {B : Nat} {u0 u1 : Value} (h : BoxR w B u0 u1) : B < w.heap.size := heap_lt h

theorem BoxR.later {W w1 : World} {B C : Nat} {u0 u1 : Value} (h : BoxR W B u0 u1) (hb : Below C W w1) (hB : B < C) : BoxR w1 B u0 u1 := (hb.block B hB).trans h

theorem BoxR.set {w : World} {B : Nat} {u0 u1 : Value} (h : BoxR w B u0 u1) (v0 v1 : Value) : BoxR ((w.setCell ⟨B, 0, none⟩ v0).setCell ⟨B, 1, none⟩ v1) B v0 v1 := by
 have h1 := heap_setCell_same w B 0 _ _ v0 h
 have h2 := heap_setCell_same _ B 1 _ _ v1 h1
 exact h2

theorem BoxR.other {w : World} {B C : Nat} {u0 u1 : Value} (h : BoxR w B u0 u1) (hne : B ≠ C) (k : Nat) (v : Value) : BoxR (w.setCell ⟨C, k, none⟩ v) B u0 u1 :=
 (heap_setCell_other w ⟨C, k, none⟩ B v hne).trans h

theorem Dig.setCell {w : World} {v : Value} {ds : List Int} (h : Dig w v ds) {B : Nat} {c : Array Value} {t : TypeId} {fz : Nat × Nat} (hB : w.heap[B]? = some (.cells c t fz)) (ht : t ≠ 3) (k : Nat) (u : Value) : Dig (w.setCell ⟨B, k, none⟩ u) v ds := by
 obtain ⟨ao, cap, hv, h1, h2, h3, h4⟩ := h
 refine ⟨ao, cap, hv, h1, h2, h3, fun h0 => ?_⟩
 obtain ⟨b, off, cur, fz', e, hlt, hc⟩ := h4 h0
 have hne : b ≠ B := fun e => by
  subst e
  rw [hlt] at hB
  simp only [Option.some.injEq, Obj.cells.injEq] at hB
  exact ht hB.2.1.symm
 exact ⟨b, off, cur, fz', e, (heap_setCell_other w _ b u hne).trans hlt, fun i hi => (World.cell?_of_block (a := ⟨b, off + i, none⟩) (heap_setCell_other w ⟨B, k, none⟩ b u hne)).trans (hc i hi)⟩

theorem NumR.setCell {w : World} {v : Value} {z : Int} {n : Nat} (h : NumR w v z n) {B : Nat} {u0 u1 : Value} (hB : BoxR w B u0 u1) (v0 v1 : Value) : NumR ((w.setCell ⟨B, 0, none⟩ v0).setCell ⟨B, 1, none⟩ v1) v z n := by
 obtain ⟨s, sl, ds, h1, h2, h3⟩ := h
 have hb := heap_setCell_same w B 0 _ _ v0 hB
 exact ⟨s, sl, ds, h1, (h2.setCell hB (by decide) 0 v0).setCell hb (by decide) 1 v1, h3⟩

theorem NumR.form {w : World} {v : Value} {z : Int} {n : Nat} (h : NumR w v z n) : ∃ (s : Int) (o : Option Addr) (l c : Nat), v = .agg #[.int .i64 s, .slice o l c] ∧ (s = 0 ∨ s = 1 ∨ s = -1) := by
 obtain ⟨s, sl, ds, h1, ⟨ao, cap, rfl, -⟩, -, -, hs, -⟩ := h
 exact ⟨s, ao, ds.length, cap, h1, by omega⟩

theorem DB_append {ds : List Int} (h : DB ds) {r : Int} (hr : 0 ≤ r ∧ r < 10000) : DB (ds ++ [r]) := by
 intro i
 rw [List.getD_eq_getElem?_getD]
 rcases Nat.lt_trichotomy i ds.length with hi | hi | hi
 ·rw [List.getElem?_append_left hi, ← List.getD_eq_getElem?_getD]; exact h i
 ·subst hi; simp; omega
 ·rw [List.getElem?_eq_none (by simp; omega)]; simp

theorem dv_snoc (ds : List Int) (r : Int) : dv (ds ++ [r]) = dv ds + dp ds.length * r := by
 rw [dv_append]; simp [dv]

def NInv (w wr : World) (m X : Int) (d : Value) (ds : List Int) : Prop :=
 wr.ownsRow (w.heap.size + 1) 3 1 d ds.length (ds.map (Value.int .i64)) ∧ BoxR wr w.heap.size (.int .i64 0) (.slice none 0 0) ∧ Below w.heap.size w wr ∧ DB ds ∧ m = dv ds + dp ds.length * X ∧ 0 ≤ X ∧ X ≤ 9223372036854775808 ∧ ds.length ≤ 5

theorem NInv.few {w wr : World} {m X : Int} {d : Value} {ds : List Int} (h : NInv w wr m X d ds) (hm : m ≤ 9223372036854775808) (hX : X ≠ 0) : ds.length < 5 := by
 obtain ⟨-, -, -, h4, h5, h6, -, h8⟩ := h
 by_cases hk : ds.length < 5
 ·exact hk
 ·have e : ds.length = 5 := by omega
  rw [e] at h5
  have := dv_nonneg h4
  have e5 : dp 5 = 100000000000000000000 := by decide
  rw [e5] at h5
  omega

theorem NInv.step {w wr w3 : World} {m X r : Int} {d d' : Value} {ds : List Int} (h : NInv w wr m X d ds) (hm : m ≤ 9223372036854775808) (hX : X ≠ 0) (hr : X % 10000 = r)
  (hown : w3.ownsRow (w.heap.size + 1) 3 1 d' (ds.length + 1) (ds.map (Value.int .i64) ++ [.int .i64 r])) (hg : (wr.alloc (.cells #[.int .i64 r] 3)).grownBy w3 d.ownBlock) : NInv w w3 m (X / 10000) d' (ds ++ [r]) := by
 have hf := h.few hm hX
 obtain ⟨h1, h2, h3, h4, h5, h6, h7, h8⟩ := h
 have hb := below_app h1 (by have := h2.lt; omega) hg
 refine ⟨by rw [List.length_append, List.map_append]; exact hown, h2.later hb (by omega), h3.trans (hb.mono (by omega)), DB_append h4 (by omega), ?_, by omega, by omega, by simp; omega⟩
 rw [dv_snoc, List.length_append, List.length_singleton, h5]
 simp only [dp]
 have e : 10000 * dp ds.length * (X / 10000) = dp ds.length * (10000 * (X / 10000)) := by rw [Int.mul_comm 10000, Int.mul_assoc]
 rw [e, Int.add_assoc, ← Int.mul_add]
 congr 2
 omega

end Go.Proofs.YtjdnhdcaifogmaaGreatDoor

/- The reference: digits put together. -/
namespace Go.Proofs.YtjdnhdcaifogmaaGreatDoor
open Go.RowKit Limbs Digs

def DigPost (w : World) (z : Int) (n : Nat) (e : Ending) (w' : World) : Prop :=
 ∃ v ds, e = .returned v ∧ Dig w' v ds ∧ dv ds = z ∧ ds.length ≤ n ∧ Below w.heap.size w w'

def AInv (w wr : World) (a b : List Int) (k : Nat) (c : Int) (d : Value) (ds : List Int) : Prop :=
 wr.ownsRow w.heap.size 3 1 d ds.length (ds.map (Value.int .i64)) ∧ Below w.heap.size w wr ∧ DB ds ∧ ds.length = k ∧ dv ds + dp k * c = dv (a.take k) + dv (b.take k) ∧ 0 ≤ c ∧ c ≤ 1

theorem AInv.step {w wr w3 : World} {a b : List Int} {k : Nat} {c t : Int} {d d' : Value} {ds : List Int} (ha : DB a) (hb : DB b) (h : AInv w wr a b k c d ds) (ht : t = c + a.getD k 0 + b.getD k 0)
  (hown : w3.ownsRow w.heap.size 3 1 d' (k + 1) (ds.map (Value.int .i64) ++ [.int .i64 (t % 10000)])) (hg : (wr.alloc (.cells #[.int .i64 (t % 10000)] 3)).grownBy w3 d.ownBlock) : AInv w w3 a b (k + 1) (t / 10000) d' (ds ++ [t % 10000]) := by
 obtain ⟨h1, h2, h3, h4, h5, h6, h7⟩ := h
 have hx := ha k
 have hy := hb k
 have hbl := below_app h1 h2.size hg
 refine ⟨by rw [List.length_append, List.map_append, h4]; exact hown, h2.trans hbl, DB_append h3 (by omega), by simp [h4], ?_, by omega, by omega⟩
 rw [dv_snoc, dv_take_succ, dv_take_succ, h4]
 simp only [dp]
 have e1 : 10000 * dp k * (t / 10000) = dp k * (10000 * (t / 10000)) := by rw [Int.mul_comm 10000, Int.mul_assoc]
 have e2 : dp k * (t % 10000) + dp k * (10000 * (t / 10000)) = dp k * t := by rw [← Int.mul_add]; congr 1; omega
 have e3 : dp k * t = dp k * c + dp k * a.getD k 0 + dp k * b.getD k 0 := by rw [ht, Int.mul_add, Int.mul_add]
 rw [e1]
 omega

end Go.Proofs.YtjdnhdcaifogmaaGreatDoor

/- The reference: digits taken from digits; their order. -/
namespace Go.Proofs.YtjdnhdcaifogmaaGreatDoor
open Go.RowKit Limbs Digs

def SInv (w wr : World) (a b : List Int) (k : Nat) (c : Int) (d : Value) (ds : List Int) : Prop :=
 wr.ownsRow w.heap.size 3 1 d ds.length (ds.map (Value.int .i64)) ∧ Below w.heap.size w wr ∧ DB ds ∧ ds.length = k ∧ dv ds = dv (a.take k) - dv (b.take k) + dp k * c ∧ 0 ≤ c ∧ c ≤ 1

theorem SInv.step {w wr w3 : World} {a b : List Int} {k : Nat} {c t c' : Int} {d d' : Value} {ds : List Int} (h : SInv w wr a b k c d ds) (ht : t = a.getD k 0 - c - b.getD k 0 + 10000 * c') (ht0 : 0 ≤ t ∧ t < 10000) (hc' : 0 ≤ c' ∧ c' ≤ 1)
  (hown : w3.ownsRow w.heap.size 3 1 d' (k + 1) (ds.map (Value.int .i64) ++ [.int .i64 t])) (hg : (wr.alloc (.cells #[.int .i64 t] 3)).grownBy w3 d.ownBlock) : SInv w w3 a b (k + 1) c' d' (ds ++ [t]) := by
 obtain ⟨h1, h2, h3, h4, h5, h6, h7⟩ := h
 have hbl := below_app h1 h2.size hg
 refine ⟨by rw [List.length_append, List.map_append, h4]; exact hown, h2.trans hbl, DB_append h3 ht0, by simp [h4], ?_, hc'.1, hc'.2⟩
 rw [dv_snoc, dv_take_succ, dv_take_succ, h4, h5]
 simp only [dp]
 have e1 : 10000 * dp k * c' = dp k * (10000 * c') := by rw [Int.mul_comm 10000, Int.mul_assoc]
 have e3 : dp k * t = dp k * a.getD k 0 - dp k * c - dp k * b.getD k 0 + dp k * (10000 * c') := by rw [ht, Int.mul_add, Int.mul_sub, Int.mul_sub]
 rw [e1]
 omega

end Go.Proofs.YtjdnhdcaifogmaaGreatDoor

/- The reference: sums. -/
namespace Go.Proofs.YtjdnhdcaifogmaaGreatDoor
open Go.RowKit Limbs Digs

structure ThreeR (w W : World) (a0 a1 b0 b1 r0 r1 : Value) : Prop where
 fst : BoxR W w.heap.size a0 a1
 snd : BoxR W (w.heap.size + 1) b0 b1
 res : BoxR W (w.heap.size + 1 + 1) r0 r1
 below : Below w.heap.size w W
 size : w.heap.size + 1 + 1 < W.heap.size

theorem ThreeR.later {w W W' : World} {a0 a1 b0 b1 r0 r1 : Value} (h : ThreeR w W a0 a1 b0 b1 r0 r1) (hb : Below W.heap.size W W') : ThreeR w W' a0 a1 b0 b1 r0 r1 where
 fst := h.fst.later hb h.fst.lt
 snd := h.snd.later hb h.snd.lt
 res := h.res.later hb h.res.lt
 below := h.below.trans (hb.mono h.below.size)
 size := Nat.lt_of_lt_of_le h.size hb.size

theorem ThreeR.drew {w W : World} {a0 a1 b0 b1 r0 r1 : Value} (h : ThreeR w W a0 a1 b0 b1 r0 r1) : ThreeR w W.drew a0 a1 b0 b1 r0 r1 := ⟨h.fst, h.snd, h.res, h.below.drew, h.size⟩

end Go.Proofs.YtjdnhdcaifogmaaGreatDoor

/- The reference: products. -/
namespace Go.Proofs.YtjdnhdcaifogmaaGreatDoor
open Go.RowKit Limbs Digs

def RowI (w : World) (g : Nat) (zs : List Int) : Prop :=
 (∃ cur fz, w.heap[g]? = some (.cells cur 3 fz)) ∧ DB zs ∧ ∀ j, j < zs.length → w.cell? ⟨g, j, none⟩ = some (.int .i64 (zs.getD j 0)) ∧ w.frozen? ⟨g, j, none⟩ = false

theorem RowI.made (w : World) (m : Nat) (g : Nat) (hg : g = w.heap.size) : RowI (w.alloc (.cells (madeCells #[.int .i64 0] m) 3)) g (List.replicate m 0) := by
 subst hg
 refine ⟨⟨_, _, heap_alloc_new w _⟩, DB_replicate m, fun j hj => ⟨?_, World.frozen?_alloc_new _ _ _ _⟩⟩
 rw [List.length_replicate] at hj
 rw [World.cell?_alloc_new]
 simp [madeCells, hj, Nat.mod_one, List.getD_eq_getElem?_getD]

theorem RowI.store {w : World} {g : Nat} {zs : List Int} (h : RowI w g zs) {k : Nat} (hk : k < zs.length) {z : Int} (hz : 0 ≤ z ∧ z < 10000) : RowI (w.setCell ⟨g, k, none⟩ (.int .i64 z)) g (zs.set k z) := by
 obtain ⟨⟨cur, fz, h1⟩, h2, h3⟩ := h
 refine ⟨⟨cur.setIfInBounds k (.int .i64 z), fz, ?_⟩, DB_set h2 k hz, fun j hj => ?_⟩
 ·simp [World.setCell, Array.getElem?_modify, h1]
 rw [List.length_set] at hj
 obtain ⟨c1, c2⟩ := h3 j hj
 obtain ⟨c3, c4⟩ := h3 k hk
 rw [World.frozen?_setCell, getD_set zs k j z hk]
 refine ⟨?_, c2⟩
 by_cases e : j = k
 ·subst e
  rw [if_pos rfl]
  exact World.cell?_setCell_same (h := c3) ..
 ·rw [if_neg e, ← c1]
  exact World.cell?_setCell_other (h := fun h => e (congrArg Addr.off h).symm) ..

theorem RowI.drewN {w : World} {g : Nat} {zs : List Int} (h : RowI w g zs) (n : Nat) : RowI (w.drewN n) g zs := h

theorem ThreeR.drewN {w W : World} {a0 a1 b0 b1 r0 r1 : Value} (h : ThreeR w W a0 a1 b0 b1 r0 r1) (n : Nat) : ThreeR w (W.drewN n) a0 a1 b0 b1 r0 r1 := ⟨h.fst, h.snd, h.res, below_drewN h.below n, h.size⟩

theorem ThreeR.set {w W : World} {a0 a1 b0 b1 r0 r1 : Value} (h : ThreeR w W a0 a1 b0 b1 r0 r1) {g : Nat} (hg : w.heap.size + 1 + 1 + 1 ≤ g) (k : Nat) (u : Value) : ThreeR w (W.setCell ⟨g, k, none⟩ u) a0 a1 b0 b1 r0 r1 :=
 ⟨h.fst.other (by omega) _ _, h.snd.other (by omega) _ _, h.res.other (by omega) _ _, h.below.setCell (by simp; omega) _, by simpa [World.setCell] using h.size⟩

def TInv (wr : World) (g : Nat) (a b : List Int) (i j : Nat) (cy : Int) (zs : List Int) : Prop :=
 zs.length = a.length + b.length + 1 ∧ RowI wr g zs ∧
  dv zs + dp (i + j) * cy = dv (a.take i) * dv b + dp i * (a.getD i 0 * dv (b.take j)) ∧ (∀ t, i + b.length ≤ t → i + j ≤ t → zs.getD t 0 = 0) ∧ 0 ≤ cy ∧ cy < 10000

def TOut (wr : World) (g : Nat) (a b : List Int) (i : Nat) (zs : List Int) : Prop :=
 zs.length = a.length + b.length + 1 ∧ RowI wr g zs ∧ dv zs = dv (a.take i) * dv b ∧ ∀ t, i + b.length ≤ t → zs.getD t 0 = 0

theorem TOut.inner {wr : World} {g : Nat} {a b : List Int} {i : Nat} {zs : List Int} (h : TOut wr g a b i zs) : TInv wr g a b i 0 0 zs := by
 obtain ⟨h1, h2, h4, h5⟩ := h
 exact ⟨h1, h2, by simp [dv, h4], fun t ht _ => h5 t ht, by decide, by decide⟩

theorem TInv.step {wr : World} {g : Nat} {a b : List Int} {i j : Nat} {cy : Int} {zs : List Int} (h : TInv wr g a b i j cy zs) (ha : DB a) (hb : DB b) (hi : i < a.length) (hj : j ≤ b.length) {T : Int} (hT : T = zs.getD (i + j) 0 + cy + a.getD i 0 * b.getD j 0) :
  TInv (wr.setCell ⟨g, i + j, none⟩ (.int .i64 (T % 10000))) g a b i (j + 1) (T / 10000) (zs.set (i + j) (T % 10000)) := by
 obtain ⟨h1, h2, h4, h5, h6, h7⟩ := h
 have hx := ha i
 have hy := hb j
 have hz := h2.2.1 (i + j)
 have hp0 : 0 ≤ a.getD i 0 * b.getD j 0 := Int.mul_nonneg hx.1 hy.1
 have hp1 : a.getD i 0 * b.getD j 0 ≤ 9999 * 9999 := Int.mul_le_mul (by omega) (by omega) hy.1 (by omega)
 refine ⟨by rw [List.length_set]; exact h1, h2.store (by omega) (by omega), ?_, fun t ht ht' => ?_, by omega, by omega⟩
 ·rw [dv_set _ _ _ (by omega), dv_take_succ]
  have e : dp (i + j) * (T % 10000 + 10000 * (T / 10000)) = dp (i + j) * T := by rw [Int.emod_add_mul_ediv]
  have e2 : dp (i + (j + 1)) * (T / 10000) = dp (i + j) * (10000 * (T / 10000)) := by rw [← Nat.add_assoc]; simp only [dp]; rw [Int.mul_comm 10000 (dp (i + j)), Int.mul_assoc]
  have e3 : dp (i + j) * (a.getD i 0 * b.getD j 0) = dp i * (a.getD i 0 * (dp j * b.getD j 0)) := by
   rw [dp_add, Int.mul_assoc, Int.mul_left_comm (dp j)]
  rw [e2, Int.mul_sub]
  rw [Int.mul_add] at e
  rw [hT, Int.mul_add, Int.mul_add] at e
  rw [← hT] at e
  rw [Int.mul_add, Int.mul_add]
  omega
 ·rw [getD_set _ _ _ _ (by omega), if_neg (by omega)]
  exact h5 t ht (by omega)

theorem TInv.drewN {wr : World} {g : Nat} {a b : List Int} {i j : Nat} {cy : Int} {zs : List Int} (h : TInv wr g a b i j cy zs) (n : Nat) : TInv (wr.drewN n) g a b i j cy zs := h

theorem TInv.done {wr : World} {g : Nat} {a b : List Int} {i j : Nat} {zs : List Int} (h : TInv wr g a b i j 0 zs) (hj : b.length ≤ j) (hj' : j ≤ b.length + 1) : TOut wr g a b (i + 1) zs := by
 obtain ⟨h1, h2, h4, h5, h6, h7⟩ := h
 refine ⟨h1, h2, ?_, fun t ht => h5 t (by omega) (by omega)⟩
 rw [dv_take_ge b hj, Int.mul_zero, Int.add_zero] at h4
 rw [h4, dv_take_succ, Int.add_mul, Int.mul_assoc]

end Go.Proofs.YtjdnhdcaifogmaaGreatDoor
