/- Plain arithmetic of limbs: numbers to the base 4294967296, the lowest first. No Go in it. -/
import Derived.Test.YtanjajjjancggaaDoorRows
import Derived.Test.YtanjajjjancggaaDoorBgL
import Derived.WalkKit
import Derived.WalkSpells
import Derived.WalkLawsBesides
import Derived.Deep.QuietTactic
import Derived.BigQuiet
import Derived.Deep.RegionHeld3
import Derived.Deep.DrawnRows
import Derived.Laws.CopyOwn

namespace Go.Proofs.YtanjajjjancggaaDoor.Limbs

def lv : List Int → Int
 | [] => 0
 | x :: xs => x + 4294967296 * lv xs

def LB (zs : List Int) : Prop := ∀ i : Nat, 0 ≤ zs.getD i 0 ∧ zs.getD i 0 < 4294967296

def Nrm (zs : List Int) : Prop := zs.length = 0 ∨ zs.getD (zs.length - 1) 0 ≠ 0

def bp : Nat → Int
 | 0 => 1
 | n + 1 => 4294967296 * bp n

theorem bp_pos (n : Nat) : 0 < bp n := by
 induction n with
 | zero => simp [bp]
 | succ n ih => simp only [bp]; omega

theorem bp_add (m n : Nat) : bp (m + n) = bp m * bp n := by
 induction m with
 | zero => simp [bp]
 | succ m ih => rw [Nat.succ_add]; simp only [bp]; rw [ih, Int.mul_assoc]

theorem bp_mono {m n : Nat} (h : m ≤ n) : bp m ≤ bp n := by
 obtain ⟨k, rfl⟩ := Nat.exists_eq_add_of_le h
 rw [bp_add]
 have h1 := bp_pos m
 have h2 := bp_pos k
 have : bp m * 1 ≤ bp m * bp k := Int.mul_le_mul_of_nonneg_left (by omega) (by omega)
 omega

theorem LB_nil : LB [] := by intro i; simp
theorem LB_tail {x : Int} {xs : List Int} (h : LB (x :: xs)) : LB xs := fun i => by simpa using h (i + 1)
theorem LB_head {x : Int} {xs : List Int} (h : LB (x :: xs)) : 0 ≤ x ∧ x < 4294967296 := by simpa using h 0
theorem LB_cons {x : Int} {xs : List Int} (hx : 0 ≤ x ∧ x < 4294967296) (h : LB xs) : LB (x :: xs) := by
 intro i
 cases i with
 | zero => simpa using hx
 | succ i => simpa using h i

theorem LB_mem {zs : List Int} (h : ∀ z ∈ zs, 0 ≤ z ∧ z < 4294967296) : LB zs := by
 induction zs with
 | nil => exact LB_nil
 | cons x xs ih => exact LB_cons (h x (by simp)) (ih fun z hz => h z (by simp [hz]))

theorem LB_take {zs : List Int} (h : LB zs) (k : Nat) : LB (zs.take k) := by
 intro i
 have := h i
 by_cases hk : i < k
 ·simpa [List.getD_eq_getElem?_getD, List.getElem?_take, hk] using this
 ·simp [List.getD_eq_getElem?_getD, List.getElem?_take, hk]

theorem getD_take (zs : List Int) (n i : Nat) (h : i < n) : (zs.take n).getD i 0 = zs.getD i 0 := by
 rw [List.getD_eq_getElem?_getD, List.getElem?_take, if_pos h, List.getD_eq_getElem?_getD]

theorem getD_drop (zs : List Int) (n i : Nat) : (zs.drop n).getD i 0 = zs.getD (n + i) 0 := by
 rw [List.getD_eq_getElem?_getD, List.getElem?_drop, List.getD_eq_getElem?_getD]

theorem lv_nonneg {zs : List Int} (h : LB zs) : 0 ≤ lv zs := by
 induction zs with
 | nil => simp [lv]
 | cons x xs ih => have := ih (LB_tail h); have := LB_head h; simp only [lv]; omega

theorem lv_lt {zs : List Int} (h : LB zs) : lv zs < bp zs.length := by
 induction zs with
 | nil => simp [lv, bp]
 | cons x xs ih => have := ih (LB_tail h); have := LB_head h; simp only [lv, List.length_cons, bp]; omega

theorem lv_append (xs ys : List Int) : lv (xs ++ ys) = lv xs + bp xs.length * lv ys := by
 induction xs with
 | nil => simp [lv, bp]
 | cons x xs ih => simp only [List.cons_append, lv, ih, List.length_cons, bp]; rw [Int.mul_add, Int.mul_assoc]; omega

theorem lv_take_succ (zs : List Int) (k : Nat) : lv (zs.take (k + 1)) = lv (zs.take k) + bp k * zs.getD k 0 := by
 by_cases h : k < zs.length
 ·rw [List.take_succ_eq_append_getElem h, lv_append]
  simp [lv, List.length_take, Nat.min_eq_left (Nat.le_of_lt h), List.getD_eq_getElem?_getD, h]
 ·rw [List.take_of_length_le (by omega), List.take_of_length_le (by omega)]
  simp [List.getD_eq_getElem?_getD, List.getElem?_eq_none (Nat.le_of_not_lt h)]

theorem lv_split (zs : List Int) (k : Nat) (h : k ≤ zs.length) : lv zs = lv (zs.take k) + bp k * lv (zs.drop k) := by
 have := lv_append (zs.take k) (zs.drop k)
 rw [List.take_append_drop, List.length_take, Nat.min_eq_left h] at this
 exact this

theorem lv_take_ge (zs : List Int) {k : Nat} (h : zs.length ≤ k) : lv (zs.take k) = lv zs := by
 rw [List.take_of_length_le h]

theorem lv_take_nonneg {zs : List Int} (h : LB zs) (k : Nat) : 0 ≤ lv (zs.take k) := lv_nonneg (LB_take h k)

theorem drop_cons_getD (zs : List Int) (k : Nat) (h : k < zs.length) : zs.drop k = zs.getD k 0 :: zs.drop (k + 1) := by
 rw [List.drop_eq_getElem_cons h]
 simp [List.getD_eq_getElem?_getD, h]

theorem nrm_low {zs : List Int} (h : LB zs) (hn : Nrm zs) (h0 : 0 < zs.length) : bp (zs.length - 1) ≤ lv zs := by
 have e := lv_split zs (zs.length - 1) (by omega)
 rw [drop_cons_getD zs (zs.length - 1) (by omega)] at e
 have hd : zs.drop (zs.length - 1 + 1) = [] := List.drop_eq_nil_of_le (by omega)
 rw [hd] at e
 simp only [lv] at e
 have h1 := lv_take_nonneg h (zs.length - 1)
 have h2 := h (zs.length - 1)
 have h3 : zs.getD (zs.length - 1) 0 ≠ 0 := by rcases hn with hn | hn; omega; exact hn
 have hp := bp_pos (zs.length - 1)
 have h4 : bp (zs.length - 1) * 1 ≤ bp (zs.length - 1) * (zs.getD (zs.length - 1) 0 + 4294967296 * 0) := Int.mul_le_mul_of_nonneg_left (by omega) (by omega)
 omega

theorem lv_zero_iff {zs : List Int} (h : LB zs) (hn : Nrm zs) : lv zs = 0 ↔ zs.length = 0 := by
 constructor
 ·intro h0
  by_cases hl : zs.length = 0
  ·exact hl
  ·have h1 := nrm_low h hn (by omega)
   have := bp_pos (zs.length - 1)
   omega
 ·intro hl
  rw [List.eq_nil_of_length_eq_zero hl]; rfl

theorem LB_set {zs : List Int} (h : LB zs) (k : Nat) {z : Int} (hz : 0 ≤ z ∧ z < 4294967296) : LB (zs.set k z) := by
 intro i
 rw [List.getD_eq_getElem?_getD, List.getElem?_set]
 by_cases hk : k = i
 ·subst hk
  by_cases hl : k < zs.length <;> simp [hl, hz]
 ·have := h i
  simpa [hk, List.getD_eq_getElem?_getD] using this

theorem getD_set (zs : List Int) (k i : Nat) (z : Int) (hk : k < zs.length) : (zs.set k z).getD i 0 = if i = k then z else zs.getD i 0 := by
 rw [List.getD_eq_getElem?_getD, List.getElem?_set]
 by_cases h : k = i
 ·subst h; simp [hk]
 ·have h' : ¬ i = k := fun e => h e.symm
  simp [h, h', List.getD_eq_getElem?_getD]

theorem lv_set (zs : List Int) (k : Nat) (z : Int) (h : k < zs.length) : lv (zs.set k z) = lv zs + bp k * (z - zs.getD k 0) := by
 induction zs generalizing k with
 | nil => simp at h
 | cons x xs ih =>
  cases k with
  | zero => simp [lv, bp]; omega
  | succ k =>
   have := ih k (by simpa using h)
   simp only [List.set_cons_succ, lv, this, bp, List.getD_cons_succ]
   rw [Int.mul_add, Int.mul_assoc]; omega

theorem take_set_ge (zs : List Int) (k i : Nat) (z : Int) (h : i ≤ k) : (zs.set k z).take i = zs.take i := by
 rw [List.take_set_of_le h]

theorem drop_set_lt (zs : List Int) (k i : Nat) (z : Int) (h : k < i) : (zs.set k z).drop i = zs.drop i := by
 rw [List.drop_set_of_lt h]

theorem lv_replicate (n : Nat) : lv (List.replicate n 0) = 0 := by
 induction n with
 | zero => rfl
 | succ n ih => simp only [List.replicate_succ, lv, ih]; rfl

theorem LB_replicate (n : Nat) : LB (List.replicate n 0) := LB_mem fun z hz => by
 rw [List.eq_of_mem_replicate hz]; decide

end Go.Proofs.YtanjajjjancggaaDoor.Limbs

/- The leaves: one limb, its sums, orders. Conditions: the slices hold limbs. -/
namespace Go.Proofs.YtanjajjjancggaaDoor
open Go.RowKit Limbs

def Lim (w : World) (v : Value) (zs : List Int) : Prop :=
 ∃ ao cap, v = .slice ao zs.length cap ∧ zs.length ≤ cap ∧ zs.length ≤ 1000000 ∧ LB zs ∧
  (0 < zs.length → ∃ b off, ao = some ⟨b, off, none⟩ ∧ b < w.heap.size ∧ ∀ i, i < zs.length → w.cell? ⟨b, off + i, none⟩ = some (.int .u32 (zs.getD i 0)))

theorem Lim.below {B : Nat} {w w' : World} {v : Value} {zs : List Int} (h : Lim w v zs) (hb : Below B w w') (hB : w.heap.size ≤ B) : Lim w' v zs := by
 obtain ⟨ao, cap, hv, h1, h2, h3, h4⟩ := h
 refine ⟨ao, cap, hv, h1, h2, h3, fun h0 => ?_⟩
 obtain ⟨b, off, e, hlt, hc⟩ := h4 h0
 exact ⟨b, off, e, Nat.lt_of_lt_of_le hlt hb.size, fun i hi => (hb.cell (p := ⟨b, off + i, none⟩) (Nat.lt_of_lt_of_le hlt hB)).trans (hc i hi)⟩

def cmpI (a b : Int) : Int := if a < b then -1 else if b < a then 1 else 0

def bor (x y : Int) : Int := if x < y then 1 else 0

end Go.Proofs.YtanjajjjancggaaDoor

/- Limbs without noughts behind; the order of limbs. -/
namespace Go.Proofs.YtanjajjjancggaaDoor
open Go.RowKit Limbs

def lenOf : Value → Nat | .slice _ n _ => n | _ => 0

theorem Lim.take {w : World} {ao : Option Addr} {cap : Nat} {zs : List Int} (h : Lim w (.slice ao zs.length cap) zs) (n : Nat) (hn : n ≤ zs.length) : Lim w (.slice ao n cap) (zs.take n) := by
 obtain ⟨ao', cap', hv, h1, h2, h3, h4⟩ := h
 simp only [Value.slice.injEq, true_and] at hv
 obtain ⟨rfl, rfl⟩ := hv
 have hl : (zs.take n).length = n := by rw [List.length_take]; omega
 refine ⟨ao, cap, by rw [hl], by omega, by omega, LB_take h3 n, fun h0 => ?_⟩
 obtain ⟨b, off, e, hlt, hc⟩ := h4 (by omega)
 refine ⟨b, off, e, hlt, fun i hi => ?_⟩
 rw [hc i (by omega), getD_take zs n i (by omega)]

theorem nrm_take {zs : List Int} {n : Nat} (hn : n ≤ zs.length) (h : n = 0 ∨ zs.getD (n - 1) 0 ≠ 0) : Nrm (zs.take n) := by
 have hl : (zs.take n).length = n := by rw [List.length_take]; omega
 unfold Nrm
 rw [hl]
 rcases h with h | h
 ·exact .inl h
 ·by_cases h0 : n = 0
  ·exact .inl h0
  ·right
   rw [getD_take zs n (n - 1) (by omega)]
   exact h

def TrimPost (w : World) (ao : Option Addr) (cap : Nat) (zs : List Int) (e : Ending) (w' : World) : Prop :=
 ∃ m, m ≤ zs.length ∧ e = .returned (.slice ao m cap) ∧ lv (zs.take m) = lv zs ∧ Nrm (zs.take m) ∧ w' = w

theorem cmpI_lt {a b : Int} (h : a < b) : cmpI a b = -1 := by unfold cmpI; rw [if_pos h]
theorem cmpI_gt {a b : Int} (h : b < a) : cmpI a b = 1 := by unfold cmpI; rw [if_neg (by omega), if_pos h]
theorem cmpI_eq {a b : Int} (h : a = b) : cmpI a b = 0 := by unfold cmpI; rw [if_neg (by omega), if_neg (by omega)]

def CmpPost (w : World) (r : Int) (e : Ending) (w' : World) : Prop := e = .returned (.int .i64 r) ∧ Below w.heap.size w w'

theorem below_drewN {B : Nat} {w w' : World} (h : Below B w w') (n : Nat) : Below B w (w'.drewN n) := ⟨h.os, h.tape, h.output, h.size, h.block⟩

end Go.Proofs.YtanjajjjancggaaDoor

/- Sums and differences of limbs. -/
namespace Go.Proofs.YtanjajjjancggaaDoor
open Go.RowKit Limbs

def Row (w : World) (g : Nat) (zs : List Int) : Prop :=
 g < w.heap.size ∧ LB zs ∧ ∀ j, j < zs.length → w.cell? ⟨g, j, none⟩ = some (.int .u32 (zs.getD j 0)) ∧ w.frozen? ⟨g, j, none⟩ = false

theorem Row.made (w : World) (m : Nat) : Row (w.alloc (.cells (madeCells #[.int .u32 0] m) 106)) w.heap.size (List.replicate m 0) := by
 refine ⟨by simp, LB_replicate m, fun j hj => ⟨?_, World.frozen?_alloc_new _ _ _ _⟩⟩
 rw [List.length_replicate] at hj
 rw [World.cell?_alloc_new]
 simp [madeCells, hj, Nat.mod_one, List.getD_eq_getElem?_getD]

theorem Row.store {w : World} {g : Nat} {zs : List Int} (h : Row w g zs) {k : Nat} (hk : k < zs.length) {z : Int} (hz : 0 ≤ z ∧ z < 4294967296) : Row (w.setCell ⟨g, k, none⟩ (.int .u32 z)) g (zs.set k z) := by
 obtain ⟨h1, h2, h3⟩ := h
 refine ⟨by simpa [World.setCell] using h1, LB_set h2 k hz, fun j hj => ?_⟩
 rw [List.length_set] at hj
 obtain ⟨c1, c2⟩ := h3 j hj
 obtain ⟨c3, c4⟩ := h3 k hk
 rw [World.frozen?_setCell, getD_set zs k j z hk]
 refine ⟨?_, c2⟩
 by_cases e : j = k
 ·subst e
  rw [if_pos rfl]
  exact World.cell?_setCell_same (h := c3) ..
 ·rw [if_neg e, ← c1]
  exact World.cell?_setCell_other (h := fun h => e (congrArg Addr.off h).symm) ..

theorem Row.lim {w : World} {g : Nat} {zs : List Int} (h : Row w g zs) (cap : Nat) (hc : zs.length ≤ cap) (hl : zs.length ≤ 1000000) : Lim w (.slice (some ⟨g, 0, none⟩) zs.length cap) zs := by
 obtain ⟨h1, h2, h3⟩ := h
 exact ⟨_, cap, rfl, hc, hl, h2, fun _ => ⟨g, 0, rfl, h1, fun i hi => by rw [Nat.zero_add]; exact (h3 i hi).1⟩⟩

def LimPost (w : World) (z : Int) (n : Nat) (e : Ending) (w' : World) : Prop :=
 ∃ v zs, e = .returned v ∧ Lim w' v zs ∧ lv zs = z ∧ zs.length ≤ n ∧ Below w.heap.size w w'

def AddInv (w wr : World) (a b : List Int) (m k : Nat) (cy : Int) (zs : List Int) : Prop :=
 zs.length = m ∧ Row wr w.heap.size zs ∧ Below w.heap.size w wr ∧ lv (zs.take k) + bp k * cy = lv (a.take k) + lv (b.take k)

theorem AddInv.start (w : World) (a b : List Int) (m : Nat) : AddInv w (w.alloc (.cells (madeCells #[.int .u32 0] m) 106)) a b m 0 0 (List.replicate m 0) :=
 ⟨List.length_replicate, Row.made w m, (Below.refl _ _).alloc (Nat.le_refl _) _, by simp [lv]⟩

theorem AddInv.step {w wr : World} {a b : List Int} {m k : Nat} {cy : Int} {zs : List Int} (h : AddInv w wr a b m k cy zs) (hk : k < m) :
  AddInv w (wr.setCell ⟨w.heap.size, k, none⟩ (.int .u32 ((a.getD k 0 + b.getD k 0 + cy) % 4294967296))) a b m (k + 1) ((a.getD k 0 + b.getD k 0 + cy) / 4294967296) (zs.set k ((a.getD k 0 + b.getD k 0 + cy) % 4294967296)) := by
 obtain ⟨h1, h2, h3, h4⟩ := h
 refine ⟨by rw [List.length_set]; exact h1, h2.store (by omega) (by omega), h3.setCell (Nat.le_refl _) _, ?_⟩
 rw [lv_take_succ, lv_take_succ, lv_take_succ, take_set_ge _ _ _ _ (Nat.le_refl _), getD_set _ _ _ _ (by omega), if_pos rfl]
 have e : bp k * ((a.getD k 0 + b.getD k 0 + cy) % 4294967296 + 4294967296 * ((a.getD k 0 + b.getD k 0 + cy) / 4294967296)) = bp k * (a.getD k 0 + b.getD k 0 + cy) := by rw [Int.emod_add_mul_ediv]
 generalize (a.getD k 0 + b.getD k 0 + cy) % 4294967296 = s at *
 generalize (a.getD k 0 + b.getD k 0 + cy) / 4294967296 = c at *
 rw [Int.mul_add, Int.mul_add, Int.mul_add] at e
 have e2 : bp (k + 1) * c = bp k * (4294967296 * c) := by simp only [bp]; rw [Int.mul_comm 4294967296 (bp k), Int.mul_assoc]
 rw [e2]
 omega

theorem AddInv.done {w wr : World} {a b : List Int} {m : Nat} {cy : Int} {zs : List Int} (h : AddInv w wr a b m m cy zs) (hc : 0 ≤ cy ∧ cy ≤ 1) (ha : LB a) (hb : LB b) (la : a.length < m) (lb : b.length < m) : lv zs = lv a + lv b := by
 obtain ⟨h1, h2, h3, h4⟩ := h
 rw [lv_take_ge zs (by omega), lv_take_ge a (by omega), lv_take_ge b (by omega)] at h4
 have e1 := lv_lt ha
 have e2 := lv_lt hb
 have e3 : bp a.length ≤ bp (m - 1) := bp_mono (by omega)
 have e4 : bp b.length ≤ bp (m - 1) := bp_mono (by omega)
 have e5 : bp m = 4294967296 * bp (m - 1) := by rw [← Nat.sub_add_cancel (show 1 ≤ m by omega)]; rfl
 have e6 := lv_nonneg h2.2.1
 have e7 := bp_pos (m - 1)
 rcases (by omega : cy = 0 ∨ cy = 1) with rfl | rfl
 ·omega
 ·omega

def SubInv (w wr : World) (a b : List Int) (m k : Nat) (bw : Int) (zs : List Int) : Prop :=
 zs.length = m ∧ Row wr w.heap.size zs ∧ Below w.heap.size w wr ∧ lv (zs.take k) - bp k * bw = lv (a.take k) - lv (b.take k)

theorem SubInv.start (w : World) (a b : List Int) (m : Nat) : SubInv w (w.alloc (.cells (madeCells #[.int .u32 0] m) 106)) a b m 0 0 (List.replicate m 0) :=
 ⟨List.length_replicate, Row.made w m, (Below.refl _ _).alloc (Nat.le_refl _) _, by simp [lv]⟩

theorem Row.drew {w : World} {g : Nat} {zs : List Int} (h : Row w g zs) : Row w.drew g zs := h

theorem SubInv.drew {w wr : World} {a b : List Int} {m k : Nat} {cy : Int} {zs : List Int} (h : SubInv w wr a b m k cy zs) : SubInv w wr.drew a b m k cy zs :=
 ⟨h.1, h.2.1.drew, h.2.2.1.drew, h.2.2.2⟩

theorem bor_eq (x y c : Int) (hx : 0 ≤ x ∧ x < 4294967296) (hy : 0 ≤ y ∧ y < 4294967296) (hc : 0 ≤ c ∧ c ≤ 1) : (x - y - c) % 4294967296 - 4294967296 * bor x (y + c) = x - y - c := by
 unfold bor; split <;> omega

theorem SubInv.step {w wr : World} {a b : List Int} {m k : Nat} {cy : Int} {zs : List Int} (h : SubInv w wr a b m k cy zs) (hk : k < m) (hc : 0 ≤ cy ∧ cy ≤ 1) (ha : LB a) (hb : LB b) :
  SubInv w (wr.setCell ⟨w.heap.size, k, none⟩ (.int .u32 ((a.getD k 0 - b.getD k 0 - cy) % 4294967296))) a b m (k + 1) (bor (a.getD k 0) (b.getD k 0 + cy)) (zs.set k ((a.getD k 0 - b.getD k 0 - cy) % 4294967296)) := by
 obtain ⟨h1, h2, h3, h4⟩ := h
 refine ⟨by rw [List.length_set]; exact h1, h2.store (by omega) (by omega), h3.setCell (Nat.le_refl _) _, ?_⟩
 rw [lv_take_succ, lv_take_succ, lv_take_succ, take_set_ge _ _ _ _ (Nat.le_refl _), getD_set _ _ _ _ (by omega), if_pos rfl]
 have e : bp k * ((a.getD k 0 - b.getD k 0 - cy) % 4294967296 - 4294967296 * bor (a.getD k 0) (b.getD k 0 + cy)) = bp k * (a.getD k 0 - b.getD k 0 - cy) := by rw [bor_eq _ _ _ (ha k) (hb k) hc]
 generalize (a.getD k 0 - b.getD k 0 - cy) % 4294967296 = s at *
 generalize bor (a.getD k 0) (b.getD k 0 + cy) = c at *
 rw [Int.mul_sub, Int.mul_sub, Int.mul_sub] at e
 have e2 : bp (k + 1) * c = bp k * (4294967296 * c) := by simp only [bp]; rw [Int.mul_comm 4294967296 (bp k), Int.mul_assoc]
 rw [e2]
 omega

theorem SubInv.done {w wr : World} {a b : List Int} {m : Nat} {cy : Int} {zs : List Int} (h : SubInv w wr a b m m cy zs) (hc : 0 ≤ cy ∧ cy ≤ 1) (la : a.length = m) (lb : b.length ≤ m) (hle : lv b ≤ lv a) : lv zs = lv a - lv b := by
 obtain ⟨h1, h2, h3, h4⟩ := h
 rw [lv_take_ge zs (by omega), lv_take_ge a (by omega), lv_take_ge b (by omega)] at h4
 have e1 := lv_lt h2.2.1
 rw [h1] at e1
 rcases (by omega : cy = 0 ∨ cy = 1) with rfl | rfl
 ·omega
 ·omega

end Go.Proofs.YtanjajjjancggaaDoor

/- Products of limbs. -/
namespace Go.Proofs.YtanjajjjancggaaDoor
open Go.RowKit Limbs

def MulInv (w wr : World) (a b : List Int) (i j : Nat) (cy : Int) (zs : List Int) : Prop :=
 zs.length = a.length + b.length ∧ Row wr w.heap.size zs ∧ Below w.heap.size w wr ∧
  lv zs + bp (i + j) * cy = lv (a.take i) * lv b + bp i * (a.getD i 0 * lv (b.take j)) ∧ ∀ t, i + b.length ≤ t → zs.getD t 0 = 0

def MulOut (w wr : World) (a b : List Int) (i : Nat) (zs : List Int) : Prop :=
 zs.length = a.length + b.length ∧ Row wr w.heap.size zs ∧ Below w.heap.size w wr ∧
  lv zs = lv (a.take i) * lv b ∧ ∀ t, i + b.length ≤ t → zs.getD t 0 = 0

theorem getD_replicate (n t : Nat) : (List.replicate n (0 : Int)).getD t 0 = 0 := by
 rw [List.getD_eq_getElem?_getD]
 by_cases h : t < n
 ·simp [h]
 ·simp [h]

theorem MulOut.start (w : World) (a b : List Int) : MulOut w (w.alloc (.cells (madeCells #[.int .u32 0] (a.length + b.length)) 106)) a b 0 (List.replicate (a.length + b.length) 0) :=
 ⟨List.length_replicate, Row.made w _, (Below.refl _ _).alloc (Nat.le_refl _) _, by simp [lv, lv_replicate], fun _ _ => getD_replicate _ _⟩

theorem MulOut.inner {w wr : World} {a b : List Int} {i : Nat} {zs : List Int} (h : MulOut w wr a b i zs) : MulInv w wr a b i 0 0 zs := by
 obtain ⟨h1, h2, h3, h4, h5⟩ := h
 exact ⟨h1, h2, h3, by simp [lv, h4], h5⟩

theorem MulInv.drewN {w wr : World} {a b : List Int} {i j : Nat} {cy : Int} {zs : List Int} (h : MulInv w wr a b i j cy zs) (n : Nat) : MulInv w (wr.drewN n) a b i j cy zs := by
 obtain ⟨h1, h2, h3, h4, h5⟩ := h
 exact ⟨h1, h2, below_drewN h3 n, h4, h5⟩

theorem MulInv.step {w wr : World} {a b : List Int} {i j : Nat} {cy : Int} {zs : List Int} (h : MulInv w wr a b i j cy zs) (hi : i < a.length) (hj : j < b.length) {T : Int} (hT : T = cy + (a.getD i 0 * b.getD j 0 + zs.getD (i + j) 0)) :
  MulInv w (wr.setCell ⟨w.heap.size, i + j, none⟩ (.int .u32 (T % 4294967296))) a b i (j + 1) (T / 4294967296) (zs.set (i + j) (T % 4294967296)) := by
 obtain ⟨h1, h2, h3, h4, h5⟩ := h
 refine ⟨by rw [List.length_set]; exact h1, h2.store (by omega) (by omega), h3.setCell (Nat.le_refl _) _, ?_, fun t ht => ?_⟩
 ·rw [lv_set _ _ _ (by omega), lv_take_succ]
  have e : bp (i + j) * (T % 4294967296 + 4294967296 * (T / 4294967296)) = bp (i + j) * T := by rw [Int.emod_add_mul_ediv]
  have e2 : bp (i + (j + 1)) * (T / 4294967296) = bp (i + j) * (4294967296 * (T / 4294967296)) := by rw [← Nat.add_assoc]; simp only [bp]; rw [Int.mul_comm 4294967296 (bp (i + j)), Int.mul_assoc]
  have e3 : bp (i + j) * (a.getD i 0 * b.getD j 0) = bp i * (a.getD i 0 * (bp j * b.getD j 0)) := by
   rw [bp_add, Int.mul_assoc, Int.mul_left_comm (bp j)]
  rw [e2, Int.mul_sub]
  rw [Int.mul_add] at e
  rw [hT, Int.mul_add, Int.mul_add] at e
  rw [← hT] at e
  rw [Int.mul_add, Int.mul_add]
  omega
 ·rw [getD_set _ _ _ _ (by omega), if_neg (by omega)]
  exact h5 t ht

theorem MulInv.done {w wr : World} {a b : List Int} {i : Nat} {cy : Int} {zs : List Int} (h : MulInv w wr a b i b.length cy zs) (hi : i < a.length) (hc : 0 ≤ cy ∧ cy < 4294967296) :
  MulOut w (wr.setCell ⟨w.heap.size, i + b.length, none⟩ (.int .u32 cy)) a b (i + 1) (zs.set (i + b.length) cy) := by
 obtain ⟨h1, h2, h3, h4, h5⟩ := h
 refine ⟨by rw [List.length_set]; exact h1, h2.store (by omega) hc, h3.setCell (Nat.le_refl _) _, ?_, fun t ht => ?_⟩
 ·rw [lv_set _ _ _ (by omega), lv_take_succ, h5 _ (Nat.le_refl _), Int.sub_zero, h4, List.take_length, Int.add_mul, Int.mul_assoc]
 ·rw [getD_set _ _ _ _ (by omega), if_neg (by omega)]
  exact h5 t (by omega)

end Go.Proofs.YtanjajjjancggaaDoor

/- Numbers: what is made of limbs and a sign. -/
namespace Go.Proofs.YtanjajjjancggaaDoor
open Go.RowKit Limbs

def NumL (w : World) (v : Value) (z : Int) (n : Nat) : Prop :=
 ∃ neg s zs, v = .agg #[.bool neg, s] ∧ Lim w s zs ∧ Nrm zs ∧ (zs.length = 0 → neg = false) ∧ z = (if neg = true then - lv zs else lv zs) ∧ zs.length ≤ n

def NumPost (w : World) (z : Int) (n : Nat) (e : Ending) (w' : World) : Prop :=
 ∃ r, e = .returned r ∧ NumL w' r z n ∧ Below w.heap.size w w'

theorem NumL.below {B : Nat} {w w' : World} {v : Value} {z : Int} {n : Nat} (h : NumL w v z n) (hb : Below B w w') (hB : w.heap.size ≤ B) : NumL w' v z n := by
 obtain ⟨neg, s, zs, h1, h2, h3⟩ := h
 exact ⟨neg, s, zs, h1, h2.below hb hB, h3⟩

theorem NumL.mono {w : World} {v : Value} {z : Int} {n m : Nat} (h : NumL w v z n) (hm : n ≤ m) : NumL w v z m := by
 obtain ⟨neg, s, zs, h1, h2, h3, h4, h5, h6⟩ := h
 exact ⟨neg, s, zs, h1, h2, h3, h4, h5, Nat.le_trans h6 hm⟩

def NewSl (w : World) (s : Value) : Prop := ∀ a l c, s = .slice (some a) l c → w.heap.size ≤ a.block

def IntPost (w : World) (x : Int) (n : Nat) (e : Ending) (w' : World) : Prop := NumPost w x n e w' ∧ ∀ neg s, e = .returned (.agg #[.bool neg, s]) → NewSl w s

theorem NumPost.below {w w0 : World} {z : Int} {n : Nat} {e : Ending} {w' : World} (h : NumPost w z n e w') (hb : Below w0.heap.size w0 w) : NumPost w0 z n e w' := by
 obtain ⟨r, h1, h2, h3⟩ := h
 exact ⟨r, h1, h2, hb.trans (h3.mono hb.size)⟩

def sg (neg : Bool) (z : Int) : Int := if neg = true then - z else z

theorem Lim.setCell {w : World} {v : Value} {zs : List Int} (h : Lim w v zs) {p : Addr} {u x : Value} (hp : w.cell? p = some u) (hu : ∀ z, u ≠ .int .u32 z) : Lim (w.setCell p x) v zs := by
 obtain ⟨ao, cap, hv, h1, h2, h3, h4⟩ := h
 refine ⟨ao, cap, hv, h1, h2, h3, fun h0 => ?_⟩
 obtain ⟨b, off, e, hlt, hc⟩ := h4 h0
 refine ⟨b, off, e, by simpa using hlt, fun i hi => ?_⟩
 have hci := hc i hi
 refine Eq.trans (World.cell?_setCell_other (h := fun e => ?_) ..) hci
 rw [e, hci] at hp
 exact hu _ (Option.some.inj hp).symm

theorem NumL.setCell {w : World} {v : Value} {z : Int} {n : Nat} (h : NumL w v z n) {p : Addr} {u x : Value} (hp : w.cell? p = some u) (hu : ∀ z, u ≠ .int .u32 z) : NumL (w.setCell p x) v z n := by
 obtain ⟨neg, s, zs, h1, h2, h3⟩ := h
 exact ⟨neg, s, zs, h1, h2.setCell hp hu, h3⟩

def Box (w : World) (B : Nat) (u0 u1 : Value) : Prop :=
 w.cell? ⟨B, 0, none⟩ = some u0 ∧ w.cell? ⟨B, 1, none⟩ = some u1 ∧ w.frozen? ⟨B, 0, none⟩ = false ∧ w.frozen? ⟨B, 1, none⟩ = false

theorem box_new (W : World) (u0 u1 : Value) (t : TypeId) (B : Nat) (hB : B = W.heap.size) : Box (W.alloc (.cells #[u0, u1] t)) B u0 u1 := by
 subst hB; simp [Box]

theorem Box.later {W w1 : World} {B C : Nat} {u0 u1 : Value} (h : Box W B u0 u1) (hb : Below C W w1) (hB : B < C) : Box w1 B u0 u1 := by
 obtain ⟨h1, h2, h3, h4⟩ := h
 exact ⟨(hb.cell (p := ⟨B, 0, none⟩) hB).trans h1, (hb.cell (p := ⟨B, 1, none⟩) hB).trans h2, (hb.frozen (p := ⟨B, 0, none⟩) hB).trans h3, (hb.frozen (p := ⟨B, 1, none⟩) hB).trans h4⟩

end Go.Proofs.YtanjajjjancggaaDoor

/- Products, the order of numbers, numbers of 64 bits, nought. -/
namespace Go.Proofs.YtanjajjjancggaaDoor
open Go.RowKit Limbs

theorem Box.drew {w : World} {B : Nat} {u0 u1 : Value} (h : Box w B u0 u1) : Box w.drew B u0 u1 := h

structure Three (w W : World) (a0 a1 b0 b1 r0 r1 : Value) : Prop where
 fst : Box W w.heap.size a0 a1
 snd : Box W (w.heap.size + 1) b0 b1
 res : Box W (w.heap.size + 2) r0 r1
 below : Below w.heap.size w W
 size : w.heap.size + 2 < W.heap.size

theorem three (w : World) (a0 a1 b0 b1 r0 r1 : Value) (t1 t2 t3 : TypeId) : Three w (((w.alloc (.cells #[a0, a1] t1)).alloc (.cells #[b0, b1] t2)).alloc (.cells #[r0, r1] t3)) a0 a1 b0 b1 r0 r1 where
 fst := (box_new w _ _ _ _ rfl).later (((Below.refl _ _).alloc (by simp) _).alloc (by simp) _ : Below (w.heap.size + 1) _ _) (by omega)
 snd := (box_new (w.alloc _) _ _ _ _ (by simp)).later ((Below.refl _ _).alloc (by simp) _ : Below (w.heap.size + 2) _ _) (by omega)
 res := box_new _ _ _ _ _ (by simp)
 below := (((Below.refl _ _).alloc (Nat.le_refl _) _).alloc (by simp) _).alloc (by simp; omega) _
 size := by simp

theorem Three.later {w W W' : World} {a0 a1 b0 b1 r0 r1 : Value} (h : Three w W a0 a1 b0 b1 r0 r1) (hb : Below W.heap.size W W') : Three w W' a0 a1 b0 b1 r0 r1 where
 fst := h.fst.later hb (by have := h.size; omega)
 snd := h.snd.later hb (by have := h.size; omega)
 res := h.res.later hb h.size
 below := h.below.trans (hb.mono h.below.size)
 size := Nat.lt_of_lt_of_le h.size hb.size

theorem Three.drew {w W : World} {a0 a1 b0 b1 r0 r1 : Value} (h : Three w W a0 a1 b0 b1 r0 r1) : Three w W.drew a0 a1 b0 b1 r0 r1 := ⟨h.fst, h.snd, h.res, h.below.drew, h.size⟩

theorem lv_pos {zs : List Int} (h : LB zs) (hn : Nrm zs) (h0 : zs.length ≠ 0) : 0 < lv zs := by
 have h1 := lv_nonneg h
 have h2 := lv_zero_iff h hn
 by_cases e : lv zs = 0
 ·exact absurd (h2.1 e) h0
 ·omega

end Go.Proofs.YtanjajjjancggaaDoor

/- Numbers of 64 bits; what may be. -/
namespace Go.Proofs.YtanjajjjancggaaDoor
open Go.RowKit Limbs

def isNum (neg : Bool) (zs : List Int) : Bool := if zs.length = 0 then !neg else zs.getD (zs.length - 1) 0 != 0

def checked (b : Bool) : Value := if b = true then .nilIface else .iface 44 (.int .i64 3)

end Go.Proofs.YtanjajjjancggaaDoor

/- Limbs in memory of their own; signs turned; differences; likeness. -/
namespace Go.Proofs.YtanjajjjancggaaDoor
open Go.RowKit Limbs

def FreshPost (w : World) (zs : List Int) (e : Ending) (w' : World) : Prop :=
 e = .returned (.slice (some ⟨w.heap.size, 0, none⟩) zs.length zs.length) ∧ Row w' w.heap.size zs ∧ Below w.heap.size w w'

theorem FreshPost.lim {w w' : World} {zs : List Int} (hr : Row w' w.heap.size zs) (hl : zs.length ≤ 1000000) : Lim w' (.slice (some ⟨w.heap.size, 0, none⟩) zs.length zs.length) zs := hr.lim _ (Nat.le_refl _) hl

structure Two (w W : World) (a0 a1 r0 r1 : Value) : Prop where
 fst : Box W w.heap.size a0 a1
 res : Box W (w.heap.size + 1) r0 r1
 below : Below w.heap.size w W
 size : w.heap.size + 1 < W.heap.size

theorem two (w : World) (a0 a1 r0 r1 : Value) (t1 t2 : TypeId) : Two w ((w.alloc (.cells #[a0, a1] t1)).alloc (.cells #[r0, r1] t2)) a0 a1 r0 r1 where
 fst := (box_new w _ _ _ _ rfl).later ((Below.refl _ _).alloc (by simp) _ : Below (w.heap.size + 1) _ _) (by omega)
 res := box_new _ _ _ _ _ (by simp)
 below := ((Below.refl _ _).alloc (Nat.le_refl _) _).alloc (by simp) _
 size := by simp

theorem Two.later {w W W' : World} {a0 a1 r0 r1 : Value} (h : Two w W a0 a1 r0 r1) (hb : Below W.heap.size W W') : Two w W' a0 a1 r0 r1 where
 fst := h.fst.later hb (by have := h.size; omega)
 res := h.res.later hb h.size
 below := h.below.trans (hb.mono h.below.size)
 size := Nat.lt_of_lt_of_le h.size hb.size

theorem Two.drew {w W : World} {a0 a1 r0 r1 : Value} (h : Two w W a0 a1 r0 r1) : Two w W.drew a0 a1 r0 r1 := ⟨h.fst, h.res, h.below.drew, h.size⟩

end Go.Proofs.YtanjajjjancggaaDoor
