/- The reference: a number's limbs. -/
import Derived.Test.YtanjajjjancggaaDoorRefF
import Derived.Test.YtanjajjjancggaaDoorOps2
import Derived.Test.YtanjajjjancggaaDoorRefA
import Derived.Test.YtanjajjjancggaaDoorSwap

namespace Go.Proofs.YtanjajjjancggaaDoor
open Go.RowKit Limbs Digs

theorem RowI.owns {w : World} {base g cap : Nat} {ds : List Int} (h : w.ownsRow base 3 1 (.slice (some ⟨g, 0, none⟩) ds.length cap) ds.length (ds.map (Value.int .i64))) (hd : DB ds) : RowI w g ds := by
 refine ⟨?_, hd, fun j hj => ⟨?_, h.frozenAt j⟩⟩
 ·rcases h.2 with ⟨e, -⟩ | ⟨g', cap', cur, e, hb, hg, -⟩
  ·cases e
  ·simp only [Value.slice.injEq, Option.some.injEq, Addr.mk.injEq, true_and, and_true] at e
   obtain ⟨rfl, rfl⟩ := e
   exact ⟨_, _, hg⟩
 ·rw [h.cellAt j (by omega)]
  simp [List.getD_eq_getElem?_getD, hj]

theorem RowI.take {w : World} {g : Nat} {zs : List Int} (h : RowI w g zs) (n : Nat) : RowI w g (zs.take n) := by
 obtain ⟨h1, h2, h3⟩ := h
 refine ⟨h1, DB_take h2 n, fun j hj => ?_⟩
 rw [List.length_take] at hj
 rw [getD_take zs n j (by omega)]
 exact h3 j (by omega)

theorem RowI.later {w w' : World} {g B : Nat} {zs : List Int} (h : RowI w g zs) (hb : Below B w w') (hg : g < B) : RowI w' g zs := by
 obtain ⟨⟨cur, fz, h1⟩, h2, h3⟩ := h
 exact ⟨⟨cur, fz, (hb.block g hg).trans h1⟩, h2, fun j hj => ⟨(hb.cell (p := ⟨g, j, none⟩) hg).trans (h3 j hj).1, (hb.frozen (p := ⟨g, j, none⟩) hg).trans (h3 j hj).2⟩⟩

structure IBox (w W : World) (a0 a1 : Value) : Prop where
 fst : BoxR W w.heap.size a0 a1
 res : Box W (w.heap.size + 1) (.bool false) (.slice none 0 0)
 below : Below w.heap.size w W
 size : w.heap.size + 1 < W.heap.size

theorem IBox.later {w W W' : World} {a0 a1 : Value} (h : IBox w W a0 a1) {B : Nat} (hb : Below B W W') (hB : w.heap.size + 1 + 1 ≤ B) : IBox w W' a0 a1 where
 fst := h.fst.later hb (by omega)
 res := h.res.later hb (by omega)
 below := h.below.trans (hb.mono (by omega))
 size := Nat.lt_of_lt_of_le h.size hb.size

def IOut (w wr : World) (a0 a1 : Value) (A : Int) (n : Nat) (g : Nat) (l : Value) (zs ls : List Int) : Prop :=
 IBox w wr a0 a1 ∧ RowI wr g zs ∧ Nrm zs ∧ zs.length ≤ n ∧ wr.ownsRow (g + 1) 106 1 l ls.length (ls.map (Value.int .u32)) ∧ LB ls ∧ A = lv ls + bp ls.length * dv zs ∧
  (dv zs = 0 → ls.length = 0 ∨ ls.getD (ls.length - 1) 0 ≠ 0) ∧ g < wr.heap.size ∧ lenOf l = ls.length ∧ ls.length ≤ n

theorem IOut.few {w wr : World} {a0 a1 : Value} {A : Int} {n g : Nat} {l : Value} {zs ls : List Int} (h : IOut w wr a0 a1 A n g l zs ls) (hA : A < bp n) (hz : zs.length ≠ 0) : ls.length < n := by
 obtain ⟨-, h2, h3, -, -, h6, h7, -⟩ := h
 have h8 := dv_pos h2.2.1 h3 hz
 have h9 := lv_nonneg h6
 have h10 := bp_pos ls.length
 have e5 : bp ls.length * 1 ≤ bp ls.length * dv zs := Int.mul_le_mul_of_nonneg_left (by omega) (by omega)
 by_cases hk : ls.length < n
 ·exact hk
 ·have := bp_mono (m := n) (n := ls.length) (by omega)
  omega

def IDiv (wr : World) (g : Nat) (zs : List Int) (p : Nat) (r : Int) (qs : List Int) : Prop :=
 qs.length = zs.length ∧ RowI wr g qs ∧ qs.take p = zs.take p ∧ dv (zs.drop p) = 4294967296 * dv (qs.drop p) + r ∧ 0 ≤ r ∧ r < 4294967296

theorem IDiv.start {wr : World} {g : Nat} {zs : List Int} (h : RowI wr g zs) : IDiv wr g zs zs.length 0 zs :=
 ⟨rfl, h, rfl, by rw [List.drop_length]; simp [dv], by decide, by decide⟩

theorem IDiv.step {wr : World} {g : Nat} {zs : List Int} {p : Nat} {r : Int} {qs : List Int} (h : IDiv wr g zs (p + 1) r qs) (hp : p < zs.length) {T : Int} (hT : T = r * 10000 + qs.getD p 0) :
  IDiv (wr.setCell ⟨g, p, none⟩ (.int .i64 (T / 4294967296))) g zs p (T % 4294967296) (qs.set p (T / 4294967296)) := by
 obtain ⟨h1, h2, h4, h5, h6, h7⟩ := h
 have hz := h2.2.1 p
 have he : qs.getD p 0 = zs.getD p 0 := getD_of_take h4 (Nat.lt_succ_self p)
 refine ⟨by rw [List.length_set]; exact h1, h2.store (by omega) (by omega), ?_, ?_, by omega, by omega⟩
 ·rw [take_set_ge _ _ _ _ (Nat.le_refl _)]
  have := congrArg (List.take p) h4
  rwa [List.take_take, List.take_take, Nat.min_eq_left (by omega)] at this
 ·rw [drop_cons_getD zs p hp, drop_cons_getD (qs.set p (T / 4294967296)) p (by rw [List.length_set]; omega), drop_set_lt qs p (p + 1) _ (Nat.lt_succ_self p), getD_set _ _ _ _ (by omega), if_pos rfl]
  simp only [dv]
  rw [h5, ← he]
  omega

theorem IOut.step {w wr w1 w3 : World} {a0 a1 : Value} {A : Int} {n g m : Nat} {l l' : Value} {zs ls qs : List Int} {r : Int} (h : IOut w wr a0 a1 A n g l zs ls) (hgw : w.heap.size + 1 + 1 ≤ g) (hA : A < bp n) (hz : zs.length ≠ 0)
  (hd : IDiv w1 g zs 0 r qs) (hb1 : Below g wr w1) (hg1 : wr.grownBy w1 (some g))
  (hown : w3.ownsRow (g + 1) 106 1 l' (ls.length + 1) (ls.map (Value.int .u32) ++ [.int .u32 r])) (hg3 : (w1.alloc (.cells #[.int .u32 r] 106)).grownBy w3 l.ownBlock)
  (hm : m ≤ qs.length) (hqm : dv (qs.take m) = dv qs) (hnm : Nrm (qs.take m)) : IOut w w3 a0 a1 A n g l' (qs.take m) (ls ++ [r]) := by
 have hf := h.few hA hz
 obtain ⟨h1, h2, h3, h4, h5, h6, h7, h8, h9, h10, h11⟩ := h
 obtain ⟨d1, d2, d3, d4, d5, d6⟩ := hd
 rw [List.drop_zero, List.drop_zero] at d4
 have hpos := dv_pos h2.2.1 h3 hz
 have hown1 := h5.kept hg1 (.inr (fun e => by have := h5.lt _ e; omega))
 have hb3 : Below (g + 1) w1 w3 := below_app hown1 (by have := hg1.size; omega) hg3
 refine ⟨(h1.later hb1 hgw).later hb3 (by omega), (d2.take m).later hb3 (by omega), hnm, by rw [List.length_take]; omega, by rw [List.length_append, List.map_append]; exact hown, LB_snoc h6 ⟨d5, d6⟩, ?_, ?_, ?_, ?_, by simp; omega⟩
 ·rw [lv_snoc, hqm, h7, d4, List.length_append, List.length_singleton]
  simp only [bp]
  rw [Int.mul_add]
  have e : bp ls.length * (4294967296 * dv qs) = 4294967296 * bp ls.length * dv qs := by rw [Int.mul_left_comm, Int.mul_assoc]
  rw [e]
  omega
 ·intro h0
  right
  rw [hqm] at h0
  rw [List.length_append, List.length_singleton, Nat.add_sub_cancel, List.getD_eq_getElem?_getD, List.getElem?_append_right (Nat.le_refl _), Nat.sub_self]
  simp
  omega
 ·have := hb3.size; have := hg1.size; omega
 ·rw [lenOf_owns hown]; simp

theorem sign_mul {s d : Int} {k : Nat} (hs : (k = 0 ∧ s = 0) ∨ (0 < k ∧ (s = 1 ∨ s = -1))) (hk : k = 0 → d = 0) : (if decide (s < 0) = true then -d else d) = s * d := by
 rcases hs with ⟨h1, h2⟩ | ⟨-, h2 | h2⟩
 ·subst h2; rw [hk h1]; simp
 ·subst h2; simp
 ·subst h2; simp

theorem IOut.done {w wr : World} {sa A : Int} {a1 : Value} {k n g : Nat} {l : Value} {zs ls : List Int} (h : IOut w wr (.int .i64 sa) a1 A n g l zs ls) (hn : n ≤ 1000000) (hz : zs.length = 0) (hs : (k = 0 ∧ sa = 0) ∨ (0 < k ∧ (sa = 1 ∨ sa = -1))) (hk : k = 0 → A = 0) (hk' : A = 0 → k = 0) :
  NumL wr (.agg #[.bool (decide (sa < 0)), l]) (sa * A) n := by
 obtain ⟨h1, h2, h3, h4, h5, h6, h7, h8, h9, h10, h11⟩ := h
 have e0 : zs = [] := List.eq_nil_of_length_eq_zero hz
 subst e0
 have e : A = lv ls := by simpa [dv] using h7
 refine ⟨_, l, ls, rfl, Lim.owns h5 h6 (by omega), h8 rfl, fun h0 => ?_, ?_, h11⟩
 ·have : A = 0 := by rw [e, List.eq_nil_of_length_eq_zero h0]; rfl
  have := hk' this
  have : sa = 0 := by omega
  subst this; rfl
 ·rw [← e, sign_mul hs hk]

end Go.Proofs.YtanjajjjancggaaDoor

/- Are these numbers, and not too great? -/
namespace Go.Proofs.YtanjajjjancggaaDoor
open Go.RowKit Limbs

theorem ret_bool {a b : Bool} (h : a = b) : Ending.returned (.bool a) = .returned (.bool b) := by rw [h]

structure Raw where
 neg : Bool
 s : Value
 zs : List Int

def Raw.good (r : Raw) : Bool := decide (r.zs.length ≤ 12) && isNum r.neg r.zs

def Raws (w : World) (B : Nat) (xs : List Raw) : Prop :=
 B < w.heap.size ∧ ∀ i r, xs[i]? = some r → w.cell? ⟨B, i * 2, none⟩ = some (.bool r.neg) ∧ w.cell? ⟨B, i * 2 + 1, none⟩ = some r.s ∧ Lim w r.s r.zs

theorem Raws.below {B C : Nat} {w w' : World} {xs : List Raw} (h : Raws w B xs) (hb : Below C w w') (hC : w.heap.size ≤ C) : Raws w' B xs := by
 obtain ⟨h1, h2⟩ := h
 refine ⟨Nat.lt_of_lt_of_le h1 hb.size, fun i r hi => ?_⟩
 obtain ⟨h3, h4, h5⟩ := h2 i r hi
 exact ⟨(hb.cell (p := ⟨B, i * 2, none⟩) (Nat.lt_of_lt_of_le h1 hC)).trans h3, (hb.cell (p := ⟨B, i * 2 + 1, none⟩) (Nat.lt_of_lt_of_le h1 hC)).trans h4, h5.below hb hC⟩

end Go.Proofs.YtanjajjjancggaaDoor

/- Small facts: the order -1, 0, 1; structs' cells in a row. -/
namespace Go.Proofs.YtanjajjjancggaaDoor
open Go.RowKit Limbs

theorem cmpI_anti (a b : Int) : cmpI b a = -cmpI a b := by
 unfold cmpI
 repeat' split
 all_goals omega
theorem cmpI_add (a b c : Int) : cmpI (a + c) (b + c) = cmpI a b := by
 unfold cmpI
 repeat' split
 all_goals omega
theorem cmpI_trans (a b c : Int) (h1 : cmpI a b ≤ 0) (h2 : cmpI b c ≤ 0) : cmpI a c ≤ 0 := by
 unfold cmpI at *
 repeat' split at h1
 all_goals repeat' split at h2
 all_goals repeat' split
 all_goals omega
theorem cmpI_mul (a b c : Int) (h : 0 < c) : cmpI (a * c) (b * c) = cmpI a b := by
 by_cases h1 : a < b
 ·rw [cmpI_lt h1, cmpI_lt (Int.mul_lt_mul_of_pos_right h1 h)]
 ·by_cases h2 : b < a
  ·rw [cmpI_gt h2, cmpI_gt (Int.mul_lt_mul_of_pos_right h2 h)]
  ·obtain rfl : a = b := by omega
   rw [cmpI_eq rfl, cmpI_eq rfl]

end Go.Proofs.YtanjajjjancggaaDoor

/- The reference: are two the same? -/
namespace Go.Proofs.YtanjajjjancggaaDoor
open Go.RowKit Limbs Digs

end Go.Proofs.YtanjajjjancggaaDoor

/- The reference: two numbers are compared; one less another; what is wrong with a number. -/
namespace Go.Proofs.YtanjajjjancggaaDoor
open Go.RowKit Limbs Digs

theorem sign_of {s : Int} {sl : Value} {ds : List Int} (hd : DB ds) (hn : Nrm ds) (h : (ds.length = 0 ∧ s = 0 ∧ sl = .slice none 0 0) ∨ (0 < ds.length ∧ (s = 1 ∨ s = -1))) : (dv ds = 0 ∧ s = 0) ∨ (0 < dv ds ∧ (s = 1 ∨ s = -1)) := by
 rcases h with ⟨h1, h2, -⟩ | ⟨h1, h2⟩
 ·exact .inl ⟨(dv_zero_iff hd hn).2 h1, h2⟩
 ·exact .inr ⟨dv_pos hd hn (by omega), h2⟩

def faulty (b : Bool) : Int := if b = true then 0 else 3

end Go.Proofs.YtanjajjjancggaaDoor

/- The reference: a number of limbs, in its digits. -/
namespace Go.Proofs.YtanjajjjancggaaDoor
open Go.RowKit Limbs Digs

theorem dgetD_set (zs : List Int) (k j : Nat) (z : Int) (h : k < zs.length) : (zs.set k z).getD j 0 = if j = k then z else zs.getD j 0 := by
 rw [List.getD_eq_getElem?_getD, List.getElem?_set]
 by_cases hk : k = j
 ·subst hk; simp [h]
 ·rw [if_neg hk, if_neg (fun e => hk e.symm), List.getD_eq_getElem?_getD]

def UInv (w wr : World) (base : Nat) (v : Value) (zs : List Int) (c0 : Int) (k : Nat) (cy : Int) (ys : List Int) : Prop :=
 wr.ownsRow base 3 1 v zs.length (ys.map (Value.int .i64)) ∧ ys.length = zs.length ∧ DB ys ∧ ys.drop k = zs.drop k ∧ dv (ys.take k) + dp k * cy = 4294967296 * dv (zs.take k) + c0 ∧ 0 ≤ cy ∧ cy < 4294967296 ∧ Below base w wr

theorem UInv.step {w wr : World} {base g cap : Nat} {zs ys : List Int} {c0 cy T : Int} {k : Nat} (h : UInv w wr base (.slice (some ⟨g, 0, none⟩) zs.length cap) zs c0 k cy ys) (hk : k < zs.length) (hT : T = ys.getD k 0 * 4294967296 + cy) :
  UInv w (wr.setCell ⟨g, k, none⟩ (.int .i64 (T % 10000))) base (.slice (some ⟨g, 0, none⟩) zs.length cap) zs c0 (k + 1) (T / 10000) (ys.set k (T % 10000)) := by
 obtain ⟨h1, h2, h3, h4, h5, h6, h7, h8⟩ := h
 have hz := h3 k
 have hst := h1.stored k (.int .i64 (T % 10000))
 have he : ys.getD k 0 = zs.getD k 0 := by
  have e1 := drop_cons_getD ys k (by omega)
  have e2 := drop_cons_getD zs k hk
  rw [h4] at e1
  rw [e1] at e2
  exact (List.cons.injEq _ _ _ _ ▸ e2).1
 have hlt := h1.lt g rfl
 refine ⟨by rw [List.map_set]; exact hst.1, by simp [h2], DB_set h3 k (by omega), ?_, ?_, by omega, by omega, h8.setCell (by simp; omega) _⟩
 ·rw [drop_set_lt ys k (k + 1) _ (Nat.lt_succ_self k)]
  have e1 := congrArg (List.drop 1) h4
  rwa [List.drop_drop, List.drop_drop] at e1
 ·rw [dv_take_succ, take_set_ge ys k k _ (Nat.le_refl _), dgetD_set _ _ _ _ (by omega), if_pos rfl, dv_take_succ]
  simp only [dp]
  have e1 : 10000 * dp k * (T / 10000) = dp k * (10000 * (T / 10000)) := by rw [Int.mul_comm 10000, Int.mul_assoc]
  have e2 : dp k * (T % 10000) + dp k * (10000 * (T / 10000)) = dp k * T := by rw [← Int.mul_add]; congr 1; omega
  have e3 : dp k * T = dp k * (4294967296 * ys.getD k 0) + dp k * cy := by rw [hT, Int.mul_add, Int.mul_comm (ys.getD k 0)]
  have e4 : dp k * (4294967296 * ys.getD k 0) = 4294967296 * (dp k * zs.getD k 0) := by rw [he, Int.mul_left_comm]
  rw [e1, Int.mul_add]
  omega

theorem UInv.fin {w wr : World} {base : Nat} {v : Value} {zs ys : List Int} {c0 cy : Int} (h : UInv w wr base v zs c0 zs.length cy ys) : dv ys + dp zs.length * cy = 4294967296 * dv zs + c0 := by
 have := h.2.2.2.2.1
 rw [List.take_length, dv_take_ge ys (by rw [h.2.1]; exact Nat.le_refl _)] at this
 exact this

def VInv (w wr : World) (base : Nat) (n : Nat) (T : Int) (cy : Int) (d : Value) (ds : List Int) : Prop :=
 wr.ownsRow base 3 1 d ds.length (ds.map (Value.int .i64)) ∧ DB ds ∧ T = dv ds + dp ds.length * cy ∧ 0 ≤ cy ∧ (∃ j : Nat, j ≤ 3 ∧ ds.length + j ≤ n + 3 ∧ cy < dp j) ∧ Below base w wr

theorem UInv.behind {w wr : World} {base : Nat} {v : Value} {zs ys : List Int} {c0 cy : Int} (h : UInv w wr base v zs c0 zs.length cy ys) : VInv w wr base zs.length (4294967296 * dv zs + c0) cy v ys := by
 have hf := h.fin
 obtain ⟨h1, h2, h3, h4, h5, h6, h7, h8⟩ := h
 have e3 : dp 3 = 1000000000000 := by decide
 exact ⟨by rw [h2]; exact h1, h3, by rw [h2]; exact hf.symm, h6, ⟨3, Nat.le_refl _, by omega, by omega⟩, h8⟩

theorem VInv.step {w wr w3 : World} {base n : Nat} {T cy r : Int} {d d' : Value} {ds : List Int} (h : VInv w wr base n T cy d ds) (hb : base ≤ wr.heap.size) (hc : cy ≠ 0) (hr : cy % 10000 = r)
  (hown : w3.ownsRow base 3 1 d' (ds.length + 1) (ds.map (Value.int .i64) ++ [.int .i64 r])) (hg : (wr.alloc (.cells #[.int .i64 r] 3)).grownBy w3 d.ownBlock) : VInv w w3 base n T (cy / 10000) d' (ds ++ [r]) := by
 obtain ⟨h1, h2, h3, h4, ⟨j, hj, hl, hlt⟩, h6⟩ := h
 have hbb := below_app h1 hb hg
 refine ⟨by rw [List.length_append, List.map_append]; exact hown, DB_append h2 (by omega), ?_, by omega, ?_, h6.trans hbb⟩
 ·rw [dv_snoc, List.length_append, List.length_singleton, h3]
  simp only [dp]
  have e : 10000 * dp ds.length * (cy / 10000) = dp ds.length * (10000 * (cy / 10000)) := by rw [Int.mul_comm 10000, Int.mul_assoc]
  rw [e, Int.add_assoc, ← Int.mul_add]
  congr 2
  omega
 ·match j, hj, hl, hlt with
  | 0, _, _, hlt => simp only [dp] at hlt; omega
  | j + 1, hj, hl, hlt => exact ⟨j, by omega, by simp; omega, by simp only [dp] at hlt; omega⟩

theorem VInv.few {w wr : World} {base n : Nat} {T cy : Int} {d : Value} {ds : List Int} (h : VInv w wr base n T cy d ds) : ds.length ≤ n + 3 := by
 obtain ⟨_, _, _, _, ⟨j, _, hl, _⟩, _⟩ := h
 omega

def FInv (w wr : World) (vl : Value) (neg : Bool) (ls : List Int) (i : Nat) (d : Value) (ds : List Int) : Prop :=
 wr.ownsRow (w.heap.size + 2) 3 1 d ds.length (ds.map (Value.int .i64)) ∧ DB ds ∧ dv ds = lv (ls.drop i) ∧ ds.length ≤ 3 * (ls.length - i) ∧ Box wr w.heap.size (.bool neg) vl ∧ BoxR wr (w.heap.size + 1) (.int .i64 0) (.slice none 0 0) ∧ Below w.heap.size w wr

theorem FInv.size {w wr : World} {vl d : Value} {neg : Bool} {ls ds : List Int} {i : Nat} (h : FInv w wr vl neg ls i d ds) : w.heap.size + 2 ≤ wr.heap.size := by
 have := h.2.2.2.2.2.1.lt
 omega

theorem FInv.inner {w wr : World} {vl d : Value} {neg : Bool} {ls ds : List Int} {i : Nat} (h : FInv w wr vl neg ls i d ds) {c : Int} (hc : 0 ≤ c ∧ c < 4294967296) : UInv wr wr (w.heap.size + 2) d ds c 0 c ds :=
 ⟨h.1, rfl, h.2.1, rfl, by simp [dv, dp], hc.1, hc.2, Below.refl _ _⟩

theorem FInv.next {w wr w2 : World} {vl d d2 : Value} {neg : Bool} {ls ds ds2 : List Int} {i : Nat} (h : FInv w wr vl neg ls (i + 1) d ds) (hi : i < ls.length) (hv : VInv wr w2 (w.heap.size + 2) ds.length (4294967296 * dv ds + ls.getD i 0) 0 d2 ds2) : FInv w w2 vl neg ls i d2 ds2 := by
 have hf := hv.few
 obtain ⟨h1, h2, h3, h4, h5, h6, h7⟩ := h
 obtain ⟨k1, k2, k3, -, -, k6⟩ := hv
 refine ⟨k1, k2, ?_, by omega, h5.later k6 (by omega), h6.later k6 (by omega), h7.trans (k6.mono (by omega))⟩
 rw [drop_cons_getD ls i hi]
 simp only [lv]
 rw [← h3]
 omega

end Go.Proofs.YtanjajjjancggaaDoor

/- A number's text. -/
namespace Go.Proofs.YtanjajjjancggaaDoor
open Go.RowKit Limbs

def pad : Nat → Nat → List UInt8
 | 0, _ => []
 | k + 1, g => pad k (g / 10) ++ [UInt8.ofNat (48 + g % 10)]

theorem decDigits_pad (k : Nat) : ∀ q g : Nat, 1 ≤ q → g < 10 ^ k → Lib.decDigits (q * 10 ^ k + g) = Lib.decDigits q ++ pad k g := by
 induction k with
 | zero => intro q g _ hg; have : g = 0 := by simpa using hg
           subst this; simp [pad]
 | succ k ih =>
  intro q g hq hg
  have e1 : q * 10 ^ (k + 1) = 10 * (q * 10 ^ k) := by rw [Nat.pow_succ, ← Nat.mul_assoc, Nat.mul_comm]
  have e0 : 0 < q * 10 ^ k := Nat.mul_pos (by omega) (Nat.pow_pos (by decide))
  have hg' : g / 10 < 10 ^ k := by rw [Nat.pow_succ] at hg; omega
  rw [Lib.decDigits, dif_neg (by omega)]
  have e2 : (q * 10 ^ (k + 1) + g) / 10 = q * 10 ^ k + g / 10 := by omega
  have e3 : (q * 10 ^ (k + 1) + g) % 10 = g % 10 := by omega
  rw [e2, e3, ih q (g / 10) hq hg', List.append_assoc]
  rfl

theorem nine (g : Nat) (hg : g < 1000000000) : (Lib.decDigits (1000000000 + g)).drop 1 = pad 9 g := by
 have := decDigits_pad 9 1 g (Nat.le_refl _) hg
 rw [show 1 * 10 ^ 9 + g = 1000000000 + g by omega] at this
 rw [this, Lib.decDigits_one (by decide)]
 rfl

def txt (z : Int) : List UInt8 := Lib.itoa z

def TextPost (w : World) (z : Int) (e : Ending) (w' : World) : Prop := e = .returned (.string ⟨(txt z).toArray⟩) ∧ Below w.heap.size w w'

end Go.Proofs.YtanjajjjancggaaDoor
