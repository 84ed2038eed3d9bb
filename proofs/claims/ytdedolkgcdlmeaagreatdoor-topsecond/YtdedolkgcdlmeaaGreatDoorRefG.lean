/- The reference: a number's limbs. -/
import Derived.Test.YtdedolkgcdlmeaaGreatDoorRefF
namespace Go.Proofs.YtdedolkgcdlmeaaGreatDoor
open Go.RowKit Limbs Digs

theorem RowI.owns {w : World} {base g cap : Nat} {ds : List Int} (h : w.ownsRow base 3 1 (.slice (some ⟨g, 0, none⟩) ds.length cap) ds.length (ds.map (Value.int .i64))) (hd : DB ds) : RowI w g ds := by
  refine ⟨?_, hd, fun j hj => ⟨?_, h.frozenAt j⟩⟩
  · rcases h.2 with ⟨e, -⟩ | ⟨g', cap', cur, e, hb, hg, -⟩
    · cases e
    · simp only [Value.slice.injEq, Option.some.injEq, Addr.mk.injEq, true_and, and_true] at e
      obtain ⟨rfl, rfl⟩ := e
      exact ⟨_, _, hg⟩
  · rw [h.cellAt j (by omega)]
    simp [List.getD_eq_getElem?_getD, hj]

theorem RowI.take {w : World} {g : Nat} {zs : List Int} (h : RowI w g zs) (n : Nat) : RowI w g (zs.take n) := by
  obtain ⟨h1, h2, h3⟩ := h
  refine ⟨h1, DB_take h2 n, fun j hj => ?_⟩
  rw [List.length_take] at hj
  rw [getD_take zs n j (by omega)]
  exact h3 j (by omega)

theorem RowI.later {w w' : World} {g B : Nat} {zs : List Int} (h : RowI w g zs) (hb : Below B w w') (hg : g < B) : RowI w' g zs := by
  obtain ⟨⟨cur, fz, h1⟩, h2, h3⟩ := h
  exact ⟨⟨cur, fz, (hb.block g hg).trans h1⟩, h2, fun j hj => ⟨(hb.cell (p := ⟨g, j, none⟩) hg).trans (h3 j hj).1, (hb.frozen (p := ⟨g, j, none⟩) hg).trans (h3 j hj).2⟩⟩

/-- The boxes of the call. -/
structure IBox (w W : World) (a0 a1 : Value) : Prop where
  fst : BoxR W w.heap.size a0 a1
  res : Box W (w.heap.size + 1) (.bool false) (.slice none 0 0)
  below : Below w.heap.size w W
  size : w.heap.size + 1 < W.heap.size

theorem IBox.later {w W W' : World} {a0 a1 : Value} (h : IBox w W a0 a1) {B : Nat} (hb : Below B W W') (hB : w.heap.size + 1 + 1 ≤ B) : IBox w W' a0 a1 where
  fst := h.fst.later hb (by omega)
  res := h.res.later hb (by omega)
  below := h.below.trans (hb.mono (by omega))
  size := Nat.lt_of_lt_of_le h.size hb.size

/-- At the outer loop's head. -/
def IOut (w wr : World) (a0 a1 : Value) (A : Int) (n : Nat) (g : Nat) (l : Value) (zs ls : List Int) : Prop :=
  IBox w wr a0 a1 ∧ RowI wr g zs ∧ Nrm zs ∧ zs.length ≤ n ∧ wr.ownsRow (g + 1) 104 1 l ls.length (ls.map (Value.int .u32)) ∧ LB ls ∧ A = lv ls + bp ls.length * dv zs ∧
    (dv zs = 0 → ls.length = 0 ∨ ls.getD (ls.length - 1) 0 ≠ 0) ∧ g < wr.heap.size ∧ lenOf l = ls.length ∧ ls.length ≤ n

theorem IOut.few {w wr : World} {a0 a1 : Value} {A : Int} {n g : Nat} {l : Value} {zs ls : List Int} (h : IOut w wr a0 a1 A n g l zs ls) (hA : A < bp n) (hz : zs.length ≠ 0) : ls.length < n := by
  obtain ⟨-, h2, h3, -, -, h6, h7, -⟩ := h
  have h8 := dv_pos h2.2.1 h3 hz
  have h9 := lv_nonneg h6
  have h10 := bp_pos ls.length
  have e5 : bp ls.length * 1 ≤ bp ls.length * dv zs := Int.mul_le_mul_of_nonneg_left (by omega) (by omega)
  by_cases hk : ls.length < n
  · exact hk
  · have := bp_mono (m := n) (n := ls.length) (by omega)
    omega

/-- Inside: so many digits are still to be divided. -/
def IDiv (wr : World) (g : Nat) (zs : List Int) (p : Nat) (r : Int) (qs : List Int) : Prop :=
  qs.length = zs.length ∧ RowI wr g qs ∧ qs.take p = zs.take p ∧ dv (zs.drop p) = 4294967296 * dv (qs.drop p) + r ∧ 0 ≤ r ∧ r < 4294967296

theorem IDiv.start {wr : World} {g : Nat} {zs : List Int} (h : RowI wr g zs) : IDiv wr g zs zs.length 0 zs :=
  ⟨rfl, h, rfl, by rw [List.drop_length]; simp [dv], by decide, by decide⟩

theorem IDiv.step {wr : World} {g : Nat} {zs : List Int} {p : Nat} {r : Int} {qs : List Int} (h : IDiv wr g zs (p + 1) r qs) (hp : p < zs.length) {T : Int} (hT : T = r * 10000 + qs.getD p 0) :
    IDiv (wr.setCell ⟨g, p, none⟩ (.int .i64 (T / 4294967296))) g zs p (T % 4294967296) (qs.set p (T / 4294967296)) := by
  obtain ⟨h1, h2, h4, h5, h6, h7⟩ := h
  have hz := h2.2.1 p
  have he : qs.getD p 0 = zs.getD p 0 := getD_of_take h4 (Nat.lt_succ_self p)
  refine ⟨by rw [List.length_set]; exact h1, h2.store (by omega) (by omega), ?_, ?_, by omega, by omega⟩
  · rw [take_set_ge _ _ _ _ (Nat.le_refl _)]
    have := congrArg (List.take p) h4
    rwa [List.take_take, List.take_take, Nat.min_eq_left (by omega)] at this
  · rw [drop_cons_getD zs p hp, drop_cons_getD (qs.set p (T / 4294967296)) p (by rw [List.length_set]; omega), drop_set_lt qs p (p + 1) _ (Nat.lt_succ_self p), getD_set _ _ _ _ (by omega), if_pos rfl]
    simp only [dv]
    rw [h5, ← he]
    omega

/-- The round's end. -/
theorem IOut.step {w wr w1 w3 : World} {a0 a1 : Value} {A : Int} {n g m : Nat} {l l' : Value} {zs ls qs : List Int} {r : Int} (h : IOut w wr a0 a1 A n g l zs ls) (hgw : w.heap.size + 1 + 1 ≤ g) (hA : A < bp n) (hz : zs.length ≠ 0)
    (hd : IDiv w1 g zs 0 r qs) (hb1 : Below g wr w1) (hg1 : wr.grownBy w1 (some g))
    (hown : w3.ownsRow (g + 1) 104 1 l' (ls.length + 1) (ls.map (Value.int .u32) ++ [.int .u32 r])) (hg3 : (w1.alloc (.cells #[.int .u32 r] 104)).grownBy w3 l.ownBlock)
    (hm : m ≤ qs.length) (hqm : dv (qs.take m) = dv qs) (hnm : Nrm (qs.take m)) : IOut w w3 a0 a1 A n g l' (qs.take m) (ls ++ [r]) := by
  have hf := h.few hA hz
  obtain ⟨h1, h2, h3, h4, h5, h6, h7, h8, h9, h10, h11⟩ := h
  obtain ⟨d1, d2, d3, d4, d5, d6⟩ := hd
  rw [List.drop_zero, List.drop_zero] at d4
  have hpos := dv_pos h2.2.1 h3 hz
  have hown1 := h5.kept hg1 (.inr (fun e => by have := h5.lt _ e; omega))
  have hb3 : Below (g + 1) w1 w3 := below_app hown1 (by have := hg1.size; omega) hg3
  refine ⟨(h1.later hb1 hgw).later hb3 (by omega), (d2.take m).later hb3 (by omega), hnm, by rw [List.length_take]; omega, by rw [List.length_append, List.map_append]; exact hown, LB_snoc h6 ⟨d5, d6⟩, ?_, ?_, ?_, ?_, by simp; omega⟩
  · rw [lv_snoc, hqm, h7, d4, List.length_append, List.length_singleton]
    simp only [bp]
    rw [Int.mul_add]
    have e : bp ls.length * (4294967296 * dv qs) = 4294967296 * bp ls.length * dv qs := by rw [Int.mul_left_comm, Int.mul_assoc]
    rw [e]
    omega
  · intro h0
    right
    rw [hqm] at h0
    rw [List.length_append, List.length_singleton, Nat.add_sub_cancel, List.getD_eq_getElem?_getD, List.getElem?_append_right (Nat.le_refl _), Nat.sub_self]
    simp
    omega
  · have := hb3.size; have := hg1.size; omega
  · rw [lenOf_owns hown]; simp

theorem sign_mul {s d : Int} {k : Nat} (hs : (k = 0 ∧ s = 0) ∨ (0 < k ∧ (s = 1 ∨ s = -1))) (hk : k = 0 → d = 0) : (if decide (s < 0) = true then -d else d) = s * d := by
  rcases hs with ⟨h1, h2⟩ | ⟨-, h2 | h2⟩
  · subst h2; rw [hk h1]; simp
  · subst h2; simp
  · subst h2; simp

/-- The result. -/
theorem IOut.done {w wr : World} {sa A : Int} {a1 : Value} {k n g : Nat} {l : Value} {zs ls : List Int} (h : IOut w wr (.int .i64 sa) a1 A n g l zs ls) (hn : n ≤ 1000000) (hz : zs.length = 0) (hs : (k = 0 ∧ sa = 0) ∨ (0 < k ∧ (sa = 1 ∨ sa = -1))) (hk : k = 0 → A = 0) (hk' : A = 0 → k = 0) :
    NumL wr (.agg #[.bool (decide (sa < 0)), l]) (sa * A) n := by
  obtain ⟨h1, h2, h3, h4, h5, h6, h7, h8, h9, h10, h11⟩ := h
  have e0 : zs = [] := List.eq_nil_of_length_eq_zero hz
  subst e0
  have e : A = lv ls := by simpa [dv] using h7
  refine ⟨_, l, ls, rfl, Lim.owns h5 h6 (by omega), h8 rfl, fun h0 => ?_, ?_, h11⟩
  · have : A = 0 := by rw [e, List.eq_nil_of_length_eq_zero h0]; rfl
    have := hk' this
    have : sa = 0 := by omega
    subst this; rfl
  · rw [← e, sign_mul hs hk]

end Go.Proofs.YtdedolkgcdlmeaaGreatDoor
