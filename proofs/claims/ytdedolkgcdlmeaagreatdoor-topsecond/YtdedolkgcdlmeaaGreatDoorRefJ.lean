/- The reference: a number of limbs, in its digits. -/
import Derived.Test.YtdedolkgcdlmeaaGreatDoorRefI
namespace Go.Proofs.YtdedolkgcdlmeaaGreatDoor
open Go.RowKit Limbs Digs

theorem dgetD_set (zs : List Int) (k j : Nat) (z : Int) (h : k < zs.length) : (zs.set k z).getD j 0 = if j = k then z else zs.getD j 0 := by
  rw [List.getD_eq_getElem?_getD, List.getElem?_set]
  by_cases hk : k = j
  · subst hk; simp [h]
  · rw [if_neg hk, if_neg (fun e => hk e.symm), List.getD_eq_getElem?_getD]

/-- Two to the 32nd times the digits: so many are done. -/
def UInv (w wr : World) (base : Nat) (v : Value) (zs : List Int) (c0 : Int) (k : Nat) (cy : Int) (ys : List Int) : Prop :=
  wr.ownsRow base 3 1 v zs.length (ys.map (Value.int .i64)) ∧ ys.length = zs.length ∧ DB ys ∧ ys.drop k = zs.drop k ∧ dv (ys.take k) + dp k * cy = 4294967296 * dv (zs.take k) + c0 ∧ 0 ≤ cy ∧ cy < 4294967296 ∧ Below base w wr

theorem UInv.step {w wr : World} {base g cap : Nat} {zs ys : List Int} {c0 cy T : Int} {k : Nat} (h : UInv w wr base (.slice (some ⟨g, 0, none⟩) zs.length cap) zs c0 k cy ys) (hk : k < zs.length) (hT : T = ys.getD k 0 * 4294967296 + cy) :
    UInv w (wr.setCell ⟨g, k, none⟩ (.int .i64 (T % 10000))) base (.slice (some ⟨g, 0, none⟩) zs.length cap) zs c0 (k + 1) (T / 10000) (ys.set k (T % 10000)) := by
  obtain ⟨h1, h2, h3, h4, h5, h6, h7, h8⟩ := h
  have hz := h3 k
  have hst := h1.stored k (.int .i64 (T % 10000))
  have he : ys.getD k 0 = zs.getD k 0 := by
    have e1 := drop_cons_getD ys k (by omega)
    have e2 := drop_cons_getD zs k hk
    rw [h4] at e1
    rw [e1] at e2
    exact (List.cons.injEq _ _ _ _ ▸ e2).1
  have hlt := h1.lt g rfl
  refine ⟨by rw [List.map_set]; exact hst.1, by simp [h2], DB_set h3 k (by omega), ?_, ?_, by omega, by omega, h8.setCell (by simp; omega) _⟩
  · rw [drop_set_lt ys k (k + 1) _ (Nat.lt_succ_self k)]
    have e1 := congrArg (List.drop 1) h4
    rwa [List.drop_drop, List.drop_drop] at e1
  · rw [dv_take_succ, take_set_ge ys k k _ (Nat.le_refl _), dgetD_set _ _ _ _ (by omega), if_pos rfl, dv_take_succ]
    simp only [dp]
    have e1 : 10000 * dp k * (T / 10000) = dp k * (10000 * (T / 10000)) := by rw [Int.mul_comm 10000, Int.mul_assoc]
    have e2 : dp k * (T % 10000) + dp k * (10000 * (T / 10000)) = dp k * T := by rw [← Int.mul_add]; congr 1; omega
    have e3 : dp k * T = dp k * (4294967296 * ys.getD k 0) + dp k * cy := by rw [hT, Int.mul_add, Int.mul_comm (ys.getD k 0)]
    have e4 : dp k * (4294967296 * ys.getD k 0) = 4294967296 * (dp k * zs.getD k 0) := by rw [he, Int.mul_left_comm]
    rw [e1, Int.mul_add]
    omega

theorem UInv.fin {w wr : World} {base : Nat} {v : Value} {zs ys : List Int} {c0 cy : Int} (h : UInv w wr base v zs c0 zs.length cy ys) : dv ys + dp zs.length * cy = 4294967296 * dv zs + c0 := by
  have := h.2.2.2.2.1
  rw [List.take_length, dv_take_ge ys (by rw [h.2.1]; exact Nat.le_refl _)] at this
  exact this

/-- What is left is put behind: at most three more. -/
def VInv (w wr : World) (base : Nat) (n : Nat) (T : Int) (cy : Int) (d : Value) (ds : List Int) : Prop :=
  wr.ownsRow base 3 1 d ds.length (ds.map (Value.int .i64)) ∧ DB ds ∧ T = dv ds + dp ds.length * cy ∧ 0 ≤ cy ∧ (∃ j : Nat, j ≤ 3 ∧ ds.length + j ≤ n + 3 ∧ cy < dp j) ∧ Below base w wr

theorem UInv.behind {w wr : World} {base : Nat} {v : Value} {zs ys : List Int} {c0 cy : Int} (h : UInv w wr base v zs c0 zs.length cy ys) : VInv w wr base zs.length (4294967296 * dv zs + c0) cy v ys := by
  have hf := h.fin
  obtain ⟨h1, h2, h3, h4, h5, h6, h7, h8⟩ := h
  have e3 : dp 3 = 1000000000000 := by decide
  exact ⟨by rw [h2]; exact h1, h3, by rw [h2]; exact hf.symm, h6, ⟨3, Nat.le_refl _, by omega, by omega⟩, h8⟩

theorem VInv.step {w wr w3 : World} {base n : Nat} {T cy r : Int} {d d' : Value} {ds : List Int} (h : VInv w wr base n T cy d ds) (hb : base ≤ wr.heap.size) (hc : cy ≠ 0) (hr : cy % 10000 = r)
    (hown : w3.ownsRow base 3 1 d' (ds.length + 1) (ds.map (Value.int .i64) ++ [.int .i64 r])) (hg : (wr.alloc (.cells #[.int .i64 r] 3)).grownBy w3 d.ownBlock) : VInv w w3 base n T (cy / 10000) d' (ds ++ [r]) := by
  obtain ⟨h1, h2, h3, h4, ⟨j, hj, hl, hlt⟩, h6⟩ := h
  have hbb := below_app h1 hb hg
  refine ⟨by rw [List.length_append, List.map_append]; exact hown, DB_append h2 (by omega), ?_, by omega, ?_, h6.trans hbb⟩
  · rw [dv_snoc, List.length_append, List.length_singleton, h3]
    simp only [dp]
    have e : 10000 * dp ds.length * (cy / 10000) = dp ds.length * (10000 * (cy / 10000)) := by rw [Int.mul_comm 10000, Int.mul_assoc]
    rw [e, Int.add_assoc, ← Int.mul_add]
    congr 2
    omega
  · match j, hj, hl, hlt with
    | 0, _, _, hlt => simp only [dp] at hlt; omega
    | j + 1, hj, hl, hlt => exact ⟨j, by omega, by simp; omega, by simp only [dp] at hlt; omega⟩

theorem VInv.few {w wr : World} {base n : Nat} {T cy : Int} {d : Value} {ds : List Int} (h : VInv w wr base n T cy d ds) : ds.length ≤ n + 3 := by
  obtain ⟨_, _, _, _, ⟨j, _, hl, _⟩, _⟩ := h
  omega

/-- At the outer loop's head: the digits of the limbs from a place on. -/
def FInv (w wr : World) (vl : Value) (neg : Bool) (ls : List Int) (i : Nat) (d : Value) (ds : List Int) : Prop :=
  wr.ownsRow (w.heap.size + 2) 3 1 d ds.length (ds.map (Value.int .i64)) ∧ DB ds ∧ dv ds = lv (ls.drop i) ∧ ds.length ≤ 3 * (ls.length - i) ∧ Box wr w.heap.size (.bool neg) vl ∧ BoxR wr (w.heap.size + 1) (.int .i64 0) (.slice none 0 0) ∧ Below w.heap.size w wr

theorem FInv.size {w wr : World} {vl d : Value} {neg : Bool} {ls ds : List Int} {i : Nat} (h : FInv w wr vl neg ls i d ds) : w.heap.size + 2 ≤ wr.heap.size := by
  have := h.2.2.2.2.2.1.lt
  omega

theorem FInv.inner {w wr : World} {vl d : Value} {neg : Bool} {ls ds : List Int} {i : Nat} (h : FInv w wr vl neg ls i d ds) {c : Int} (hc : 0 ≤ c ∧ c < 4294967296) : UInv wr wr (w.heap.size + 2) d ds c 0 c ds :=
  ⟨h.1, rfl, h.2.1, rfl, by simp [dv, dp], hc.1, hc.2, Below.refl _ _⟩

theorem FInv.next {w wr w2 : World} {vl d d2 : Value} {neg : Bool} {ls ds ds2 : List Int} {i : Nat} (h : FInv w wr vl neg ls (i + 1) d ds) (hi : i < ls.length) (hv : VInv wr w2 (w.heap.size + 2) ds.length (4294967296 * dv ds + ls.getD i 0) 0 d2 ds2) : FInv w w2 vl neg ls i d2 ds2 := by
  have hf := hv.few
  obtain ⟨h1, h2, h3, h4, h5, h6, h7⟩ := h
  obtain ⟨k1, k2, k3, -, -, k6⟩ := hv
  refine ⟨k1, k2, ?_, by omega, h5.later k6 (by omega), h6.later k6 (by omega), h7.trans (k6.mono (by omega))⟩
  rw [drop_cons_getD ls i hi]
  simp only [lv]
  rw [← h3]
  omega

end Go.Proofs.YtdedolkgcdlmeaaGreatDoor
