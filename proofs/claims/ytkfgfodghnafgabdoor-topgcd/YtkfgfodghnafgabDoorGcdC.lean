/- What the law of the greatest that goes into both needs besides. -/
import Derived.Test.YtkfgfodghnafgabDoorGcd
import Derived.Test.YtkfgfodghnafgabDoorTextS
namespace Go.Proofs.YtkfgfodghnafgabDoor
open Go.RowKit Limbs

/-- Two numbers that came in, and three variables. -/
structure Five (w W : World) (C : Nat) (a0 a1 b0 b1 : Value) (rg rx ry : Nm) (g x y : Int) : Prop where
  a : Box W w.heap.size a0 a1
  b : Box W (w.heap.size + 1) b0 b1
  g : Var W C rg g
  x : Var W (C + 1) rx x
  y : Var W (C + 1 + 1) ry y
  below : Below w.heap.size w W
  low : w.heap.size + 1 < C

theorem Five.later {w W W' : World} {C : Nat} {a0 a1 b0 b1 : Value} {rg rx ry : Nm} {g x y : Int} (h : Five w W C a0 a1 b0 b1 rg rx ry g x y) (hb : Below W.heap.size W W') : Five w W' C a0 a1 b0 b1 rg rx ry g x y :=
  ⟨h.a.later hb (by have := h.g.lt; have := h.low; omega), h.b.later hb (by have := h.g.lt; have := h.low; omega), h.g.later hb, h.x.later hb, h.y.later hb, h.below.trans (hb.mono h.below.size), h.low⟩

theorem Five.drew {w W : World} {C : Nat} {a0 a1 b0 b1 : Value} {rg rx ry : Nm} {g x y : Int} (h : Five w W C a0 a1 b0 b1 rg rx ry g x y) : Five w W.drew C a0 a1 b0 b1 rg rx ry g x y := ⟨h.a, h.b, h.g.drew, h.x.drew, h.y.drew, h.below.drew, h.low⟩

theorem Five.write {w W : World} {C : Nat} {a0 a1 b0 b1 : Value} {rg rx ry r r' r'' : Nm} {g x y z z' z'' : Int} (h : Five w W C a0 a1 b0 b1 rg rx ry g x y) (hn : NumL W (.agg #[.bool r.neg, .slice r.o r.l r.c]) z 12) (hn' : NumL W (.agg #[.bool r'.neg, .slice r'.o r'.l r'.c]) z' 12) (hn'' : NumL W (.agg #[.bool r''.neg, .slice r''.o r''.l r''.c]) z'' 12) :
    Five w ((((((W.setCell ⟨C, 0, none⟩ (.bool r.neg)).setCell ⟨C, 1, none⟩ (.slice r.o r.l r.c)).setCell ⟨C + 1, 0, none⟩ (.bool r'.neg)).setCell ⟨C + 1, 1, none⟩ (.slice r'.o r'.l r'.c)).setCell ⟨C + 1 + 1, 0, none⟩ (.bool r''.neg)).setCell ⟨C + 1 + 1, 1, none⟩ (.slice r''.o r''.l r''.c)) C a0 a1 b0 b1 r r' r'' z z' z'' := by
  have hl := h.low
  have hx := h.x.other h.g (by omega) (.bool r.neg) (.slice r.o r.l r.c)
  have hy := (h.y.other h.g (by omega) (.bool r.neg) (.slice r.o r.l r.c)).other hx (by omega) (.bool r'.neg) (.slice r'.o r'.l r'.c)
  refine ⟨?_, ?_, ((h.g.write hn).other hx (by omega) _ _).other hy (by omega) _ _, (hx.write (hn'.wrote h.g.box (by simp) (by simp))).other hy (by omega) _ _, hy.write ((hn''.wrote h.g.box (by simp) (by simp)).wrote hx.box (by simp) (by simp)), ?_, hl⟩
  · exact (((((h.a.other (by omega) _ _).other (by omega) _ _).other (by omega) _ _).other (by omega) _ _).other (by omega) _ _).other (by omega) _ _
  · exact (((((h.b.other (by omega) _ _).other (by omega) _ _).other (by omega) _ _).other (by omega) _ _).other (by omega) _ _).other (by omega) _ _
  · exact (((((h.below.setCell (by simp; omega) _).setCell (by simp; omega) _).setCell (by simp; omega) _).setCell (by simp; omega) _).setCell (by simp; omega) _).setCell (by simp; omega) _

theorem five_new {w W : World} {a0 a1 b0 b1 : Value} (h : Two w W a0 a1 b0 b1) (rg rx ry : Nm) {g x y : Int} (t : TypeId) (hg : NumL W (.agg #[.bool rg.neg, .slice rg.o rg.l rg.c]) g 12) (hx : NumL W (.agg #[.bool rx.neg, .slice rx.o rx.l rx.c]) x 12) (hy : NumL W (.agg #[.bool ry.neg, .slice ry.o ry.l ry.c]) y 12) :
    Five w (((W.alloc (.cells #[.bool rg.neg, .slice rg.o rg.l rg.c] t)).alloc (.cells #[.bool rx.neg, .slice rx.o rx.l rx.c] t)).alloc (.cells #[.bool ry.neg, .slice ry.o ry.l ry.c] t)) W.heap.size a0 a1 b0 b1 rg rx ry g x y := by
  have hb : Below W.heap.size W (((W.alloc (.cells #[.bool rg.neg, .slice rg.o rg.l rg.c] t)).alloc (.cells #[.bool rx.neg, .slice rx.o rx.l rx.c] t)).alloc (.cells #[.bool ry.neg, .slice ry.o ry.l ry.c] t)) := (((Below.refl _ _).alloc (Nat.le_refl _) _).alloc (by simp) _).alloc (by simp; omega) _
  refine ⟨h.fst.later hb (by have := h.size; omega), h.res.later hb h.size, ⟨?_, hg.below hb (Nat.le_refl _), by simp; omega⟩, ⟨?_, hx.below hb (Nat.le_refl _), by simp⟩, ⟨?_, hy.below hb (Nat.le_refl _), by simp⟩, h.below.trans (hb.mono h.below.size), h.size⟩
  · exact (box_new W _ _ _ _ rfl).later (((Below.refl _ _).alloc (by simp) _).alloc (by simp) _ : Below (W.heap.size + 1) _ _) (by omega)
  · exact (box_new (W.alloc _) _ _ _ _ (by simp)).later ((Below.refl _ _).alloc (by simp) _ : Below (W.heap.size + 1 + 1) _ _) (by omega)
  · exact box_new _ _ _ _ _ (by simp)

theorem gcd64 {g x y : Int} (h : g = x * 6 + y * 4) (h0 : 0 ≤ g) (h1 : ∃ p, (6 : Int) = p * g) (h2 : ∃ p, (4 : Int) = p * g) : g = 2 := by
  obtain ⟨p, h1⟩ := h1
  obtain ⟨q, h2⟩ := h2
  have hd : g ∣ 6 := ⟨p, by rw [Int.mul_comm]; exact h1⟩
  have hle := Int.le_of_dvd (by decide) hd
  rcases (by omega : g = 0 ∨ g = 1 ∨ g = 2 ∨ g = 3 ∨ g = 4 ∨ g = 5 ∨ g = 6) with e | e | e | e | e | e | e <;> subst e <;> omega

theorem rem_zero {a g p q r : Int} (h1 : a = q * g + r) (h2 : a = p * g) (h3 : 0 ≤ r) (h4 : r < g) : r = 0 := by
  have e : (p - q) * g = r := by rw [Int.sub_mul]; omega
  rcases (by omega : p - q = 0 ∨ 1 ≤ p - q ∨ p - q ≤ -1) with h | h | h
  · rw [h] at e; omega
  · have : 1 * g ≤ (p - q) * g := Int.mul_le_mul_of_nonneg_right h (by omega)
    omega
  · have : (p - q) * g ≤ -1 * g := Int.mul_le_mul_of_nonneg_right h (by omega)
    omega

theorem NumL.plain {w : World} {neg : Bool} {s : Value} {z : Int} {n : Nat} (h : NumL w (.agg #[.bool neg, s]) z n) (hz : 0 ≤ z) : neg = false := by
  cases neg with
  | false => rfl
  | true =>
    exfalso
    obtain ⟨neg', s', zs, e, hl, hn, h0, hzz, -⟩ := h
    simp only [Value.agg.injEq, Array.mk.injEq, List.cons.injEq, Value.bool.injEq, and_true] at e
    obtain ⟨rfl, rfl⟩ := e
    have hlb : LB zs := by obtain ⟨_, _, _, _, _, h, _⟩ := hl; exact h
    have hp := lv_nonneg hlb
    have hz0 := lv_zero_iff hlb hn
    have h1 : zs.length ≠ 0 := fun h => by simpa using h0 h
    have h2 : lv zs ≠ 0 := fun h => h1 (hz0.1 h)
    simp at hzz
    omega

end Go.Proofs.YtkfgfodghnafgabDoor
