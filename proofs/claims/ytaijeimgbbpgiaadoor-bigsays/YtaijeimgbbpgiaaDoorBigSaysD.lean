/- BigSays: nought's text; what is divided, and the greatest common, are one; five numbers in a row. -/
import Derived.Test.YtaijeimgbbpgiaaDoorBigSaysA
namespace Go.Proofs.YtaijeimgbbpgiaaDoor
open Go.RowKit Limbs Digs

theorem txt_zero : txt 0 = [48] := by
  unfold txt Lib.itoa
  rw [if_neg (by decide), show (0 : Int).toNat = 0 from rfl, Lib.decDigits, dif_pos (by decide)]
  rfl

set_option maxRecDepth 100000 in
set_option maxHeartbeats 1600000 in
theorem text_zero (w : World) (va : Value) (n : Nat) (ha : NumL w va 0 n) :
    Calls Tryd.prog 36 #[va] w fun e w' => TextPost w 0 e w' := by
  have HA := hide ha
  obtain ⟨⟨an, ao, al, ac⟩, rfl⟩ := ha.nm
  dsimp only at *
  clear ha
  have hb0 : Box (w.alloc (.cells #[.bool an, .slice ao al ac] 33)) w.heap.size (.bool an) (.slice ao al ac) := box_new w _ _ _ _ rfl
  have HW : Hid (Below w.heap.size w (w.alloc (.cells #[.bool an, .slice ao al ac] 33))) := (Below.refl _ _).alloc (Nat.le_refl _) _
  obtain ⟨k0, k1, -, -⟩ := hb0
  go_enter Tryd.func36, Tryd.ntmps36
  go_wp2_with fail
  refine (zero_any _ _ 0 n (HA.out.below HW.out (Nat.le_refl _))).mono ?_
  rintro e w1 ⟨rfl, hb⟩
  rw [decide_eq_true rfl]
  have HF : Hid (TextPost w 0 (.returned (.string ⟨#[48]⟩)) w1) := ⟨by rw [txt_zero], HW.out.trans (hb.mono HW.out.size)⟩
  clear hb
  go_wp2
  go_ret
  exact HF.out

theorem text_all (w : World) (va : Value) (z : Int) (n : Nat) (ht : Tab w) (ha : NumL w va z n) (hn : n ≤ 900000) :
    Calls Tryd.prog 36 #[va] w fun e w' => TextPost w z e w' := by
  by_cases hz : z = 0
  · subst hz; exact text_zero w va n ha
  · exact text_any w va z n ht ha hn hz

theorem le_of_mul {g h p : Int} (h0 : 0 ≤ h) (hg : 0 ≤ g) (e : h = p * g) (hh : h ≠ 0) : g ≤ h := by
  rcases (by omega : g = 0 ∨ 0 < g) with rfl | hg'
  · exact h0
  · have hp : 1 ≤ p := by
      rcases Int.lt_or_le p 1 with h1 | h1
      · have : p * g ≤ 0 * g := Int.mul_le_mul_of_nonneg_right (by omega) hg
        omega
      · exact h1
    have : 1 * g ≤ p * g := Int.mul_le_mul_of_nonneg_right hp hg
    omega

theorem gcd_one {a b g h x y u v : Int} (e1 : g = x * a + y * b) (g0 : 0 ≤ g) (ga : ∃ p, a = p * g) (gb : ∃ p, b = p * g) (e2 : h = u * a + v * b) (h0 : 0 ≤ h) (ha : ∃ p, a = p * h) (hb : ∃ p, b = p * h) : g = h := by
  obtain ⟨p, hp⟩ := ga; obtain ⟨q, hq⟩ := gb
  obtain ⟨r, hr⟩ := ha; obtain ⟨s, hs⟩ := hb
  have k1 : h = (u * p + v * q) * g := by rw [Int.add_mul, Int.mul_assoc, Int.mul_assoc, ← hp, ← hq]; exact e2
  have k2 : g = (x * r + y * s) * h := by rw [Int.add_mul, Int.mul_assoc, Int.mul_assoc, ← hr, ← hs]; exact e1
  by_cases hg : g = 0
  · rw [hg, Int.mul_zero] at k1; omega
  · by_cases hh : h = 0
    · rw [hh, Int.mul_zero] at k2; omega
    · have l1 := le_of_mul h0 g0 k1 hh
      have l2 := le_of_mul g0 h0 k2 hg
      omega

theorem quo_one {x y q r u v : Int} (hy : y ≠ 0) (e1 : x = q * y + r) (h1 : Left r y) (e2 : x = u * y + v) (h2 : Left v y) : q = u ∧ r = v := by
  have hd : (q - u) * y = v - r := by rw [Int.sub_mul]; omega
  have hq : q = u := by
    unfold Left at h1 h2
    rcases (by omega : q = u ∨ 1 ≤ q - u ∨ q - u ≤ -1) with h | h | h
    · exact h
    · rcases (by omega : 0 < y ∨ y < 0) with hp | hp
      · have k1 := h1.1 hp; have k2 := h2.1 hp
        have : 1 * y ≤ (q - u) * y := Int.mul_le_mul_of_nonneg_right h (by omega)
        omega
      · have k1 := h1.2 hp; have k2 := h2.2 hp
        have : (q - u) * y ≤ 1 * y := Int.mul_le_mul_of_nonpos_right h (by omega)
        omega
    · rcases (by omega : 0 < y ∨ y < 0) with hp | hp
      · have k1 := h1.1 hp; have k2 := h2.1 hp
        have : (q - u) * y ≤ -1 * y := Int.mul_le_mul_of_nonneg_right h (by omega)
        omega
      · have k1 := h1.2 hp; have k2 := h2.2 hp
        have : -1 * y ≤ (q - u) * y := Int.mul_le_mul_of_nonpos_right h (by omega)
        omega
  subst hq
  exact ⟨rfl, by omega⟩

/-- Five of the program's numbers in a row. -/
structure FiveL (W : World) (H : Nat) (r1 r2 r3 r4 r5 : Nm) (z1 z2 z3 z4 z5 : Int) : Prop where
  row : W.heap[H]? = some (.cells #[.bool r1.neg, .slice r1.o r1.l r1.c, .bool r2.neg, .slice r2.o r2.l r2.c, .bool r3.neg, .slice r3.o r3.l r3.c, .bool r4.neg, .slice r4.o r4.l r4.c, .bool r5.neg, .slice r5.o r5.l r5.c] 33)
  n1 : NumL W r1.v z1 25
  n2 : NumL W r2.v z2 25
  n3 : NumL W r3.v z3 25
  n4 : NumL W r4.v z4 25
  n5 : NumL W r5.v z5 25

theorem FiveL.later {W W' : World} {H : Nat} {r1 r2 r3 r4 r5 : Nm} {z1 z2 z3 z4 z5 : Int} (h : FiveL W H r1 r2 r3 r4 r5 z1 z2 z3 z4 z5) (hb : Below W.heap.size W W') : FiveL W' H r1 r2 r3 r4 r5 z1 z2 z3 z4 z5 :=
  ⟨(hb.block H (heap_lt h.row)).trans h.row, h.n1.below hb (Nat.le_refl _), h.n2.below hb (Nat.le_refl _), h.n3.below hb (Nat.le_refl _), h.n4.below hb (Nat.le_refl _), h.n5.below hb (Nat.le_refl _)⟩

theorem FiveL.drew {W : World} {H : Nat} {r1 r2 r3 r4 r5 : Nm} {z1 z2 z3 z4 z5 : Int} (h : FiveL W H r1 r2 r3 r4 r5 z1 z2 z3 z4 z5) : FiveL W.drew H r1 r2 r3 r4 r5 z1 z2 z3 z4 z5 := ⟨h.row, h.n1, h.n2, h.n3, h.n4, h.n5⟩

/-- Five of the reference's. -/
structure FiveR (W : World) (H : Nat) (r1 r2 r3 r4 r5 : Rm) (z1 z2 z3 z4 z5 : Int) : Prop where
  row : W.heap[H]? = some (.cells #[.int .i64 r1.s, .slice r1.o r1.l r1.c, .int .i64 r2.s, .slice r2.o r2.l r2.c, .int .i64 r3.s, .slice r3.o r3.l r3.c, .int .i64 r4.s, .slice r4.o r4.l r4.c, .int .i64 r5.s, .slice r5.o r5.l r5.c] 42)
  n1 : NumR W r1.v z1 80
  n2 : NumR W r2.v z2 80
  n3 : NumR W r3.v z3 80
  n4 : NumR W r4.v z4 80
  n5 : NumR W r5.v z5 80

theorem FiveR.later {W W' : World} {H : Nat} {r1 r2 r3 r4 r5 : Rm} {z1 z2 z3 z4 z5 : Int} (h : FiveR W H r1 r2 r3 r4 r5 z1 z2 z3 z4 z5) (hb : Below W.heap.size W W') : FiveR W' H r1 r2 r3 r4 r5 z1 z2 z3 z4 z5 :=
  ⟨(hb.block H (heap_lt h.row)).trans h.row, h.n1.below hb (Nat.le_refl _), h.n2.below hb (Nat.le_refl _), h.n3.below hb (Nat.le_refl _), h.n4.below hb (Nat.le_refl _), h.n5.below hb (Nat.le_refl _)⟩

theorem FiveR.drew {W : World} {H : Nat} {r1 r2 r3 r4 r5 : Rm} {z1 z2 z3 z4 z5 : Int} (h : FiveR W H r1 r2 r3 r4 r5 z1 z2 z3 z4 z5) : FiveR W.drew H r1 r2 r3 r4 r5 z1 z2 z3 z4 z5 := ⟨h.row, h.n1, h.n2, h.n3, h.n4, h.n5⟩

/-- A row's cell. -/
theorem row_cell {W : World} {H : Nat} {cs : Array Value} {t : TypeId} (h : W.heap[H]? = some (.cells cs t)) (j : Nat) (u : Value) (hj : cs.toList[j]? = some u) : W.cell? ⟨H, j, none⟩ = some u := by
  have := World.news_of_block h j u hj
  have e : (⟨H, 0, none⟩ : Addr).add j = ⟨H, j, none⟩ := by unfold Addr.add; split <;> simp_all
  rwa [e] at this

/-- One struct's variable lies where a row's block isn't: written, the row stands. -/
theorem FiveL.wrote {W : World} {H C : Nat} {r1 r2 r3 r4 r5 : Nm} {z1 z2 z3 z4 z5 : Int} {u0 u1 : Value} (h : FiveL W H r1 r2 r3 r4 r5 z1 z2 z3 z4 z5) (hb : BoxR W C u0 u1) (hne : H ≠ C) (h0 : ∀ z, u0 ≠ .int .u32 z) (h1 : ∀ z, u1 ≠ .int .u32 z) (v0 v1 : Value) : FiveL ((W.setCell ⟨C, 0, none⟩ v0).setCell ⟨C, 1, none⟩ v1) H r1 r2 r3 r4 r5 z1 z2 z3 z4 z5 :=
  ⟨(heap_setCell_other _ ⟨C, 1, none⟩ H v1 hne).trans ((heap_setCell_other W ⟨C, 0, none⟩ H v0 hne).trans h.row), h.n1.wrote hb.box h0 h1, h.n2.wrote hb.box h0 h1, h.n3.wrote hb.box h0 h1, h.n4.wrote hb.box h0 h1, h.n5.wrote hb.box h0 h1⟩

theorem BS.wrote {w W : World} {a0 a1 b0 b1 : Value} (h : BS w W a0 a1 b0 b1) {C : Nat} (hC : w.heap.size + 1 < C) (v0 v1 : Value) : BS w ((W.setCell ⟨C, 0, none⟩ v0).setCell ⟨C, 1, none⟩ v1) a0 a1 b0 b1 :=
  ⟨(h.a.other (by omega) _ _).other (by omega) _ _, (h.b.other (by omega) _ _).other (by omega) _ _, below_set2 h.below (by omega) _ _, by simpa using h.size⟩

/-- A text without its first statement. -/
def Code.tl : Code → Code
  | .seq _ b => b
  | c => c

/-- A variable with one of the program's numbers. -/
structure IVar (W : World) (B : Nat) (r : Nm) (z : Int) (n : Nat) : Prop where
  box : Box W B (.bool r.neg) (.slice r.o r.l r.c)
  num : NumL W (.agg #[.bool r.neg, .slice r.o r.l r.c]) z n
  lt : B < W.heap.size

theorem IVar.later {W W' : World} {B : Nat} {r : Nm} {z : Int} {n : Nat} (h : IVar W B r z n) (hb : Below W.heap.size W W') : IVar W' B r z n := ⟨h.box.later hb h.lt, h.num.below hb (Nat.le_refl _), Nat.lt_of_lt_of_le h.lt hb.size⟩

theorem IVar.drew {W : World} {B : Nat} {r : Nm} {z : Int} {n : Nat} (h : IVar W B r z n) : IVar W.drew B r z n := ⟨h.box, h.num, h.lt⟩

theorem ivar_new (W : World) (r : Nm) (z : Int) (n : Nat) (t : TypeId) (hn : NumL W (.agg #[.bool r.neg, .slice r.o r.l r.c]) z n) : IVar (W.alloc (.cells #[.bool r.neg, .slice r.o r.l r.c] t)) W.heap.size r z n :=
  ⟨box_new W _ _ _ _ rfl, hn.below ((Below.refl _ _).alloc (Nat.le_refl _) _ : Below W.heap.size _ _) (Nat.le_refl _), by simp⟩

end Go.Proofs.YtaijeimgbbpgiaaDoor
