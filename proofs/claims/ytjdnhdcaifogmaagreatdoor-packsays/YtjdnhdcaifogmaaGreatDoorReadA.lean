/- The reference's reading of a text: what it needs. -/
import Derived.Test.YtjdnhdcaifogmaaGreatDoorText
import Derived.Test.YtjdnhdcaifogmaaGreatDoorParseD
import Derived.Test.YtjdnhdcaifogmaaGreatDoorBgG
namespace Go.Proofs.YtjdnhdcaifogmaaGreatDoor
open Go.RowKit Limbs Digs

structure RB (w W : World) (s0 s1 : Value) : Prop where
 res : BoxR W w.heap.size (.int .i64 0) (.slice none 0 0)
 var : BoxR W (w.heap.size + 1) s0 s1
 below : Below w.heap.size w W

theorem RB.later {w W W' : World} {s0 s1 : Value} (h : RB w W s0 s1) (hb : Below W.heap.size W W') : RB w W' s0 s1 := ⟨h.res.later hb h.res.lt, h.var.later hb h.var.lt, h.below.trans (hb.mono h.below.size)⟩

theorem RB.drew {w W : World} {s0 s1 : Value} (h : RB w W s0 s1) : RB w W.drew s0 s1 := ⟨h.res, h.var, h.below.drew⟩

theorem RB.set {w W : World} {s0 s1 : Value} (h : RB w W s0 s1) (u0 u1 : Value) : RB w ((W.setCell ⟨w.heap.size + 1, 0, none⟩ u0).setCell ⟨w.heap.size + 1, 1, none⟩ u1) u0 u1 :=
 ⟨(h.res.other (by omega) _ _).other (by omega) _ _, h.var.set _ _, (h.below.setCell (by simp) _).setCell (by simp) _⟩

theorem rb_new (w : World) : RB w ((w.alloc (.cells #[.int .i64 0, .slice none 0 0] 95)).alloc (.cells #[.int .i64 0, .slice none 0 0] 95)) (.int .i64 0) (.slice none 0 0) :=
 ⟨(boxR_new w _ _ _ rfl).later ((Below.refl _ _).alloc (by simp) _ : Below (w.heap.size + 1) _ _) (by omega), boxR_new (w.alloc _) _ _ _ (by simp), ((Below.refl _ _).alloc (Nat.le_refl _) _).alloc (by simp) _⟩

theorem NumR.tight {w : World} {v : Value} {z : Int} {n m : Nat} (h : NumR w v z n) (h0 : -dp m < z) (h1 : z < dp m) : NumR w v z m := by
 obtain ⟨s, sl, ds, rfl, hd, hn, hz, hs, -⟩ := h
 have hdb : DB ds := by obtain ⟨_, _, _, _, _, h, _⟩ := hd; exact h
 refine ⟨s, sl, ds, rfl, hd, hn, hz, hs, ?_⟩
 rcases hs with ⟨h, -⟩ | ⟨-, h | h⟩
 ·omega
 ·subst h; exact len10_le_of_lt hdb hn (by omega)
 ·subst h; exact len10_le_of_lt hdb hn (by omega)

theorem dval_lt (t : ByteArray) (k : Nat) (h : ∀ j, j < k → 48 ≤ byt t j ∧ byt t j ≤ 57) : 0 ≤ dval t k ∧ dval t k < dp k := by
 induction k with
 | zero => simp [dval, dp]
 | succ k ih =>
  have h1 := ih (fun j hj => h j (by omega))
  have h2 := h k (by omega)
  simp only [dval, dp]
  omega

theorem wrap_dig (z : Int) (h1 : 48 ≤ z) (h2 : z ≤ 57) : IntKind.i64.wrap (IntKind.u8.wrap (z - 48)) = z - 48 := by
 rw [show IntKind.u8.wrap (z - 48) = (z - 48) % 256 by simp [IntKind.wrap, IntKind.bits, IntKind.signed]]
 simp [IntKind.wrap, IntKind.bits, IntKind.signed]
 omega

theorem undrew {w w' : World} (h : Below w.drew.heap.size w.drew w') : Below w.heap.size w w' := ⟨h.os, h.tape, h.output, h.size, h.block⟩

def ErrR (w : World) (n : Int) (e : Ending) (w' : World) : Prop :=
 e = .returned (.tuple #[.agg #[.int .i64 0, .slice none 0 0], .int .i64 n]) ∧ Below w.heap.size w w'

def ReadR (w : World) (z : Int) (n : Nat) (e : Ending) (w' : World) : Prop :=
 ∃ v, e = .returned (.tuple #[v, .int .i64 0]) ∧ NumR w' v z n ∧ Below w.heap.size w w'

def ReadPostR (w : World) (t : ByteArray) (neg : Bool) (e : Ending) (w' : World) : Prop :=
 (good t neg → ReadR w (sg neg (dval t t.size)) t.size e w') ∧ (¬ good t neg → ErrR w 5 e w')

theorem RB.zero {w W : World} {s0 s1 : Value} (h : RB w W s0 s1) (n : Int) : ErrR w n (.returned (.tuple #[.agg #[.int .i64 0, .slice none 0 0], .int .i64 n])) ((W.setCell ⟨w.heap.size, 0, none⟩ (.int .i64 0)).setCell ⟨w.heap.size, 1, none⟩ (.slice none 0 0)) :=
 ⟨rfl, (h.below.setCell (by simp) _).setCell (by simp) _⟩

theorem RB.give {w W : World} {sn : Int} {sl : Value} {s0 s1 : Value} (h : RB w W s0 s1) {z : Int} {n : Nat} (hn : NumR W (.agg #[.int .i64 sn, sl]) z n) : ReadR w z n (.returned (.tuple #[.agg #[.int .i64 sn, sl], .int .i64 0])) ((W.setCell ⟨w.heap.size, 0, none⟩ (.int .i64 sn)).setCell ⟨w.heap.size, 1, none⟩ sl) :=
 ⟨_, rfl, hn.setCell h.res _ _, (h.below.setCell (by simp) _).setCell (by simp) _⟩

end Go.Proofs.YtjdnhdcaifogmaaGreatDoor
