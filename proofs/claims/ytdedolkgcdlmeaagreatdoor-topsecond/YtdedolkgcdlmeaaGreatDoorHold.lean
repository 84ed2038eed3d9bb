/- Four structs' variables, wherever they lie; rows of two structs. -/
import Derived.Test.YtdedolkgcdlmeaaGreatDoorDivW
import Derived.Test.YtdedolkgcdlmeaaGreatDoorFit
import Derived.Test.YtdedolkgcdlmeaaGreatDoorRaws
namespace Go.Proofs.YtdedolkgcdlmeaaGreatDoor
open Go.RowKit Limbs

structure Hold (w W : World) (A B C D : Nat) (a0 a1 b0 b1 c0 c1 d0 d1 : Value) : Prop where
  a : Box W A a0 a1
  b : Box W B b0 b1
  c : Box W C c0 c1
  d : Box W D d0 d1
  below : Below w.heap.size w W
  la : w.heap.size ≤ A
  ab : A < B
  bc : B < C
  cd : C < D
  size : D < W.heap.size

theorem Hold.later {w W W' : World} {A B C D : Nat} {a0 a1 b0 b1 c0 c1 d0 d1 : Value} (h : Hold w W A B C D a0 a1 b0 b1 c0 c1 d0 d1) (hb : Below W.heap.size W W') : Hold w W' A B C D a0 a1 b0 b1 c0 c1 d0 d1 where
  a := h.a.later hb (by have := h.size; have := h.ab; have := h.bc; have := h.cd; omega)
  b := h.b.later hb (by have := h.size; have := h.bc; have := h.cd; omega)
  c := h.c.later hb (by have := h.size; have := h.cd; omega)
  d := h.d.later hb h.size
  below := h.below.trans (hb.mono h.below.size)
  la := h.la
  ab := h.ab
  bc := h.bc
  cd := h.cd
  size := Nat.lt_of_lt_of_le h.size hb.size

theorem Hold.drew {w W : World} {A B C D : Nat} {a0 a1 b0 b1 c0 c1 d0 d1 : Value} (h : Hold w W A B C D a0 a1 b0 b1 c0 c1 d0 d1) : Hold w W.drew A B C D a0 a1 b0 b1 c0 c1 d0 d1 :=
  ⟨h.a, h.b, h.c, h.d, h.below.drew, h.la, h.ab, h.bc, h.cd, h.size⟩

theorem Box.other {W : World} {A B : Nat} {u0 u1 : Value} (h : Box W A u0 u1) (hne : A ≠ B) (k : Nat) (u : Value) : Box (W.setCell ⟨B, k, none⟩ u) A u0 u1 := by
  obtain ⟨h1, h2, h3, h4⟩ := h
  have n1 : ∀ j, (⟨B, k, none⟩ : Addr) ≠ ⟨A, j, none⟩ := fun j e => hne (congrArg Addr.block e).symm
  exact ⟨(World.cell?_setCell_other (h := n1 0) ..).trans h1, (World.cell?_setCell_other (h := n1 1) ..).trans h2, by rw [World.frozen?_setCell]; exact h3, by rw [World.frozen?_setCell]; exact h4⟩

theorem Box.write {W : World} {B : Nat} {u0 u1 : Value} (h : Box W B u0 u1) (v0 v1 : Value) : Box ((W.setCell ⟨B, 0, none⟩ v0).setCell ⟨B, 1, none⟩ v1) B v0 v1 := by
  obtain ⟨h1, h2, h3, h4⟩ := h
  refine ⟨?_, ?_, by rw [World.frozen?_setCell, World.frozen?_setCell]; exact h3, by rw [World.frozen?_setCell, World.frozen?_setCell]; exact h4⟩
  · exact (World.cell?_setCell_other (h := fun e => by simp at e) ..).trans (World.cell?_setCell_same (h := h1) ..)
  · exact World.cell?_setCell_same (h := (World.cell?_setCell_other (h := fun e => by simp at e) ..).trans h2) ..

/-- The last two are written. -/
theorem Hold.write {w W : World} {A B C D : Nat} {a0 a1 b0 b1 c0 c1 d0 d1 : Value} (h : Hold w W A B C D a0 a1 b0 b1 c0 c1 d0 d1) (u0 u1 v0 v1 : Value) :
    Hold w ((((W.setCell ⟨C, 0, none⟩ u0).setCell ⟨C, 1, none⟩ u1).setCell ⟨D, 0, none⟩ v0).setCell ⟨D, 1, none⟩ v1) A B C D a0 a1 b0 b1 u0 u1 v0 v1 := by
  obtain ⟨ha, hb, hc, hd, hbe, hla, hab, hbc, hcd, hs⟩ := h
  refine ⟨(((ha.other (by omega) _ _).other (by omega) _ _).other (by omega) _ _).other (by omega) _ _, (((hb.other (by omega) _ _).other (by omega) _ _).other (by omega) _ _).other (by omega) _ _,
    ((hc.write u0 u1).other (by omega) _ _).other (by omega) _ _, ((hd.other (by omega) _ _).other (by omega) _ _).write v0 v1, (((hbe.setCell (by simp; omega) _).setCell (by simp; omega) _).setCell (by simp; omega) _).setCell (by simp; omega) _, hla, hab, hbc, hcd, by simpa using hs⟩

/-- A number whose memory isn't the last two. -/
theorem Hold.num {w W : World} {A B C D : Nat} {a0 a1 c0 c1 d0 d1 b0 b1 : Value} (h : Hold w W A B C D a0 a1 b0 b1 c0 c1 d0 d1) (hc0 : ∀ z, c0 ≠ .int .u32 z) (hc1 : ∀ z, c1 ≠ .int .u32 z) (hd0 : ∀ z, d0 ≠ .int .u32 z) (hd1 : ∀ z, d1 ≠ .int .u32 z)
    {qn rn : Bool} {qs rs : Value} {q r : Int} {n m : Nat} (hq : NumL W (.agg #[.bool qn, qs]) q n) (hr : NumL W (.agg #[.bool rn, rs]) r m) :
    NumL ((((W.setCell ⟨C, 0, none⟩ (.bool qn)).setCell ⟨C, 1, none⟩ qs).setCell ⟨D, 0, none⟩ (.bool rn)).setCell ⟨D, 1, none⟩ rs) (.agg #[.bool qn, qs]) q n ∧
    NumL ((((W.setCell ⟨C, 0, none⟩ (.bool qn)).setCell ⟨C, 1, none⟩ qs).setCell ⟨D, 0, none⟩ (.bool rn)).setCell ⟨D, 1, none⟩ rs) (.agg #[.bool rn, rs]) r m := by
  have hh := boxed2 (w := w) hq hr h.c.1 h.c.2.1 h.d.1 h.d.2.1 (by have := h.cd; omega) hc0 hc1 hd0 hd1 h.below (by have := h.la; have := h.ab; have := h.bc; omega) (by have := h.la; have := h.ab; have := h.bc; have := h.cd; omega)
  exact ⟨hh.1, hh.2.1⟩

end Go.Proofs.YtdedolkgcdlmeaaGreatDoor
