/- The greatest that goes into both: what lies where while it is reckoned. -/
import Derived.Test.YtdedolkgcdlmeaaGreatDoorBez
import Derived.Test.YtdedolkgcdlmeaaGreatDoorSwap
namespace Go.Proofs.YtdedolkgcdlmeaaGreatDoor
open Go.RowKit Limbs

/-- How a number lies in two cells. -/
structure Nm where
  neg : Bool
  o : Option Addr
  l : Nat
  c : Nat

theorem NumL.nm {w : World} {v : Value} {z : Int} {n : Nat} (h : NumL w v z n) : ∃ r : Nm, v = .agg #[.bool r.neg, .slice r.o r.l r.c] := by
  obtain ⟨neg, s, zs, rfl, hl, -⟩ := h
  obtain ⟨ao, cap, rfl, -⟩ := hl
  exact ⟨⟨neg, ao, zs.length, cap⟩, rfl⟩

/-- A variable with a number in it. -/
structure Var (W : World) (B : Nat) (r : Nm) (z : Int) : Prop where
  box : Box W B (.bool r.neg) (.slice r.o r.l r.c)
  num : NumL W (.agg #[.bool r.neg, .slice r.o r.l r.c]) z 12
  lt : B < W.heap.size

theorem Var.later {W W' : World} {B : Nat} {r : Nm} {z : Int} (h : Var W B r z) (hb : Below W.heap.size W W') : Var W' B r z := ⟨h.box.later hb h.lt, h.num.below hb (Nat.le_refl _), Nat.lt_of_lt_of_le h.lt hb.size⟩

theorem Var.drew {W : World} {B : Nat} {r : Nm} {z : Int} (h : Var W B r z) : Var W.drew B r z := ⟨h.box, h.num, h.lt⟩

/-- Two cells of a variable are written: numbers are as they were. -/
theorem NumL.wrote {W : World} {B : Nat} {u0 u1 v0 v1 v : Value} {z : Int} {n : Nat} (h : NumL W v z n) (hb : Box W B u0 u1) (h0 : ∀ z, u0 ≠ .int .u32 z) (h1 : ∀ z, u1 ≠ .int .u32 z) : NumL ((W.setCell ⟨B, 0, none⟩ v0).setCell ⟨B, 1, none⟩ v1) v z n :=
  (h.setCell hb.1 h0).setCell (p := ⟨B, 1, none⟩) (u := u1) ((World.cell?_setCell_other (h := fun e => by simp at e) ..).trans hb.2.1) h1

theorem Var.other {W : World} {B C : Nat} {r s : Nm} {z y : Int} (h : Var W B r z) (hc : Var W C s y) (hne : B ≠ C) (v0 v1 : Value) : Var ((W.setCell ⟨C, 0, none⟩ v0).setCell ⟨C, 1, none⟩ v1) B r z :=
  ⟨(h.box.other hne _ _).other hne _ _, h.num.wrote hc.box (by simp) (by simp), by simpa using h.lt⟩

theorem Var.write {W : World} {C : Nat} {s r : Nm} {y z : Int} (hc : Var W C s y) (hn : NumL W (.agg #[.bool r.neg, .slice r.o r.l r.c]) z 12) : Var ((W.setCell ⟨C, 0, none⟩ (.bool r.neg)).setCell ⟨C, 1, none⟩ (.slice r.o r.l r.c)) C r z :=
  ⟨hc.box.write _ _, hn.wrote hc.box (by simp) (by simp), by simpa using hc.lt⟩

theorem NumL.drewed {W : World} {v : Value} {z : Int} {n : Nat} (h : NumL W v z n) : NumL W.drew v z n := h

theorem below_drewed {B : Nat} {w W : World} (h : Below B w W) : Below B w W.drew := h.drew

/-- One with a limb more. -/
structure VarQ (W : World) (B : Nat) (r : Nm) (z : Int) : Prop where
  box : Box W B (.bool r.neg) (.slice r.o r.l r.c)
  num : NumL W (.agg #[.bool r.neg, .slice r.o r.l r.c]) z 13
  lt : B < W.heap.size

theorem VarQ.later {W W' : World} {B : Nat} {r : Nm} {z : Int} (h : VarQ W B r z) (hb : Below W.heap.size W W') : VarQ W' B r z := ⟨h.box.later hb h.lt, h.num.below hb (Nat.le_refl _), Nat.lt_of_lt_of_le h.lt hb.size⟩

theorem VarQ.drew {W : World} {B : Nat} {r : Nm} {z : Int} (h : VarQ W B r z) : VarQ W.drew B r z := ⟨h.box, h.num, h.lt⟩

theorem VarQ.other {W : World} {B C : Nat} {r s : Nm} {z y : Int} (h : VarQ W B r z) (hc : Var W C s y) (hne : B ≠ C) (v0 v1 : Value) : VarQ ((W.setCell ⟨C, 0, none⟩ v0).setCell ⟨C, 1, none⟩ v1) B r z :=
  ⟨(h.box.other hne _ _).other hne _ _, h.num.wrote hc.box (by simp) (by simp), by simpa using h.lt⟩

/-- All six. -/
structure GSt (w W : World) (G X Y H U V : Nat) (rg rx ry rh ru rv : Nm) (g h x u y v : Int) : Prop where
  g : Var W G rg g
  x : Var W X rx x
  y : Var W Y ry y
  h : Var W H rh h
  u : Var W U ru u
  v : Var W V rv v
  below : Below w.heap.size w W

theorem GSt.later {w W W' : World} {G X Y H U V : Nat} {rg rx ry rh ru rv : Nm} {g h x u y v : Int} (s : GSt w W G X Y H U V rg rx ry rh ru rv g h x u y v) (hb : Below W.heap.size W W') : GSt w W' G X Y H U V rg rx ry rh ru rv g h x u y v :=
  ⟨s.g.later hb, s.x.later hb, s.y.later hb, s.h.later hb, s.u.later hb, s.v.later hb, s.below.trans (hb.mono s.below.size)⟩

theorem GSt.drew {w W : World} {G X Y H U V : Nat} {rg rx ry rh ru rv : Nm} {g h x u y v : Int} (s : GSt w W G X Y H U V rg rx ry rh ru rv g h x u y v) : GSt w W.drew G X Y H U V rg rx ry rh ru rv g h x u y v :=
  ⟨s.g.drew, s.x.drew, s.y.drew, s.h.drew, s.u.drew, s.v.drew, s.below.drew⟩

/-- The blocks. -/
structure Blocks (w : World) (G X Y H U V : Nat) : Prop where
  g : w.heap.size ≤ G
  gx : G < X
  xy : X < Y
  yh : Y < H
  yu : Y < U
  yv : Y < V
  hu : H ≠ U
  hv : H ≠ V
  uv : U ≠ V

/-- Two variables of another two, written: first the one, then the other. -/
theorem GSt.gh {w W : World} {G X Y H U V : Nat} {rg rx ry rh ru rv r r' : Nm} {g h x u y v z z' : Int} (s : GSt w W G X Y H U V rg rx ry rh ru rv g h x u y v) (b : Blocks w G X Y H U V)
    (hn : NumL W (.agg #[.bool r.neg, .slice r.o r.l r.c]) z 12) (hn' : NumL W (.agg #[.bool r'.neg, .slice r'.o r'.l r'.c]) z' 12) :
    GSt w ((((W.setCell ⟨G, 0, none⟩ (.bool r.neg)).setCell ⟨G, 1, none⟩ (.slice r.o r.l r.c)).setCell ⟨H, 0, none⟩ (.bool r'.neg)).setCell ⟨H, 1, none⟩ (.slice r'.o r'.l r'.c)) G X Y H U V r rx ry r' ru rv z z' x u y v := by
  obtain ⟨b1, b2, b3, b4, b5, b6, b7, b8, b9⟩ := b
  have hh := s.h.other s.g (by omega) (.bool r.neg) (.slice r.o r.l r.c)
  have hg := s.g.write hn
  exact ⟨hg.other hh (by omega) _ _, (s.x.other s.g (by omega) _ _).other hh (by omega) _ _, (s.y.other s.g (by omega) _ _).other hh (by omega) _ _, hh.write (hn'.wrote s.g.box (by simp) (by simp)), (s.u.other s.g (by omega) _ _).other hh (by omega) _ _, (s.v.other s.g (by omega) _ _).other hh (by omega) _ _,
    (((s.below.setCell (by simp; omega) _).setCell (by simp; omega) _).setCell (by simp; omega) _).setCell (by simp; omega) _⟩

theorem GSt.xu {w W : World} {G X Y H U V : Nat} {rg rx ry rh ru rv r r' : Nm} {g h x u y v z z' : Int} (s : GSt w W G X Y H U V rg rx ry rh ru rv g h x u y v) (b : Blocks w G X Y H U V)
    (hn : NumL W (.agg #[.bool r.neg, .slice r.o r.l r.c]) z 12) (hn' : NumL W (.agg #[.bool r'.neg, .slice r'.o r'.l r'.c]) z' 12) :
    GSt w ((((W.setCell ⟨X, 0, none⟩ (.bool r.neg)).setCell ⟨X, 1, none⟩ (.slice r.o r.l r.c)).setCell ⟨U, 0, none⟩ (.bool r'.neg)).setCell ⟨U, 1, none⟩ (.slice r'.o r'.l r'.c)) G X Y H U V rg r ry rh r' rv g h z z' y v := by
  obtain ⟨b1, b2, b3, b4, b5, b6, b7, b8, b9⟩ := b
  have hu := s.u.other s.x (by omega) (.bool r.neg) (.slice r.o r.l r.c)
  have hx := s.x.write hn
  exact ⟨(s.g.other s.x (by omega) _ _).other hu (by omega) _ _, hx.other hu (by omega) _ _, (s.y.other s.x (by omega) _ _).other hu (by omega) _ _, (s.h.other s.x (by omega) _ _).other hu (by omega) _ _, hu.write (hn'.wrote s.x.box (by simp) (by simp)), (s.v.other s.x (by omega) _ _).other hu (by omega) _ _,
    (((s.below.setCell (by simp; omega) _).setCell (by simp; omega) _).setCell (by simp; omega) _).setCell (by simp; omega) _⟩

theorem GSt.yv {w W : World} {G X Y H U V : Nat} {rg rx ry rh ru rv r r' : Nm} {g h x u y v z z' : Int} (s : GSt w W G X Y H U V rg rx ry rh ru rv g h x u y v) (b : Blocks w G X Y H U V)
    (hn : NumL W (.agg #[.bool r.neg, .slice r.o r.l r.c]) z 12) (hn' : NumL W (.agg #[.bool r'.neg, .slice r'.o r'.l r'.c]) z' 12) :
    GSt w ((((W.setCell ⟨Y, 0, none⟩ (.bool r.neg)).setCell ⟨Y, 1, none⟩ (.slice r.o r.l r.c)).setCell ⟨V, 0, none⟩ (.bool r'.neg)).setCell ⟨V, 1, none⟩ (.slice r'.o r'.l r'.c)) G X Y H U V rg rx r rh ru r' g h x u z z' := by
  obtain ⟨b1, b2, b3, b4, b5, b6, b7, b8, b9⟩ := b
  have hv := s.v.other s.y (by omega) (.bool r.neg) (.slice r.o r.l r.c)
  have hy := s.y.write hn
  exact ⟨(s.g.other s.y (by omega) _ _).other hv (by omega) _ _, (s.x.other s.y (by omega) _ _).other hv (by omega) _ _, hy.other hv (by omega) _ _, (s.h.other s.y (by omega) _ _).other hv (by omega) _ _, (s.u.other s.y (by omega) _ _).other hv (by omega) _ _, hv.write (hn'.wrote s.y.box (by simp) (by simp)),
    (((s.below.setCell (by simp; omega) _).setCell (by simp; omega) _).setCell (by simp; omega) _).setCell (by simp; omega) _⟩

/-- What comes back: three numbers. -/
def GcdPost (w : World) (a b : Int) (e : Ending) (w' : World) : Prop :=
  ∃ vg vx vy g x y, e = .returned (.tuple #[vg, vx, vy]) ∧ NumL w' vg g 12 ∧ NumL w' vx x 12 ∧ NumL w' vy y 12 ∧ g = x * a + y * b ∧ 0 ≤ g ∧ (∃ p, a = p * g) ∧ (∃ p, b = p * g) ∧ Below w.heap.size w w'

end Go.Proofs.YtdedolkgcdlmeaaGreatDoor
