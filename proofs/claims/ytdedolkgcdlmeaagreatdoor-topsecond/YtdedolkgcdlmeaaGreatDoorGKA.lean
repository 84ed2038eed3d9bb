/- For any bound. The greatest that goes into both: what lies where while it is reckoned. -/
import Derived.Test.YtdedolkgcdlmeaaGreatDoorGcdA
namespace Go.Proofs.YtdedolkgcdlmeaaGreatDoor.GK
open Go.RowKit Limbs
variable {KB : Nat}

/-- A variable with a number in it. -/
structure Var (KB : Nat) (W : World) (B : Nat) (r : Nm) (z : Int) : Prop where
  box : Box W B (.bool r.neg) (.slice r.o r.l r.c)
  num : NumL W (.agg #[.bool r.neg, .slice r.o r.l r.c]) z KB
  lt : B < W.heap.size

theorem Var.later {W W' : World} {B : Nat} {r : Nm} {z : Int} (h : Var KB W B r z) (hb : Below W.heap.size W W') : Var KB W' B r z := ⟨h.box.later hb h.lt, h.num.below hb (Nat.le_refl _), Nat.lt_of_lt_of_le h.lt hb.size⟩

theorem Var.drew {W : World} {B : Nat} {r : Nm} {z : Int} (h : Var KB W B r z) : Var KB W.drew B r z := ⟨h.box, h.num, h.lt⟩

theorem Var.other {W : World} {B C : Nat} {r s : Nm} {z y : Int} (h : Var KB W B r z) (hc : Var KB W C s y) (hne : B ≠ C) (v0 v1 : Value) : Var KB ((W.setCell ⟨C, 0, none⟩ v0).setCell ⟨C, 1, none⟩ v1) B r z :=
  ⟨(h.box.other hne _ _).other hne _ _, h.num.wrote hc.box (by simp) (by simp), by simpa using h.lt⟩

theorem Var.write {W : World} {C : Nat} {s r : Nm} {y z : Int} (hc : Var KB W C s y) (hn : NumL W (.agg #[.bool r.neg, .slice r.o r.l r.c]) z KB) : Var KB ((W.setCell ⟨C, 0, none⟩ (.bool r.neg)).setCell ⟨C, 1, none⟩ (.slice r.o r.l r.c)) C r z :=
  ⟨hc.box.write _ _, hn.wrote hc.box (by simp) (by simp), by simpa using hc.lt⟩

/-- One with a limb more. -/
structure VarQ (KB : Nat) (W : World) (B : Nat) (r : Nm) (z : Int) : Prop where
  box : Box W B (.bool r.neg) (.slice r.o r.l r.c)
  num : NumL W (.agg #[.bool r.neg, .slice r.o r.l r.c]) z (KB + 1)
  lt : B < W.heap.size

theorem VarQ.later {W W' : World} {B : Nat} {r : Nm} {z : Int} (h : VarQ KB W B r z) (hb : Below W.heap.size W W') : VarQ KB W' B r z := ⟨h.box.later hb h.lt, h.num.below hb (Nat.le_refl _), Nat.lt_of_lt_of_le h.lt hb.size⟩

theorem VarQ.drew {W : World} {B : Nat} {r : Nm} {z : Int} (h : VarQ KB W B r z) : VarQ KB W.drew B r z := ⟨h.box, h.num, h.lt⟩

theorem VarQ.other {W : World} {B C : Nat} {r s : Nm} {z y : Int} (h : VarQ KB W B r z) (hc : Var KB W C s y) (hne : B ≠ C) (v0 v1 : Value) : VarQ KB ((W.setCell ⟨C, 0, none⟩ v0).setCell ⟨C, 1, none⟩ v1) B r z :=
  ⟨(h.box.other hne _ _).other hne _ _, h.num.wrote hc.box (by simp) (by simp), by simpa using h.lt⟩

/-- All six. -/
structure GSt (KB : Nat) (w W : World) (G X Y H U V : Nat) (rg rx ry rh ru rv : Nm) (g h x u y v : Int) : Prop where
  g : Var KB W G rg g
  x : Var KB W X rx x
  y : Var KB W Y ry y
  h : Var KB W H rh h
  u : Var KB W U ru u
  v : Var KB W V rv v
  below : Below w.heap.size w W

theorem GSt.later {w W W' : World} {G X Y H U V : Nat} {rg rx ry rh ru rv : Nm} {g h x u y v : Int} (s : GSt KB w W G X Y H U V rg rx ry rh ru rv g h x u y v) (hb : Below W.heap.size W W') : GSt KB w W' G X Y H U V rg rx ry rh ru rv g h x u y v :=
  ⟨s.g.later hb, s.x.later hb, s.y.later hb, s.h.later hb, s.u.later hb, s.v.later hb, s.below.trans (hb.mono s.below.size)⟩

theorem GSt.drew {w W : World} {G X Y H U V : Nat} {rg rx ry rh ru rv : Nm} {g h x u y v : Int} (s : GSt KB w W G X Y H U V rg rx ry rh ru rv g h x u y v) : GSt KB w W.drew G X Y H U V rg rx ry rh ru rv g h x u y v :=
  ⟨s.g.drew, s.x.drew, s.y.drew, s.h.drew, s.u.drew, s.v.drew, s.below.drew⟩

/-- Two variables of another two, written: first the one, then the other. -/
theorem GSt.gh {w W : World} {G X Y H U V : Nat} {rg rx ry rh ru rv r r' : Nm} {g h x u y v z z' : Int} (s : GSt KB w W G X Y H U V rg rx ry rh ru rv g h x u y v) (b : Blocks w G X Y H U V)
    (hn : NumL W (.agg #[.bool r.neg, .slice r.o r.l r.c]) z KB) (hn' : NumL W (.agg #[.bool r'.neg, .slice r'.o r'.l r'.c]) z' KB) :
    GSt KB w ((((W.setCell ⟨G, 0, none⟩ (.bool r.neg)).setCell ⟨G, 1, none⟩ (.slice r.o r.l r.c)).setCell ⟨H, 0, none⟩ (.bool r'.neg)).setCell ⟨H, 1, none⟩ (.slice r'.o r'.l r'.c)) G X Y H U V r rx ry r' ru rv z z' x u y v := by
  obtain ⟨b1, b2, b3, b4, b5, b6, b7, b8, b9⟩ := b
  have hh := s.h.other s.g (by omega) (.bool r.neg) (.slice r.o r.l r.c)
  have hg := s.g.write hn
  exact ⟨hg.other hh (by omega) _ _, (s.x.other s.g (by omega) _ _).other hh (by omega) _ _, (s.y.other s.g (by omega) _ _).other hh (by omega) _ _, hh.write (hn'.wrote s.g.box (by simp) (by simp)), (s.u.other s.g (by omega) _ _).other hh (by omega) _ _, (s.v.other s.g (by omega) _ _).other hh (by omega) _ _,
    (((s.below.setCell (by simp; omega) _).setCell (by simp; omega) _).setCell (by simp; omega) _).setCell (by simp; omega) _⟩

theorem GSt.xu {w W : World} {G X Y H U V : Nat} {rg rx ry rh ru rv r r' : Nm} {g h x u y v z z' : Int} (s : GSt KB w W G X Y H U V rg rx ry rh ru rv g h x u y v) (b : Blocks w G X Y H U V)
    (hn : NumL W (.agg #[.bool r.neg, .slice r.o r.l r.c]) z KB) (hn' : NumL W (.agg #[.bool r'.neg, .slice r'.o r'.l r'.c]) z' KB) :
    GSt KB w ((((W.setCell ⟨X, 0, none⟩ (.bool r.neg)).setCell ⟨X, 1, none⟩ (.slice r.o r.l r.c)).setCell ⟨U, 0, none⟩ (.bool r'.neg)).setCell ⟨U, 1, none⟩ (.slice r'.o r'.l r'.c)) G X Y H U V rg r ry rh r' rv g h z z' y v := by
  obtain ⟨b1, b2, b3, b4, b5, b6, b7, b8, b9⟩ := b
  have hu := s.u.other s.x (by omega) (.bool r.neg) (.slice r.o r.l r.c)
  have hx := s.x.write hn
  exact ⟨(s.g.other s.x (by omega) _ _).other hu (by omega) _ _, hx.other hu (by omega) _ _, (s.y.other s.x (by omega) _ _).other hu (by omega) _ _, (s.h.other s.x (by omega) _ _).other hu (by omega) _ _, hu.write (hn'.wrote s.x.box (by simp) (by simp)), (s.v.other s.x (by omega) _ _).other hu (by omega) _ _,
    (((s.below.setCell (by simp; omega) _).setCell (by simp; omega) _).setCell (by simp; omega) _).setCell (by simp; omega) _⟩

theorem GSt.yv {w W : World} {G X Y H U V : Nat} {rg rx ry rh ru rv r r' : Nm} {g h x u y v z z' : Int} (s : GSt KB w W G X Y H U V rg rx ry rh ru rv g h x u y v) (b : Blocks w G X Y H U V)
    (hn : NumL W (.agg #[.bool r.neg, .slice r.o r.l r.c]) z KB) (hn' : NumL W (.agg #[.bool r'.neg, .slice r'.o r'.l r'.c]) z' KB) :
    GSt KB w ((((W.setCell ⟨Y, 0, none⟩ (.bool r.neg)).setCell ⟨Y, 1, none⟩ (.slice r.o r.l r.c)).setCell ⟨V, 0, none⟩ (.bool r'.neg)).setCell ⟨V, 1, none⟩ (.slice r'.o r'.l r'.c)) G X Y H U V rg rx r rh ru r' g h x u z z' := by
  obtain ⟨b1, b2, b3, b4, b5, b6, b7, b8, b9⟩ := b
  have hv := s.v.other s.y (by omega) (.bool r.neg) (.slice r.o r.l r.c)
  have hy := s.y.write hn
  exact ⟨(s.g.other s.y (by omega) _ _).other hv (by omega) _ _, (s.x.other s.y (by omega) _ _).other hv (by omega) _ _, hy.other hv (by omega) _ _, (s.h.other s.y (by omega) _ _).other hv (by omega) _ _, (s.u.other s.y (by omega) _ _).other hv (by omega) _ _, hv.write (hn'.wrote s.y.box (by simp) (by simp)),
    (((s.below.setCell (by simp; omega) _).setCell (by simp; omega) _).setCell (by simp; omega) _).setCell (by simp; omega) _⟩

/-- What comes back: three numbers. -/
def GcdPost (KB : Nat) (w : World) (a b : Int) (e : Ending) (w' : World) : Prop :=
  ∃ vg vx vy g x y, e = .returned (.tuple #[vg, vx, vy]) ∧ NumL w' vg g KB ∧ NumL w' vx x KB ∧ NumL w' vy y KB ∧ g = x * a + y * b ∧ 0 ≤ g ∧ (∃ p, a = p * g) ∧ (∃ p, b = p * g) ∧ Below w.heap.size w w'

end Go.Proofs.YtdedolkgcdlmeaaGreatDoor.GK
