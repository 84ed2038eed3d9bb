/- Numbers of any size: the region that makes two variables, in whatever order. -/
import Derived.Test.YtaijeimgbbpgiaaDoorGcdB
import Derived.Test.YtaijeimgbbpgiaaDoorDivW
namespace Go.Proofs.YtaijeimgbbpgiaaDoor
open Go.RowKit Limbs

@[reducible] def tup (q r : Nm) : Value := .tuple #[q.v, r.v, .nilIface]

/-- What holds while the operations come up. -/
structure Q2 (w W : World) (L : Array Bool) (A : Nat) (ra : Nm) (c2 c3 c4 c8 c9 c10 c11 c12 c13 c14 : Value) : Prop where
  a : Var W A ra (-3298534883328)
  below : Below w.heap.size w W
  lo : w.heap.size ≤ A
  f9 : L.getD 0 false = true → c9 = ra.v
  f10 : L.getD 1 false = true → ∃ r : Nm, c10 = r.v ∧ NumL W r.v 7 12
  f11 : L.getD 2 false = true → ∃ q r : Nm, c11 = tup q r ∧ NumL W q.v (-471219269047) 12 ∧ NumL W r.v 1 12
  f8 : L.getD 3 false = true → ∃ q r : Nm, c8 = tup q r ∧ NumL W q.v (-471219269047) 12 ∧ NumL W r.v 1 12
  f12 : L.getD 4 false = true → ∃ r : Nm, c12 = r.v ∧ NumL W r.v (-471219269047) 12
  f13 : L.getD 5 false = true → ∃ r : Nm, c13 = r.v ∧ NumL W r.v 1 12
  f14 : L.getD 6 false = true → c14 = .nilIface
  f2 : L.getD 7 false = true → ∃ B r z, c2 = ptr B ∧ A < B ∧ Var W B r z ∧ (L.getD 9 false = true → z = (-471219269047))
  f3 : L.getD 8 false = true → ∃ B r z, c3 = ptr B ∧ A < B ∧ Var W B r z ∧ (L.getD 10 false = true → z = 1)
  d23 : L.getD 7 false = true → L.getD 8 false = true → c2 ≠ c3
  o9 : L.getD 9 false = true → L.getD 7 false = true
  o10 : L.getD 10 false = true → L.getD 8 false = true
  f4 : L.getD 11 false = true → c4 = .nilIface

theorem Q2.later {w W : World} {L : Array Bool} {A : Nat} {ra : Nm} {c2 c3 c4 c8 c9 c10 c11 c12 c13 c14 : Value} {W' : World} (R : Q2 w W L A ra c2 c3 c4 c8 c9 c10 c11 c12 c13 c14) (hb : Below W.heap.size W W') : Q2 w W' L A ra c2 c3 c4 c8 c9 c10 c11 c12 c13 c14 where
  a := R.a.later hb
  below := R.below.trans (hb.mono R.below.size)
  lo := R.lo
  f9 := R.f9
  f10 := fun h => by obtain ⟨q, e1, hq⟩ := R.f10 h; exact ⟨q, e1, hq.below hb (Nat.le_refl _)⟩
  f11 := fun h => by obtain ⟨q, r, e1, hq, hr⟩ := R.f11 h; exact ⟨q, r, e1, hq.below hb (Nat.le_refl _), hr.below hb (Nat.le_refl _)⟩
  f8 := fun h => by obtain ⟨q, r, e1, hq, hr⟩ := R.f8 h; exact ⟨q, r, e1, hq.below hb (Nat.le_refl _), hr.below hb (Nat.le_refl _)⟩
  f12 := fun h => by obtain ⟨q, e1, hq⟩ := R.f12 h; exact ⟨q, e1, hq.below hb (Nat.le_refl _)⟩
  f13 := fun h => by obtain ⟨q, e1, hq⟩ := R.f13 h; exact ⟨q, e1, hq.below hb (Nat.le_refl _)⟩
  f14 := R.f14
  f2 := fun h => by obtain ⟨B, r, z, e, hB, hv, hz⟩ := R.f2 h; exact ⟨B, r, z, e, hB, hv.later hb, hz⟩
  f3 := fun h => by obtain ⟨B, r, z, e, hB, hv, hz⟩ := R.f3 h; exact ⟨B, r, z, e, hB, hv.later hb, hz⟩
  d23 := R.d23
  o9 := R.o9
  o10 := R.o10
  f4 := R.f4

theorem Q2.at0 {w W : World} {L : Array Bool} {A : Nat} {ra : Nm} {c2 c3 c4 c8 c9 c10 c11 c12 c13 c14 : Value} (R : Q2 w W L A ra c2 c3 c4 c8 c9 c10 c11 c12 c13 c14) {v : Value} (hv : v = ra.v) : Q2 w W (L.setIfInBounds 0 true) A ra c2 c3 c4 c8 v c10 c11 c12 c13 c14 where
  a := R.a
  below := R.below
  lo := R.lo
  f9 := fun _ => hv
  f10 := fun h => R.f10 (listed_old (by decide) h)
  f11 := fun h => R.f11 (listed_old (by decide) h)
  f8 := fun h => R.f8 (listed_old (by decide) h)
  f12 := fun h => R.f12 (listed_old (by decide) h)
  f13 := fun h => R.f13 (listed_old (by decide) h)
  f14 := fun h => R.f14 (listed_old (by decide) h)
  f2 := fun h => by obtain ⟨B, r, z, e, hB, hv, hz⟩ := R.f2 (listed_old (by decide) h); exact ⟨B, r, z, e, hB, hv, fun h' => hz (listed_old (by decide) h')⟩
  f3 := fun h => by obtain ⟨B, r, z, e, hB, hv, hz⟩ := R.f3 (listed_old (by decide) h); exact ⟨B, r, z, e, hB, hv, fun h' => hz (listed_old (by decide) h')⟩
  d23 := fun h h' => R.d23 (listed_old (by decide) h) (listed_old (by decide) h')
  o9 := fun h => by rw [getD_set_ne false (by decide)]; exact R.o9 (listed_old (by decide) h)
  o10 := fun h => by rw [getD_set_ne false (by decide)]; exact R.o10 (listed_old (by decide) h)
  f4 := fun h => R.f4 (listed_old (by decide) h)

theorem Q2.at1 {w W : World} {L : Array Bool} {A : Nat} {ra : Nm} {c2 c3 c4 c8 c9 c10 c11 c12 c13 c14 : Value} (R : Q2 w W L A ra c2 c3 c4 c8 c9 c10 c11 c12 c13 c14) {v : Value} (hv : ∃ r : Nm, v = r.v ∧ NumL W r.v 7 12) : Q2 w W (L.setIfInBounds 1 true) A ra c2 c3 c4 c8 c9 v c11 c12 c13 c14 where
  a := R.a
  below := R.below
  lo := R.lo
  f9 := fun h => R.f9 (listed_old (by decide) h)
  f10 := fun _ => hv
  f11 := fun h => R.f11 (listed_old (by decide) h)
  f8 := fun h => R.f8 (listed_old (by decide) h)
  f12 := fun h => R.f12 (listed_old (by decide) h)
  f13 := fun h => R.f13 (listed_old (by decide) h)
  f14 := fun h => R.f14 (listed_old (by decide) h)
  f2 := fun h => by obtain ⟨B, r, z, e, hB, hv, hz⟩ := R.f2 (listed_old (by decide) h); exact ⟨B, r, z, e, hB, hv, fun h' => hz (listed_old (by decide) h')⟩
  f3 := fun h => by obtain ⟨B, r, z, e, hB, hv, hz⟩ := R.f3 (listed_old (by decide) h); exact ⟨B, r, z, e, hB, hv, fun h' => hz (listed_old (by decide) h')⟩
  d23 := fun h h' => R.d23 (listed_old (by decide) h) (listed_old (by decide) h')
  o9 := fun h => by rw [getD_set_ne false (by decide)]; exact R.o9 (listed_old (by decide) h)
  o10 := fun h => by rw [getD_set_ne false (by decide)]; exact R.o10 (listed_old (by decide) h)
  f4 := fun h => R.f4 (listed_old (by decide) h)

theorem Q2.at2 {w W : World} {L : Array Bool} {A : Nat} {ra : Nm} {c2 c3 c4 c8 c9 c10 c11 c12 c13 c14 : Value} (R : Q2 w W L A ra c2 c3 c4 c8 c9 c10 c11 c12 c13 c14) {v : Value} (hv : ∃ q r : Nm, v = tup q r ∧ NumL W q.v (-471219269047) 12 ∧ NumL W r.v 1 12) : Q2 w W (L.setIfInBounds 2 true) A ra c2 c3 c4 c8 c9 c10 v c12 c13 c14 where
  a := R.a
  below := R.below
  lo := R.lo
  f9 := fun h => R.f9 (listed_old (by decide) h)
  f10 := fun h => R.f10 (listed_old (by decide) h)
  f11 := fun _ => hv
  f8 := fun h => R.f8 (listed_old (by decide) h)
  f12 := fun h => R.f12 (listed_old (by decide) h)
  f13 := fun h => R.f13 (listed_old (by decide) h)
  f14 := fun h => R.f14 (listed_old (by decide) h)
  f2 := fun h => by obtain ⟨B, r, z, e, hB, hv, hz⟩ := R.f2 (listed_old (by decide) h); exact ⟨B, r, z, e, hB, hv, fun h' => hz (listed_old (by decide) h')⟩
  f3 := fun h => by obtain ⟨B, r, z, e, hB, hv, hz⟩ := R.f3 (listed_old (by decide) h); exact ⟨B, r, z, e, hB, hv, fun h' => hz (listed_old (by decide) h')⟩
  d23 := fun h h' => R.d23 (listed_old (by decide) h) (listed_old (by decide) h')
  o9 := fun h => by rw [getD_set_ne false (by decide)]; exact R.o9 (listed_old (by decide) h)
  o10 := fun h => by rw [getD_set_ne false (by decide)]; exact R.o10 (listed_old (by decide) h)
  f4 := fun h => R.f4 (listed_old (by decide) h)

theorem Q2.at3 {w W : World} {L : Array Bool} {A : Nat} {ra : Nm} {c2 c3 c4 c8 c9 c10 c11 c12 c13 c14 : Value} (R : Q2 w W L A ra c2 c3 c4 c8 c9 c10 c11 c12 c13 c14) {v : Value} (hv : ∃ q r : Nm, v = tup q r ∧ NumL W q.v (-471219269047) 12 ∧ NumL W r.v 1 12) : Q2 w W (L.setIfInBounds 3 true) A ra c2 c3 c4 v c9 c10 c11 c12 c13 c14 where
  a := R.a
  below := R.below
  lo := R.lo
  f9 := fun h => R.f9 (listed_old (by decide) h)
  f10 := fun h => R.f10 (listed_old (by decide) h)
  f11 := fun h => R.f11 (listed_old (by decide) h)
  f8 := fun _ => hv
  f12 := fun h => R.f12 (listed_old (by decide) h)
  f13 := fun h => R.f13 (listed_old (by decide) h)
  f14 := fun h => R.f14 (listed_old (by decide) h)
  f2 := fun h => by obtain ⟨B, r, z, e, hB, hv, hz⟩ := R.f2 (listed_old (by decide) h); exact ⟨B, r, z, e, hB, hv, fun h' => hz (listed_old (by decide) h')⟩
  f3 := fun h => by obtain ⟨B, r, z, e, hB, hv, hz⟩ := R.f3 (listed_old (by decide) h); exact ⟨B, r, z, e, hB, hv, fun h' => hz (listed_old (by decide) h')⟩
  d23 := fun h h' => R.d23 (listed_old (by decide) h) (listed_old (by decide) h')
  o9 := fun h => by rw [getD_set_ne false (by decide)]; exact R.o9 (listed_old (by decide) h)
  o10 := fun h => by rw [getD_set_ne false (by decide)]; exact R.o10 (listed_old (by decide) h)
  f4 := fun h => R.f4 (listed_old (by decide) h)

theorem Q2.at4 {w W : World} {L : Array Bool} {A : Nat} {ra : Nm} {c2 c3 c4 c8 c9 c10 c11 c12 c13 c14 : Value} (R : Q2 w W L A ra c2 c3 c4 c8 c9 c10 c11 c12 c13 c14) {v : Value} (hv : ∃ r : Nm, v = r.v ∧ NumL W r.v (-471219269047) 12) : Q2 w W (L.setIfInBounds 4 true) A ra c2 c3 c4 c8 c9 c10 c11 v c13 c14 where
  a := R.a
  below := R.below
  lo := R.lo
  f9 := fun h => R.f9 (listed_old (by decide) h)
  f10 := fun h => R.f10 (listed_old (by decide) h)
  f11 := fun h => R.f11 (listed_old (by decide) h)
  f8 := fun h => R.f8 (listed_old (by decide) h)
  f12 := fun _ => hv
  f13 := fun h => R.f13 (listed_old (by decide) h)
  f14 := fun h => R.f14 (listed_old (by decide) h)
  f2 := fun h => by obtain ⟨B, r, z, e, hB, hv, hz⟩ := R.f2 (listed_old (by decide) h); exact ⟨B, r, z, e, hB, hv, fun h' => hz (listed_old (by decide) h')⟩
  f3 := fun h => by obtain ⟨B, r, z, e, hB, hv, hz⟩ := R.f3 (listed_old (by decide) h); exact ⟨B, r, z, e, hB, hv, fun h' => hz (listed_old (by decide) h')⟩
  d23 := fun h h' => R.d23 (listed_old (by decide) h) (listed_old (by decide) h')
  o9 := fun h => by rw [getD_set_ne false (by decide)]; exact R.o9 (listed_old (by decide) h)
  o10 := fun h => by rw [getD_set_ne false (by decide)]; exact R.o10 (listed_old (by decide) h)
  f4 := fun h => R.f4 (listed_old (by decide) h)

theorem Q2.at5 {w W : World} {L : Array Bool} {A : Nat} {ra : Nm} {c2 c3 c4 c8 c9 c10 c11 c12 c13 c14 : Value} (R : Q2 w W L A ra c2 c3 c4 c8 c9 c10 c11 c12 c13 c14) {v : Value} (hv : ∃ r : Nm, v = r.v ∧ NumL W r.v 1 12) : Q2 w W (L.setIfInBounds 5 true) A ra c2 c3 c4 c8 c9 c10 c11 c12 v c14 where
  a := R.a
  below := R.below
  lo := R.lo
  f9 := fun h => R.f9 (listed_old (by decide) h)
  f10 := fun h => R.f10 (listed_old (by decide) h)
  f11 := fun h => R.f11 (listed_old (by decide) h)
  f8 := fun h => R.f8 (listed_old (by decide) h)
  f12 := fun h => R.f12 (listed_old (by decide) h)
  f13 := fun _ => hv
  f14 := fun h => R.f14 (listed_old (by decide) h)
  f2 := fun h => by obtain ⟨B, r, z, e, hB, hv, hz⟩ := R.f2 (listed_old (by decide) h); exact ⟨B, r, z, e, hB, hv, fun h' => hz (listed_old (by decide) h')⟩
  f3 := fun h => by obtain ⟨B, r, z, e, hB, hv, hz⟩ := R.f3 (listed_old (by decide) h); exact ⟨B, r, z, e, hB, hv, fun h' => hz (listed_old (by decide) h')⟩
  d23 := fun h h' => R.d23 (listed_old (by decide) h) (listed_old (by decide) h')
  o9 := fun h => by rw [getD_set_ne false (by decide)]; exact R.o9 (listed_old (by decide) h)
  o10 := fun h => by rw [getD_set_ne false (by decide)]; exact R.o10 (listed_old (by decide) h)
  f4 := fun h => R.f4 (listed_old (by decide) h)

theorem Q2.at6 {w W : World} {L : Array Bool} {A : Nat} {ra : Nm} {c2 c3 c4 c8 c9 c10 c11 c12 c13 c14 : Value} (R : Q2 w W L A ra c2 c3 c4 c8 c9 c10 c11 c12 c13 c14) {v : Value} (hv : v = .nilIface) : Q2 w W (L.setIfInBounds 6 true) A ra c2 c3 c4 c8 c9 c10 c11 c12 c13 v where
  a := R.a
  below := R.below
  lo := R.lo
  f9 := fun h => R.f9 (listed_old (by decide) h)
  f10 := fun h => R.f10 (listed_old (by decide) h)
  f11 := fun h => R.f11 (listed_old (by decide) h)
  f8 := fun h => R.f8 (listed_old (by decide) h)
  f12 := fun h => R.f12 (listed_old (by decide) h)
  f13 := fun h => R.f13 (listed_old (by decide) h)
  f14 := fun _ => hv
  f2 := fun h => by obtain ⟨B, r, z, e, hB, hv, hz⟩ := R.f2 (listed_old (by decide) h); exact ⟨B, r, z, e, hB, hv, fun h' => hz (listed_old (by decide) h')⟩
  f3 := fun h => by obtain ⟨B, r, z, e, hB, hv, hz⟩ := R.f3 (listed_old (by decide) h); exact ⟨B, r, z, e, hB, hv, fun h' => hz (listed_old (by decide) h')⟩
  d23 := fun h h' => R.d23 (listed_old (by decide) h) (listed_old (by decide) h')
  o9 := fun h => by rw [getD_set_ne false (by decide)]; exact R.o9 (listed_old (by decide) h)
  o10 := fun h => by rw [getD_set_ne false (by decide)]; exact R.o10 (listed_old (by decide) h)
  f4 := fun h => R.f4 (listed_old (by decide) h)

theorem Q2.at11 {w W : World} {L : Array Bool} {A : Nat} {ra : Nm} {c2 c3 c4 c8 c9 c10 c11 c12 c13 c14 : Value} (R : Q2 w W L A ra c2 c3 c4 c8 c9 c10 c11 c12 c13 c14) {v : Value} (hv : v = .nilIface) : Q2 w W (L.setIfInBounds 11 true) A ra c2 c3 v c8 c9 c10 c11 c12 c13 c14 where
  a := R.a
  below := R.below
  lo := R.lo
  f9 := fun h => R.f9 (listed_old (by decide) h)
  f10 := fun h => R.f10 (listed_old (by decide) h)
  f11 := fun h => R.f11 (listed_old (by decide) h)
  f8 := fun h => R.f8 (listed_old (by decide) h)
  f12 := fun h => R.f12 (listed_old (by decide) h)
  f13 := fun h => R.f13 (listed_old (by decide) h)
  f14 := fun h => R.f14 (listed_old (by decide) h)
  f2 := fun h => by obtain ⟨B, r, z, e, hB, hv, hz⟩ := R.f2 (listed_old (by decide) h); exact ⟨B, r, z, e, hB, hv, fun h' => hz (listed_old (by decide) h')⟩
  f3 := fun h => by obtain ⟨B, r, z, e, hB, hv, hz⟩ := R.f3 (listed_old (by decide) h); exact ⟨B, r, z, e, hB, hv, fun h' => hz (listed_old (by decide) h')⟩
  d23 := fun h h' => R.d23 (listed_old (by decide) h) (listed_old (by decide) h')
  o9 := fun h => by rw [getD_set_ne false (by decide)]; exact R.o9 (listed_old (by decide) h)
  o10 := fun h => by rw [getD_set_ne false (by decide)]; exact R.o10 (listed_old (by decide) h)
  f4 := fun _ => hv

theorem Q2.at7 {w W : World} {L : Array Bool} {A : Nat} {ra : Nm} {c2 c3 c4 c8 c9 c10 c11 c12 c13 c14 : Value} (R0 : Q2 w W L A ra c2 c3 c4 c8 c9 c10 c11 c12 c13 c14) (t : TypeId) (hn : L.getD 7 true = false) : Q2 w (W.alloc (.cells #[.bool false, .slice none 0 0] t)) (L.setIfInBounds 7 true) A ra (ptr W.heap.size) c3 c4 c8 c9 c10 c11 c12 c13 c14 :=
  have R := R0.later ((Below.refl W.heap.size W).alloc (Nat.le_refl _) (.cells #[.bool false, .slice none 0 0] t))
  { a := R.a
    below := R.below
    lo := R.lo
    f9 := fun h => R.f9 (listed_old (by decide) h)
    f10 := fun h => R.f10 (listed_old (by decide) h)
    f11 := fun h => R.f11 (listed_old (by decide) h)
    f8 := fun h => R.f8 (listed_old (by decide) h)
    f12 := fun h => R.f12 (listed_old (by decide) h)
    f13 := fun h => R.f13 (listed_old (by decide) h)
    f14 := fun h => R.f14 (listed_old (by decide) h)
    f2 := fun _ => ⟨W.heap.size, ⟨false, none, 0, 0⟩, 0, rfl, by have := R0.a.lt; omega, ⟨box_new W _ _ t _ rfl, num_zero _, by simp⟩, fun h => absurd (R0.o9 (listed_old (by decide) h)) (listed_not hn)⟩
    f3 := fun h => by obtain ⟨B, r, z, e, hB, hv, hz⟩ := R.f3 (listed_old (by decide) h); exact ⟨B, r, z, e, hB, hv, fun h' => hz (listed_old (by decide) h')⟩
    d23 := fun h h' e => by obtain ⟨B, r, z, e', -, hv, -⟩ := R0.f3 (listed_old (by decide) h'); rw [e'] at e; simp at e; have := hv.lt; omega
    o9 := fun h => absurd (R0.o9 (listed_old (by decide) h)) (listed_not hn)
    o10 := fun h => by rw [getD_set_ne false (by decide)]; exact R.o10 (listed_old (by decide) h)
    f4 := fun h => R.f4 (listed_old (by decide) h) }

theorem Q2.at8 {w W : World} {L : Array Bool} {A : Nat} {ra : Nm} {c2 c3 c4 c8 c9 c10 c11 c12 c13 c14 : Value} (R0 : Q2 w W L A ra c2 c3 c4 c8 c9 c10 c11 c12 c13 c14) (t : TypeId) (hn : L.getD 8 true = false) : Q2 w (W.alloc (.cells #[.bool false, .slice none 0 0] t)) (L.setIfInBounds 8 true) A ra c2 (ptr W.heap.size) c4 c8 c9 c10 c11 c12 c13 c14 :=
  have R := R0.later ((Below.refl W.heap.size W).alloc (Nat.le_refl _) (.cells #[.bool false, .slice none 0 0] t))
  { a := R.a
    below := R.below
    lo := R.lo
    f9 := fun h => R.f9 (listed_old (by decide) h)
    f10 := fun h => R.f10 (listed_old (by decide) h)
    f11 := fun h => R.f11 (listed_old (by decide) h)
    f8 := fun h => R.f8 (listed_old (by decide) h)
    f12 := fun h => R.f12 (listed_old (by decide) h)
    f13 := fun h => R.f13 (listed_old (by decide) h)
    f14 := fun h => R.f14 (listed_old (by decide) h)
    f2 := fun h => by obtain ⟨B, r, z, e, hB, hv, hz⟩ := R.f2 (listed_old (by decide) h); exact ⟨B, r, z, e, hB, hv, fun h' => hz (listed_old (by decide) h')⟩
    f3 := fun _ => ⟨W.heap.size, ⟨false, none, 0, 0⟩, 0, rfl, by have := R0.a.lt; omega, ⟨box_new W _ _ t _ rfl, num_zero _, by simp⟩, fun h => absurd (R0.o10 (listed_old (by decide) h)) (listed_not hn)⟩
    d23 := fun h h' e => by obtain ⟨B, r, z, e', -, hv, -⟩ := R0.f2 (listed_old (by decide) h); rw [e'] at e; simp at e; have := hv.lt; omega
    o9 := fun h => by rw [getD_set_ne false (by decide)]; exact R.o9 (listed_old (by decide) h)
    o10 := fun h => absurd (R0.o10 (listed_old (by decide) h)) (listed_not hn)
    f4 := fun h => R.f4 (listed_old (by decide) h) }

theorem Q2.at9 {w W : World} {L : Array Bool} {A : Nat} {ra : Nm} {c2 c3 c4 c8 c9 c10 c11 c12 c13 c14 : Value} (R : Q2 w W L A ra c2 c3 c4 c8 c9 c10 c11 c12 c13 c14) (h6 : L.getD 7 false = true) {B : Nat} {r s : Nm} {z : Int} (e : c2 = ptr B) (hB : A < B) (hv : Var W B s z) (hnum : NumL W r.v (-471219269047) 12) : Q2 w ((W.setCell ⟨B, 0, none⟩ (.bool r.neg)).setCell ⟨B, 1, none⟩ (.slice r.o r.l r.c)) (L.setIfInBounds 9 true) A ra c2 c3 c4 c8 c9 c10 c11 c12 c13 c14 where
  a := R.a.other hv (by omega) _ _
  below := (R.below.setCell (by simp; have := R.lo; omega) _).setCell (by simp; have := R.lo; omega) _
  lo := R.lo
  f9 := fun h => R.f9 (listed_old (by decide) h)
  f10 := fun h => by obtain ⟨q, e1, hq⟩ := R.f10 (listed_old (by decide) h); exact ⟨q, e1, hq.wrote hv.box (by simp) (by simp)⟩
  f11 := fun h => by obtain ⟨q, r, e1, hq, hr⟩ := R.f11 (listed_old (by decide) h); exact ⟨q, r, e1, hq.wrote hv.box (by simp) (by simp), hr.wrote hv.box (by simp) (by simp)⟩
  f8 := fun h => by obtain ⟨q, r, e1, hq, hr⟩ := R.f8 (listed_old (by decide) h); exact ⟨q, r, e1, hq.wrote hv.box (by simp) (by simp), hr.wrote hv.box (by simp) (by simp)⟩
  f12 := fun h => by obtain ⟨q, e1, hq⟩ := R.f12 (listed_old (by decide) h); exact ⟨q, e1, hq.wrote hv.box (by simp) (by simp)⟩
  f13 := fun h => by obtain ⟨q, e1, hq⟩ := R.f13 (listed_old (by decide) h); exact ⟨q, e1, hq.wrote hv.box (by simp) (by simp)⟩
  f14 := fun h => R.f14 (listed_old (by decide) h)
  f2 := fun _ => ⟨B, r, (-471219269047), e, hB, hv.write hnum, fun _ => rfl⟩
  f3 := fun h => by obtain ⟨B', r', z', e', hB', hv', hz'⟩ := R.f3 (listed_old (by decide) h); have hne := R.d23 h6 (listed_old (by decide) h); rw [e, e'] at hne; exact ⟨B', r', z', e', hB', hv'.other hv (ptr_ne hne).symm _ _, fun h' => hz' (listed_old (by decide) h')⟩
  d23 := fun h h' => R.d23 (listed_old (by decide) h) (listed_old (by decide) h')
  o9 := fun _ => by rw [getD_set_ne false (by decide)]; exact h6
  o10 := fun h => by rw [getD_set_ne false (by decide)]; exact R.o10 (listed_old (by decide) h)
  f4 := fun h => R.f4 (listed_old (by decide) h)

theorem Q2.at10 {w W : World} {L : Array Bool} {A : Nat} {ra : Nm} {c2 c3 c4 c8 c9 c10 c11 c12 c13 c14 : Value} (R : Q2 w W L A ra c2 c3 c4 c8 c9 c10 c11 c12 c13 c14) (h6 : L.getD 8 false = true) {B : Nat} {r s : Nm} {z : Int} (e : c3 = ptr B) (hB : A < B) (hv : Var W B s z) (hnum : NumL W r.v 1 12) : Q2 w ((W.setCell ⟨B, 0, none⟩ (.bool r.neg)).setCell ⟨B, 1, none⟩ (.slice r.o r.l r.c)) (L.setIfInBounds 10 true) A ra c2 c3 c4 c8 c9 c10 c11 c12 c13 c14 where
  a := R.a.other hv (by omega) _ _
  below := (R.below.setCell (by simp; have := R.lo; omega) _).setCell (by simp; have := R.lo; omega) _
  lo := R.lo
  f9 := fun h => R.f9 (listed_old (by decide) h)
  f10 := fun h => by obtain ⟨q, e1, hq⟩ := R.f10 (listed_old (by decide) h); exact ⟨q, e1, hq.wrote hv.box (by simp) (by simp)⟩
  f11 := fun h => by obtain ⟨q, r, e1, hq, hr⟩ := R.f11 (listed_old (by decide) h); exact ⟨q, r, e1, hq.wrote hv.box (by simp) (by simp), hr.wrote hv.box (by simp) (by simp)⟩
  f8 := fun h => by obtain ⟨q, r, e1, hq, hr⟩ := R.f8 (listed_old (by decide) h); exact ⟨q, r, e1, hq.wrote hv.box (by simp) (by simp), hr.wrote hv.box (by simp) (by simp)⟩
  f12 := fun h => by obtain ⟨q, e1, hq⟩ := R.f12 (listed_old (by decide) h); exact ⟨q, e1, hq.wrote hv.box (by simp) (by simp)⟩
  f13 := fun h => by obtain ⟨q, e1, hq⟩ := R.f13 (listed_old (by decide) h); exact ⟨q, e1, hq.wrote hv.box (by simp) (by simp)⟩
  f14 := fun h => R.f14 (listed_old (by decide) h)
  f2 := fun h => by obtain ⟨B', r', z', e', hB', hv', hz'⟩ := R.f2 (listed_old (by decide) h); have hne := R.d23 (listed_old (by decide) h) h6; rw [e', e] at hne; exact ⟨B', r', z', e', hB', hv'.other hv (ptr_ne hne) _ _, fun h' => hz' (listed_old (by decide) h')⟩
  f3 := fun _ => ⟨B, r, 1, e, hB, hv.write hnum, fun _ => rfl⟩
  d23 := fun h h' => R.d23 (listed_old (by decide) h) (listed_old (by decide) h')
  o9 := fun h => by rw [getD_set_ne false (by decide)]; exact R.o9 (listed_old (by decide) h)
  o10 := fun _ => by rw [getD_set_ne false (by decide)]; exact h6
  f4 := fun h => R.f4 (listed_old (by decide) h)

end Go.Proofs.YtaijeimgbbpgiaaDoor
