/- Square tables, and others that are as they are but for rows and places that were put together. No Go in it. -/
import Derived.Test.YtdedolkgcdlmeaaGreatDoorSmT
namespace Go.Proofs.YtdedolkgcdlmeaaGreatDoor
open Go.RowKit Limbs

def EqM (r : Nat) (A B : Nat → Nat → Int) : Prop := ∀ i j, i < r → j < r → A i j = B i j
def scM (e : Int) : Nat → Nat → Int := fun i j => if i = j then e else 0
def trM (A : Nat → Nat → Int) : Nat → Nat → Int := fun i j => A j i

section
variable {r : Nat} {A A' B B' C T U U' V V' : Nat → Nat → Int} {e : Int}

theorem EqM.refl (A : Nat → Nat → Int) : EqM r A A := fun _ _ _ _ => rfl
theorem EqM.symm (h : EqM r A B) : EqM r B A := fun i j hi hj => (h i j hi hj).symm
theorem EqM.trans (h : EqM r A B) (k : EqM r B C) : EqM r A C := fun i j hi hj => (h i j hi hj).trans (k i j hi hj)
theorem EqM.mul (h : EqM r A A') (k : EqM r B B') : EqM r (mulM r A B) (mulM r A' B') := fun i j hi hj => sumN_congr fun q hq => by rw [h i q hi hq, k q j hq hj]
theorem EqM.tr (h : EqM r A B) : EqM r (trM A) (trM B) := fun i j hi hj => h j i hj hi

theorem mulM_assoc (r : Nat) (A B C : Nat → Nat → Int) : mulM r (mulM r A B) C = mulM r A (mulM r B C) := by
 funext i j
 show sumN r (fun k => sumN r (fun l => A i l * B l k) * C k j) = sumN r (fun l => A i l * sumN r (fun k => B l k * C k j))
 have e1 : sumN r (fun k => sumN r (fun l => A i l * B l k) * C k j) = sumN r (fun k => sumN r (fun l => A i l * (B l k * C k j))) := sumN_congr fun k _ => by
  rw [Int.mul_comm, ← sumN_mul]
  exact sumN_congr fun l _ => by rw [Int.mul_comm, Int.mul_assoc]
 rw [e1, sumN_swap]
 exact sumN_congr fun l _ => by rw [sumN_mul]

theorem mulM_sc (r : Nat) (A : Nat → Nat → Int) (e : Int) : EqM r (mulM r A (scM e)) (fun i j => A i j * e) := fun i j hi hj => by
 show sumN r (fun k => A i k * scM e k j) = _
 rw [sumN_single r j hj _ fun k hk hne => by rw [scM, if_neg hne, Int.mul_zero], scM, if_pos rfl]

theorem sc_mulM (r : Nat) (A : Nat → Nat → Int) (e : Int) : EqM r (mulM r (scM e) A) (fun i j => A i j * e) := fun i j hi hj => by
 show sumN r (fun k => scM e i k * A k j) = _
 rw [sumN_single r i hi _ fun k hk hne => by rw [scM, if_neg (Ne.symm hne), Int.zero_mul], scM, if_pos rfl, Int.mul_comm]

theorem mulM_one (r : Nat) (A : Nat → Nat → Int) : EqM r (mulM r A (scM 1)) A := (mulM_sc r A 1).trans fun _ _ _ _ => Int.mul_one _
theorem one_mulM (r : Nat) (A : Nat → Nat → Int) : EqM r (mulM r (scM 1) A) A := (sc_mulM r A 1).trans fun _ _ _ _ => Int.mul_one _

theorem trM_mul (r : Nat) (A B : Nat → Nat → Int) : trM (mulM r A B) = mulM r (trM B) (trM A) := by
 funext i j
 exact sumN_congr fun k _ => Int.mul_comm _ _

theorem trM_sc (e : Int) : trM (scM e) = scM e := by
 funext i j
 show (if j = i then e else 0) = if i = j then e else 0
 by_cases h : i = j
 ·rw [if_pos h, if_pos h.symm]
 ·rw [if_neg h, if_neg (Ne.symm h)]

def InvM (r : Nat) (U U' : Nat → Nat → Int) : Prop := EqM r (mulM r U U') (scM 1) ∧ EqM r (mulM r U' U) (scM 1)

theorem InvM.one (r : Nat) : InvM r (scM 1) (scM 1) := ⟨mulM_one r _, mulM_one r _⟩
theorem InvM.symm (h : InvM r U U') : InvM r U' U := ⟨h.2, h.1⟩
theorem InvM.tr (h : InvM r U U') : InvM r (trM U) (trM U') := by
 refine ⟨?_, ?_⟩
 ·rw [← trM_mul, ← trM_sc]; exact h.2.tr
 ·rw [← trM_mul, ← trM_sc]; exact h.1.tr

theorem mid (h : EqM r (mulM r U' U) (scM 1)) : EqM r (mulM r (mulM r V U') (mulM r U B)) (mulM r V B) := by
 have e1 : mulM r (mulM r V U') (mulM r U B) = mulM r V (mulM r (mulM r U' U) B) := by rw [mulM_assoc, mulM_assoc]
 rw [e1]
 exact (EqM.refl V).mul ((h.mul (EqM.refl B)).trans (one_mulM r B))

theorem InvM.mul (h : InvM r U U') (k : InvM r V V') : InvM r (mulM r U V) (mulM r V' U') :=
 ⟨(mid k.1).trans h.1, (mid h.2).trans k.2⟩

def Equ (r : Nat) (A B : Nat → Nat → Int) : Prop := ∃ U U' V V', InvM r U U' ∧ InvM r V V' ∧ EqM r B (mulM r (mulM r U A) V)

theorem Equ.rows (h : InvM r U U') (k : EqM r B (mulM r U A)) : Equ r A B := ⟨U, U', scM 1, scM 1, h, .one r, k.trans (mulM_one r _).symm⟩
theorem Equ.cols (h : InvM r V V') (k : EqM r B (mulM r A V)) : Equ r A B := ⟨scM 1, scM 1, V, V', .one r, h, k.trans ((one_mulM r A).symm.mul (EqM.refl V))⟩
theorem Equ.of (h : EqM r A B) : Equ r A B := .rows (.one r) (h.symm.trans (one_mulM r A).symm)
theorem Equ.refl (A : Nat → Nat → Int) : Equ r A A := .of (EqM.refl A)
theorem Equ.trans (h : Equ r A B) (k : Equ r B C) : Equ r A C := by
 obtain ⟨U, U', V, V', hu, hv, e⟩ := h
 obtain ⟨X, X', Y, Y', hx, hy, e2⟩ := k
 refine ⟨mulM r X U, mulM r U' X', mulM r V Y, mulM r Y' V', hx.mul hu, hv.mul hy, e2.trans ?_⟩
 refine (((EqM.refl X).mul e).mul (EqM.refl Y)).trans ?_
 have : mulM r (mulM r X (mulM r (mulM r U A) V)) Y = mulM r (mulM r (mulM r X U) A) (mulM r V Y) := by simp only [mulM_assoc]
 rw [this]
 exact EqM.refl _
theorem Equ.tr (h : Equ r A B) : Equ r (trM A) (trM B) := by
 obtain ⟨U, U', V, V', hu, hv, e⟩ := h
 refine ⟨trM V, trM V', trM U, trM U', hv.tr, hu.tr, e.tr.trans ?_⟩
 rw [trM_mul, trM_mul, mulM_assoc]
 exact EqM.refl _
theorem Equ.symm (h : Equ r A B) : Equ r B A := by
 obtain ⟨U, U', V, V', hu, hv, e⟩ := h
 refine ⟨U', U, V', V, hu.symm, hv.symm, ?_⟩
 refine EqM.symm ((((EqM.refl U').mul e).mul (EqM.refl V')).trans ?_)
 have : mulM r (mulM r U' (mulM r (mulM r U A) V)) V' = mulM r (mulM r U' U) (mulM r A (mulM r V V')) := by simp only [mulM_assoc]
 rw [this]
 exact (hu.2.mul (((EqM.refl A).mul hv.1).trans (mulM_one r A))).trans (one_mulM r A)

def FreeM (r : Nat) (A : Nat → Nat → Int) : Prop := ∀ x : Nat → Int, (∀ j, j < r → sumN r (fun k => x k * A k j) = 0) → ∀ k, k < r → x k = 0

theorem FreeM.cancel (f : FreeM r A) {X Y : Nat → Nat → Int} (h : EqM r (mulM r X A) (mulM r Y A)) : EqM r X Y := fun i k hi hk => by
 have := f (fun q => X i q + - Y i q) (fun j hj => by
  have e1 : sumN r (fun q => (X i q + - Y i q) * A q j) = sumN r (fun q => X i q * A q j) + - sumN r (fun q => Y i q * A q j) := by
   rw [← sumN_neg, ← sumN_add]
   exact sumN_congr fun q _ => by rw [Int.add_mul, Int.neg_mul]
  rw [e1]
  have e2 : sumN r (fun q => X i q * A q j) = sumN r (fun q => Y i q * A q j) := h i j hi hj
  omega) k hk
 omega

theorem inv_of (fA : FreeM r A) (fB : FreeM r B) (h : EqM r A (mulM r C B)) (k : EqM r B (mulM r T A)) : InvM r C T := by
 refine ⟨fA.cancel ?_, fB.cancel ?_⟩
 ·refine EqM.trans ?_ (one_mulM r A).symm
  rw [mulM_assoc]
  exact ((EqM.refl C).mul k.symm).trans h.symm
 ·refine EqM.trans ?_ (one_mulM r B).symm
  rw [mulM_assoc]
  exact ((EqM.refl T).mul h.symm).trans k.symm

theorem free_up (h : ∀ i j, i < r → j < r → j < i → A i j = 0) (p : ∀ i, i < r → A i i ≠ 0) : FreeM r A := fun x hx => by
 have key : ∀ m k, k < m → k < r → x k = 0 := fun m => by
  induction m with
  | zero => intro k hk; omega
  | succ m ih =>
   intro k hk hr
   by_cases hm : k < m
   ·exact ih k hm hr
   ·have e := hx k hr
    rw [sumN_single r k hr _ fun i hi hne => by
     by_cases hik : i < k
     ·rw [ih i (by omega) hi, Int.zero_mul]
     ·rw [h i k hi hr (by omega), Int.mul_zero]] at e
    rcases Int.mul_eq_zero.1 e with e | e
    ·exact e
    ·exact absurd e (p k hr)
 exact fun k hk => key (k + 1) k (by omega) hk

theorem free_low (h : ∀ i j, i < r → j < r → i < j → A i j = 0) (p : ∀ i, i < r → A i i ≠ 0) : FreeM r A := fun x hx => by
 have key : ∀ m k, k < r → r - k ≤ m → x k = 0 := fun m => by
  induction m with
  | zero => intro k hk h0; omega
  | succ m ih =>
   intro k hk h0
   have e := hx k hk
   rw [sumN_single r k hk _ fun i hi hne => by
    by_cases hik : k < i
    ·rw [ih i hi (by omega), Int.zero_mul]
    ·rw [h i k hi hk (by omega), Int.mul_zero]] at e
   rcases Int.mul_eq_zero.1 e with e | e
   ·exact e
   ·exact absurd e (p k hk)
 exact fun k hk => key r k hk (by omega)

def Kills (r : Nat) (A : Nat → Nat → Int) (e : Int) : Prop := ∃ C, EqM r (mulM r C A) (scM e) ∧ EqM r (mulM r A C) (scM e)

theorem Kills.equ (k : Kills r A e) (h : Equ r A B) : Kills r B e := by
 obtain ⟨U, U', V, V', hu, hv, q⟩ := h
 obtain ⟨C, k1, k2⟩ := k
 have s1 : ∀ X Y : Nat → Nat → Int, EqM r (mulM r X Y) (scM 1) → EqM r (mulM r X (mulM r (scM e) Y)) (scM e) := fun X Y h => by
  refine (((EqM.refl X).mul (sc_mulM r Y e)).trans ?_)
  intro i j hi hj
  have e1 : mulM r X (fun i j => Y i j * e) i j = mulM r X Y i j * e := by
   show sumN r (fun k => X i k * (Y k j * e)) = sumN r (fun k => X i k * Y k j) * e
   rw [Int.mul_comm _ e, ← sumN_mul]
   exact sumN_congr fun k _ => by rw [← Int.mul_assoc, Int.mul_comm]
  rw [e1, h i j hi hj]
  unfold scM
  split
  ·rw [Int.one_mul]
  ·rw [Int.zero_mul]
 refine ⟨mulM r (mulM r V' C) U', ?_, ?_⟩
 ·refine ((EqM.refl _).mul q).trans ?_
  have e1 : mulM r (mulM r (mulM r V' C) U') (mulM r (mulM r U A) V) = mulM r (mulM r (mulM r V' C) U') (mulM r U (mulM r A V)) := by rw [mulM_assoc r U A V]
  rw [e1]
  refine (mid hu.2).trans ?_
  have e2 : mulM r (mulM r V' C) (mulM r A V) = mulM r V' (mulM r (mulM r C A) V) := by simp only [mulM_assoc]
  rw [e2]
  exact ((EqM.refl V').mul (k1.mul (EqM.refl V))).trans (s1 _ _ hv.2)
 ·refine (q.mul (EqM.refl _)).trans ?_
  have e1 : mulM r (mulM r (mulM r U A) V) (mulM r (mulM r V' C) U') = mulM r (mulM r (mulM r U A) V) (mulM r V' (mulM r C U')) := by rw [mulM_assoc r V' C U']
  rw [e1]
  refine (mid hv.1).trans ?_
  have e2 : mulM r (mulM r U A) (mulM r C U') = mulM r U (mulM r (mulM r A C) U') := by simp only [mulM_assoc]
  rw [e2]
  exact ((EqM.refl U).mul (k2.mul (EqM.refl U'))).trans (s1 _ _ hu.1)

def dgM (f : Nat → Int) : Nat → Nat → Int := fun i j => if i = j then f i else 0

theorem trM_dg (f : Nat → Int) : trM (dgM f) = dgM f := by
 funext i j
 show (if j = i then f j else 0) = if i = j then f i else 0
 by_cases h : i = j
 ·rw [if_pos h, if_pos h.symm, h]
 ·rw [if_neg h, if_neg (Ne.symm h)]

def twoM (k h : Nat) (a b c d : Int) : Nat → Nat → Int := fun i j => if i = k then (if j = k then a else if j = h then b else 0) else if i = h then (if j = k then c else if j = h then d else 0) else if i = j then 1 else 0

def blkM (f : Nat → Int) (k h : Nat) (a b c d : Int) : Nat → Nat → Int := fun i j => if i = k then (if j = k then a else if j = h then b else 0) else if i = h then (if j = k then c else if j = h then d else 0) else if i = j then f i else 0

theorem two_mul {f : Nat → Int} {k h : Nat} (hkh : k < h) (hh : h < r) (a b c d x y z u : Int) : EqM r (mulM r (twoM k h a b c d) (blkM f k h x y z u)) (blkM f k h (a * x + b * z) (a * y + b * u) (c * x + d * z) (c * y + d * u)) := fun i j hi hj => by
 show sumN r (fun q => twoM k h a b c d i q * blkM f k h x y z u q j) = _
 by_cases e1 : i = k
 ·subst e1
  rw [sumN_two r i h hkh hh _ fun q hq n1 n2 => by rw [twoM, if_pos rfl, if_neg n1, if_neg n2, Int.zero_mul]]
  have n : ¬ h = i := by omega
  simp only [twoM, blkM, if_true, if_neg n]
  by_cases e2 : j = i
  ·simp only [e2, if_true]
  ·simp only [if_neg e2]
   by_cases e3 : j = h
   ·simp only [e3, if_true]
   ·simp only [if_neg e3, Int.mul_zero, Int.add_zero]
 ·by_cases e4 : i = h
  ·subst e4
   rw [sumN_two r k i hkh hh _ fun q hq n1 n2 => by rw [twoM, if_neg e1, if_pos rfl, if_neg n1, if_neg n2, Int.zero_mul]]
   simp only [twoM, blkM, if_true, if_neg e1]
   by_cases e2 : j = k
   ·simp only [e2, if_true]
   ·simp only [if_neg e2]
    by_cases e3 : j = i
    ·simp only [e3, if_true]
    ·simp only [if_neg e3, Int.mul_zero, Int.add_zero]
  ·rw [sumN_single r i hi _ fun q hq hne => by rw [twoM, if_neg e1, if_neg e4, if_neg (Ne.symm hne), Int.zero_mul]]
   simp only [twoM, blkM, if_neg e1, if_neg e4, if_true, Int.one_mul]

theorem two_one (k h : Nat) (hkh : k < h) : twoM k h 1 0 0 1 = scM 1 := by
 funext i j
 unfold twoM scM
 by_cases e1 : i = k
 ·subst e1
  rw [if_pos rfl]
  by_cases e2 : j = i
  ·rw [if_pos e2, if_pos e2.symm]
  ·rw [if_neg e2, if_neg (Ne.symm e2)]
   split <;> rfl
 ·rw [if_neg e1]
  by_cases e4 : i = h
  ·subst e4
   rw [if_pos rfl]
   by_cases e2 : j = i
   ·rw [if_pos e2, if_pos e2.symm, if_neg (by omega)]
   ·rw [if_neg e2, if_neg (Ne.symm e2)]
    split <;> rfl
  ·rw [if_neg e4]

theorem two_blk (k h : Nat) (a b c d : Int) : twoM k h a b c d = blkM (fun _ => 1) k h a b c d := rfl

theorem two_inv {k h : Nat} (hkh : k < h) (hh : h < r) {a b c d x y z u : Int} (h1 : a * x + b * z = 1) (h2 : a * y + b * u = 0) (h3 : c * x + d * z = 0) (h4 : c * y + d * u = 1) (h5 : x * a + y * c = 1) (h6 : x * b + y * d = 0) (h7 : z * a + u * c = 0) (h8 : z * b + u * d = 1) : InvM r (twoM k h a b c d) (twoM k h x y z u) := by
 refine ⟨?_, ?_⟩
 ·have e := two_mul (f := fun _ => 1) hkh hh a b c d x y z u
  rw [h1, h2, h3, h4, ← two_blk, ← two_blk, two_one k h hkh] at e
  exact e
 ·have e := two_mul (f := fun _ => 1) hkh hh x y z u a b c d
  rw [h5, h6, h7, h8, ← two_blk, ← two_blk, two_one k h hkh] at e
  exact e

theorem trM_blk (f : Nat → Int) {k h : Nat} (hkh : k < h) (a b c d : Int) : trM (blkM f k h a b c d) = blkM f k h a c b d := by
 funext i j
 show blkM f k h a b c d j i = _
 unfold blkM
 repeat' split
 all_goals first | rfl | omega | exact congrArg f (by omega)

theorem chain_equ {f : Nat → Int} {k h : Nat} (hkh : k < h) (hh : h < r) {a b g l x y p q : Int} (hg : g = x * a + y * b) (hp : a = p * g) (hq : b = q * g) (hl : l = p * b) : Equ r (blkM f k h a 0 0 b) (blkM f k h g 0 0 l) := by
 have s1 : Equ r (blkM f k h a 0 0 b) (blkM f k h a (y * b) 0 b) := .rows (two_inv (a := 1) (b := y) (c := 0) (d := 1) (x := 1) (y := -y) (z := 0) (u := 1) hkh hh (by omega) (by omega) (by omega) (by omega) (by omega) (by omega) (by omega) (by omega)) (by
  have e := two_mul (r := r) (f := f) hkh hh 1 y 0 1 a 0 0 b
  simp only [Int.one_mul, Int.mul_zero, Int.add_zero, Int.zero_mul, Int.zero_add] at e
  exact e.symm)
 have hxp : x * p = p * x := Int.mul_comm x p
 have hxx : x * (p * x) = p * x * x := Int.mul_comm x (p * x)
 have hpp : p * x * p = p * (p * x) := Int.mul_comm (p * x) p
 have s2 : Equ r (blkM f k h a 0 (y * b) b) (blkM f k h g b 0 l) := .rows (two_inv (a := x) (b := 1) (c := p * x - 1) (d := p) (x := p) (y := -1) (z := 1 - p * x) (u := x) hkh hh
   (by omega) (by omega)
   (by rw [Int.sub_mul, Int.mul_sub]; omega)
   (by omega)
   (by omega) (by omega)
   (by rw [Int.sub_mul, Int.mul_sub]; omega)
   (by omega)) (by
  have e := two_mul (r := r) (f := f) hkh hh x 1 (p * x - 1) p a 0 (y * b) b
  have e1 : x * a + 1 * (y * b) = g := by rw [Int.one_mul, hg]
  have e2 : x * 0 + 1 * b = b := by omega
  have e3 : (p * x - 1) * a + p * (y * b) = 0 := by
   have : p * (x * a + y * b) = a := by rw [← hg, ← hp]
   rw [Int.mul_add] at this
   rw [Int.sub_mul, Int.one_mul, Int.mul_assoc]
   omega
  have e4 : (p * x - 1) * 0 + p * b = l := by rw [hl]; omega
  rw [e1, e2, e3, e4] at e
  exact e.symm)
 have s3 : Equ r (blkM f k h g 0 b l) (blkM f k h g 0 0 l) := .rows (two_inv (a := 1) (b := 0) (c := -q) (d := 1) (x := 1) (y := 0) (z := q) (u := 1) hkh hh (by omega) (by omega) (by omega) (by omega) (by omega) (by omega) (by omega) (by omega)) (by
  have e := two_mul (r := r) (f := f) hkh hh 1 0 (-q) 1 g 0 b l
  have e1 : -q * g + 1 * b = 0 := by rw [hq, Int.neg_mul]; omega
  rw [e1] at e
  simp only [Int.one_mul, Int.mul_zero, Int.add_zero, Int.zero_mul, Int.zero_add] at e
  exact e.symm)
 have t2 := s2.tr
 rw [trM_blk f hkh, trM_blk f hkh] at t2
 exact (s1.trans t2).trans s3

theorem blk_congr {f g : Nat → Int} {k h : Nat} {a b c d : Int} (e : ∀ i, i ≠ k → i ≠ h → f i = g i) : blkM f k h a b c d = blkM g k h a b c d := by
 funext i j
 unfold blkM
 by_cases e1 : i = k
 ·rw [if_pos e1, if_pos e1]
 ·by_cases e2 : i = h
  ·rw [if_neg e1, if_neg e1, if_pos e2, if_pos e2]
  ·rw [if_neg e1, if_neg e1, if_neg e2, if_neg e2, e i e1 e2]

theorem dg_blk (zs : List Int) {k h : Nat} (hkh : k < h) : dgM (fun i => zs.getD i 0) = blkM (fun i => zs.getD i 0) k h (zs.getD k 0) 0 0 (zs.getD h 0) := by
 funext i j
 unfold dgM blkM
 by_cases e1 : i = k
 ·subst e1
  rw [if_pos rfl]
  by_cases e2 : j = i
  ·rw [if_pos e2, if_pos e2.symm]
  ·rw [if_neg e2, if_neg (Ne.symm e2)]
   split <;> rfl
 ·rw [if_neg e1]
  by_cases e4 : i = h
  ·subst e4
   rw [if_pos rfl]
   by_cases e2 : j = i
   ·rw [if_pos e2, if_pos e2.symm, if_neg (by omega)]
   ·rw [if_neg e2, if_neg (Ne.symm e2)]
    split <;> rfl
  ·rw [if_neg e4]

theorem equ_alike {F G : List (List Int)} (fF : FreeM r (ent F)) (fG : FreeM r (ent G)) (lF : F.length = r) (lG : G.length = r) (kF : ∀ u ∈ F, u.length = r) (kG : ∀ u ∈ G, u.length = r) (a : Alikes r (InL F) (InL G)) : Equ r (ent G) (ent F) := by
 obtain ⟨C, hC⟩ := rows_coef (r := r) (n := r) (mm := r) (H := ent F) (M := ent G) fun k hk => by
  have hm : F.getD k [] ∈ F := getD_mem (by omega)
  have g := lat_inL ((a _).1 (.base hm (kF _ hm)))
  rw [lG] at g
  exact g
 obtain ⟨T, hT⟩ := rows_coef (r := r) (n := r) (mm := r) (H := ent G) (M := ent F) fun k hk => by
  have hm : G.getD k [] ∈ G := getD_mem (by omega)
  have g := lat_inL ((a _).2 (.base hm (kG _ hm)))
  rw [lF] at g
  exact g
 have hC' : EqM r (ent F) (mulM r C (ent G)) := fun i j hi hj => hC i j hi hj
 have hT' : EqM r (ent G) (mulM r T (ent F)) := fun i j hi hj => hT i j hi hj
 exact .rows (inv_of fF fG hC' hT') hC'

theorem Sq.free {H : List (List Int)} (S : Sq r H) : FreeM r (ent H) := free_up (fun i j hi hj h => S.low hi h) fun i hi => by have := S.pos hi; omega

theorem Sq.free_cols {H : List (List Int)} (S : Sq r H) : FreeM r (ent (colsL H r)) := free_low (fun i j hi hj h => by rw [ent_cols S hi hj]; exact S.low hj h) fun i hi => by rw [ent_cols S hi hi]; have := S.pos hi; omega

theorem Sq.cols_equ {H H' : List (List Int)} (S : Sq r H) (S' : Sq r H') (a : Alikes r (InL H') (InL (colsL H r))) : Equ r (trM (ent H)) (ent H') := by
 have e : EqM r (trM (ent H)) (ent (colsL H r)) := fun i j hi hj => (ent_cols S hi hj).symm
 exact (Equ.of e).trans (equ_alike S'.free S.free_cols S'.len (colsL_length H r) S'.form.len (fun u hu => by rw [colsL_len H r u hu, S.len]) a)

end

end Go.Proofs.YtdedolkgcdlmeaaGreatDoor
