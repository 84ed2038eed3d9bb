/- As Tags, for the reference's numbers. -/
import Derived.Test.YtdedolkgcdlmeaaGreatDoorGKA
import Derived.Test.YtdedolkgcdlmeaaGreatDoorGcdRA
import Derived.Test.YtdedolkgcdlmeaaGreatDoorRefComb
import Derived.Test.YtdedolkgcdlmeaaGreatDoorGcdRB
import Derived.Test.YtdedolkgcdlmeaaGreatDoorFold
import Derived.Laws.OwnMore
import Derived.Test.YtdedolkgcdlmeaaGreatDoorVecA
import Derived.Deep.Cut
import Derived.Test.YtdedolkgcdlmeaaGreatDoorMats
import Derived.Test.YtdedolkgcdlmeaaGreatDoorGcdA
import Derived.Test.YtdedolkgcdlmeaaGreatDoorRowO
import Derived.Test.YtdedolkgcdlmeaaGreatDoorRefI
import Derived.ProofKit
import Derived.Lib.SmallJoins
import Derived.ChangeOld
import Derived.Deep.SlicePairs

namespace Go.Proofs.YtdedolkgcdlmeaaGreatDoor.TR
open Go.RowKit Limbs Digs

inductive Moved (t : Nat) (W : World) (G : Nat → Nat) : World → (Nat → Nat) → Prop
 | made {W' : World} {G' : Nat → Nat} (hb : Below W.heap.size W W') (hg : ∀ B, B < W.heap.size → G' B = G B) : Moved t W G W' G'
 | wrote {B : Nat} {r : Rm} (s : Rm) (ht : G B = t) (hB : BoxR W B (.int .i64 r.s) (.slice r.o r.l r.c)) : Moved t W G ((W.setCell ⟨B, 0, none⟩ (.int .i64 s.s)).setCell ⟨B, 1, none⟩ (.slice s.o s.l s.c)) G

theorem Moved.size {t : Nat} {W W' : World} {G G' : Nat → Nat} (h : Moved t W G W' G') : W.heap.size ≤ W'.heap.size := by
 cases h with
 | made hb _ => exact hb.size
 | wrote => simp

theorem Moved.tag {t : Nat} {W W' : World} {G G' : Nat → Nat} (h : Moved t W G W' G') {B : Nat} (hB : B < W.heap.size) : G' B = G B := by
 cases h with
 | made _ hg => exact hg B hB
 | wrote => rfl

theorem Moved.num {t : Nat} {W W' : World} {G G' : Nat → Nat} (h : Moved t W G W' G') {v : Value} {z : Int} {n : Nat} (hn : NumR W v z n) : NumR W' v z n := by
 cases h with
 | made hb _ => exact hn.below hb (Nat.le_refl _)
 | wrote s ht hB => exact hn.setCell hB _ _

theorem Moved.box {t : Nat} {W W' : World} {G G' : Nat → Nat} (h : Moved t W G W' G') {B : Nat} {u0 u1 : Value} (hb : BoxR W B u0 u1) (hB : B < W.heap.size) (hne : G B ≠ t) : BoxR W' B u0 u1 := by
 cases h with
 | made hb' _ => exact hb.later hb' hB
 | wrote s ht hB' => exact hb.others (fun e => hne (by rw [e]; exact ht)) _ _

def Made (W : World) (G : Nat → Nat) (C t : Nat) (v : Value) : Prop :=
 ∃ B, v = ptr B ∧ C ≤ B ∧ B < W.heap.size ∧ G B = t ∧ ∃ r : Rm, BoxR W B (.int .i64 r.s) (.slice r.o r.l r.c)

def Stored (W : World) (G : Nat → Nat) (C t : Nat) (v : Value) (r : Rm) : Prop :=
 ∃ B, v = ptr B ∧ C ≤ B ∧ B < W.heap.size ∧ G B = t ∧ BoxR W B (.int .i64 r.s) (.slice r.o r.l r.c)

theorem Made.moved {i : Nat} {W W' : World} {G G' : Nat → Nat} (h : Moved i W G W' G') {C t : Nat} {v : Value} (hm : Made W G C t v) : Made W' G' C t v := by
 obtain ⟨B, e, hC, hB, hG, r, hb⟩ := hm
 refine ⟨B, e, hC, Nat.lt_of_lt_of_le hB h.size, (h.tag hB).trans hG, ?_⟩
 cases h with
 | made hb' _ => exact ⟨r, hb.later hb' hB⟩
 | @wrote B' r' s ht hB' =>
  by_cases hE : B = B'
  ·subst hE
   exact ⟨s, hB'.set _ _⟩
  ·exact ⟨r, hb.others hE _ _⟩

theorem Stored.moved {i : Nat} {W W' : World} {G G' : Nat → Nat} (h : Moved i W G W' G') {C t : Nat} {v : Value} {r : Rm} (hm : Stored W G C t v r) (hne : t ≠ i) : Stored W' G' C t v r := by
 obtain ⟨B, e, hC, hB, hG, hb⟩ := hm
 exact ⟨B, e, hC, Nat.lt_of_lt_of_le hB h.size, (h.tag hB).trans hG, h.box hb hB (by rw [hG]; exact hne)⟩

structure Tags (deps : Nat → List Nat) (Fc : Nat → (Nat → Value) → World → (Nat → Nat) → Prop) (w : World) (L : Array Bool) (c : Nat → Value) (W : World) (G : Nat → Nat) : Prop where
 below : Below w.heap.size w W
 high : ∀ B, G B ≠ 0 → w.heap.size ≤ B
 facts : ∀ i, L.getD i false = true → Fc i c W G
 closed : ∀ i, L.getD i false = true → ∀ j ∈ deps i, L.getD j false = true

variable {deps : Nat → List Nat} {Fc : Nat → (Nat → Value) → World → (Nat → Nat) → Prop} {w W W' : World} {L : Array Bool} {c : Nat → Value} {G G' : Nat → Nat}

theorem Tags.step (h : Tags deps Fc w L c W G) {i : Nat} (hn : L.getD i true = false) (hd : ∀ j ∈ deps i, L.getD j false = true)
  (hb : Below w.heap.size w W') (hg : ∀ B, G' B ≠ 0 → w.heap.size ≤ B) {v : Value} (hnew : Fc i (upd c i v) W' G')
  (keep : ∀ j, j ≠ i → i ∉ deps j → Fc j c W G → Fc j (upd c i v) W' G') : Tags deps Fc w (L.setIfInBounds i true) (upd c i v) W' G' where
 below := hb
 high := hg
 facts := fun j hj => by
  by_cases e : j = i
  ·subst e; exact hnew
  ·have hj' := listed_old (fun e' => e e'.symm) hj
   exact keep j e (fun hm => listed_not hn (h.closed j hj' i hm)) (h.facts j hj')
 closed := fun j hj k hk => by
  by_cases ek : i = k
  ·subst ek; exact listed_new hn
  ·rw [getD_set_ne false ek]
   by_cases e : j = i
   ·subst e; exact hd k hk
   ·exact h.closed j (listed_old (fun e' => e e'.symm) hj) k hk

theorem Tags.plain (h : Tags deps Fc w L c W G) {i : Nat} (hn : L.getD i true = false) (hd : ∀ j ∈ deps i, L.getD j false = true)
  (keep : ∀ (i j : Nat) (c : Nat → Value) (v : Value) (W W' : World) (G G' : Nat → Nat), j ≠ i → i ∉ deps j → Moved i W G W' G' → Fc j c W G → Fc j (upd c i v) W' G')
  {v : Value} (hnew : Fc i (upd c i v) W G) : Tags deps Fc w (L.setIfInBounds i true) (upd c i v) W G :=
 h.step hn hd h.below h.high hnew fun j e hm => keep i j c v W W G G e hm (.made (Below.refl _ _) fun _ _ => rfl)

theorem Tags.call (h : Tags deps Fc w L c W G) {i : Nat} (hn : L.getD i true = false) (hd : ∀ j ∈ deps i, L.getD j false = true)
  (keep : ∀ (i j : Nat) (c : Nat → Value) (v : Value) (W W' : World) (G G' : Nat → Nat), j ≠ i → i ∉ deps j → Moved i W G W' G' → Fc j c W G → Fc j (upd c i v) W' G')
  (hb : Below W.heap.size W W') {v : Value} (hnew : Fc i (upd c i v) W' G) : Tags deps Fc w (L.setIfInBounds i true) (upd c i v) W' G :=
 h.step hn hd (h.below.trans (hb.mono h.below.size)) h.high hnew fun j e hm => keep i j c v W W' G G e hm (.made hb fun _ _ => rfl)

theorem Tags.alloc (h : Tags deps Fc w L c W G) {i : Nat} (hn : L.getD i true = false) (hd : ∀ j ∈ deps i, L.getD j false = true)
  (keep : ∀ (i j : Nat) (c : Nat → Value) (v : Value) (W W' : World) (G G' : Nat → Nat), j ≠ i → i ∉ deps j → Moved i W G W' G' → Fc j c W G → Fc j (upd c i v) W' G')
  (t : Nat) (hnew : ∀ W' G', Made W' G' w.heap.size t (ptr W.heap.size) → Fc i (upd c i (ptr W.heap.size)) W' G') :
  ∃ G', Tags deps Fc w (L.setIfInBounds i true) (upd c i (ptr W.heap.size)) (W.alloc (.cells #[.int .i64 0, .slice none 0 0] 40)) G' := by
 have hb : Below W.heap.size W (W.alloc (.cells #[.int .i64 0, .slice none 0 0] 40)) := (Below.refl _ _).alloc (Nat.le_refl _) _
 refine ⟨fun B => if B = W.heap.size then t else G B, h.step hn hd (h.below.trans (hb.mono h.below.size)) ?_ (hnew _ _ ⟨W.heap.size, rfl, h.below.size, by simp, by simp, ⟨0, none, 0, 0⟩, boxR_new W _ _ _ rfl⟩) fun j e hm => keep i j c _ W _ G _ e hm (.made hb fun B hB => if_neg (by omega))⟩
 intro B hB
 by_cases e : B = W.heap.size
 ·rw [e]; exact h.below.size
 ·rw [if_neg e] at hB; exact h.high B hB

theorem Tags.store (h : Tags deps Fc w L c W G) {i : Nat} (hn : L.getD i true = false) (hd : ∀ j ∈ deps i, L.getD j false = true)
  (keep : ∀ (i j : Nat) (c : Nat → Value) (v : Value) (W W' : World) (G G' : Nat → Nat), j ≠ i → i ∉ deps j → Moved i W G W' G' → Fc j c W G → Fc j (upd c i v) W' G')
  {B : Nat} {r : Rm} (s : Rm) (hC : w.heap.size ≤ B) (hB : B < W.heap.size) (hG : G B = i) (hb : BoxR W B (.int .i64 r.s) (.slice r.o r.l r.c))
  (hnew : ∀ W' G', Stored W' G' w.heap.size i (ptr B) s → Fc i (upd c i undef) W' G') :
  Tags deps Fc w (L.setIfInBounds i true) (upd c i undef) ((W.setCell ⟨B, 0, none⟩ (.int .i64 s.s)).setCell ⟨B, 1, none⟩ (.slice s.o s.l s.c)) G :=
 h.step hn hd ((h.below.setCell hC _).setCell hC _) h.high (hnew _ _ ⟨B, rfl, hC, by simpa using hB, hG, hb.set _ _⟩) fun j e hm => keep i j c undef W _ G G e hm (.wrote s hG hb)

theorem Tags.start (w : World) (n : Nat) (c : Nat → Value) : Tags deps Fc w (Array.replicate n false) c w.drew (fun _ => 0) where
 below := (Below.refl _ _).drew
 high := fun _ h => absurd rfl h
 facts := fun i h => by simp [Array.getD] at h
 closed := fun i h => by simp [Array.getD] at h

/-! ### A call that gives three values, and variables for them -/

def F3 (n : Nat) (CALL : World → Value → Prop) (C k : Nat) (c : Nat → Value) (W : World) (G : Nat → Nat) : Prop :=
 match k with
 | 0 => CALL W (c n)
 | 1 => c (n + 1) = c n
 | 2 => ∃ u1 u2 u3 : Value, c (n + 1) = .tuple #[u1, u2, u3] ∧ c (n + 2) = u1
 | 3 => ∃ u1 u2 u3 : Value, c (n + 1) = .tuple #[u1, u2, u3] ∧ c (n + 3) = u2
 | 4 => ∃ u1 u2 u3 : Value, c (n + 1) = .tuple #[u1, u2, u3] ∧ c (n + 4) = u3
 | 5 => Made W G C (n + 8) (c (n + 5))
 | 6 => Made W G C (n + 9) (c (n + 6))
 | 7 => Made W G C (n + 10) (c (n + 7))
 | 8 => ∃ r : Rm, c (n + 2) = r.v ∧ Stored W G C (n + 8) (c (n + 5)) r
 | 9 => ∃ r : Rm, c (n + 3) = r.v ∧ Stored W G C (n + 9) (c (n + 6)) r
 | 10 => ∃ r : Rm, c (n + 4) = r.v ∧ Stored W G C (n + 10) (c (n + 7)) r
 | _ => True

def FA3 (n : Nat) (ks : List Value) (CALL : World → Value → Prop) (C i : Nat) (c : Nat → Value) (W : World) (G : Nat → Nat) : Prop :=
 if i < n then c i = ks.getD i undef else F3 n CALL C (i - n) c W G

def D3 (n i : Nat) : List Nat :=
 if i < n then [] else match i - n with
 | 1 => [n]
 | 2 => [n + 1]
 | 3 => [n + 1]
 | 4 => [n + 1]
 | 8 => [n + 2, n + 5]
 | 9 => [n + 3, n + 6]
 | 10 => [n + 4, n + 7]
 | _ => []

theorem FA3.keep {n : Nat} {ks : List Value} {CALL : World → Value → Prop} {C : Nat} (hst : ∀ (t : Nat) (W W' : World) (G G' : Nat → Nat) (v : Value), Moved t W G W' G' → CALL W v → CALL W' v)
  (i j : Nat) (c : Nat → Value) (v : Value) (W W' : World) (G G' : Nat → Nat) (hne : j ≠ i) (hm : i ∉ D3 n j) (hv : Moved i W G W' G') (hf : FA3 n ks CALL C j c W G) : FA3 n ks CALL C j (upd c i v) W' G' := by
 unfold FA3 at *
 by_cases hj : j < n
 ·rw [if_pos hj] at hf ⊢
  rw [upd_ne _ _ hne]; exact hf
 ·rw [if_neg hj] at hf ⊢
  obtain ⟨k, rfl⟩ : ∃ k, j = n + k := ⟨j - n, by omega⟩
  rw [Nat.add_sub_cancel_left] at hf ⊢
  unfold D3 at hm
  rw [if_neg hj, Nat.add_sub_cancel_left] at hm
  match k, hne, hm, hf with
  | 0, hne, hm, hf => simp only [F3] at hf ⊢; rw [upd_ne _ _ (by omega)]; exact hst _ _ _ _ _ _ hv hf
  | 1, hne, hm, hf => simp only [F3] at hf ⊢; simp at hm; rw [upd_ne _ _ (by omega), upd_ne _ _ (by omega)]; exact hf
  | 2, hne, hm, hf => simp only [F3] at hf ⊢; simp at hm; rw [upd_ne _ _ (by omega), upd_ne _ _ (by omega)]; exact hf
  | 3, hne, hm, hf => simp only [F3] at hf ⊢; simp at hm; rw [upd_ne _ _ (by omega), upd_ne _ _ (by omega)]; exact hf
  | 4, hne, hm, hf => simp only [F3] at hf ⊢; simp at hm; rw [upd_ne _ _ (by omega), upd_ne _ _ (by omega)]; exact hf
  | 5, hne, hm, hf => simp only [F3] at hf ⊢; rw [upd_ne _ _ (by omega)]; exact hf.moved hv
  | 6, hne, hm, hf => simp only [F3] at hf ⊢; rw [upd_ne _ _ (by omega)]; exact hf.moved hv
  | 7, hne, hm, hf => simp only [F3] at hf ⊢; rw [upd_ne _ _ (by omega)]; exact hf.moved hv
  | 8, hne, hm, hf => simp only [F3] at hf ⊢; simp at hm; rw [upd_ne _ _ (by omega), upd_ne _ _ (by omega)]; obtain ⟨r, e, h⟩ := hf; exact ⟨r, e, h.moved hv hne⟩
  | 9, hne, hm, hf => simp only [F3] at hf ⊢; simp at hm; rw [upd_ne _ _ (by omega), upd_ne _ _ (by omega)]; obtain ⟨r, e, h⟩ := hf; exact ⟨r, e, h.moved hv hne⟩
  | 10, hne, hm, hf => simp only [F3] at hf ⊢; simp at hm; rw [upd_ne _ _ (by omega), upd_ne _ _ (by omega)]; obtain ⟨r, e, h⟩ := hf; exact ⟨r, e, h.moved hv hne⟩
  | k + 11, hne, hm, hf => trivial

theorem Tags.fin3 {n : Nat} {ks : List Value} {CALL : World → Value → Prop} (h : Tags (D3 n) (FA3 n ks CALL w.heap.size) w L c W G) (hall : ∀ i, i < n + 11 → L.getD i false = true) :
  ∃ (r1 r2 r3 : Rm) (B1 B2 B3 : Nat), CALL W (.tuple #[r1.v, r2.v, r3.v]) ∧ c (n + 5) = ptr B1 ∧ c (n + 6) = ptr B2 ∧ c (n + 7) = ptr B3 ∧
   w.heap.size ≤ B1 ∧ w.heap.size ≤ B2 ∧ w.heap.size ≤ B3 ∧ B1 < W.heap.size ∧ B2 < W.heap.size ∧ B3 < W.heap.size ∧ B1 ≠ B2 ∧ B1 ≠ B3 ∧ B2 ≠ B3 ∧
   BoxR W B1 (.int .i64 r1.s) (.slice r1.o r1.l r1.c) ∧ BoxR W B2 (.int .i64 r2.s) (.slice r2.o r2.l r2.c) ∧ BoxR W B3 (.int .i64 r3.s) (.slice r3.o r3.l r3.c) ∧ Below w.heap.size w W := by
 have f : ∀ k, k < 11 → F3 n CALL w.heap.size k c W G := fun k hk => by
  have := h.facts (n + k) (hall _ (by omega))
  unfold FA3 at this
  rwa [if_neg (by omega), Nat.add_sub_cancel_left] at this
 have f0 : CALL W (c n) := f 0 (by decide)
 have f1 : c (n + 1) = c n := f 1 (by decide)
 obtain ⟨u1, u2, u3, e1, e2⟩ : ∃ u1 u2 u3 : Value, c (n + 1) = .tuple #[u1, u2, u3] ∧ c (n + 2) = u1 := f 2 (by decide)
 obtain ⟨u1', u2', u3', e1', e3⟩ : ∃ u1 u2 u3 : Value, c (n + 1) = .tuple #[u1, u2, u3] ∧ c (n + 3) = u2 := f 3 (by decide)
 obtain ⟨u1'', u2'', u3'', e1'', e4⟩ : ∃ u1 u2 u3 : Value, c (n + 1) = .tuple #[u1, u2, u3] ∧ c (n + 4) = u3 := f 4 (by decide)
 obtain ⟨r1, g1, B1, b1, c1, d1, t1, x1⟩ : ∃ r : Rm, c (n + 2) = r.v ∧ Stored W G w.heap.size (n + 8) (c (n + 5)) r := f 8 (by decide)
 obtain ⟨r2, g2, B2, b2, c2, d2, t2, x2⟩ : ∃ r : Rm, c (n + 3) = r.v ∧ Stored W G w.heap.size (n + 9) (c (n + 6)) r := f 9 (by decide)
 obtain ⟨r3, g3, B3, b3, c3, d3, t3, x3⟩ : ∃ r : Rm, c (n + 4) = r.v ∧ Stored W G w.heap.size (n + 10) (c (n + 7)) r := f 10 (by decide)
 rw [e1] at e1' e1'' f1
 simp only [Value.tuple.injEq, Array.mk.injEq, List.cons.injEq, and_true] at e1' e1''
 obtain ⟨rfl, rfl, rfl⟩ := e1'
 obtain ⟨rfl, rfl, rfl⟩ := e1''
 rw [← f1, ← e2, ← e3, ← e4, g1, g2, g3] at f0
 exact ⟨r1, r2, r3, B1, B2, B3, f0, b1, b2, b3, c1, c2, c3, d1, d2, d3, fun e => by rw [e] at t1; omega, fun e => by rw [e] at t1; omega, fun e => by rw [e] at t2; omega, x1, x2, x3, h.below⟩

/-! ### Two variables for the two values of a call -/

def F22 (n : Nat) (CALL : World → Value → Prop) (C k : Nat) (c : Nat → Value) (W : World) (G : Nat → Nat) : Prop :=
 match k with
 | 0 => CALL W (c n)
 | 1 => c (n + 1) = c n
 | 2 => ∃ u1 u2 : Value, c (n + 1) = .tuple #[u1, u2] ∧ c (n + 2) = u1
 | 3 => ∃ u1 u2 : Value, c (n + 1) = .tuple #[u1, u2] ∧ c (n + 3) = u2
 | 4 => Made W G C (n + 6) (c (n + 4))
 | 5 => Made W G C (n + 7) (c (n + 5))
 | 6 => ∃ r : Rm, c (n + 2) = r.v ∧ Stored W G C (n + 6) (c (n + 4)) r
 | 7 => ∃ r : Rm, c (n + 3) = r.v ∧ Stored W G C (n + 7) (c (n + 5)) r
 | _ => True

def FA22 (n : Nat) (ks : List Value) (CALL : World → Value → Prop) (C i : Nat) (c : Nat → Value) (W : World) (G : Nat → Nat) : Prop :=
 if i < n then c i = ks.getD i undef else F22 n CALL C (i - n) c W G

def D22 (n i : Nat) : List Nat :=
 if i < n then [] else match i - n with
 | 1 => [n]
 | 2 => [n + 1]
 | 3 => [n + 1]
 | 6 => [n + 2, n + 4]
 | 7 => [n + 3, n + 5]
 | _ => []

theorem FA22.keep {n : Nat} {ks : List Value} {CALL : World → Value → Prop} {C : Nat} (hst : ∀ (t : Nat) (W W' : World) (G G' : Nat → Nat) (v : Value), Moved t W G W' G' → CALL W v → CALL W' v)
  (i j : Nat) (c : Nat → Value) (v : Value) (W W' : World) (G G' : Nat → Nat) (hne : j ≠ i) (hm : i ∉ D22 n j) (hv : Moved i W G W' G') (hf : FA22 n ks CALL C j c W G) : FA22 n ks CALL C j (upd c i v) W' G' := by
 unfold FA22 at *
 by_cases hj : j < n
 ·rw [if_pos hj] at hf ⊢
  rw [upd_ne _ _ hne]; exact hf
 ·rw [if_neg hj] at hf ⊢
  obtain ⟨k, rfl⟩ : ∃ k, j = n + k := ⟨j - n, by omega⟩
  rw [Nat.add_sub_cancel_left] at hf ⊢
  unfold D22 at hm
  rw [if_neg hj, Nat.add_sub_cancel_left] at hm
  match k, hne, hm, hf with
  | 0, hne, hm, hf => simp only [F22] at hf ⊢; rw [upd_ne _ _ (by omega)]; exact hst _ _ _ _ _ _ hv hf
  | 1, hne, hm, hf => simp only [F22] at hf ⊢; simp at hm; rw [upd_ne _ _ (by omega), upd_ne _ _ (by omega)]; exact hf
  | 2, hne, hm, hf => simp only [F22] at hf ⊢; simp at hm; rw [upd_ne _ _ (by omega), upd_ne _ _ (by omega)]; exact hf
  | 3, hne, hm, hf => simp only [F22] at hf ⊢; simp at hm; rw [upd_ne _ _ (by omega), upd_ne _ _ (by omega)]; exact hf
  | 4, hne, hm, hf => simp only [F22] at hf ⊢; rw [upd_ne _ _ (by omega)]; exact hf.moved hv
  | 5, hne, hm, hf => simp only [F22] at hf ⊢; rw [upd_ne _ _ (by omega)]; exact hf.moved hv
  | 6, hne, hm, hf => simp only [F22] at hf ⊢; simp at hm; rw [upd_ne _ _ (by omega), upd_ne _ _ (by omega)]; obtain ⟨r, e, h⟩ := hf; exact ⟨r, e, h.moved hv hne⟩
  | 7, hne, hm, hf => simp only [F22] at hf ⊢; simp at hm; rw [upd_ne _ _ (by omega), upd_ne _ _ (by omega)]; obtain ⟨r, e, h⟩ := hf; exact ⟨r, e, h.moved hv hne⟩
  | k + 8, hne, hm, hf => trivial

theorem rm_of {w : World} {v : Value} {z : Int} {n : Nat} (h : NumR w v z n) : ∃ r : Rm, v = r.v := by
 obtain ⟨s, o, l, c, e, -⟩ := h.form
 exact ⟨⟨s, o, l, c⟩, e⟩

end Go.Proofs.YtdedolkgcdlmeaaGreatDoor.TR

/- The reference: what its calls gave. -/
namespace Go.Proofs.YtdedolkgcdlmeaaGreatDoor
open Go.RowKit Limbs Digs

def GcdGotR (n : Nat) (a b : Int) (W : World) (v : Value) : Prop :=
 ∃ vg vx vy g x y, v = .tuple #[vg, vx, vy] ∧ NumR W vg g n ∧ NumR W vx x n ∧ NumR W vy y n ∧ g = x * a + y * b ∧ 0 ≤ g ∧ (∃ p, a = p * g) ∧ (∃ p, b = p * g)

theorem GcdGotR.moved (n : Nat) (a b : Int) (t : Nat) (W W' : World) (G G' : Nat → Nat) (v : Value) (h : TR.Moved t W G W' G') (hg : GcdGotR n a b W v) : GcdGotR n a b W' v := by
 obtain ⟨vg, vx, vy, g, x, y, e, h1, h2, h3, h4⟩ := hg
 exact ⟨vg, vx, vy, g, x, y, e, h.num h1, h.num h2, h.num h3, h4⟩

def QuoGotR (n m : Nat) (x y : Int) (W : World) (v : Value) : Prop :=
 ∃ vq vr q r, v = .tuple #[vq, vr] ∧ NumR W vq q (n + 6) ∧ NumR W vr r m ∧ x = q * y + r ∧ Left r y

theorem QuoGotR.moved (n m : Nat) (x y : Int) (t : Nat) (W W' : World) (G G' : Nat → Nat) (v : Value) (h : TR.Moved t W G W' G') (hg : QuoGotR n m x y W v) : QuoGotR n m x y W' v := by
 obtain ⟨vq, vr, q, r, e, h1, h2, h3⟩ := hg
 exact ⟨vq, vr, q, r, e, h.num h1, h.num h2, h3⟩

theorem NumR.sgn0 {w : World} {s : Int} {sl : Value} {z : Int} {n : Nat} (h : NumR w (.agg #[.int .i64 s, sl]) z n) : (s = 0 ↔ z = 0) ∧ (s < 0 ↔ z < 0) := by
 obtain ⟨s', sl', ds, e, hd, hn, hz, hs, -⟩ := h
 simp only [Value.agg.injEq, Array.mk.injEq, List.cons.injEq, Value.int.injEq, true_and, and_true] at e
 obtain ⟨rfl, rfl⟩ := e
 obtain ⟨_, _, _, _, _, hdb, _⟩ := hd
 have hv := dv_nonneg hdb
 rcases hs with ⟨h0, h1, -⟩ | ⟨h0, h1⟩
 ·have e : z = 0 := by rw [hz, h1]; simp
  omega
 ·have hne : dv ds ≠ 0 := fun h => by
   have := (dv_zero_iff hdb hn).1 h
   omega
  have hp : 0 < dv ds := by omega
  rcases h1 with h1 | h1
  ·have e : z = dv ds := by rw [hz, h1]; simp
   omega
  ·have e : z = -dv ds := by rw [hz, h1]; simp
   omega

end Go.Proofs.YtdedolkgcdlmeaaGreatDoor

/- Rows of the reference that grow, and are replaced in their place. -/
namespace Go.Proofs.YtdedolkgcdlmeaaGreatDoor
open Go.RowKit Limbs Digs

structure GrowB (W : World) (base : Nat) (v : Value) (qs : List (Value × List Int)) (nb : Nat → Nat) : Prop where
 own : W.ownsRow base 106 1 v qs.length (qs.map (·.1))
 row : ∀ j q, qs[j]? = some q → RowR W q.1 q.2 (nb j)

theorem GrowB.nil (W : World) (base : Nat) (nb : Nat → Nat) : GrowB W base (.slice none 0 0) [] nb := ⟨World.ownsRow_nil _ _ _ _, fun j q h => by simp at h⟩

theorem GrowB.later {W W' : World} {base : Nat} {v : Value} {qs : List (Value × List Int)} {nb : Nat → Nat} (h : GrowB W base v qs nb) (hb : Below W.heap.size W W') : GrowB W' base v qs nb :=
 ⟨ownsRow_later h.own hb, fun j q e => (h.row j q e).below hb (Nat.le_refl _)⟩

theorem GrowB.mono {W : World} {base : Nat} {v : Value} {qs : List (Value × List Int)} {nb nb' : Nat → Nat} (h : GrowB W base v qs nb) (hn : ∀ j, j < qs.length → nb j ≤ nb' j) : GrowB W base v qs nb' :=
 ⟨h.own, fun j q e => (h.row j q e).mono (hn j (List.getElem?_eq_some_iff.1 e).1)⟩

theorem GrowB.form {W : World} {base : Nat} {v : Value} {qs : List (Value × List Int)} {nb : Nat → Nat} (h : GrowB W base v qs nb) : ∃ o cap, v = .slice o qs.length cap ∧ (0 < qs.length → ∃ g, o = some ⟨g, 0, none⟩) := by
 rcases h.own.2 with ⟨rfl, hn⟩ | ⟨g, cap, cur, rfl, -⟩
 ·exact ⟨none, 0, by rw [hn], fun h => by omega⟩
 ·exact ⟨_, cap, rfl, fun _ => ⟨g, rfl⟩⟩

theorem GrowB.cell {W : World} {base g cap : Nat} {qs : List (Value × List Int)} {nb : Nat → Nat} (h : GrowB W base (.slice (some ⟨g, 0, none⟩) qs.length cap) qs nb) {j : Nat} {q : Value × List Int} (e : qs[j]? = some q) : W.cell? ⟨g, j, none⟩ = some q.1 ∧ g < W.heap.size ∧ base ≤ g ∧ W.frozen? ⟨g, j, none⟩ = false ∧ ∃ cs, W.heap[g]? = some (.cells cs 106) := by
 rcases h.own.2 with ⟨e', -⟩ | ⟨g', cap', cur, e', hb, hh, hc1, hc2, hc3, hc4⟩
 ·cases e'
 ·simp only [Value.slice.injEq, Option.some.injEq, Addr.mk.injEq, and_true, true_and] at e'
  obtain ⟨rfl, rfl⟩ := e'
  refine ⟨?_, heap_lt hh, hb, by simp [World.frozen?, hh], cur, hh⟩
  have := World.news_of_block hh j q.1 (by
   have hj := (List.getElem?_eq_some_iff.1 e).1
   have e2 : (qs.map (·.1))[j]? = some q.1 := by rw [List.getElem?_map, e]; rfl
   rw [← hc4, List.getElem?_take, if_pos (by omega)] at e2
   exact e2)
  have ea : (⟨g, 0, none⟩ : Addr).add j = ⟨g, j, none⟩ := by unfold Addr.add; split <;> simp_all
  rwa [ea] at this

theorem GrowB.set {W : World} {base g cap : Nat} {qs : List (Value × List Int)} {nb : Nat → Nat} (h : GrowB W base (.slice (some ⟨g, 0, none⟩) qs.length cap) qs nb) {j d : Nat} (hj : j < qs.length) {u : Value} {zs : List Int} (hz : RowR W u zs d) :
  GrowB (W.setCell ⟨g, j, none⟩ u) base (.slice (some ⟨g, 0, none⟩) (qs.set j (u, zs)).length cap) (qs.set j (u, zs)) (fun i => if i = j then d else nb i) := by
 obtain ⟨-, -, -, -, cs, hcs⟩ := h.cell (List.getElem?_eq_getElem hj)
 refine ⟨?_, fun i q e => ?_⟩
 ·rw [List.length_set, List.map_set]
  exact (h.own.stored j u).1
 ·rw [List.getElem?_set] at e
  by_cases hij : j = i
  ·rw [if_pos hij, if_pos hj] at e
   obtain rfl := Option.some.inj e
   rw [if_pos hij.symm]
   exact hz.setTyped hcs (by decide) (by decide) _ _
  ·rw [if_neg hij] at e
   rw [if_neg (fun e => hij e.symm)]
   exact (h.row i q e).setTyped hcs (by decide) (by decide) _ _

theorem GrowB.mat {W : World} {base : Nat} {v : Value} {qs : List (Value × List Int)} {nb : Nat → Nat} {d : Nat} (h : GrowB W base v qs nb) (hd : ∀ j, j < qs.length → nb j ≤ d) : MatR W v (qs.map (·.2)) d := by
 have hg : GrowM W base v qs d := ⟨h.own, fun q hq => by
  obtain ⟨j, hj, e⟩ := List.getElem_of_mem hq
  exact (h.row j q (by rw [List.getElem?_eq_getElem hj, e])).mono (hd j hj)⟩
 exact hg.mat

def partL (L : List (List Int)) (p : List Int) (c i : Nat) : List (List Int) := (L.take i).map (fun u => lowRow u p c) ++ L.drop i

end Go.Proofs.YtdedolkgcdlmeaaGreatDoor

/- A text's rest. -/
namespace Go.Proofs.YtdedolkgcdlmeaaGreatDoor
open Go.RowKit

def Code.tl : Code → Code
 | .seq _ b => b
 | c => c

end Go.Proofs.YtdedolkgcdlmeaaGreatDoor

/- The reference's one form: what stands above pivots becomes less than they. -/
namespace Go.Proofs.YtdedolkgcdlmeaaGreatDoor
open Go.RowKit Limbs Digs

def eB (P c : Nat) : Nat := P + c * (P + 8)

end Go.Proofs.YtdedolkgcdlmeaaGreatDoor

/- The reference's one form: rows are put in. -/
namespace Go.Proofs.YtdedolkgcdlmeaaGreatDoor
open Go.RowKit Limbs Digs

theorem MatR.mono {w : World} {v : Value} {zss : List (List Int)} {n m : Nat} (h : MatR w v zss n) (hm : n ≤ m) : MatR w v zss m := by
 obtain ⟨ao, cap, hv, h3, h4⟩ := h
 refine ⟨ao, cap, hv, h3, fun h0 => ?_⟩
 obtain ⟨b, e, hlt, hc⟩ := h4 h0
 refine ⟨b, e, hlt, fun i zs hi => ?_⟩
 obtain ⟨u, h5, h6⟩ := hc i zs hi
 exact ⟨u, h5, h6.mono hm⟩

end Go.Proofs.YtdedolkgcdlmeaaGreatDoor

/- A vector that grows at its end; texts that do. -/
namespace Go.Proofs.YtdedolkgcdlmeaaGreatDoor
open Go.RowKit Limbs

def apart (og : Option Nat) (s : Value) : Prop := ∀ a l c, s = .slice (some a) l c → 0 < l → some a.block ≠ og

theorem Lim.grown {W W' : World} {row : Option Nat} {s : Value} {zs : List Int} (h : Lim W s zs) (hg : W.grownBy W' row) (hne : apart row s) : Lim W' s zs := by
 obtain ⟨ao, cap, rfl, h1, h2, h3, h4⟩ := h
 refine ⟨ao, cap, rfl, h1, h2, h3, fun h0 => ?_⟩
 obtain ⟨b, off, rfl, hlt, hc⟩ := h4 h0
 have hb := hne _ _ _ rfl h0
 exact ⟨b, off, rfl, Nat.lt_of_lt_of_le hlt hg.size, fun i hi => hg.cell (hc i hi) hb⟩

def Nm.val (r : Nm) : Value := .agg #[.bool r.neg, .slice r.o r.l r.c]
def Nm.sl (r : Nm) : Value := .slice r.o r.l r.c
def ncells (p : Nm × Int) : List Value := [.bool p.1.neg, .slice p.1.o p.1.l p.1.c]

theorem NumL.grown {W W' : World} {row : Option Nat} {r : Nm} {z : Int} {n : Nat} (h : NumL W r.val z n) (hg : W.grownBy W' row) (hne : apart row r.sl) : NumL W' r.val z n := by
 obtain ⟨neg, s, zs, e, hl, h3⟩ := h
 simp only [Nm.val, Value.agg.injEq, Array.mk.injEq, List.cons.injEq, Value.bool.injEq, and_true] at e
 obtain ⟨rfl, rfl⟩ := e
 exact ⟨_, _, zs, rfl, hl.grown hg hne, h3⟩

theorem NumL.inside {W : World} {r : Nm} {z : Int} {n : Nat} (h : NumL W r.val z n) : ∀ a l c, r.sl = .slice (some a) l c → 0 < l → a.block < W.heap.size := fun a l c e h0 => by
 obtain ⟨neg, s, zs, e1, hl, -⟩ := h
 simp only [Nm.val, Value.agg.injEq, Array.mk.injEq, List.cons.injEq, Value.bool.injEq, and_true] at e1
 obtain ⟨rfl, rfl⟩ := e1
 obtain ⟨ao, cap, e2, -, -, -, h4⟩ := hl
 unfold Nm.sl at e
 rw [e] at e2
 simp only [Value.slice.injEq] at e2
 obtain ⟨rfl, rfl, rfl⟩ := e2
 obtain ⟨b, off, e3, hlt, -⟩ := h4 h0
 simp only [Option.some.injEq] at e3
 rw [e3]
 exact hlt

def Grow (W : World) (base : Nat) (v : Value) (ps : List (Nm × Int)) (n : Nat) : Prop :=
 W.ownsRow base 29 2 v ps.length (ps.flatMap ncells) ∧ ∀ p ∈ ps, NumL W p.1.val p.2 n ∧ apart v.ownBlock p.1.sl

theorem Grow.nil (W : World) (base n : Nat) : Grow W base (.slice none 0 0) [] n := ⟨World.ownsRow_nil _ _ _ _, fun _ h => by cases h⟩

theorem Grow.later {W W' : World} {base : Nat} {v : Value} {ps : List (Nm × Int)} {n : Nat} (h : Grow W base v ps n) (hb : Below W.heap.size W W') : Grow W' base v ps n := by
 refine ⟨?_, fun p hp => ⟨(h.2 p hp).1.below hb (Nat.le_refl _), (h.2 p hp).2⟩⟩
 refine ⟨h.1.1, ?_⟩
 rcases h.1.2 with hn | ⟨g, cap, cur, e, hbg, hh, rest⟩
 ·exact .inl hn
 ·exact .inr ⟨g, cap, cur, e, hbg, (hb.block _ (heap_lt hh)).trans hh, rest⟩

theorem ncells_at (ps : List (Nm × Int)) : ∀ i (h : i < ps.length), (ps.flatMap ncells)[i * 2]? = some (.bool ps[i].1.neg) ∧ (ps.flatMap ncells)[i * 2 + 1]? = some (.slice ps[i].1.o ps[i].1.l ps[i].1.c) := by
 induction ps with
 | nil => intro i h; exact absurd h (by simp)
 | cons p ps ih =>
  intro i h
  rw [List.flatMap_cons]
  cases i with
  | zero => exact ⟨rfl, rfl⟩
  | succ i =>
   obtain ⟨h1, h2⟩ := ih i (by simpa using h)
   have e1 : (i + 1) * 2 = i * 2 + 2 := by omega
   rw [e1, show i * 2 + 2 + 1 = i * 2 + 1 + 2 by omega, List.getElem?_append_right (by simp [ncells]), List.getElem?_append_right (by simp [ncells])]
   exact ⟨h1, h2⟩

theorem Grow.vec {W : World} {base : Nat} {v : Value} {ps : List (Nm × Int)} {n : Nat} (h : Grow W base v ps n) : VecN W v (ps.map (·.2)) n := by
 obtain ⟨⟨-, h1⟩, h2⟩ := h
 have hlen : (ps.map (·.2)).length = ps.length := List.length_map ..
 rcases h1 with ⟨rfl, hn⟩ | ⟨g, cap, cur, rfl, hb, hh, hc1, hc2, hc3, hc4⟩
 ·exact ⟨none, 0, by rw [hlen, hn], by rw [hlen]; omega, fun h0 => absurd h0 (by rw [hlen]; omega)⟩
 ·refine ⟨_, cap, by rw [hlen], by rw [hlen]; exact hc1, fun h0 => ⟨g, 0, rfl, heap_lt hh, fun i hi => ?_⟩⟩
  rw [hlen] at hi
  obtain ⟨e1, e2⟩ := ncells_at ps i hi
  have hcell : ∀ k u, k < ps.length * 2 → (ps.flatMap ncells)[k]? = some u → W.cell? ⟨g, 0 + k, none⟩ = some u := fun k u hk hu => by
   have := World.news_of_block hh k u (by rw [← hc4, List.getElem?_take, if_pos hk] at hu; exact hu)
   have e : (⟨g, 0, none⟩ : Addr).add k = ⟨g, 0 + k, none⟩ := by unfold Addr.add; split <;> simp_all
   rwa [e] at this
  refine ⟨ps[i].1.neg, ps[i].1.o, ps[i].1.l, ps[i].1.c, hcell _ _ (by omega) e1, hcell _ _ (by omega) e2, ?_⟩
  have e3 : (ps.map (·.2)).getD i 0 = ps[i].2 := by
   rw [List.getD_eq_getElem?_getD, List.getElem?_map, List.getElem?_eq_getElem hi]; rfl
  rw [e3]
  exact (h2 _ (List.getElem_mem hi)).1

end Go.Proofs.YtdedolkgcdlmeaaGreatDoor

/- The reference: one row of its own becomes a vector. -/
namespace Go.Proofs.YtdedolkgcdlmeaaGreatDoor
open Go.RowKit Limbs Digs

theorem VecN.grown {W W' : World} {v : Value} {zs : List Int} {n : Nat} (h : VecN W v zs n) (hg : W.grownBy W' none) : VecN W' v zs n := by
 obtain ⟨ao, cap, hv, h1, h2⟩ := h
 refine ⟨ao, cap, hv, h1, fun h0 => ?_⟩
 obtain ⟨b, off, e, hlt, hc⟩ := h2 h0
 refine ⟨b, off, e, Nat.lt_of_lt_of_le hlt hg.size, fun i hi => ?_⟩
 obtain ⟨neg, o, l, c, h3, h4, h5⟩ := hc i hi
 exact ⟨neg, o, l, c, hg.cell h3 (by simp), hg.cell h4 (by simp), NumL.grown (r := ⟨neg, o, l, c⟩) h5 hg (fun _ _ _ _ _ h => by cases h)⟩

end Go.Proofs.YtdedolkgcdlmeaaGreatDoor

/- Rows of vectors that grow at their end. Their own block holds slices alone: so no number lies in it, and what is appended changes no vector. -/
namespace Go.Proofs.YtdedolkgcdlmeaaGreatDoor
open Go.RowKit Limbs

def AllSl (W : World) (row : Option Nat) : Prop := ∀ g, row = some g → ∃ cur t fz, W.heap[g]? = some (.cells cur t fz) ∧ ∀ u, u ∈ cur.toList → ∃ o l c, u = .slice o l c

theorem allSl_none (W : World) : AllSl W none := fun _ h => by cases h

theorem AllSl.cell {W : World} {g : Nat} (h : AllSl W (some g)) {k : Nat} {u : Value} (hc : W.cell? ⟨g, k, none⟩ = some u) : ∃ o l c, u = .slice o l c := by
 obtain ⟨cur, t, fz, hh, hs⟩ := h g rfl
 rw [cell_of_row W g k cur t fz hh] at hc
 refine hs u ?_
 obtain ⟨hk, e⟩ := Array.getElem?_eq_some_iff.1 hc
 rw [← e]
 exact Array.getElem_mem_toList hk

theorem AllSl.later {W W' : World} {row : Option Nat} (h : AllSl W row) (hb : Below W.heap.size W W') : AllSl W' row := fun g hg => by
 obtain ⟨cur, t, fz, hh, hs⟩ := h g hg
 exact ⟨cur, t, fz, (hb.block _ (heap_lt hh)).trans hh, hs⟩

theorem Lim.grownS {W W' : World} {row : Option Nat} {s : Value} {zs : List Int} (h : Lim W s zs) (hg : W.grownBy W' row) (hr : AllSl W row) : Lim W' s zs := by
 obtain ⟨ao, cap, rfl, h1, h2, h3, h4⟩ := h
 refine ⟨ao, cap, rfl, h1, h2, h3, fun h0 => ?_⟩
 obtain ⟨b, off, e, hlt, hc⟩ := h4 h0
 have hne : some b ≠ row := fun e' => by
  subst e'
  obtain ⟨o, l, c, e⟩ := hr.cell (hc 0 h0)
  cases e
 exact ⟨b, off, e, Nat.lt_of_lt_of_le hlt hg.size, fun i hi => hg.cell (hc i hi) hne⟩

theorem NumL.grownS {W W' : World} {row : Option Nat} {v : Value} {z : Int} {n : Nat} (h : NumL W v z n) (hg : W.grownBy W' row) (hr : AllSl W row) : NumL W' v z n := by
 obtain ⟨neg, s, zs, h1, h2, h3⟩ := h
 exact ⟨neg, s, zs, h1, h2.grownS hg hr, h3⟩

theorem VecN.grownS {W W' : World} {row : Option Nat} {v : Value} {zs : List Int} {n : Nat} (h : VecN W v zs n) (hg : W.grownBy W' row) (hr : AllSl W row) : VecN W' v zs n := by
 obtain ⟨ao, cap, hv, h1, h2⟩ := h
 refine ⟨ao, cap, hv, h1, fun h0 => ?_⟩
 obtain ⟨b, off, e, hlt, hc⟩ := h2 h0
 have hne : some b ≠ row := fun e' => by
  subst e'
  obtain ⟨neg, _, _, _, h3, -⟩ := hc 0 h0
  obtain ⟨o, l, c, e⟩ := hr.cell h3
  cases e
 refine ⟨b, off, e, Nat.lt_of_lt_of_le hlt hg.size, fun i hi => ?_⟩
 obtain ⟨neg, o, l, c, h3, h4, h5⟩ := hc i hi
 exact ⟨neg, o, l, c, hg.cell h3 hne, hg.cell h4 hne, h5.grownS hg hr⟩

structure GrowV (W : World) (base : Nat) (v : Value) (qs : List (Value × List Int)) (n : Nat) : Prop where
 own : W.ownsRow base 72 1 v qs.length (qs.map (·.1))
 all : AllSl W v.ownBlock
 vec : ∀ q ∈ qs, VecN W q.1 q.2 n

theorem GrowV.nil (W : World) (base n : Nat) : GrowV W base (.slice none 0 0) [] n := ⟨World.ownsRow_nil _ _ _ _, allSl_none _, fun _ h => by cases h⟩

theorem GrowV.later {W W' : World} {base : Nat} {v : Value} {qs : List (Value × List Int)} {n : Nat} (h : GrowV W base v qs n) (hb : Below W.heap.size W W') : GrowV W' base v qs n :=
 ⟨ownsRow_later h.own hb, h.all.later hb, fun p hp => (h.vec p hp).below hb (Nat.le_refl _)⟩

theorem GrowV.mono {W : World} {base : Nat} {v : Value} {qs : List (Value × List Int)} {n m : Nat} (h : GrowV W base v qs n) (hm : n ≤ m) : GrowV W base v qs m :=
 ⟨h.own, h.all, fun p hp => (h.vec p hp).mono hm⟩

theorem GrowV.mat {W : World} {base : Nat} {v : Value} {qs : List (Value × List Int)} {n : Nat} (h : GrowV W base v qs n) : MatN W v (qs.map (·.2)) n := matN_of_owns h.own h.vec

end Go.Proofs.YtdedolkgcdlmeaaGreatDoor

/- The reference: rows of its own become rows of vectors. -/
namespace Go.Proofs.YtdedolkgcdlmeaaGreatDoor
open Go.RowKit Limbs Digs

end Go.Proofs.YtdedolkgcdlmeaaGreatDoor

/- The reference: what is wrong with a vector. -/
namespace Go.Proofs.YtdedolkgcdlmeaaGreatDoor
open Go.RowKit Limbs Digs

def faultV (rs : List Raw) : Int := if rs.length < 1 ∨ 8 < rs.length then 6 else faulty (rs.all Raw.num)

set_option maxRecDepth 100000 in
set_option maxHeartbeats 1600000 in
theorem vecFault_any (w : World) (v : Value) (rs : List Raw) (hv : VecL w v rs) (hmx : rs.length ≤ 1000000) :
  Calls Tryz.prog 40 #[v] w fun e w' => e = .returned (.int .i64 (faultV rs)) ∧ Below w.heap.size w w' := by
 have HV := hide hv
 obtain ⟨ao, cap, rfl, -, hc⟩ := hv
 by_cases h1 : rs.length < 1
 ·have e : faultV rs = 6 := if_pos (.inl h1)
  rw [e]
  have hl : (rs.length : Int) < 1 := by omega
  have hld : decide ((rs.length : Int) < 1) = true := decide_eq_true hl
  clear hc e
  go_enter Tryz.func40, Tryz.ntmps40
  go_wp2
  go_ret
  exact ⟨rfl, Below.refl _ _⟩
 ·have hl : ¬ ((rs.length : Int) < 1) := by omega
  have hld : decide ((rs.length : Int) < 1) = false := decide_eq_false hl
  by_cases h2 : 8 < rs.length
  ·have e : faultV rs = 6 := if_pos (.inr h2)
   rw [e]
   have hl2 : (8 : Int) < (rs.length : Int) := by omega
   have hld2 : decide ((8 : Int) < (rs.length : Int)) = true := decide_eq_true hl2
   clear hc e
   go_enter Tryz.func40, Tryz.ntmps40
   go_wp2
   go_ret
   exact ⟨rfl, Below.refl _ _⟩
  ·have e : faultV rs = faulty (rs.all Raw.num) := if_neg (by omega)
   rw [e]
   have hl2 : ¬ ((8 : Int) < (rs.length : Int)) := by omega
   have hld2 : decide ((8 : Int) < (rs.length : Int)) = false := decide_eq_false hl2
   obtain ⟨b, off, rfl, hlt, -⟩ := hc (by omega)
   clear e
   generalize hall : rs.all Raw.num = al
   have HALL : Hid (rs.all Raw.num = al) := hall
   clear hall
   go_enter Tryz.func40, Tryz.ntmps40
   go_wp2
   go_loopw [3] (fun i wr => ∃ k : Nat, k ≤ rs.length ∧ i = .int .i64 k ∧ Hid ((rs.take k).all Raw.num = true) ∧ Below w.heap.size w wr) (fun i _ => rs.length - (intOf i).toNat)
   case atStart => exact ⟨0, Nat.zero_le _, rfl, by show _ = _; simp, Below.refl _ _⟩
   case round =>
    obtain ⟨k, hk, rfl, HG, hbe⟩ := hrel
    by_cases hkl : k < rs.length
    ·obtain ⟨_, _, e, -, hc⟩ := HV.out.below hbe (Nat.le_refl _)
     simp only [Value.slice.injEq, true_and] at e
     obtain ⟨rfl, rfl⟩ := e
     obtain ⟨_, _, e, hb2, hc⟩ := hc (by omega)
     simp only [Option.some.injEq, Addr.mk.injEq, and_true] at e
     obtain ⟨rfl, rfl⟩ := e
     obtain ⟨c0, c1, hL⟩ := hc k rs[k] (by simp [hkl])
     clear hc
     have HT : Hid ((rs.take (k + 1)).all Raw.num = rs[k].num) := by
      show _ = _
      rw [List.take_succ_eq_append_getElem hkl, List.all_append, HG.out]; simp
     have HE : Hid (rs[k].num = false → al = false) := fun h => by
      rw [← HALL.out, List.all_eq_false]; exact ⟨rs[k], List.getElem_mem hkl, by simp [h]⟩
     generalize rs[k] = r at *
     obtain ⟨rn, rsl, rz⟩ := r
     have HL := hide hL
     have HBE := hide hbe
     obtain ⟨ro, rcap, e, -⟩ := hL
     simp only at e c0 c1
     subst e
     clear hbe
     go_wp2_with fail
     refine (intFault_any _ _ _ _ HL.out).mono ?_
     rintro e w1 ⟨rfl, hb1⟩
     have HB1 := hide (HBE.out.trans (hb1.mono HBE.out.size))
     clear hb1
     cases hn : isNum rn rz
     ·obtain rfl := HE.out hn
      have e : faulty false = 3 := rfl
      rw [e]
      clear HT HE e
      go_wp2
      go_ret
      exact ⟨rfl, HB1.out⟩
     ·have e : faulty true = 0 := rfl
      rw [e]
      have HG' := hide (HT.out.trans hn)
      clear HT HE HG e
      go_wp2
      go_roundw
      case rel => exact ⟨k + 1, by omega, by go_num, HG', HB1.out⟩
      case measure => simp [intOf]; omega
    ·obtain rfl : k = rs.length := by omega
     obtain rfl : al = true := by have := HG.out; rw [List.take_length, HALL.out] at this; exact this
     have HBE := hide hbe
     clear hbe HG HALL
     go_wp2
     go_ret
     exact ⟨rfl, HBE.out⟩

end Go.Proofs.YtdedolkgcdlmeaaGreatDoor

/- A number that came in, as it reads. -/
namespace Go.Proofs.YtdedolkgcdlmeaaGreatDoor
open Go.ChangeShapes Go.WideShapes Go.ChangeAt Go.RowKit Go.Joins Limbs

theorem Tryz.cellsNum : Tryz.prog.cellsOf 29 = 2 := by kernel_rfl
theorem Tryz.cellsU32 : Tryz.prog.cellsOf 104 = 1 := by kernel_rfl
theorem Tryz.own : ownKnob Tryz.prog.godebug = none := by kernel_rfl
theorem Tryz.laidOut : laidOutB Tryz.prog = true := by kernel_rfl

def Came (W : World) (v : Value) (neg : Bool) (ao : Option Addr) (cap : Nat) (zs : List Int) : Prop :=
 v = .agg #[.bool neg, .slice ao zs.length cap] ∧ zs.length ≤ 9223372036854775807 ∧ (zs.length ≤ 1000000 → Lim W (.slice ao zs.length cap) zs)

end Go.Proofs.YtdedolkgcdlmeaaGreatDoor

/- A vector that came in, as it reads. -/
namespace Go.Proofs.YtdedolkgcdlmeaaGreatDoor
open Go.ChangeShapes Go.WideShapes Go.ChangeAt Go.RowKit Go.Joins Limbs

theorem Tryz.cellsSl : Tryz.prog.cellsOf 27 = 1 := by kernel_rfl
theorem Tryz.cellsBool : Tryz.prog.cellsOf 4 = 1 := by kernel_rfl

def CameR (W : World) (r : Raw) : Prop :=
 (∃ o cap, r.s = .slice o r.zs.length cap) ∧ r.zs.length ≤ 9223372036854775807 ∧ (r.zs.length ≤ 1000000 → Lim W r.s r.zs)

def VecC (W : World) (v : Value) (rs : List Raw) : Prop :=
 ∃ ao cap, v = .slice ao rs.length cap ∧ rs.length ≤ cap ∧ rs.length ≤ 9223372036854775807 ∧
  (0 < rs.length → ∃ b off, ao = some ⟨b, off, none⟩ ∧ b < W.heap.size ∧ ∀ i r, rs[i]? = some r → W.cell? ⟨b, off + i * 2, none⟩ = some (.bool r.neg) ∧ W.cell? ⟨b, off + i * 2 + 1, none⟩ = some r.s ∧ CameR W r)

instance : Inhabited Raw := ⟨⟨false, .bool false, []⟩⟩

theorem open_limbs {H : Type} {enc : TypeId × Value → H} {W : World} {n : Nat} {v : Value} {y : DataW H × List MemPlace}
  (h : DataW.trod enc Tryz.prog W 0 (fun _ => true) true n 27 [v] = some y) (neg : Bool) : ∃ r : Raw, r.neg = neg ∧ r.s = v ∧ CameR W r := by
 rcases open_ints Tryz.underlying27 Tryz.underlying104 Tryz.cellsU32 h with ⟨hcs, _⟩ | ⟨x, l, c, zs, hcs, _, hl, hm, hz, _, hcell, hwz⟩
 ·simp only [List.cons.injEq, and_true] at hcs
  subst hcs
  exact ⟨⟨neg, .slice none 0 0, []⟩, rfl, rfl, ⟨none, 0, rfl⟩, by simp, fun _ => ⟨none, 0, rfl, Nat.le_refl _, by simp, LB_nil, fun h => absurd h (by simp)⟩⟩
 ·simp only [List.cons.injEq, and_true] at hcs
  subst hcs
  have hz' : zs.length = c := by simpa using hz
  have hlen : (zs.take l).length = l := by rw [List.length_take]; omega
  refine ⟨⟨neg, .slice (some x) l c, zs.take l⟩, rfl, rfl, ⟨some x, c, by simp only [hlen]⟩, by simp only [hlen]; unfold maxLen at hm; omega, fun hs => ⟨some x, c, by simp only [hlen], by simp only [hlen]; exact hl, hs, LB_take (LB_mem fun z hzz => ?_) l, fun h0 => ?_⟩⟩
  ·have := hwz z hzz
   simp [Lit.wf, IntKind.min, IntKind.max, IntKind.signed, IntKind.bits] at this
   omega
  ·obtain ⟨blk, off, spot⟩ := x
   simp only [hlen] at h0 ⊢
   have h00 := hcell 0 (by omega)
   have hspot : spot = none := by simpa [Addr.add] using World.cell?_spot h00
   subst hspot
   refine ⟨blk, off, rfl, World.block_lt_of_cell? W _ h00, fun i hi => ?_⟩
   have := hcell i (by omega)
   rw [getD_take zs l i (by omega)]
   by_cases hi0 : i = 0
   ·subst hi0; simpa [Addr.add] using this
   ·simpa [Addr.add, hi0] using this

theorem VecC.light {W : World} {v : Value} {rs : List Raw} (h : VecC W v rs) (hl : ∀ r ∈ rs, r.zs.length ≤ 1000000) : VecL W v rs := by
 obtain ⟨ao, cap, hv, h1, -, h2⟩ := h
 refine ⟨ao, cap, hv, h1, fun h0 => ?_⟩
 obtain ⟨b, off, e, hlt, hc⟩ := h2 h0
 refine ⟨b, off, e, hlt, fun i r hi => ?_⟩
 obtain ⟨h3, h4, h5⟩ := hc i r hi
 exact ⟨h3, h4, h5.2.2 (hl r (List.mem_of_getElem? hi))⟩

end Go.Proofs.YtdedolkgcdlmeaaGreatDoor
