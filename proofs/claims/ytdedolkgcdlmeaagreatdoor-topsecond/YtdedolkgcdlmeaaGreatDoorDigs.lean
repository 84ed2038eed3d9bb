/- Plain arithmetic of the reference's digits: numbers to the base 10000, the lowest first. No Go in it. -/
import Derived.Test.YtdedolkgcdlmeaaGreatDoorLimbs
namespace Go.Proofs.YtdedolkgcdlmeaaGreatDoor.Digs
open Limbs

def dv : List Int → Int
  | [] => 0
  | x :: xs => x + 10000 * dv xs

def DB (zs : List Int) : Prop := ∀ i : Nat, 0 ≤ zs.getD i 0 ∧ zs.getD i 0 < 10000

/-- a power of the base -/
def dp : Nat → Int
  | 0 => 1
  | n + 1 => 10000 * dp n

theorem dp_pos (n : Nat) : 0 < dp n := by
  induction n with
  | zero => simp [dp]
  | succ n ih => simp only [dp]; omega

theorem dp_add (m n : Nat) : dp (m + n) = dp m * dp n := by
  induction m with
  | zero => simp [dp]
  | succ m ih => rw [Nat.succ_add]; simp only [dp]; rw [ih, Int.mul_assoc]

theorem dp_mono {m n : Nat} (h : m ≤ n) : dp m ≤ dp n := by
  obtain ⟨k, rfl⟩ := Nat.exists_eq_add_of_le h
  rw [dp_add]
  have h1 := dp_pos m
  have h2 := dp_pos k
  have : dp m * 1 ≤ dp m * dp k := Int.mul_le_mul_of_nonneg_left (by omega) (by omega)
  omega

theorem DB_nil : DB [] := by intro i; simp
theorem DB_tail {x : Int} {xs : List Int} (h : DB (x :: xs)) : DB xs := fun i => by simpa using h (i + 1)
theorem DB_head {x : Int} {xs : List Int} (h : DB (x :: xs)) : 0 ≤ x ∧ x < 10000 := by simpa using h 0
theorem DB_cons {x : Int} {xs : List Int} (hx : 0 ≤ x ∧ x < 10000) (h : DB xs) : DB (x :: xs) := by
  intro i
  cases i with
  | zero => simpa using hx
  | succ i => simpa using h i

theorem DB_mem {zs : List Int} (h : ∀ z ∈ zs, 0 ≤ z ∧ z < 10000) : DB zs := by
  induction zs with
  | nil => exact DB_nil
  | cons x xs ih => exact DB_cons (h x (by simp)) (ih fun z hz => h z (by simp [hz]))

theorem DB_take {zs : List Int} (h : DB zs) (k : Nat) : DB (zs.take k) := by
  intro i
  have := h i
  by_cases hk : i < k
  · simpa [List.getD_eq_getElem?_getD, List.getElem?_take, hk] using this
  · simp [List.getD_eq_getElem?_getD, List.getElem?_take, hk]

theorem dv_nonneg {zs : List Int} (h : DB zs) : 0 ≤ dv zs := by
  induction zs with
  | nil => simp [dv]
  | cons x xs ih => have := ih (DB_tail h); have := DB_head h; simp only [dv]; omega

theorem dv_lt {zs : List Int} (h : DB zs) : dv zs < dp zs.length := by
  induction zs with
  | nil => simp [dv, dp]
  | cons x xs ih => have := ih (DB_tail h); have := DB_head h; simp only [dv, List.length_cons, dp]; omega

theorem dv_append (xs ys : List Int) : dv (xs ++ ys) = dv xs + dp xs.length * dv ys := by
  induction xs with
  | nil => simp [dv, dp]
  | cons x xs ih => simp only [List.cons_append, dv, ih, List.length_cons, dp]; rw [Int.mul_add, Int.mul_assoc]; omega

theorem dv_take_succ (zs : List Int) (k : Nat) : dv (zs.take (k + 1)) = dv (zs.take k) + dp k * zs.getD k 0 := by
  by_cases h : k < zs.length
  · rw [List.take_succ_eq_append_getElem h, dv_append]
    simp [dv, List.length_take, Nat.min_eq_left (Nat.le_of_lt h), List.getD_eq_getElem?_getD, h]
  · rw [List.take_of_length_le (by omega), List.take_of_length_le (by omega)]
    simp [List.getD_eq_getElem?_getD, List.getElem?_eq_none (Nat.le_of_not_lt h)]

theorem dv_split (zs : List Int) (k : Nat) (h : k ≤ zs.length) : dv zs = dv (zs.take k) + dp k * dv (zs.drop k) := by
  have := dv_append (zs.take k) (zs.drop k)
  rw [List.take_append_drop, List.length_take, Nat.min_eq_left h] at this
  exact this

theorem dv_take_ge (zs : List Int) {k : Nat} (h : zs.length ≤ k) : dv (zs.take k) = dv zs := by
  rw [List.take_of_length_le h]

theorem dv_take_lt {zs : List Int} (h : DB zs) (k : Nat) : dv (zs.take k) < dp k := by
  have h1 := dv_lt (DB_take h k)
  have h2 : dp (zs.take k).length ≤ dp k := dp_mono (List.length_take_le k zs)
  omega

theorem dv_take_nonneg {zs : List Int} (h : DB zs) (k : Nat) : 0 ≤ dv (zs.take k) := dv_nonneg (DB_take h k)

/-- Numbers of as many limbs, alike from a place on, there another: that place tells. -/
theorem dv_lt_of_place {a b : List Int} (ha : DB a) (hb : DB b) (hl : a.length = b.length) {k : Nat} (hk : k < a.length) (hd : a.drop (k + 1) = b.drop (k + 1)) (hx : a.getD k 0 < b.getD k 0) : dv a < dv b := by
  have e1 := dv_split a k (by omega)
  have e2 := dv_split b k (by omega)
  rw [drop_cons_getD a k hk] at e1
  rw [drop_cons_getD b k (by omega), ← hd] at e2
  simp only [dv] at e1 e2
  have h1 := dv_take_lt ha k
  have h2 := dv_take_nonneg hb k
  generalize dv (a.drop (k + 1)) = t at e1 e2
  have hp := dp_pos k
  have h3 : dp k * (a.getD k 0 + 10000 * t + 1) ≤ dp k * (b.getD k 0 + 10000 * t) := Int.mul_le_mul_of_nonneg_left (by omega) (by omega)
  rw [Int.mul_add, Int.mul_one] at h3
  omega

theorem nrm_low10 {zs : List Int} (h : DB zs) (hn : Nrm zs) (h0 : 0 < zs.length) : dp (zs.length - 1) ≤ dv zs := by
  have e := dv_split zs (zs.length - 1) (by omega)
  rw [drop_cons_getD zs (zs.length - 1) (by omega)] at e
  have hd : zs.drop (zs.length - 1 + 1) = [] := List.drop_eq_nil_of_le (by omega)
  rw [hd] at e
  simp only [dv] at e
  have h1 := dv_take_nonneg h (zs.length - 1)
  have h2 := h (zs.length - 1)
  have h3 : zs.getD (zs.length - 1) 0 ≠ 0 := by rcases hn with hn | hn; omega; exact hn
  have hp := dp_pos (zs.length - 1)
  have h4 : dp (zs.length - 1) * 1 ≤ dp (zs.length - 1) * (zs.getD (zs.length - 1) 0 + 10000 * 0) := Int.mul_le_mul_of_nonneg_left (by omega) (by omega)
  omega

theorem dv_lt_of_length {a b : List Int} (ha : DB a) (hb : DB b) (hn : Nrm b) (hl : a.length < b.length) : dv a < dv b := by
  have h1 := dv_lt ha
  have h2 := nrm_low10 hb hn (by omega)
  have h3 : dp a.length ≤ dp (b.length - 1) := dp_mono (by omega)
  omega

theorem dv_zero_iff {zs : List Int} (h : DB zs) (hn : Nrm zs) : dv zs = 0 ↔ zs.length = 0 := by
  constructor
  · intro h0
    by_cases hl : zs.length = 0
    · exact hl
    · have h1 := nrm_low10 h hn (by omega)
      have := dp_pos (zs.length - 1)
      omega
  · intro hl
    rw [List.eq_nil_of_length_eq_zero hl]; rfl

/-- how long: a bound on the number is one on its limbs -/
theorem len10_le_of_lt {zs : List Int} (h : DB zs) (hn : Nrm zs) {n : Nat} (hlt : dv zs < dp n) : zs.length ≤ n := by
  by_cases hl : zs.length ≤ n
  · exact hl
  · have h1 := nrm_low10 h hn (by omega)
    have h2 : dp n ≤ dp (zs.length - 1) := dp_mono (by omega)
    omega

theorem DB_set {zs : List Int} (h : DB zs) (k : Nat) {z : Int} (hz : 0 ≤ z ∧ z < 10000) : DB (zs.set k z) := by
  intro i
  rw [List.getD_eq_getElem?_getD, List.getElem?_set]
  by_cases hk : k = i
  · subst hk
    by_cases hl : k < zs.length <;> simp [hl, hz]
  · have := h i
    simpa [hk, List.getD_eq_getElem?_getD] using this

theorem dv_set (zs : List Int) (k : Nat) (z : Int) (h : k < zs.length) : dv (zs.set k z) = dv zs + dp k * (z - zs.getD k 0) := by
  induction zs generalizing k with
  | nil => simp at h
  | cons x xs ih =>
    cases k with
    | zero => simp [dv, dp]; omega
    | succ k =>
      have := ih k (by simpa using h)
      simp only [List.set_cons_succ, dv, this, dp, List.getD_cons_succ]
      rw [Int.mul_add, Int.mul_assoc]; omega

theorem dv_replicate (n : Nat) : dv (List.replicate n 0) = 0 := by
  induction n with
  | zero => rfl
  | succ n ih => simp only [List.replicate_succ, dv, ih]; rfl

theorem DB_replicate (n : Nat) : DB (List.replicate n 0) := DB_mem fun z hz => by
  rw [List.eq_of_mem_replicate hz]; decide

end Go.Proofs.YtdedolkgcdlmeaaGreatDoor.Digs
