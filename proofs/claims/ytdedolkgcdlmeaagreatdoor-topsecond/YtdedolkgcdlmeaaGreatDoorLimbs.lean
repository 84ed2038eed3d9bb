/- Plain arithmetic of limbs: numbers to the base 4294967296, the lowest first. No Go in it. -/
namespace Go.Proofs.YtdedolkgcdlmeaaGreatDoor.Limbs

def lv : List Int → Int
  | [] => 0
  | x :: xs => x + 4294967296 * lv xs

def LB (zs : List Int) : Prop := ∀ i : Nat, 0 ≤ zs.getD i 0 ∧ zs.getD i 0 < 4294967296

/-- no noughts behind -/
def Nrm (zs : List Int) : Prop := zs.length = 0 ∨ zs.getD (zs.length - 1) 0 ≠ 0

/-- a power of the base -/
def bp : Nat → Int
  | 0 => 1
  | n + 1 => 4294967296 * bp n

theorem bp_pos (n : Nat) : 0 < bp n := by
  induction n with
  | zero => simp [bp]
  | succ n ih => simp only [bp]; omega

theorem bp_add (m n : Nat) : bp (m + n) = bp m * bp n := by
  induction m with
  | zero => simp [bp]
  | succ m ih => rw [Nat.succ_add]; simp only [bp]; rw [ih, Int.mul_assoc]

theorem bp_mono {m n : Nat} (h : m ≤ n) : bp m ≤ bp n := by
  obtain ⟨k, rfl⟩ := Nat.exists_eq_add_of_le h
  rw [bp_add]
  have h1 := bp_pos m
  have h2 := bp_pos k
  have : bp m * 1 ≤ bp m * bp k := Int.mul_le_mul_of_nonneg_left (by omega) (by omega)
  omega

theorem LB_nil : LB [] := by intro i; simp
theorem LB_tail {x : Int} {xs : List Int} (h : LB (x :: xs)) : LB xs := fun i => by simpa using h (i + 1)
theorem LB_head {x : Int} {xs : List Int} (h : LB (x :: xs)) : 0 ≤ x ∧ x < 4294967296 := by simpa using h 0
theorem LB_cons {x : Int} {xs : List Int} (hx : 0 ≤ x ∧ x < 4294967296) (h : LB xs) : LB (x :: xs) := by
  intro i
  cases i with
  | zero => simpa using hx
  | succ i => simpa using h i

theorem LB_mem {zs : List Int} (h : ∀ z ∈ zs, 0 ≤ z ∧ z < 4294967296) : LB zs := by
  induction zs with
  | nil => exact LB_nil
  | cons x xs ih => exact LB_cons (h x (by simp)) (ih fun z hz => h z (by simp [hz]))

theorem LB_take {zs : List Int} (h : LB zs) (k : Nat) : LB (zs.take k) := by
  intro i
  have := h i
  by_cases hk : i < k
  · simpa [List.getD_eq_getElem?_getD, List.getElem?_take, hk] using this
  · simp [List.getD_eq_getElem?_getD, List.getElem?_take, hk]

theorem LB_drop {zs : List Int} (h : LB zs) (k : Nat) : LB (zs.drop k) := by
  intro i
  have := h (k + i)
  simpa [List.getD_eq_getElem?_getD, List.getElem?_drop] using this

theorem getD_take (zs : List Int) (n i : Nat) (h : i < n) : (zs.take n).getD i 0 = zs.getD i 0 := by
  rw [List.getD_eq_getElem?_getD, List.getElem?_take, if_pos h, List.getD_eq_getElem?_getD]

theorem getD_drop (zs : List Int) (n i : Nat) : (zs.drop n).getD i 0 = zs.getD (n + i) 0 := by
  rw [List.getD_eq_getElem?_getD, List.getElem?_drop, List.getD_eq_getElem?_getD]

theorem getD_ge (zs : List Int) (i : Nat) (h : zs.length ≤ i) : zs.getD i 0 = 0 := by
  rw [List.getD_eq_getElem?_getD, List.getElem?_eq_none h]; rfl

theorem lv_nonneg {zs : List Int} (h : LB zs) : 0 ≤ lv zs := by
  induction zs with
  | nil => simp [lv]
  | cons x xs ih => have := ih (LB_tail h); have := LB_head h; simp only [lv]; omega

theorem lv_lt {zs : List Int} (h : LB zs) : lv zs < bp zs.length := by
  induction zs with
  | nil => simp [lv, bp]
  | cons x xs ih => have := ih (LB_tail h); have := LB_head h; simp only [lv, List.length_cons, bp]; omega

theorem lv_append (xs ys : List Int) : lv (xs ++ ys) = lv xs + bp xs.length * lv ys := by
  induction xs with
  | nil => simp [lv, bp]
  | cons x xs ih => simp only [List.cons_append, lv, ih, List.length_cons, bp]; rw [Int.mul_add, Int.mul_assoc]; omega

theorem lv_take_succ (zs : List Int) (k : Nat) : lv (zs.take (k + 1)) = lv (zs.take k) + bp k * zs.getD k 0 := by
  by_cases h : k < zs.length
  · rw [List.take_succ_eq_append_getElem h, lv_append]
    simp [lv, List.length_take, Nat.min_eq_left (Nat.le_of_lt h), List.getD_eq_getElem?_getD, h]
  · rw [List.take_of_length_le (by omega), List.take_of_length_le (by omega)]
    simp [List.getD_eq_getElem?_getD, List.getElem?_eq_none (Nat.le_of_not_lt h)]

theorem lv_split (zs : List Int) (k : Nat) (h : k ≤ zs.length) : lv zs = lv (zs.take k) + bp k * lv (zs.drop k) := by
  have := lv_append (zs.take k) (zs.drop k)
  rw [List.take_append_drop, List.length_take, Nat.min_eq_left h] at this
  exact this

theorem lv_take_ge (zs : List Int) {k : Nat} (h : zs.length ≤ k) : lv (zs.take k) = lv zs := by
  rw [List.take_of_length_le h]

theorem lv_take_lt {zs : List Int} (h : LB zs) (k : Nat) : lv (zs.take k) < bp k := by
  have h1 := lv_lt (LB_take h k)
  have h2 : bp (zs.take k).length ≤ bp k := bp_mono (List.length_take_le k zs)
  omega

theorem lv_take_nonneg {zs : List Int} (h : LB zs) (k : Nat) : 0 ≤ lv (zs.take k) := lv_nonneg (LB_take h k)

theorem drop_cons_getD (zs : List Int) (k : Nat) (h : k < zs.length) : zs.drop k = zs.getD k 0 :: zs.drop (k + 1) := by
  rw [List.drop_eq_getElem_cons h]
  simp [List.getD_eq_getElem?_getD, h]

/-- Numbers of as many limbs, alike from a place on, there another: that place tells. -/
theorem lv_lt_of_place {a b : List Int} (ha : LB a) (hb : LB b) (hl : a.length = b.length) {k : Nat} (hk : k < a.length) (hd : a.drop (k + 1) = b.drop (k + 1)) (hx : a.getD k 0 < b.getD k 0) : lv a < lv b := by
  have e1 := lv_split a k (by omega)
  have e2 := lv_split b k (by omega)
  rw [drop_cons_getD a k hk] at e1
  rw [drop_cons_getD b k (by omega), ← hd] at e2
  simp only [lv] at e1 e2
  have h1 := lv_take_lt ha k
  have h2 := lv_take_nonneg hb k
  generalize lv (a.drop (k + 1)) = t at e1 e2
  have hp := bp_pos k
  have h3 : bp k * (a.getD k 0 + 4294967296 * t + 1) ≤ bp k * (b.getD k 0 + 4294967296 * t) := Int.mul_le_mul_of_nonneg_left (by omega) (by omega)
  rw [Int.mul_add, Int.mul_one] at h3
  omega

theorem nrm_low {zs : List Int} (h : LB zs) (hn : Nrm zs) (h0 : 0 < zs.length) : bp (zs.length - 1) ≤ lv zs := by
  have e := lv_split zs (zs.length - 1) (by omega)
  rw [drop_cons_getD zs (zs.length - 1) (by omega)] at e
  have hd : zs.drop (zs.length - 1 + 1) = [] := List.drop_eq_nil_of_le (by omega)
  rw [hd] at e
  simp only [lv] at e
  have h1 := lv_take_nonneg h (zs.length - 1)
  have h2 := h (zs.length - 1)
  have h3 : zs.getD (zs.length - 1) 0 ≠ 0 := by rcases hn with hn | hn; omega; exact hn
  have hp := bp_pos (zs.length - 1)
  have h4 : bp (zs.length - 1) * 1 ≤ bp (zs.length - 1) * (zs.getD (zs.length - 1) 0 + 4294967296 * 0) := Int.mul_le_mul_of_nonneg_left (by omega) (by omega)
  omega

theorem lv_lt_of_length {a b : List Int} (ha : LB a) (hb : LB b) (hn : Nrm b) (hl : a.length < b.length) : lv a < lv b := by
  have h1 := lv_lt ha
  have h2 := nrm_low hb hn (by omega)
  have h3 : bp a.length ≤ bp (b.length - 1) := bp_mono (by omega)
  omega

theorem lv_zero_iff {zs : List Int} (h : LB zs) (hn : Nrm zs) : lv zs = 0 ↔ zs.length = 0 := by
  constructor
  · intro h0
    by_cases hl : zs.length = 0
    · exact hl
    · have h1 := nrm_low h hn (by omega)
      have := bp_pos (zs.length - 1)
      omega
  · intro hl
    rw [List.eq_nil_of_length_eq_zero hl]; rfl

/-- how long: a bound on the number is one on its limbs -/
theorem length_le_of_lt {zs : List Int} (h : LB zs) (hn : Nrm zs) {n : Nat} (hlt : lv zs < bp n) : zs.length ≤ n := by
  by_cases hl : zs.length ≤ n
  · exact hl
  · have h1 := nrm_low h hn (by omega)
    have h2 : bp n ≤ bp (zs.length - 1) := bp_mono (by omega)
    omega

theorem LB_set {zs : List Int} (h : LB zs) (k : Nat) {z : Int} (hz : 0 ≤ z ∧ z < 4294967296) : LB (zs.set k z) := by
  intro i
  rw [List.getD_eq_getElem?_getD, List.getElem?_set]
  by_cases hk : k = i
  · subst hk
    by_cases hl : k < zs.length <;> simp [hl, hz]
  · have := h i
    simpa [hk, List.getD_eq_getElem?_getD] using this

theorem getD_set (zs : List Int) (k i : Nat) (z : Int) (hk : k < zs.length) : (zs.set k z).getD i 0 = if i = k then z else zs.getD i 0 := by
  rw [List.getD_eq_getElem?_getD, List.getElem?_set]
  by_cases h : k = i
  · subst h; simp [hk]
  · have h' : ¬ i = k := fun e => h e.symm
    simp [h, h', List.getD_eq_getElem?_getD]

theorem lv_set (zs : List Int) (k : Nat) (z : Int) (h : k < zs.length) : lv (zs.set k z) = lv zs + bp k * (z - zs.getD k 0) := by
  induction zs generalizing k with
  | nil => simp at h
  | cons x xs ih =>
    cases k with
    | zero => simp [lv, bp]; omega
    | succ k =>
      have := ih k (by simpa using h)
      simp only [List.set_cons_succ, lv, this, bp, List.getD_cons_succ]
      rw [Int.mul_add, Int.mul_assoc]; omega

theorem take_set_ge (zs : List Int) (k i : Nat) (z : Int) (h : i ≤ k) : (zs.set k z).take i = zs.take i := by
  rw [List.take_set_of_le h]

theorem drop_set_lt (zs : List Int) (k i : Nat) (z : Int) (h : k < i) : (zs.set k z).drop i = zs.drop i := by
  rw [List.drop_set_of_lt h]

theorem lv_replicate (n : Nat) : lv (List.replicate n 0) = 0 := by
  induction n with
  | zero => rfl
  | succ n ih => simp only [List.replicate_succ, lv, ih]; rfl

theorem LB_replicate (n : Nat) : LB (List.replicate n 0) := LB_mem fun z hz => by
  rw [List.eq_of_mem_replicate hz]; decide

end Go.Proofs.YtdedolkgcdlmeaaGreatDoor.Limbs
