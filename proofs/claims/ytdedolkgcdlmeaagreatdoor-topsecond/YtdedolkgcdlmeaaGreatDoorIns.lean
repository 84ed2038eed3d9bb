/- What rows and one vector generate, while the vector is put among the rows. -/
import Derived.Test.YtdedolkgcdlmeaaGreatDoorGens
import Derived.Test.YtdedolkgcdlmeaaGreatDoorTidy
namespace Go.Proofs.YtdedolkgcdlmeaaGreatDoor
open Go.RowKit Limbs

def RowsOf (R : Nat → Option (List Int)) : List Int → Prop := fun v => ∃ i, R i = some v

def RowsOr (R : Nat → Option (List Int)) (zs : List Int) : List Int → Prop := fun v => (∃ i, R i = some v) ∨ v = zs

/-- Two sets generate the same. -/
def Alikes (len : Nat) (S T : List Int → Prop) : Prop := ∀ x, Gens len S x ↔ Gens len T x

theorem Alikes.of {len : Nat} {S T : List Int → Prop} (h : ∀ v, S v → v.length = len → Gens len T v) (h' : ∀ v, T v → v.length = len → Gens len S v) : Alikes len S T :=
  fun _ => ⟨fun hx => hx.trans h, fun hx => hx.trans h'⟩

theorem Alikes.trans {len : Nat} {S T U : List Int → Prop} (h : Alikes len S T) (h' : Alikes len T U) : Alikes len S U := fun x => (h x).trans (h' x)

theorem Alikes.symm {len : Nat} {S T : List Int → Prop} (h : Alikes len S T) : Alikes len T S := fun x => (h x).symm

/-- Lowering changes nothing. -/
theorem alikes_low {R : Nat → Option (List Int)} {len f : Nat} {zs : List Int} (hl : ∀ i r, R i = some r → r.length = len) (hz : zs.length = len) (k : Nat) : Alikes len (RowsOr R (lowN R f zs k)) (RowsOr R zs) := by
  refine .of (fun v hv hvl => ?_) (fun v hv hvl => ?_)
  · rcases hv with h | rfl
    · exact .base (.inl h) hvl
    · exact Gens.lowN (.base (.inr rfl) hz) (fun i r _ e => .base (.inl ⟨i, e⟩) (hl i r e)) k
  · rcases hv with h | rfl
    · exact .base (.inl h) hvl
    · exact Gens.unlowN hvl (fun i r _ e => .base (.inl ⟨i, e⟩) (hl i r e)) k (.base (.inr rfl) (lowN_len' R f _ hvl (fun i r _ e => hl i r e) k))

/-- One row in the place of another one. -/
def putRow (R : Nat → Option (List Int)) (k : Nat) (r : List Int) : Nat → Option (List Int) := fun i => if i = k then some r else R i

/-- Folding changes nothing. -/
theorem alikes_fold {R : Nat → Option (List Int)} {len k : Nat} {us vs : List Int} (hk : R k = some us) (hl : us.length = len) (hz : vs.length = len) {p q g x y s t : Int} (hg : 0 < g) (h1 : g = x * p + y * q) (h2 : p = s * g) (h3 : q = t * g) :
    Alikes len (RowsOr (putRow R k (List.zipWith (fun a b => x * a + y * b) us vs)) (List.zipWith (fun b a => s * b + -t * a) vs us)) (RowsOr R vs) := by
  have hlv : us.length = vs.length := hl.trans hz.symm
  have l1 := (zip_len (fun a b => x * a + y * b) us vs hlv).trans hl
  have l2 := (zip_len (fun b a => s * b + -t * a) vs us hlv.symm).trans hz
  obtain ⟨b1, b2⟩ := fold_back hlv hg h1 h2 h3
  refine .of (fun v hv hvl => ?_) (fun v hv hvl => ?_)
  · have gu : Gens len (RowsOr R vs) us := .base (.inl ⟨k, hk⟩) hl
    have gv : Gens len (RowsOr R vs) vs := .base (.inr rfl) hz
    rcases hv with ⟨i, e⟩ | rfl
    · unfold putRow at e
      by_cases hi : i = k
      · rw [if_pos hi] at e
        obtain rfl := Option.some.inj e
        exact .comb x y gu gv
      · rw [if_neg hi] at e
        exact .base (.inl ⟨i, e⟩) hvl
    · exact .comb s (-t) gv gu
  · have ga := Gens.base (len := len) (S := RowsOr (putRow R k (List.zipWith (fun a b => x * a + y * b) us vs)) (List.zipWith (fun b a => s * b + -t * a) vs us)) (.inl ⟨k, if_pos rfl⟩) l1
    have gb := Gens.base (len := len) (S := RowsOr (putRow R k (List.zipWith (fun a b => x * a + y * b) us vs)) (List.zipWith (fun b a => s * b + -t * a) vs us)) (.inr rfl) l2
    rcases hv with ⟨i, e⟩ | rfl
    · by_cases hi : i = k
      · rw [hi, hk] at e
        obtain rfl := Option.some.inj e
        have := Gens.comb s (-y) ga gb
        rwa [b1] at this
      · exact .base (.inl ⟨i, (if_neg hi).trans e⟩) hvl
    · have := Gens.comb t x ga gb
      rwa [b2] at this

theorem map_one {zs : List Int} {z : Int} : zs.map (z * ·) = List.zipWith (fun a b => z * a + 0 * b) zs zs := by
  induction zs with
  | nil => rfl
  | cons a zs ih => rw [List.map_cons, List.zipWith_cons_cons, ← ih, Int.zero_mul, Int.add_zero]

/-- The vector becomes a row itself, upright. -/
theorem alikes_new {R : Nat → Option (List Int)} {len k : Nat} {zs : List Int} (hk : R k = none) (hz : zs.length = len) {z : Int} (h1 : z = 1 ∨ z = -1) : Alikes len (RowsOf (putRow R k (zs.map (z * ·)))) (RowsOr R zs) := by
  refine .of (fun v hv hvl => ?_) (fun v hv hvl => ?_)
  · obtain ⟨i, e⟩ := hv
    unfold putRow at e
    by_cases hi : i = k
    · rw [if_pos hi] at e
      obtain rfl := Option.some.inj e
      rw [map_one]
      exact .comb z 0 (.base (.inr rfl) hz) (.base (.inr rfl) hz)
    · rw [if_neg hi] at e
      exact .base (.inl ⟨i, e⟩) hvl
  · rcases hv with ⟨i, e⟩ | rfl
    · have hi : i ≠ k := fun h => by rw [h, hk] at e; cases e
      exact .base ⟨i, (if_neg hi).trans e⟩ hvl
    · have g : Gens len (RowsOf (putRow R k (v.map (z * ·)))) (v.map (z * ·)) := .base ⟨k, if_pos rfl⟩ (by simpa using hz)
      have := Gens.comb z 0 g g
      rw [← map_one, List.map_map] at this
      have e : (fun a : Int => z * a) ∘ (fun a => z * a) = id := by
        funext a
        rcases h1 with rfl | rfl <;> simp
      have e' : v.map ((fun x => z * x) ∘ fun x => z * x) = v := by rw [e]; simp
      rwa [e'] at this

/-- What is nought goes. -/
theorem alikes_end {R : Nat → Option (List Int)} {len : Nat} {zs : List Int} (hz : zs.length = len) (h0 : ∀ j, j < len → zs.getD j 0 = 0) : Alikes len (RowsOf R) (RowsOr R zs) := by
  refine .of (fun v hv hvl => .base (.inl hv) hvl) (fun v hv hvl => ?_)
  rcases hv with h | rfl
  · exact .base h hvl
  · have e : v = List.replicate len 0 := list_ext (by simpa using hz) (fun k hk => by
      rw [h0 k (by omega), List.getD_eq_getElem?_getD, List.getElem?_replicate]
      split <;> rfl)
    rw [e]
    exact .zero

/-- Tidying changes nothing. -/
theorem alikes_tidyAt {rows : Nat → Option (List Int)} {len m a : Nat} (h : Ech rows len m) : Alikes len (RowsOf (tidyAt rows m a)) (RowsOf rows) := by
  cases hr : rows a with
  | none =>
    have e : tidyAt rows m a = rows := by
      funext i
      unfold tidyAt
      by_cases hi : i = a
      · rw [if_pos hi, hi, hr]; rfl
      · rw [if_neg hi]
    rw [e]
    exact fun _ => Iff.rfl
  | some r =>
    have hl := h.len _ _ hr
    have key : ∀ i, tidyAt rows m a i = if i = a then some (lowN rows (a + 1) r (m - (a + 1))) else rows i := fun i => by unfold tidyAt; rw [hr]; rfl
    refine .of (fun v hv hvl => ?_) (fun v hv hvl => ?_)
    · obtain ⟨i, e⟩ := hv
      rw [key] at e
      by_cases hi : i = a
      · rw [if_pos hi] at e
        obtain rfl := Option.some.inj e
        exact Gens.lowN (.base ⟨a, hr⟩ hl) (fun i r _ e => .base ⟨i, e⟩ (h.len i r e)) _
      · rw [if_neg hi] at e
        exact .base ⟨i, e⟩ hvl
    · obtain ⟨i, e⟩ := hv
      by_cases hi : i = a
      · rw [hi, hr] at e
        obtain rfl := Option.some.inj e
        refine Gens.unlowN (rows := rows) (f := a + 1) hvl (fun i' r' hi' e' => .base ⟨i', ?_⟩ (h.len i' r' e')) (m - (a + 1)) (.base ⟨a, ?_⟩ (lowN_len' rows (a + 1) r hl (fun i r _ e => h.len i r e) _))
        · rw [key, if_neg (by omega)]; exact e'
        · rw [key, if_pos rfl]
      · exact .base ⟨i, by rw [key, if_neg hi]; exact e⟩ hvl

theorem alikes_tidy {rows : Nat → Option (List Int)} {len m : Nat} (h : Ech rows len m) (hm : m ≤ len) (k : Nat) : Alikes len (RowsOf (tidyN rows m k)) (RowsOf rows) := by
  induction k with
  | zero => exact fun _ => Iff.rfl
  | succ k ih => exact (alikes_tidyAt (h.all hm k)).trans ih

end Go.Proofs.YtdedolkgcdlmeaaGreatDoor
