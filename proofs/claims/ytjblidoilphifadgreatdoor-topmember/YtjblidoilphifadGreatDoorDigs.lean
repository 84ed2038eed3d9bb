/- A vector in a lattice; a lattice in another one. -/
import Derived.Test.YtjblidoilphifadGreatDoorLatR
import Derived.Test.YtjblidoilphifadGreatDoorLatQ
import Derived.Test.YtjblidoilphifadGreatDoorTrim

namespace Go.Proofs.YtjblidoilphifadGreatDoor
open Go.RowKit Limbs

/-- What Member answers. -/
def MemberPost (w : World) (n nv nx : Nat) (hs : List (List Int)) (p : Nat → Nat) (zs : List Int) (e : Ending) (w' : World) : Prop :=
  Below w.heap.size w w' ∧ ((Gens n (InL hs) zs ∧ ∃ P, e = .returned (.tuple #[.slice (some ⟨P, 0, none⟩) hs.length hs.length, .bool true, .nilIface]) ∧ VecO w w' P (muchL hs p zs) (nx + hs.length * (nv + 2) + 1)) ∨
    (¬ Gens n (InL hs) zs ∧ e = .returned (.tuple #[.slice none 0 0, .bool false, .nilIface])))

set_option maxRecDepth 100000 in
set_option maxHeartbeats 1600000 in
theorem member_ok (w : World) (v x : Value) (n nv nx : Nat) (hs : List (List Int)) (p : Nat → Nat) (zs : List Int) (hv : ∃ u, v = .agg #[.int .i64 (n : Int), u] ∧ MatN w u hs nv) (hF : FormL n hs p) (hx : VecN w x zs nx) (hz : zs.length = n) (h1 : 1 ≤ n) (h4 : n ≤ 4) (hN : nx + n * (nv + 2) ≤ 90000) :
    Calls Tryz.prog 21 #[v, x] w fun e w' => MemberPost w n nv nx hs p zs e w' := by
  have HV := hide hv; have HX := hide hx; have HF := hide hF
  have HG := hide (lat_gens hF.len hz)
  obtain ⟨u, rfl, hu⟩ := hv
  obtain ⟨uo, ucap, rfl, -, -⟩ := hu
  clear hx hF
  have HB0 := hide ((Below.refl w.heap.size w).alloc (Nat.le_refl _) (.cells #[.int .i64 (n : Int), .slice uo hs.length ucap] 25))
  have HC := hide (box_new w (.int .i64 (n : Int)) (.slice uo hs.length ucap) 25 _ rfl)
  have HSZ : Hid (w.heap.size < (w.alloc (.cells #[.int .i64 (n : Int), .slice uo hs.length ucap] 25)).heap.size) := by show _ < _; simp
  obtain ⟨c0, c1, z0, z1⟩ := HC.out
  go_enter Tryz.func21, Tryz.ntmps21
  go_wp2_with fail
  clear c0 c1 z0 z1
  generalize w.alloc (.cells #[.int .i64 (n : Int), .slice uo hs.length ucap] 25) = W0 at *
  refine (checkWith_ok W0 _ _ n nv nx hs zs (by obtain ⟨u, e, h⟩ := HV.out; exact ⟨⟨u, e, h.below HB0.out (Nat.le_refl _)⟩, _, HF.out⟩) (by exact HX.out.below HB0.out (Nat.le_refl _)) hz h1 h4).mono ?_
  rintro e w1 ⟨rfl, hb1⟩
  have HB1 := hide (HB0.out.trans (hb1.mono HB0.out.size))
  obtain ⟨c0, c1, z0, z1⟩ := HC.out.later hb1 HSZ.out
  clear hb1 HC HSZ HB0
  go_wp2_with fail
  refine (shares_any w1 _ _ n nv nx hs p zs (by obtain ⟨u, e, h⟩ := HV.out; exact ⟨u, e, h.below HB1.out (Nat.le_refl _)⟩) HF.out (by exact HX.out.below HB1.out (Nat.le_refl _)) hz h1 h4 hN).mono ?_
  rintro e w2 ⟨hb2, hcase⟩
  have HB2 := hide (HB1.out.trans (hb2.mono HB1.out.size))
  clear hb2 c0 c1 z0 z1
  rcases hcase with ⟨hl, P, rfl, ho⟩ | ⟨hl, rfl⟩
  · have HL := hide (HG.out.1 hl); have HO := hide (ho.since HB1.out)
    clear hl ho
    go_wp2
    exact bodyPost_ret (v := .tuple #[.slice (some ⟨P, 0, none⟩) hs.length hs.length, .bool true, .nilIface]) (by simp [results, Tryz.results21, go_sem]) rfl ⟨HB2.out, .inl ⟨HL.out, _, rfl, HO.out⟩⟩
  · have HL := hide (fun h => hl (HG.out.2 h))
    clear hl
    go_wp2
    exact bodyPost_ret (v := .tuple #[.slice none 0 0, .bool false, .nilIface]) (by simp [results, Tryz.results21, go_sem]) rfl ⟨HB2.out, .inr ⟨HL.out, rfl⟩⟩

/-- While the rows of one are asked of the other. -/
structure AllI (w W : World) (n : Nat) (u v : Value) (m : Nat) (rows : List (List Int)) (k N : Nat) : Prop where
  low : Below w.heap.size w W
  lt : w.heap.size + 2 < W.heap.size
  blk : ∃ cs t, W.heap[w.heap.size + 2]? = some (.cells cs t)
  box : Box W w.heap.size (.int .i64 (n : Int)) u
  box2 : Box W (w.heap.size + 1) (.int .i64 (n : Int)) v
  nil : ∀ i, k ≤ i → i < m → W.cell? ⟨w.heap.size + 2, i, none⟩ = some (.slice none 0 0)
  row : ∀ i, i < k → ∃ Q, W.cell? ⟨w.heap.size + 2, i, none⟩ = some (.slice (some ⟨Q, 0, none⟩) (rows.getD i []).length (rows.getD i []).length) ∧ VecN W (.slice (some ⟨Q, 0, none⟩) (rows.getD i []).length (rows.getD i []).length) (rows.getD i []) N ∧ Q < W.heap.size ∧ Q ≠ w.heap.size + 2

theorem AllI.start {w W0 : World} (hsz : W0.heap.size = w.heap.size + 2) (hb : Below w.heap.size w W0) {n : Nat} {u v : Value} (hx : Box W0 w.heap.size (.int .i64 (n : Int)) u) (hy : Box W0 (w.heap.size + 1) (.int .i64 (n : Int)) v) (m : Nat) (rows : List (List Int)) (N : Nat) : AllI w (W0.alloc (.cells (madeCells #[.slice none 0 0] m) 27)) n u v m rows 0 N := by
  have hbb := (Below.refl W0.heap.size W0).alloc (Nat.le_refl _) (.cells (madeCells #[.slice none 0 0] m) 27)
  refine ⟨hb.alloc hb.size _, by simp; omega, ⟨_, _, by have := heap_alloc_new W0 (.cells (madeCells #[.slice none 0 0] m) 27); rw [hsz] at this; exact this⟩, hx.later hbb (by omega), hy.later hbb (by omega), fun i _ hi => ?_, fun i hi => absurd hi (by omega)⟩
  rw [← hsz, World.cell?_alloc_new]
  exact made_one m i hi

theorem AllI.later {w W W' : World} {n : Nat} {u v : Value} {m : Nat} {rows : List (List Int)} {k N : Nat} (h : AllI w W n u v m rows k N) (hb : Below W.heap.size W W') : AllI w W' n u v m rows k N where
  low := h.low.trans (hb.mono h.low.size)
  lt := Nat.lt_of_lt_of_le h.lt hb.size
  blk := by obtain ⟨cs, t, e⟩ := h.blk; exact ⟨cs, t, (hb.block _ (heap_lt e)).trans e⟩
  box := h.box.later hb (by have := h.lt; omega)
  box2 := h.box2.later hb (by have := h.lt; omega)
  nil := fun i h1 h2 => (hb.cell (p := ⟨w.heap.size + 2, i, none⟩) h.lt).trans (h.nil i h1 h2)
  row := fun i hi => by
    obtain ⟨Q, e, hv, hq, hne⟩ := h.row i hi
    exact ⟨Q, (hb.cell (p := ⟨w.heap.size + 2, i, none⟩) h.lt).trans e, hv.below hb (Nat.le_refl _), Nat.lt_of_lt_of_le hq hb.size, hne⟩

theorem AllI.thaw {w W : World} {n : Nat} {u v : Value} {m : Nat} {rows : List (List Int)} {k N : Nat} (h : AllI w W n u v m rows k N) (i : Nat) : W.frozen? ⟨w.heap.size + 2, i, none⟩ = false := by
  obtain ⟨cs, t, e⟩ := h.blk
  simp [World.frozen?, e]

theorem AllI.step {w W : World} {n : Nat} {u v : Value} {m : Nat} {rows : List (List Int)} {k N : Nat} (h : AllI w W n u v m rows k N) (hk : k < m) {Q : Nat} (hv : VecN W (.slice (some ⟨Q, 0, none⟩) (rows.getD k []).length (rows.getD k []).length) (rows.getD k []) N) (hq : Q < W.heap.size) (hne : Q ≠ w.heap.size + 2) :
    AllI w (W.setCell ⟨w.heap.size + 2, k, none⟩ (.slice (some ⟨Q, 0, none⟩) (rows.getD k []).length (rows.getD k []).length)) n u v m rows (k + 1) N := by
  have hnil := h.nil k (Nat.le_refl _) hk
  have hu : ∀ z, (Value.slice none 0 0) ≠ .int .u32 z := fun z e => by cases e
  refine ⟨h.low.setCell (by simp) _, by simpa using h.lt, ?_, h.box.other (by omega) _ _, h.box2.other (by omega) _ _, fun i h1 h2 => ?_, fun i hi => ?_⟩
  · obtain ⟨cs, t, e⟩ := h.blk
    exact ⟨_, t, heap_setCell_same W (w.heap.size + 2) k _ _ _ e⟩
  · exact (World.cell?_setCell_other (h := fun e => by simp at e <;> omega) ..).trans (h.nil i (by omega) h2)
  · by_cases e : i = k
    · subst e
      exact ⟨Q, World.cell?_setCell_same (h := hnil) .., hv.other hne hnil hu, by simpa using hq, hne⟩
    · obtain ⟨Q', e', hv', hq', hne'⟩ := h.row i (by omega)
      exact ⟨Q', (World.cell?_setCell_other (h := fun e => by simp at e <;> omega) ..).trans e', hv'.other hne' hnil hu, by simpa using hq', hne'⟩

theorem AllI.mat {w W : World} {n : Nat} {u v : Value} {m : Nat} {rows : List (List Int)} {N : Nat} (h : AllI w W n u v m rows m N) (hm : rows.length = m) : MatN W (.slice (some ⟨w.heap.size + 2, 0, none⟩) m m) rows N := by
  subst hm
  refine ⟨_, _, rfl, Nat.le_refl _, fun h0 => ⟨_, _, rfl, h.lt, fun i zs hi => ?_⟩⟩
  obtain ⟨hi', e⟩ := List.getElem?_eq_some_iff.1 hi
  obtain ⟨Q, e1, hv, -, -⟩ := h.row i hi'
  rw [getD_row hi', e] at e1 hv
  exact ⟨_, by rw [Nat.zero_add]; exact e1, hv⟩

/-- What allShares answers. -/
def AllPost (w : World) (n nv mv : Nat) (hs ks : List (List Int)) (p : Nat → Nat) (e : Ending) (w' : World) : Prop :=
  Below w.heap.size w w' ∧ (((∀ us ∈ hs, Gens n (InL ks) us) ∧ ∃ m, e = .returned (.tuple #[m, .bool true]) ∧ MatN w' m (hs.map (muchL ks p)) (nv + ks.length * (mv + 2) + 1)) ∨
    ((¬ ∀ us ∈ hs, Gens n (InL ks) us) ∧ e = .returned (.tuple #[.slice none 0 0, .bool false])))

end Go.Proofs.YtjblidoilphifadGreatDoor

/- Plain arithmetic of the reference's digits: numbers to the base 10000, the lowest first. No Go in it. -/
namespace Go.Proofs.YtjblidoilphifadGreatDoor.Digs
open Limbs

def dv : List Int → Int
  | [] => 0
  | x :: xs => x + 10000 * dv xs

def DB (zs : List Int) : Prop := ∀ i : Nat, 0 ≤ zs.getD i 0 ∧ zs.getD i 0 < 10000

/-- a power of the base -/
def dp : Nat → Int
  | 0 => 1
  | n + 1 => 10000 * dp n

theorem dp_pos (n : Nat) : 0 < dp n := by
  induction n with
  | zero => simp [dp]
  | succ n ih => simp only [dp]; omega

theorem dp_add (m n : Nat) : dp (m + n) = dp m * dp n := by
  induction m with
  | zero => simp [dp]
  | succ m ih => rw [Nat.succ_add]; simp only [dp]; rw [ih, Int.mul_assoc]

theorem dp_mono {m n : Nat} (h : m ≤ n) : dp m ≤ dp n := by
  obtain ⟨k, rfl⟩ := Nat.exists_eq_add_of_le h
  rw [dp_add]
  have h1 := dp_pos m
  have h2 := dp_pos k
  have : dp m * 1 ≤ dp m * dp k := Int.mul_le_mul_of_nonneg_left (by omega) (by omega)
  omega

theorem DB_nil : DB [] := by intro i; simp
theorem DB_tail {x : Int} {xs : List Int} (h : DB (x :: xs)) : DB xs := fun i => by simpa using h (i + 1)
theorem DB_head {x : Int} {xs : List Int} (h : DB (x :: xs)) : 0 ≤ x ∧ x < 10000 := by simpa using h 0
theorem DB_cons {x : Int} {xs : List Int} (hx : 0 ≤ x ∧ x < 10000) (h : DB xs) : DB (x :: xs) := by
  intro i
  cases i with
  | zero => simpa using hx
  | succ i => simpa using h i

theorem DB_mem {zs : List Int} (h : ∀ z ∈ zs, 0 ≤ z ∧ z < 10000) : DB zs := by
  induction zs with
  | nil => exact DB_nil
  | cons x xs ih => exact DB_cons (h x (by simp)) (ih fun z hz => h z (by simp [hz]))

theorem DB_take {zs : List Int} (h : DB zs) (k : Nat) : DB (zs.take k) := by
  intro i
  have := h i
  by_cases hk : i < k
  · simpa [List.getD_eq_getElem?_getD, List.getElem?_take, hk] using this
  · simp [List.getD_eq_getElem?_getD, List.getElem?_take, hk]

theorem dv_nonneg {zs : List Int} (h : DB zs) : 0 ≤ dv zs := by
  induction zs with
  | nil => simp [dv]
  | cons x xs ih => have := ih (DB_tail h); have := DB_head h; simp only [dv]; omega

theorem dv_lt {zs : List Int} (h : DB zs) : dv zs < dp zs.length := by
  induction zs with
  | nil => simp [dv, dp]
  | cons x xs ih => have := ih (DB_tail h); have := DB_head h; simp only [dv, List.length_cons, dp]; omega

theorem dv_append (xs ys : List Int) : dv (xs ++ ys) = dv xs + dp xs.length * dv ys := by
  induction xs with
  | nil => simp [dv, dp]
  | cons x xs ih => simp only [List.cons_append, dv, ih, List.length_cons, dp]; rw [Int.mul_add, Int.mul_assoc]; omega

theorem dv_take_succ (zs : List Int) (k : Nat) : dv (zs.take (k + 1)) = dv (zs.take k) + dp k * zs.getD k 0 := by
  by_cases h : k < zs.length
  · rw [List.take_succ_eq_append_getElem h, dv_append]
    simp [dv, List.length_take, Nat.min_eq_left (Nat.le_of_lt h), List.getD_eq_getElem?_getD, h]
  · rw [List.take_of_length_le (by omega), List.take_of_length_le (by omega)]
    simp [List.getD_eq_getElem?_getD, List.getElem?_eq_none (Nat.le_of_not_lt h)]

theorem dv_split (zs : List Int) (k : Nat) (h : k ≤ zs.length) : dv zs = dv (zs.take k) + dp k * dv (zs.drop k) := by
  have := dv_append (zs.take k) (zs.drop k)
  rw [List.take_append_drop, List.length_take, Nat.min_eq_left h] at this
  exact this

theorem dv_take_ge (zs : List Int) {k : Nat} (h : zs.length ≤ k) : dv (zs.take k) = dv zs := by
  rw [List.take_of_length_le h]

theorem dv_take_lt {zs : List Int} (h : DB zs) (k : Nat) : dv (zs.take k) < dp k := by
  have h1 := dv_lt (DB_take h k)
  have h2 : dp (zs.take k).length ≤ dp k := dp_mono (List.length_take_le k zs)
  omega

theorem dv_take_nonneg {zs : List Int} (h : DB zs) (k : Nat) : 0 ≤ dv (zs.take k) := dv_nonneg (DB_take h k)

/-- Numbers of as many limbs, alike from a place on, there another: that place tells. -/
theorem dv_lt_of_place {a b : List Int} (ha : DB a) (hb : DB b) (hl : a.length = b.length) {k : Nat} (hk : k < a.length) (hd : a.drop (k + 1) = b.drop (k + 1)) (hx : a.getD k 0 < b.getD k 0) : dv a < dv b := by
  have e1 := dv_split a k (by omega)
  have e2 := dv_split b k (by omega)
  rw [drop_cons_getD a k hk] at e1
  rw [drop_cons_getD b k (by omega), ← hd] at e2
  simp only [dv] at e1 e2
  have h1 := dv_take_lt ha k
  have h2 := dv_take_nonneg hb k
  generalize dv (a.drop (k + 1)) = t at e1 e2
  have hp := dp_pos k
  have h3 : dp k * (a.getD k 0 + 10000 * t + 1) ≤ dp k * (b.getD k 0 + 10000 * t) := Int.mul_le_mul_of_nonneg_left (by omega) (by omega)
  rw [Int.mul_add, Int.mul_one] at h3
  omega

theorem nrm_low10 {zs : List Int} (h : DB zs) (hn : Nrm zs) (h0 : 0 < zs.length) : dp (zs.length - 1) ≤ dv zs := by
  have e := dv_split zs (zs.length - 1) (by omega)
  rw [drop_cons_getD zs (zs.length - 1) (by omega)] at e
  have hd : zs.drop (zs.length - 1 + 1) = [] := List.drop_eq_nil_of_le (by omega)
  rw [hd] at e
  simp only [dv] at e
  have h1 := dv_take_nonneg h (zs.length - 1)
  have h2 := h (zs.length - 1)
  have h3 : zs.getD (zs.length - 1) 0 ≠ 0 := by rcases hn with hn | hn; omega; exact hn
  have hp := dp_pos (zs.length - 1)
  have h4 : dp (zs.length - 1) * 1 ≤ dp (zs.length - 1) * (zs.getD (zs.length - 1) 0 + 10000 * 0) := Int.mul_le_mul_of_nonneg_left (by omega) (by omega)
  omega

theorem dv_lt_of_length {a b : List Int} (ha : DB a) (hb : DB b) (hn : Nrm b) (hl : a.length < b.length) : dv a < dv b := by
  have h1 := dv_lt ha
  have h2 := nrm_low10 hb hn (by omega)
  have h3 : dp a.length ≤ dp (b.length - 1) := dp_mono (by omega)
  omega

theorem dv_zero_iff {zs : List Int} (h : DB zs) (hn : Nrm zs) : dv zs = 0 ↔ zs.length = 0 := by
  constructor
  · intro h0
    by_cases hl : zs.length = 0
    · exact hl
    · have h1 := nrm_low10 h hn (by omega)
      have := dp_pos (zs.length - 1)
      omega
  · intro hl
    rw [List.eq_nil_of_length_eq_zero hl]; rfl

/-- how long: a bound on the number is one on its limbs -/
theorem len10_le_of_lt {zs : List Int} (h : DB zs) (hn : Nrm zs) {n : Nat} (hlt : dv zs < dp n) : zs.length ≤ n := by
  by_cases hl : zs.length ≤ n
  · exact hl
  · have h1 := nrm_low10 h hn (by omega)
    have h2 : dp n ≤ dp (zs.length - 1) := dp_mono (by omega)
    omega

theorem DB_set {zs : List Int} (h : DB zs) (k : Nat) {z : Int} (hz : 0 ≤ z ∧ z < 10000) : DB (zs.set k z) := by
  intro i
  rw [List.getD_eq_getElem?_getD, List.getElem?_set]
  by_cases hk : k = i
  · subst hk
    by_cases hl : k < zs.length <;> simp [hl, hz]
  · have := h i
    simpa [hk, List.getD_eq_getElem?_getD] using this

theorem dv_set (zs : List Int) (k : Nat) (z : Int) (h : k < zs.length) : dv (zs.set k z) = dv zs + dp k * (z - zs.getD k 0) := by
  induction zs generalizing k with
  | nil => simp at h
  | cons x xs ih =>
    cases k with
    | zero => simp [dv, dp]; omega
    | succ k =>
      have := ih k (by simpa using h)
      simp only [List.set_cons_succ, dv, this, dp, List.getD_cons_succ]
      rw [Int.mul_add, Int.mul_assoc]; omega

theorem dv_replicate (n : Nat) : dv (List.replicate n 0) = 0 := by
  induction n with
  | zero => rfl
  | succ n ih => simp only [List.replicate_succ, dv, ih]; rfl

theorem DB_replicate (n : Nat) : DB (List.replicate n 0) := DB_mem fun z hz => by
  rw [List.eq_of_mem_replicate hz]; decide

end Go.Proofs.YtjblidoilphifadGreatDoor.Digs
