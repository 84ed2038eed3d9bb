/- What two lattices have in common, by rows twice as wide. -/
import Derived.Test.YtajcdhaaldhlaaaGreatDoorTurnL
import Derived.Test.YtajcdhaaldhlaaaGreatDoorIns
import Derived.Test.YtajcdhaaldhlaaaGreatDoorMats

namespace Go.Proofs.YtajcdhaaldhlaaaGreatDoor
open Go.RowKit Limbs

def wideL (n : Nat) (hs ks : List (List Int)) : List (List Int) := hs.map (fun r => r ++ r) ++ ks.map (fun r => r ++ List.replicate n 0)

theorem getD_left (u v : List Int) (j : Nat) (hj : j < u.length) : (u ++ v).getD j 0 = u.getD j 0 := by
 rw [List.getD_eq_getElem?_getD, List.getD_eq_getElem?_getD, List.getElem?_append_left hj]

theorem getD_right (u v : List Int) (j : Nat) : (u ++ v).getD (u.length + j) 0 = v.getD j 0 := by
 rw [List.getD_eq_getElem?_getD, List.getD_eq_getElem?_getD, List.getElem?_append_right (by omega), Nat.add_sub_cancel_left]

theorem getD_zeros (n j : Nat) : (List.replicate n (0 : Int)).getD j 0 = 0 := by
 rw [List.getD_eq_getElem?_getD, List.getElem?_replicate]
 split <;> rfl

theorem comb_app (x y : Int) (a b c d : List Int) (h : a.length = c.length) : List.zipWith (fun u v => x * u + y * v) (a ++ b) (c ++ d) = List.zipWith (fun u v => x * u + y * v) a c ++ List.zipWith (fun u v => x * u + y * v) b d := List.zipWith_append h

theorem comb_zeros (x y : Int) (n : Nat) : List.zipWith (fun u v => x * u + y * v) (List.replicate n (0 : Int)) (List.replicate n 0) = List.replicate n 0 := by
 apply list_ext (by simp)
 intro k hk
 have hk' : k < n := by simpa using hk
 rw [zip_getD _ _ _ (by simp) k (by simpa using hk'), getD_zeros]
 simp

theorem wide_twice {n : Nat} {hs ks : List (List Int)} {v : List Int} (h : Gens n (InL hs) v) : Gens (n + n) (InL (wideL n hs ks)) (v ++ v) := by
 induction h with
 | base hv hl => exact .base (List.mem_append.2 (.inl (List.mem_map.2 ⟨_, hv, rfl⟩))) (by rw [List.length_append, hl])
 | zero =>
  rw [List.replicate_append_replicate]
  exact .zero
 | comb x y hu hv h1 h2 =>
  rw [← comb_app x y _ _ _ _ (hu.len.trans hv.len.symm)]
  exact .comb x y h1 h2

theorem wide_once {n : Nat} {hs ks : List (List Int)} {v : List Int} (h : Gens n (InL ks) v) : Gens (n + n) (InL (wideL n hs ks)) (v ++ List.replicate n 0) := by
 induction h with
 | base hv hl => exact .base (List.mem_append.2 (.inr (List.mem_map.2 ⟨_, hv, rfl⟩))) (by rw [List.length_append, hl, List.length_replicate])
 | zero =>
  rw [List.replicate_append_replicate]
  exact .zero
 | comb x y hu hv h1 h2 =>
  have := Gens.comb x y h1 h2
  rw [comb_app x y _ _ _ _ (hu.len.trans hv.len.symm), comb_zeros] at this
  exact this

theorem wide_parts {n : Nat} {hs ks : List (List Int)} (hl : ∀ r ∈ hs, r.length = n) (kl : ∀ r ∈ ks, r.length = n) {z : List Int} (h : Gens (n + n) (InL (wideL n hs ks)) z) : ∃ u v, z = u ++ v ∧ u.length = n ∧ v.length = n ∧ Gens n (InL hs) v ∧ Gens n (InL ks) (List.zipWith (fun a b => 1 * a + -1 * b) u v) := by
 induction h with
 | base hv _ =>
  rcases List.mem_append.1 hv with h | h
  ·obtain ⟨r, hr, rfl⟩ := List.mem_map.1 h
   have hrl := hl r hr
   refine ⟨r, r, rfl, hrl, hrl, .base hr hrl, ?_⟩
   have e : List.zipWith (fun a b => 1 * a + -1 * b) r r = List.replicate n 0 := by
    apply list_ext (by rw [zip_len _ _ _ rfl]; simp [hrl])
    intro k hk
    rw [zip_len _ _ _ rfl] at hk
    rw [zip_getD _ _ _ rfl k hk, getD_zeros]
    omega
   rw [e]
   exact .zero
  ·obtain ⟨r, hr, rfl⟩ := List.mem_map.1 h
   have hrl := kl r hr
   refine ⟨r, List.replicate n 0, rfl, hrl, by simp, .zero, ?_⟩
   have e : List.zipWith (fun a b => 1 * a + -1 * b) r (List.replicate n 0) = r := by
    apply list_ext (by rw [zip_len _ _ _ (by simp [hrl])])
    intro k hk
    rw [zip_len _ _ _ (by simp [hrl])] at hk
    rw [zip_getD _ _ _ (by simp [hrl]) k hk, getD_zeros]
    omega
   rw [e]
   exact .base hr hrl
 | zero => exact ⟨List.replicate n 0, List.replicate n 0, List.replicate_append_replicate.symm, by simp, by simp, .zero, by rw [comb_zeros]; exact .zero⟩
 | comb x y _ _ h1 h2 =>
  obtain ⟨u, v, rfl, hu, hv, g1, g2⟩ := h1
  obtain ⟨u', v', rfl, hu', hv', g1', g2'⟩ := h2
  refine ⟨_, _, comb_app x y u v u' v' (hu.trans hu'.symm), by rw [zip_len _ _ _ (hu.trans hu'.symm), hu], by rw [zip_len _ _ _ (hv.trans hv'.symm), hv], .comb x y g1 g1', ?_⟩
  have e : List.zipWith (fun a b => 1 * a + -1 * b) (List.zipWith (fun a b => x * a + y * b) u u') (List.zipWith (fun a b => x * a + y * b) v v') = List.zipWith (fun a b => x * a + y * b) (List.zipWith (fun a b => 1 * a + -1 * b) u v) (List.zipWith (fun a b => 1 * a + -1 * b) u' v') := by
   have l1 := zip_len (fun a b => x * a + y * b) u u' (hu.trans hu'.symm)
   have l2 := zip_len (fun a b => x * a + y * b) v v' (hv.trans hv'.symm)
   have l3 := zip_len (fun a b => 1 * a + -1 * b) u v (hu.trans hv.symm)
   have l4 := zip_len (fun a b => 1 * a + -1 * b) u' v' (hu'.trans hv'.symm)
   have m1 : (List.zipWith (fun a b => x * a + y * b) u u').length = (List.zipWith (fun a b => x * a + y * b) v v').length := by rw [l1, l2, hu, hv]
   have m2 : (List.zipWith (fun a b => 1 * a + -1 * b) u v).length = (List.zipWith (fun a b => 1 * a + -1 * b) u' v').length := by rw [l3, l4, hu, hu']
   have n1 := zip_len (fun a b => 1 * a + -1 * b) _ _ m1
   have n2 := zip_len (fun a b => x * a + y * b) _ _ m2
   apply list_ext (by rw [n1, n2, l1, l3])
   intro k hk
   rw [n1, l1, hu] at hk
   have z1 := zip_getD (fun a b => 1 * a + -1 * b) _ _ m1 k (by rw [l1, hu]; exact hk)
   have z2 := zip_getD (fun a b => x * a + y * b) _ _ m2 k (by rw [l3, hu]; exact hk)
   have z3 := zip_getD (fun a b => x * a + y * b) u u' (hu.trans hu'.symm) k (by omega)
   have z4 := zip_getD (fun a b => x * a + y * b) v v' (hv.trans hv'.symm) k (by omega)
   have z5 := zip_getD (fun a b => 1 * a + -1 * b) u v (hu.trans hv.symm) k (by omega)
   have z6 := zip_getD (fun a b => 1 * a + -1 * b) u' v' (hu'.trans hv'.symm) k (by omega)
   rw [z1, z2, z3, z4, z5, z6]
   simp only [Int.one_mul, Int.mul_add, Int.neg_mul, Int.mul_neg]
   omega
  rw [e]
  exact .comb x y g2 g2'

theorem meet_wide {n : Nat} {hs ks : List (List Int)} (hl : ∀ r ∈ hs, r.length = n) (kl : ∀ r ∈ ks, r.length = n) {v : List Int} (hv : v.length = n) : Gens (n + n) (InL (wideL n hs ks)) (List.replicate n 0 ++ v) ↔ Gens n (InL hs) v ∧ Gens n (InL ks) v := by
 constructor
 ·intro h
  obtain ⟨a, b, e, ha, hb, g1, g2⟩ := wide_parts hl kl h
  obtain ⟨rfl, rfl⟩ := List.append_inj e (by simp [ha])
  refine ⟨g1, ?_⟩
  have g := g2.scale (-1)
  have e : (List.zipWith (fun a b => 1 * a + -1 * b) (List.replicate n 0) v).map (-1 * ·) = v := by
   apply list_ext (by rw [List.length_map, zip_len _ _ _ (by simp [hv])]; simp [hv])
   intro k hk
   rw [List.length_map, zip_len _ _ _ (by simp [hv])] at hk
   rw [map_getD' _ _ _ (by rw [zip_len _ _ _ (by simp [hv])]; exact hk), zip_getD _ _ _ (by simp [hv]) k hk, getD_zeros]
   omega
  rwa [e] at g
 ·rintro ⟨g1, g2⟩
  have g := Gens.comb 1 (-1) (wide_twice (ks := ks) g1) (wide_once (hs := hs) g2)
  rw [comb_app 1 (-1) _ _ _ _ rfl] at g
  have e1 : List.zipWith (fun u v => 1 * u + -1 * v) v v = List.replicate n 0 := by
   apply list_ext (by rw [zip_len _ _ _ rfl]; simp [hv])
   intro k hk
   rw [zip_len _ _ _ rfl] at hk
   rw [zip_getD _ _ _ rfl k hk, getD_zeros]
   omega
  have e2 : List.zipWith (fun u v => 1 * u + -1 * v) v (List.replicate n 0) = v := by
   apply list_ext (by rw [zip_len _ _ _ (by simp [hv])])
   intro k hk
   rw [zip_len _ _ _ (by simp [hv])] at hk
   rw [zip_getD _ _ _ (by simp [hv]) k hk, getD_zeros]
   omega
  rwa [e1, e2] at g

end Go.Proofs.YtajcdhaaldhlaaaGreatDoor

/- Rows that are made one by one, in a list of one's own; rows twice as wide. -/
namespace Go.Proofs.YtajcdhaaldhlaaaGreatDoor
open Go.RowKit Limbs

structure RowsI (w W : World) (B : Nat) (m : Nat) (rows : List (List Int)) (k N : Nat) : Prop where
 low : Below w.heap.size w W
 high : w.heap.size ≤ B
 lt : B < W.heap.size
 blk : ∃ cs t, W.heap[B]? = some (.cells cs t)
 nil : ∀ i, k ≤ i → i < m → W.cell? ⟨B, i, none⟩ = some (.slice none 0 0)
 row : ∀ i, i < k → ∃ Q, W.cell? ⟨B, i, none⟩ = some (.slice (some ⟨Q, 0, none⟩) (rows.getD i []).length (rows.getD i []).length) ∧ VecN W (.slice (some ⟨Q, 0, none⟩) (rows.getD i []).length (rows.getD i []).length) (rows.getD i []) N ∧ Q < W.heap.size ∧ Q ≠ B

theorem one_made (m i : Nat) (hi : i < m) : (madeCells #[.slice none 0 0] m)[i]? = some (.slice none 0 0) := by
 simp [madeCells, hi, Nat.mod_one]

theorem RowsI.start {w W0 : World} (hb : Below w.heap.size w W0) (m : Nat) (rows : List (List Int)) (N : Nat) : RowsI w (W0.alloc (.cells (madeCells #[.slice none 0 0] m) 39)) W0.heap.size m rows 0 N := by
 refine ⟨hb.alloc hb.size _, hb.size, by simp, ⟨_, _, heap_alloc_new W0 _⟩, fun i _ hi => ?_, fun i hi => absurd hi (by omega)⟩
 rw [World.cell?_alloc_new]
 exact one_made m i hi

theorem RowsI.later {w W W' : World} {B m : Nat} {rows : List (List Int)} {k N : Nat} (h : RowsI w W B m rows k N) (hb : Below W.heap.size W W') : RowsI w W' B m rows k N where
 low := h.low.trans (hb.mono h.low.size)
 high := h.high
 lt := Nat.lt_of_lt_of_le h.lt hb.size
 blk := by obtain ⟨cs, t, e⟩ := h.blk; exact ⟨cs, t, (hb.block _ (heap_lt e)).trans e⟩
 nil := fun i h1 h2 => (hb.cell (p := ⟨B, i, none⟩) h.lt).trans (h.nil i h1 h2)
 row := fun i hi => by
  obtain ⟨Q, e, hv, hq, hne⟩ := h.row i hi
  exact ⟨Q, (hb.cell (p := ⟨B, i, none⟩) h.lt).trans e, hv.below hb (Nat.le_refl _), Nat.lt_of_lt_of_le hq hb.size, hne⟩

theorem RowsI.thaw {w W : World} {B m : Nat} {rows : List (List Int)} {k N : Nat} (h : RowsI w W B m rows k N) (i : Nat) : W.frozen? ⟨B, i, none⟩ = false := by
 obtain ⟨cs, t, e⟩ := h.blk
 simp [World.frozen?, e]

theorem RowsI.step {w W W' : World} {B m : Nat} {rows : List (List Int)} {k N : Nat} (h : RowsI w W B m rows k N) (hk : k < m) (hb : Below W.heap.size (W.setCell ⟨B, k, none⟩ (.slice (some ⟨W.heap.size, 0, none⟩) (rows.getD k []).length (rows.getD k []).length)) W')
  (hlt : W.heap.size < W'.heap.size) (hv : VecN W' (.slice (some ⟨W.heap.size, 0, none⟩) (rows.getD k []).length (rows.getD k []).length) (rows.getD k []) N) : RowsI w W' B m rows (k + 1) N := by
 have hnil := h.nil k (Nat.le_refl _) hk
 have hu : ∀ z, (Value.slice none 0 0) ≠ .int .u32 z := fun z e => by cases e
 have hlb := h.lt
 refine ⟨(h.low.setCell (p := ⟨B, k, none⟩) h.high _).trans (hb.mono h.low.size), h.high, by omega, ?_, fun i h1 h2 => ?_, fun i hi => ?_⟩
 ·obtain ⟨cs, t, e⟩ := h.blk
  exact ⟨_, t, (hb.block B hlb).trans (heap_setCell_same W B k _ _ _ e)⟩
 ·exact (hb.cell (p := ⟨B, i, none⟩) hlb).trans ((World.cell?_setCell_other (h := fun e => by simp at e <;> omega) ..).trans (h.nil i (by omega) h2))
 ·by_cases e : i = k
  ·subst e
   exact ⟨_, (hb.cell (p := ⟨B, i, none⟩) hlb).trans (World.cell?_setCell_same (h := hnil) ..), hv, hlt, by omega⟩
  ·obtain ⟨Q', e', hv', hq', hne'⟩ := h.row i (by omega)
   have hv2 := hv'.other (x := .slice (some ⟨W.heap.size, 0, none⟩) (rows.getD k []).length (rows.getD k []).length) hne' hnil hu
   exact ⟨Q', (hb.cell (p := ⟨B, i, none⟩) hlb).trans ((World.cell?_setCell_other (h := fun e => by simp at e <;> omega) ..).trans e'), hv2.below hb (by simp), by omega, hne'⟩

theorem RowsI.step_at {w W W' : World} {B m : Nat} {rows : List (List Int)} {k N L : Nat} {r : List Int} (h : RowsI w W B m rows k N) (hk : k < m) (hr : rows.getD k [] = r) (hL : r.length = L) (hb : Below W.heap.size (W.setCell ⟨B, k, none⟩ (.slice (some ⟨W.heap.size, 0, none⟩) L L)) W')
  (hlt : W.heap.size < W'.heap.size) (hv : VecN W' (.slice (some ⟨W.heap.size, 0, none⟩) r.length r.length) r N) : RowsI w W' B m rows (k + 1) N := by
 subst hL hr
 exact h.step hk hb hlt hv

theorem RowsI.mat {w W : World} {B m : Nat} {rows : List (List Int)} {N : Nat} (h : RowsI w W B m rows m N) (hm : rows.length = m) : MatN W (.slice (some ⟨B, 0, none⟩) m m) rows N := by
 subst hm
 refine ⟨_, _, rfl, Nat.le_refl _, fun h0 => ⟨_, _, rfl, h.lt, fun i zs hi => ?_⟩⟩
 obtain ⟨hi', e⟩ := List.getElem?_eq_some_iff.1 hi
 obtain ⟨Q, e1, hv, -, -⟩ := h.row i hi'
 rw [getD_row hi', e] at e1 hv
 exact ⟨_, by rw [Nat.zero_add]; exact e1, hv⟩

theorem made_then (W : World) (ob : Obj) (B k : Nat) (hB : B < W.heap.size) (x : Value) : Below W.heap.size (W.setCell ⟨B, k, none⟩ x) ((W.alloc ob).setCell ⟨B, k, none⟩ x) := by
 have hb := (Below.refl W.heap.size W).alloc (Nat.le_refl _) ob
 refine ⟨rfl, rfl, rfl, by simp, fun j hj => ?_⟩
 have e := hb.block j hj
 by_cases hjB : j = B
 ·subst hjB
  unfold World.setCell
  simp only [Array.getElem?_modify]
  simp [e]
 ·rw [heap_setCell_other _ ⟨B, k, none⟩ j x (fun h => hjB h), heap_setCell_other _ ⟨B, k, none⟩ j x (fun h => hjB h)]
  exact e

theorem matN_nils (W : World) (m N : Nat) : MatN (W.alloc (.cells (madeCells #[.slice none 0 0] m) 39)) (.slice (some ⟨W.heap.size, 0, none⟩) m m) (List.replicate m []) N := by
 refine ⟨_, m, by rw [List.length_replicate], by rw [List.length_replicate]; exact Nat.le_refl _, fun _ => ⟨_, _, rfl, by simp, fun i zs hi => ?_⟩⟩
 have hi' := (List.getElem?_eq_some_iff.1 hi).1
 rw [List.length_replicate] at hi'
 have : zs = [] := by rw [List.getElem?_replicate, if_pos hi'] at hi; exact (Option.some.inj hi).symm
 subst this
 refine ⟨.slice none 0 0, ?_, ⟨none, 0, rfl, Nat.le_refl _, fun h => absurd h (by simp)⟩⟩
 rw [Nat.zero_add, World.cell?_alloc_new]
 exact one_made m i hi'

def besL (n : Nat) (hs os : List (List Int)) : List (List Int) := List.zipWith (fun r o => r ++ (o ++ List.replicate (n - o.length) 0)) hs os

theorem besL_len (n : Nat) (hs os : List (List Int)) (h : os.length = hs.length) : (besL n hs os).length = hs.length := by
 unfold besL
 rw [List.length_zipWith]; omega

theorem besL_at (n : Nat) (hs os : List (List Int)) (k : Nat) (h1 : k < hs.length) (h2 : k < os.length) : (besL n hs os).getD k [] = hs[k] ++ (os[k] ++ List.replicate (n - os[k].length) 0) := by
 unfold besL
 rw [List.getD_eq_getElem?_getD, List.getElem?_zipWith, List.getElem?_eq_getElem h1, List.getElem?_eq_getElem h2]
 rfl

theorem besL_row {n : Nat} {hs os : List (List Int)} (hl : ∀ r ∈ hs, r.length = n) (ho : ∀ r ∈ os, r.length ≤ n) : ∀ r ∈ besL n hs os, r.length = n + n := fun r hr => by
 obtain ⟨k, hk, rfl⟩ := List.getElem_of_mem hr
 unfold besL at hk ⊢
 rw [List.length_zipWith] at hk
 rw [List.getElem_zipWith]
 have e1 := hl hs[k] (List.getElem_mem (by omega))
 have e2 := ho os[k] (List.getElem_mem (by omega))
 rw [List.length_append, List.length_append, List.length_replicate]
 omega

theorem besL_same {n : Nat} {hs : List (List Int)} (hl : ∀ r ∈ hs, r.length = n) : besL n hs hs = hs.map fun r => r ++ r := by
 induction hs with
 | nil => rfl
 | cons r hs ih =>
  have e := hl r (by simp)
  have := ih (fun x hx => hl x (by simp [hx]))
  unfold besL at this ⊢
  rw [List.zipWith_cons_cons, this, List.map_cons, e, Nat.sub_self]
  simp

theorem besL_nils (n : Nat) (ks : List (List Int)) : besL n ks (List.replicate ks.length []) = ks.map fun r => r ++ List.replicate n 0 := by
 induction ks with
 | nil => rfl
 | cons r ks ih =>
  unfold besL at ih ⊢
  rw [List.length_cons, List.replicate_succ, List.zipWith_cons_cons, ih, List.map_cons]
  simp

theorem besL_wide {n : Nat} {hs ks : List (List Int)} (hl : ∀ r ∈ hs, r.length = n) : besL n hs hs ++ besL n ks (List.replicate ks.length []) = wideL n hs ks := by
 rw [besL_same hl, besL_nils]; rfl

theorem splice_first {n : Nat} {r : List Int} (hr : r.length = n) : splice (List.replicate (2 * n) 0) 0 r = r ++ List.replicate n 0 := by
 unfold splice
 rw [List.take_zero, List.nil_append, List.drop_replicate, hr]
 congr 2; omega

theorem splice_second {n : Nat} {r o : List Int} (hr : r.length = n) (ho : o.length ≤ n) : splice (r ++ List.replicate n 0) n o = r ++ (o ++ List.replicate (n - o.length) 0) := by
 unfold splice
 rw [List.take_left' hr]
 have e : (r ++ List.replicate n (0 : Int)).drop (n + o.length) = List.replicate (n - o.length) 0 := by
  rw [List.drop_append, hr, List.drop_of_length_le (by omega), List.nil_append, List.drop_replicate]
  congr 1; omega
 rw [e]

end Go.Proofs.YtajcdhaaldhlaaaGreatDoor

/- Lattices: sizes, and rows that are in the one form. -/
namespace Go.Proofs.YtajcdhaaldhlaaaGreatDoor
open Go.RowKit Limbs

theorem MatN.take {w : World} {b off cap : Nat} {zss : List (List Int)} {n : Nat} (h : MatN w (.slice (some ⟨b, off, none⟩) zss.length cap) zss n) {k : Nat} (hk : k < zss.length) : MatN w (.slice (some ⟨b, off, none⟩) k cap) (zss.take k) n := by
 obtain ⟨ao, cap', e, h1, h2⟩ := h
 simp only [Value.slice.injEq, true_and] at e
 obtain ⟨rfl, rfl⟩ := e
 obtain ⟨b', off', e, hlt, hc⟩ := h2 (by omega)
 simp only [Option.some.injEq, Addr.mk.injEq, and_true] at e
 obtain ⟨rfl, rfl⟩ := e
 have hl : (zss.take k).length = k := by rw [List.length_take]; omega
 refine ⟨_, cap, by rw [hl], by omega, fun _ => ⟨b, off, rfl, hlt, fun i zs hi => ?_⟩⟩
 have : i < k := by have := (List.getElem?_eq_some_iff.1 hi).1; omega
 exact hc i zs (by rw [← hi, List.getElem?_take, if_pos this])

set_option maxRecDepth 100000 in
set_option maxHeartbeats 1600000 in
theorem lessAhead_yes (w : World) (v : Value) (hs : List (List Int)) (nv : Nat) (hv : MatN w v hs nv) (q : Nat) (pn : Bool) (po : Option Addr) (pl pc : Nat) (z : Int) (hz : NumL w (.agg #[.bool pn, .slice po pl pc]) z nv)
  (hall : ∀ i (h : i < hs.length), q < hs[i].length ∧ 0 ≤ hs[i].getD q 0 ∧ hs[i].getD q 0 < z) (hl : hs.length ≤ 1000) (hq : q ≤ 1000) :
  Calls Tryz.prog 107 #[v, .int .i64 (q : Int), .agg #[.bool pn, .slice po pl pc]] w fun e w' => e = .returned (.bool true) ∧ Below w.heap.size w w' := by
 have HV := hide hv; have HZ := hide hz; have HALL := hide hall
 obtain ⟨ao, cap, rfl, -, -⟩ := hv
 have HBW := hide ((Below.refl w.heap.size w).alloc (Nat.le_refl _) (.cells #[.bool pn, .slice po pl pc] 51))
 have HC0 : Hid ((w.alloc (.cells #[.bool pn, .slice po pl pc] 51)).cell? ⟨w.heap.size, 0, none⟩ = some (.bool pn)) := by show _ = _; rw [World.cell?_alloc_new]; rfl
 have HC1 : Hid ((w.alloc (.cells #[.bool pn, .slice po pl pc] 51)).cell? ⟨w.heap.size, 1, none⟩ = some (.slice po pl pc)) := by show _ = _; rw [World.cell?_alloc_new]; rfl
 have HSZ : Hid (w.heap.size < (w.alloc (.cells #[.bool pn, .slice po pl pc] 51)).heap.size) := by show _ < _; simp
 clear hz hall
 go_enter Tryz.func107, Tryz.ntmps107
 go_wp2
 generalize w.alloc (.cells #[.bool pn, .slice po pl pc] 51) = W1 at *
 go_loopw [11] (fun i wr => ∃ j : Nat, j ≤ hs.length ∧ i = .int .i64 j ∧ Hid (Below W1.heap.size W1 wr)) (fun i _ => hs.length - (intOf i).toNat)
 case atStart => exact ⟨0, Nat.zero_le _, rfl, hide (Below.refl _ _)⟩
 case round =>
  obtain ⟨j, hj, rfl, HBI⟩ := hrel
  have HBJ := hide (HBW.out.trans (HBI.out.mono HBW.out.size))
  by_cases hjl : j < hs.length
  ·obtain ⟨b, off, _, e, hlt, x, cx, hx⟩ := (HV.out.below HBJ.out (Nat.le_refl _)).at j hjl
   simp only [Value.slice.injEq, true_and] at e
   obtain ⟨rfl, rfl⟩ := e
   obtain ⟨hxl, hr1, hr2⟩ := HALL.out j hjl
   obtain ⟨xb, xoff, xcap, rfl⟩ := hx.form (by omega)
   obtain ⟨lx, xn, xo, xl, xc, x0, x1, xnum⟩ := hx.at q hxl
   have hneg : xn = false := by
    have := xnum.sgn
    cases xn
    ·rfl
    ·have := this.1 rfl; omega
   subst hneg
   have q0 := (HBI.out.cell (p := ⟨w.heap.size, 0, none⟩) HSZ.out).trans HC0.out
   have q1 := (HBI.out.cell (p := ⟨w.heap.size, 1, none⟩) HSZ.out).trans HC1.out
   have hlb : w.heap.size < wr.heap.size := Nat.lt_of_lt_of_le HSZ.out HBI.out.size
   have HXN := hide xnum
   have HRN2 := hide (HZ.out.below HBJ.out (Nat.le_refl _))
   have HCM : Hid (cmpI (hs[j].getD q 0) z = -1) := if_pos hr2
   clear xnum hx hr1 hr2
   generalize hs[j].getD q 0 = xv at *
   generalize hs[j].length = xlen at *
   have hbx : Below wr.heap.size wr (wr.alloc (.cells #[.bool false, .slice xo xl xc] 51)) := (Below.refl _ _).alloc (Nat.le_refl _) _
   have HBX := hide hbx
   have c0 : (wr.alloc (.cells #[.bool false, .slice xo xl xc] 51)).cell? ⟨wr.heap.size, 0, none⟩ = some (.bool false) := by rw [World.cell?_alloc_new]; rfl
   have c1 : (wr.alloc (.cells #[.bool false, .slice xo xl xc] 51)).cell? ⟨wr.heap.size, 1, none⟩ = some (.slice xo xl xc) := by rw [World.cell?_alloc_new]; rfl
   have c3 := (hbx.cell (p := ⟨w.heap.size, 0, none⟩) hlb).trans q0
   have c4 := (hbx.cell (p := ⟨w.heap.size, 1, none⟩) hlb).trans q1
   have HXB := hide (HXN.out.below hbx (Nat.le_refl _))
   have HRB := hide (HRN2.out.below hbx (Nat.le_refl _))
   clear hbx HXN HRN2 HV HZ HALL HC0 HC1
   go_wp2_with fail
   refine (compare_any _ _ _ xv z nv nv (by exact HXB.out) (by exact HRB.out)).mono ?_
   rintro e w2 ⟨rfl, hb2⟩
   have HB2 := hide (show Below wr.heap.size wr w2 from HBX.out.trans (hb2.mono (by simp)))
   rw [HCM.out]
   have HB3 := hide (HBI.out.trans (HB2.out.mono HBI.out.size))
   clear hb2 HB2 HBX HXB HRB HCM c0 c1 c3 c4 q0 q1 HBI cx x0 x1
   go_wp2
   go_roundw
   case rel => exact ⟨j + 1, by omega, by go_num, HB3⟩
   case measure => simp [intOf]; omega
  ·obtain rfl : j = hs.length := by omega
   clear HBI
   go_wp2
   go_ret
   exact ⟨rfl, HBJ.out⟩

end Go.Proofs.YtajcdhaaldhlaaaGreatDoor

/- Are the rows of a lattice in the one form? Those that are. -/
namespace Go.Proofs.YtajcdhaaldhlaaaGreatDoor
open Go.RowKit Limbs

set_option maxRecDepth 100000 in
set_option maxHeartbeats 1600000 in
theorem latForm_yes (w : World) (v : Value) (hs : List (List Int)) (n nv : Nat) (p : Nat → Nat) (hv : MatN w v hs nv) (hF : FormL n hs p) (hn : n ≤ 1000) (hl : hs.length ≤ 1000) :
  Calls Tryz.prog 75 #[v] w fun e w' => e = .returned (.bool true) ∧ Below w.heap.size w w' := by
 have HV := hide hv; have HF := hide hF
 obtain ⟨ao, cap, rfl, -, -⟩ := hv
 clear hF
 go_enter Tryz.func75, Tryz.ntmps75
 go_wp2
 go_loopw [3, 8] (fun last i wr => ∃ k : Nat, k ≤ hs.length ∧ i = .int .i64 k ∧ last = .int .i64 (lastP p k) ∧ Hid (Below w.heap.size w wr)) (fun _ i _ => hs.length - (intOf i).toNat)
 case atStart => exact ⟨0, Nat.zero_le _, rfl, rfl, hide (Below.refl _ _)⟩
 case round =>
  obtain ⟨k, hk, rfl, rfl, HBE⟩ := hrel
  by_cases hkl : k < hs.length
  ·have hmat := HV.out.below HBE.out (Nat.le_refl _)
   obtain ⟨b, off, _, e, hlt, u, cu, hu⟩ := hmat.at k hkl
   simp only [Value.slice.injEq, true_and] at e
   obtain ⟨rfl, rfl⟩ := e
   have HM := hide hmat
   have hcap : hs.length ≤ cap := by
    obtain ⟨_, _, e, h1, -⟩ := hmat
    simp only [Value.slice.injEq, true_and] at e
    rw [e.2]; exact h1
   clear hmat
   obtain ⟨f1, f2, f3⟩ := HF.out.first hkl
   have hlen := HF.out.len _ (List.getElem_mem hkl)
   have hlast := HF.out.last hkl
   have hrg := lastP_range HF.out (Nat.le_of_lt hkl)
   have HNX : Hid (lastP p (k + 1) = (p k : Int)) := by show _ = _; unfold lastP; rw [if_neg (by omega), Nat.add_sub_cancel]
   obtain ⟨rb, roff, rcap, rfl⟩ := hu.form (by omega)
   have HU := hide hu
   have HALL : Hid (∀ i (h : i < (hs.take k).length), p k < (hs.take k)[i].length ∧ 0 ≤ (hs.take k)[i].getD (p k) 0 ∧ (hs.take k)[i].getD (p k) 0 < hs[k].getD (p k) 0) := by
    intro i hi
    have hik : i < k := by rw [List.length_take] at hi; omega
    rw [List.getElem_take]
    have := HF.out.red hik hkl
    have h2 := HF.out.len _ (List.getElem_mem (show i < hs.length by omega))
    exact ⟨by omega, this.1, this.2⟩
   have hlu := (hu.at (p k) (by omega)).1
   have hqz : p k < hs[k].length := by omega
   have hzl : hs[k].length ≤ 1000 := by omega
   generalize hq : p k = q at *
   generalize hs[k] = zs at *
   generalize lastP p k = lp at *
   have HL := hide hlen; have HQ := hide hq; have HF1 := hide f1
   clear hlen hq f1 hu
   go_wp2_with fail
   refine (firstV_any wr _ zs nv (by exact HU.out) (by omega)).mono ?_
   rintro e w1 ⟨rfl, hb1⟩
   rw [HF1.out]
   have HB1 := hide (HBE.out.trans (hb1.mono HBE.out.size))
   have HU1 := hide (HU.out.below hb1 (Nat.le_refl _))
   have HM1 := hide ((HM.out.below hb1 (Nat.le_refl _)).take hkl)
   have cu1 := (hb1.cell (p := ⟨b, off + k, none⟩) hlt).trans cu
   obtain ⟨lu1, rn, ro, rl, rc, r0, r1, rnum⟩ := HU1.out.at q hqz
   have hneg : rn = false := by
    have := rnum.sgn
    cases rn
    ·rfl
    ·have := this.1 rfl; omega
   subst hneg
   have hlt1 : b < w1.heap.size := Nat.lt_of_lt_of_le hlt hb1.size
   have g1 : decide ((q : Int) ≤ lp) = false := decide_eq_false (by omega)
   have g2 : decide ((q : Int) < 0) = false := decide_eq_false (by omega)
   have hkc : k ≤ cap := by omega
   have hq1000 : q ≤ 1000 := by omega
   have HRN := hide rnum
   clear rnum hb1 HU HBE cu hlt hlu HF1 HM
   go_wp2_with fail
   go_region_held3 (fun w' => w'.cell? ⟨b, off + k, none⟩ = some (.slice (some ⟨rb, roff, none⟩) zs.length rcap) ∧ w'.cell? ⟨rb, roff + q * 2, none⟩ = some (.bool false) ∧ w'.cell? ⟨rb, roff + q * 2 + 1, none⟩ = some (.slice ro rl rc)) (go_keep)
    (first
     | (go_at_call 107; refine (lessAhead_yes _ _ (hs.take k) nv (by exact HM1.out.below (Below.refl _ _).drew (Nat.le_refl _)) q false ro rl rc (zs.getD q 0) (by exact HRN.out.below (Below.refl _ _).drew (Nat.le_refl _)) HALL.out (by rw [List.length_take]; omega) hq1000).mono ?_; rintro e w2 ⟨rfl, hb2⟩; have p2 := (hb2.cell (p := ⟨b, off + k, none⟩) (by simp; omega)).trans cu1; have p3 := (hb2.cell (p := ⟨rb, roff + q * 2, none⟩) (by simp; omega)).trans r0; have p4 := (hb2.cell (p := ⟨rb, roff + q * 2 + 1, none⟩) (by simp; omega)).trans r1; have HB2 := hide (show Below w1.heap.size w1 w2 from (Below.refl _ _).drew.trans (hb2.mono (by simp))); clear hb2))
   have HB3 := hide (HB1.out.trans (HB2.out.mono HB1.out.size))
   clear p2 p3 p4 r0 r1 cu1 HB2 HB1 HRN HM1 HALL
   go_wp2
   go_roundw
   case rel => exact ⟨k + 1, by omega, by go_num, by rw [HNX.out], HB3⟩
   case measure => simp [intOf]; omega
  ·obtain rfl : k = hs.length := by omega
   go_wp2
   go_ret
   exact ⟨rfl, HBE.out⟩

end Go.Proofs.YtajcdhaaldhlaaaGreatDoor
