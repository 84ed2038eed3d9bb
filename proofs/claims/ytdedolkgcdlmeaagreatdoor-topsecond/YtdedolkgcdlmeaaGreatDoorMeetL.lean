/- What two lattices have in common, by rows twice as wide. -/
import Derived.Test.YtdedolkgcdlmeaaGreatDoorShareL
import Derived.Test.YtdedolkgcdlmeaaGreatDoorSumL
import Derived.Test.YtdedolkgcdlmeaaGreatDoorTurnL
namespace Go.Proofs.YtdedolkgcdlmeaaGreatDoor
open Go.RowKit Limbs

/-- The rows twice as wide. -/
def wideL (n : Nat) (hs ks : List (List Int)) : List (List Int) := hs.map (fun r => r ++ r) ++ ks.map (fun r => r ++ List.replicate n 0)

theorem getD_left (u v : List Int) (j : Nat) (hj : j < u.length) : (u ++ v).getD j 0 = u.getD j 0 := by
  rw [List.getD_eq_getElem?_getD, List.getD_eq_getElem?_getD, List.getElem?_append_left hj]

theorem getD_right (u v : List Int) (j : Nat) : (u ++ v).getD (u.length + j) 0 = v.getD j 0 := by
  rw [List.getD_eq_getElem?_getD, List.getD_eq_getElem?_getD, List.getElem?_append_right (by omega), Nat.add_sub_cancel_left]

theorem getD_zeros (n j : Nat) : (List.replicate n (0 : Int)).getD j 0 = 0 := by
  rw [List.getD_eq_getElem?_getD, List.getElem?_replicate]
  split <;> rfl

theorem comb_app (x y : Int) (a b c d : List Int) (h : a.length = c.length) : List.zipWith (fun u v => x * u + y * v) (a ++ b) (c ++ d) = List.zipWith (fun u v => x * u + y * v) a c ++ List.zipWith (fun u v => x * u + y * v) b d := List.zipWith_append h

theorem comb_zeros (x y : Int) (n : Nat) : List.zipWith (fun u v => x * u + y * v) (List.replicate n (0 : Int)) (List.replicate n 0) = List.replicate n 0 := by
  apply list_ext (by simp)
  intro k hk
  have hk' : k < n := by simpa using hk
  rw [zip_getD _ _ _ (by simp) k (by simpa using hk'), getD_zeros]
  simp

/-- Twice. -/
theorem wide_twice {n : Nat} {hs ks : List (List Int)} {v : List Int} (h : Gens n (InL hs) v) : Gens (n + n) (InL (wideL n hs ks)) (v ++ v) := by
  induction h with
  | base hv hl => exact .base (List.mem_append.2 (.inl (List.mem_map.2 ⟨_, hv, rfl⟩))) (by rw [List.length_append, hl])
  | zero =>
    rw [List.replicate_append_replicate]
    exact .zero
  | comb x y hu hv h1 h2 =>
    rw [← comb_app x y _ _ _ _ (hu.len.trans hv.len.symm)]
    exact .comb x y h1 h2

/-- And once, with noughts. -/
theorem wide_once {n : Nat} {hs ks : List (List Int)} {v : List Int} (h : Gens n (InL ks) v) : Gens (n + n) (InL (wideL n hs ks)) (v ++ List.replicate n 0) := by
  induction h with
  | base hv hl => exact .base (List.mem_append.2 (.inr (List.mem_map.2 ⟨_, hv, rfl⟩))) (by rw [List.length_append, hl, List.length_replicate])
  | zero =>
    rw [List.replicate_append_replicate]
    exact .zero
  | comb x y hu hv h1 h2 =>
    have := Gens.comb x y h1 h2
    rw [comb_app x y _ _ _ _ (hu.len.trans hv.len.symm), comb_zeros] at this
    exact this

/-- What is made of the wide rows: the second half is of the one, and what the first half is more is of the other. -/
theorem wide_parts {n : Nat} {hs ks : List (List Int)} (hl : ∀ r ∈ hs, r.length = n) (kl : ∀ r ∈ ks, r.length = n) {z : List Int} (h : Gens (n + n) (InL (wideL n hs ks)) z) : ∃ u v, z = u ++ v ∧ u.length = n ∧ v.length = n ∧ Gens n (InL hs) v ∧ Gens n (InL ks) (List.zipWith (fun a b => 1 * a + -1 * b) u v) := by
  induction h with
  | base hv _ =>
    rcases List.mem_append.1 hv with h | h
    · obtain ⟨r, hr, rfl⟩ := List.mem_map.1 h
      have hrl := hl r hr
      refine ⟨r, r, rfl, hrl, hrl, .base hr hrl, ?_⟩
      have e : List.zipWith (fun a b => 1 * a + -1 * b) r r = List.replicate n 0 := by
        apply list_ext (by rw [zip_len _ _ _ rfl]; simp [hrl])
        intro k hk
        rw [zip_len _ _ _ rfl] at hk
        rw [zip_getD _ _ _ rfl k hk, getD_zeros]
        omega
      rw [e]
      exact .zero
    · obtain ⟨r, hr, rfl⟩ := List.mem_map.1 h
      have hrl := kl r hr
      refine ⟨r, List.replicate n 0, rfl, hrl, by simp, .zero, ?_⟩
      have e : List.zipWith (fun a b => 1 * a + -1 * b) r (List.replicate n 0) = r := by
        apply list_ext (by rw [zip_len _ _ _ (by simp [hrl])])
        intro k hk
        rw [zip_len _ _ _ (by simp [hrl])] at hk
        rw [zip_getD _ _ _ (by simp [hrl]) k hk, getD_zeros]
        omega
      rw [e]
      exact .base hr hrl
  | zero => exact ⟨List.replicate n 0, List.replicate n 0, List.replicate_append_replicate.symm, by simp, by simp, .zero, by rw [comb_zeros]; exact .zero⟩
  | comb x y _ _ h1 h2 =>
    obtain ⟨u, v, rfl, hu, hv, g1, g2⟩ := h1
    obtain ⟨u', v', rfl, hu', hv', g1', g2'⟩ := h2
    refine ⟨_, _, comb_app x y u v u' v' (hu.trans hu'.symm), by rw [zip_len _ _ _ (hu.trans hu'.symm), hu], by rw [zip_len _ _ _ (hv.trans hv'.symm), hv], .comb x y g1 g1', ?_⟩
    have e : List.zipWith (fun a b => 1 * a + -1 * b) (List.zipWith (fun a b => x * a + y * b) u u') (List.zipWith (fun a b => x * a + y * b) v v') = List.zipWith (fun a b => x * a + y * b) (List.zipWith (fun a b => 1 * a + -1 * b) u v) (List.zipWith (fun a b => 1 * a + -1 * b) u' v') := by
      have l1 := zip_len (fun a b => x * a + y * b) u u' (hu.trans hu'.symm)
      have l2 := zip_len (fun a b => x * a + y * b) v v' (hv.trans hv'.symm)
      have l3 := zip_len (fun a b => 1 * a + -1 * b) u v (hu.trans hv.symm)
      have l4 := zip_len (fun a b => 1 * a + -1 * b) u' v' (hu'.trans hv'.symm)
      have m1 : (List.zipWith (fun a b => x * a + y * b) u u').length = (List.zipWith (fun a b => x * a + y * b) v v').length := by rw [l1, l2, hu, hv]
      have m2 : (List.zipWith (fun a b => 1 * a + -1 * b) u v).length = (List.zipWith (fun a b => 1 * a + -1 * b) u' v').length := by rw [l3, l4, hu, hu']
      have n1 := zip_len (fun a b => 1 * a + -1 * b) _ _ m1
      have n2 := zip_len (fun a b => x * a + y * b) _ _ m2
      apply list_ext (by rw [n1, n2, l1, l3])
      intro k hk
      rw [n1, l1, hu] at hk
      have z1 := zip_getD (fun a b => 1 * a + -1 * b) _ _ m1 k (by rw [l1, hu]; exact hk)
      have z2 := zip_getD (fun a b => x * a + y * b) _ _ m2 k (by rw [l3, hu]; exact hk)
      have z3 := zip_getD (fun a b => x * a + y * b) u u' (hu.trans hu'.symm) k (by omega)
      have z4 := zip_getD (fun a b => x * a + y * b) v v' (hv.trans hv'.symm) k (by omega)
      have z5 := zip_getD (fun a b => 1 * a + -1 * b) u v (hu.trans hv.symm) k (by omega)
      have z6 := zip_getD (fun a b => 1 * a + -1 * b) u' v' (hu'.trans hv'.symm) k (by omega)
      rw [z1, z2, z3, z4, z5, z6]
      simp only [Int.one_mul, Int.mul_add, Int.neg_mul, Int.mul_neg]
      omega
    rw [e]
    exact .comb x y g2 g2'

/-- In both just if it stands behind noughts among the wide ones. -/
theorem meet_wide {n : Nat} {hs ks : List (List Int)} (hl : ∀ r ∈ hs, r.length = n) (kl : ∀ r ∈ ks, r.length = n) {v : List Int} (hv : v.length = n) : Gens (n + n) (InL (wideL n hs ks)) (List.replicate n 0 ++ v) ↔ Gens n (InL hs) v ∧ Gens n (InL ks) v := by
  constructor
  · intro h
    obtain ⟨a, b, e, ha, hb, g1, g2⟩ := wide_parts hl kl h
    obtain ⟨rfl, rfl⟩ := List.append_inj e (by simp [ha])
    refine ⟨g1, ?_⟩
    have g := g2.scale (-1)
    have e : (List.zipWith (fun a b => 1 * a + -1 * b) (List.replicate n 0) v).map (-1 * ·) = v := by
      apply list_ext (by rw [List.length_map, zip_len _ _ _ (by simp [hv])]; simp [hv])
      intro k hk
      rw [List.length_map, zip_len _ _ _ (by simp [hv])] at hk
      rw [map_getD' _ _ _ (by rw [zip_len _ _ _ (by simp [hv])]; exact hk), zip_getD _ _ _ (by simp [hv]) k hk, getD_zeros]
      omega
    rwa [e] at g
  · rintro ⟨g1, g2⟩
    have g := Gens.comb 1 (-1) (wide_twice (ks := ks) g1) (wide_once (hs := hs) g2)
    rw [comb_app 1 (-1) _ _ _ _ rfl] at g
    have e1 : List.zipWith (fun u v => 1 * u + -1 * v) v v = List.replicate n 0 := by
      apply list_ext (by rw [zip_len _ _ _ rfl]; simp [hv])
      intro k hk
      rw [zip_len _ _ _ rfl] at hk
      rw [zip_getD _ _ _ rfl k hk, getD_zeros]
      omega
    have e2 : List.zipWith (fun u v => 1 * u + -1 * v) v (List.replicate n 0) = v := by
      apply list_ext (by rw [zip_len _ _ _ (by simp [hv])])
      intro k hk
      rw [zip_len _ _ _ (by simp [hv])] at hk
      rw [zip_getD _ _ _ (by simp [hv]) k hk, getD_zeros]
      omega
    rwa [e1, e2] at g

end Go.Proofs.YtdedolkgcdlmeaaGreatDoor
