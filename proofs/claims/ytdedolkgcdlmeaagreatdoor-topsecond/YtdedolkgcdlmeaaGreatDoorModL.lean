/- Lattices are modular, pure. -/
import Derived.Test.YtdedolkgcdlmeaaGreatDoorSumL
import Derived.Test.YtdedolkgcdlmeaaGreatDoorMeetL
namespace Go.Proofs.YtdedolkgcdlmeaaGreatDoor
open Go.RowKit Limbs

theorem gens_parts {n : Nat} {hs ks : List (List Int)} {v : List Int} (h : Gens n (InL (hs ++ ks)) v) : ∃ a b, Gens n (InL hs) a ∧ Gens n (InL ks) b ∧ v = List.zipWith (fun x y => 1 * x + 1 * y) a b := by
  have z0 : ∀ a : List Int, a.length = n → a = List.zipWith (fun x y => 1 * x + 1 * y) a (List.replicate n 0) := fun a ha => by
    apply list_ext (by rw [zip_len _ _ _ (by simp [ha])])
    intro k hk
    rw [zip_getD _ _ _ (by simp [ha]) k hk, getD_zeros]
    omega
  have z1 : ∀ a : List Int, a.length = n → a = List.zipWith (fun x y => 1 * x + 1 * y) (List.replicate n 0) a := fun a ha => by
    apply list_ext (by rw [zip_len _ _ _ (by simp [ha])]; simp [ha])
    intro k hk
    rw [zip_getD _ _ _ (by simp [ha]) k (by rw [List.length_replicate]; omega), getD_zeros]
    omega
  induction h with
  | base hv hl =>
    rcases List.mem_append.1 hv with h | h
    · exact ⟨_, _, .base h hl, .zero, z0 _ hl⟩
    · exact ⟨_, _, .zero, .base h hl, z1 _ hl⟩
  | zero => exact ⟨_, _, .zero, .zero, z0 _ (by simp)⟩
  | comb x y _ _ h1 h2 =>
    obtain ⟨a, b, ga, gb, rfl⟩ := h1
    obtain ⟨c, d, gc, gd, rfl⟩ := h2
    refine ⟨_, _, .comb x y ga gc, .comb x y gb gd, ?_⟩
    have la := ga.len; have lb := gb.len; have lc := gc.len; have ld := gd.len
    have m1 := zip_len (fun x y => 1 * x + 1 * y) a b (by omega)
    have m2 := zip_len (fun x y => 1 * x + 1 * y) c d (by omega)
    have m3 := zip_len (fun u v => x * u + y * v) a c (by omega)
    have m4 := zip_len (fun u v => x * u + y * v) b d (by omega)
    have e1 : (List.zipWith (fun x y => 1 * x + 1 * y) a b).length = (List.zipWith (fun x y => 1 * x + 1 * y) c d).length := by omega
    have e2 : (List.zipWith (fun u v => x * u + y * v) a c).length = (List.zipWith (fun u v => x * u + y * v) b d).length := by omega
    have n1 := zip_len (fun u v => x * u + y * v) _ _ e1
    have n2 := zip_len (fun x y => 1 * x + 1 * y) _ _ e2
    apply list_ext (by omega)
    intro k hk
    have t1 := zip_getD (fun u v => x * u + y * v) _ _ e1 k (by omega)
    have t2 := zip_getD (fun x y => 1 * x + 1 * y) _ _ e2 k (by omega)
    have t3 := zip_getD (fun x y => 1 * x + 1 * y) a b (by omega) k (by omega)
    have t4 := zip_getD (fun x y => 1 * x + 1 * y) c d (by omega) k (by omega)
    have t5 := zip_getD (fun u v => x * u + y * v) a c (by omega) k (by omega)
    have t6 := zip_getD (fun u v => x * u + y * v) b d (by omega) k (by omega)
    rw [t1, t2, t3, t4, t5, t6]
    simp only [Int.one_mul, Int.mul_add]
    omega

/-- In both just if in each. -/
def Both (n : Nat) (ms hs ks : List (List Int)) : Prop := ∀ v : List Int, v.length = n → (Gens n (InL ms) v ↔ Gens n (InL hs) v ∧ Gens n (InL ks) v)

theorem modular {n : Nat} {xs ys zs z0 ps qs rs ss : List (List Int)} {p q : Nat → Nat} (hx : ∀ r ∈ xs, r.length = n) (hps : ∀ r ∈ ps, r.length = n) (fq : FormL n qs p) (fs : FormL n ss q)
    (az : Alikes n (InL zs) (InL (z0 ++ xs))) (bp : Both n ps ys zs) (aq : Alikes n (InL qs) (InL (xs ++ ps))) (ar : Alikes n (InL rs) (InL (xs ++ ys))) (bs : Both n ss rs zs) : qs = ss := by
  have xz : ∀ r ∈ xs, Gens n (InL zs) r := fun r hr => (az r).2 (.base (List.mem_append.2 (.inr hr)) (hx r hr))
  refine formL_one fq fs fun v => ⟨fun h => ?_, fun h => ?_⟩
  · refine (bs v h.len).2 ⟨((aq v).1 h).trans fun u hu _ => ?_, ((aq v).1 h).trans fun u hu _ => ?_⟩
    · rcases List.mem_append.1 hu with hu | hu
      · exact (ar u).2 (.base (List.mem_append.2 (.inl hu)) (hx u hu))
      · have := ((bp u (hps u hu)).1 (.base hu (hps u hu))).1
        exact (ar u).2 (this.trans fun y hy' hl => .base (List.mem_append.2 (.inr hy')) hl)
    · rcases List.mem_append.1 hu with hu | hu
      · exact xz u hu
      · exact ((bp u (hps u hu)).1 (.base hu (hps u hu))).2
  · obtain ⟨hr, hz⟩ := (bs v h.len).1 h
    obtain ⟨a, b, ga, gb, e⟩ := gens_parts ((ar v).1 hr)
    have az' : Gens n (InL zs) a := ga.trans fun u hu _ => xz u hu
    have la := ga.len; have lb := gb.len
    have bz : Gens n (InL zs) b := by
      have := Gens.comb 1 (-1) hz az'
      have e2 : List.zipWith (fun u v => 1 * u + -1 * v) v a = b := by
        subst e
        have m1 := zip_len (fun x y => 1 * x + 1 * y) a b (by omega)
        have m2 := zip_len (fun u v => 1 * u + -1 * v) (List.zipWith (fun x y => 1 * x + 1 * y) a b) a (by omega)
        apply list_ext (by omega)
        intro k hk
        rw [zip_getD _ _ _ (by omega) k (by omega), zip_getD _ _ _ (by omega) k (by omega)]
        omega
      rwa [e2] at this
    have gp := (bp b lb).2 ⟨gb, bz⟩
    subst e
    refine (aq _).2 (.comb 1 1 (ga.trans fun u hu hl => .base (List.mem_append.2 (.inl hu)) hl) (gp.trans fun u hu hl => .base (List.mem_append.2 (.inr hu)) hl))

theorem both_in {n : Nat} {ms hs ks : List (List Int)} (hl : ∀ r ∈ ms, r.length = n) (b : Both n ms hs ks) : (∀ us ∈ ms, Gens n (InL hs) us) ∧ ∀ us ∈ ms, Gens n (InL ks) us :=
  ⟨fun u hu => ((b u (hl u hu)).1 (.base hu (hl u hu))).1, fun u hu => ((b u (hl u hu)).1 (.base hu (hl u hu))).2⟩

end Go.Proofs.YtdedolkgcdlmeaaGreatDoor
