/- The reference: what its calls gave. -/
import Derived.Test.YtdedolkgcdlmeaaGreatDoorStairR
import Derived.Test.YtdedolkgcdlmeaaGreatDoorRefComb
import Derived.Test.YtdedolkgcdlmeaaGreatDoorGcdRB
import Derived.Test.YtdedolkgcdlmeaaGreatDoorTagsR
import Derived.Test.YtdedolkgcdlmeaaGreatDoorFold
namespace Go.Proofs.YtdedolkgcdlmeaaGreatDoor
open Go.RowKit Limbs Digs

def GcdGotR (n : Nat) (a b : Int) (W : World) (v : Value) : Prop :=
  ∃ vg vx vy g x y, v = .tuple #[vg, vx, vy] ∧ NumR W vg g n ∧ NumR W vx x n ∧ NumR W vy y n ∧ g = x * a + y * b ∧ 0 ≤ g ∧ (∃ p, a = p * g) ∧ (∃ p, b = p * g)

theorem GcdGotR.moved (n : Nat) (a b : Int) (t : Nat) (W W' : World) (G G' : Nat → Nat) (v : Value) (h : TR.Moved t W G W' G') (hg : GcdGotR n a b W v) : GcdGotR n a b W' v := by
  obtain ⟨vg, vx, vy, g, x, y, e, h1, h2, h3, h4⟩ := hg
  exact ⟨vg, vx, vy, g, x, y, e, h.num h1, h.num h2, h.num h3, h4⟩

def QuoGotR (n m : Nat) (x y : Int) (W : World) (v : Value) : Prop :=
  ∃ vq vr q r, v = .tuple #[vq, vr] ∧ NumR W vq q (n + 6) ∧ NumR W vr r m ∧ x = q * y + r ∧ Left r y

theorem QuoGotR.moved (n m : Nat) (x y : Int) (t : Nat) (W W' : World) (G G' : Nat → Nat) (v : Value) (h : TR.Moved t W G W' G') (hg : QuoGotR n m x y W v) : QuoGotR n m x y W' v := by
  obtain ⟨vq, vr, q, r, e, h1, h2, h3⟩ := hg
  exact ⟨vq, vr, q, r, e, h.num h1, h.num h2, h3⟩

theorem NumR.sgn0 {w : World} {s : Int} {sl : Value} {z : Int} {n : Nat} (h : NumR w (.agg #[.int .i64 s, sl]) z n) : (s = 0 ↔ z = 0) ∧ (s < 0 ↔ z < 0) := by
  obtain ⟨s', sl', ds, e, hd, hn, hz, hs, -⟩ := h
  simp only [Value.agg.injEq, Array.mk.injEq, List.cons.injEq, Value.int.injEq, true_and, and_true] at e
  obtain ⟨rfl, rfl⟩ := e
  obtain ⟨_, _, _, _, _, hdb, _⟩ := hd
  have hv := dv_nonneg hdb
  rcases hs with ⟨h0, h1, -⟩ | ⟨h0, h1⟩
  · have e : z = 0 := by rw [hz, h1]; simp
    omega
  · have hne : dv ds ≠ 0 := fun h => by
      have := (dv_zero_iff hdb hn).1 h
      omega
    have hp : 0 < dv ds := by omega
    rcases h1 with h1 | h1
    · have e : z = dv ds := by rw [hz, h1]; simp
      omega
    · have e : z = -dv ds := by rw [hz, h1]; simp
      omega

end Go.Proofs.YtdedolkgcdlmeaaGreatDoor
