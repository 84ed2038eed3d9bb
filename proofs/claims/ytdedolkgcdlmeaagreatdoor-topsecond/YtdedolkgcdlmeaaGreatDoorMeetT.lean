/- What the statements about sums and meets want besides. -/
import Derived.Test.YtdedolkgcdlmeaaGreatDoorBoxes
namespace Go.Proofs.YtdedolkgcdlmeaaGreatDoor
open Go.RowKit Limbs

theorem MatN.mono {w : World} {v : Value} {zss : List (List Int)} {n m : Nat} (h : MatN w v zss n) (hm : n ≤ m) : MatN w v zss m := by
  obtain ⟨ao, cap, hv, h1, h2⟩ := h
  refine ⟨ao, cap, hv, h1, fun h0 => ?_⟩
  obtain ⟨b, off, e, hlt, hc⟩ := h2 h0
  refine ⟨b, off, e, hlt, fun i zs hi => ?_⟩
  obtain ⟨u, cu, hu⟩ := hc i zs hi
  exact ⟨u, cu, hu.mono hm⟩

theorem LatN.mono {w : World} {v : Value} {n : Nat} {hs : List (List Int)} {nv m : Nat} (h : LatN w v n hs nv) (hm : nv ≤ m) : LatN w v n hs m := by
  obtain ⟨⟨u, e, hu⟩, hp⟩ := h
  exact ⟨⟨u, e, hu.mono hm⟩, hp⟩

theorem nbM : ∀ n, n < 5 → nbK (n + n) ((n + n) * 6 + 2) 6 (n + n) ≤ 100000 := by decide

theorem LatN.sep {w : World} {n : Nat} {hs : List (List Int)} {nv : Nat} {u : Value} (h : LatN w (.agg #[.int .i64 (n : Int), u]) n hs nv) {B : Nat} (hB : w.heap.size ≤ B) : 0 < hs.length → Sep u (some B) := fun h0 a l c e => by
  obtain ⟨⟨u', e', ⟨ao, cap, rfl, -, h2⟩⟩, -⟩ := h
  simp only [Value.agg.injEq, Array.mk.injEq, List.cons.injEq, and_true, true_and] at e'
  obtain ⟨b, off, rfl, hlt, -⟩ := h2 h0
  rw [e'] at e
  simp only [Value.slice.injEq, Option.some.injEq] at e
  rw [← e.1]
  simp only [ne_eq, Option.some.injEq]
  omega

theorem LatN.setVar {w : World} {n : Nat} {hs : List (List Int)} {nv B : Nat} {u : Value} {x : Int} {o : Option Addr} {l c : Nat} (h : LatN w (.agg #[.int .i64 (n : Int), u]) n hs nv) (y z : Value) (hsep : 0 < hs.length → Sep u (some B)) (c0 : w.cell? ⟨B, 0, none⟩ = some (.int .i64 x)) (c1 : w.cell? ⟨B, 1, none⟩ = some (.slice o l c)) :
    LatN ((w.setCell ⟨B, 0, none⟩ y).setCell ⟨B, 1, none⟩ z) (.agg #[.int .i64 (n : Int), u]) n hs nv := by
  obtain ⟨⟨u', e', hu⟩, hp⟩ := h
  simp only [Value.agg.injEq, Array.mk.injEq, List.cons.injEq, and_true, true_and] at e'
  subst e'
  exact ⟨⟨_, rfl, hu.setVar y z hsep c0 c1⟩, hp⟩

theorem BoxL.other {W : World} {A B : Nat} {u0 u1 : Value} (h : BoxL W A u0 u1) (hne : A ≠ B) (y z : Value) : BoxL ((W.setCell ⟨B, 0, none⟩ y).setCell ⟨B, 1, none⟩ z) A u0 u1 :=
  ⟨(h.1.other hne _ _).other hne _ _, by simpa using h.2⟩

theorem BoxL.write {W : World} {B : Nat} {u0 u1 : Value} (h : BoxL W B u0 u1) (y z : Value) : BoxL ((W.setCell ⟨B, 0, none⟩ y).setCell ⟨B, 1, none⟩ z) B y z :=
  ⟨h.1.write _ _, by simpa using h.2⟩

end Go.Proofs.YtdedolkgcdlmeaaGreatDoor
