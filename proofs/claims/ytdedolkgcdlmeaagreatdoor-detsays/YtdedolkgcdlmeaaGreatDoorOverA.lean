/- The reference's division: the arithmetic of it, and what lies where while it is reckoned. -/
import Derived.Test.YtdedolkgcdlmeaaGreatDoorRefJ
import Derived.Test.YtdedolkgcdlmeaaGreatDoorGcdA
import Derived.Test.YtdedolkgcdlmeaaGreatDoorHold
import Derived.Laws.AppendOwnNone
namespace Go.Proofs.YtdedolkgcdlmeaaGreatDoor
open Go.RowKit Limbs Digs

theorem NumR.fits {w : World} {v : Value} {z : Int} {n m : Nat} (h : NumR w v z n) (h0 : -dp m < z) (h1 : z < dp m) : NumR w v z m := by
  obtain ⟨s, sl, ds, rfl, hd, hn, hz, hs, -⟩ := h
  have hdb : DB ds := by obtain ⟨_, _, _, _, _, h, _⟩ := hd; exact h
  refine ⟨s, sl, ds, rfl, hd, hn, hz, hs, ?_⟩
  rcases hs with ⟨h, -⟩ | ⟨-, h | h⟩
  · omega
  · subst h; exact len10_le_of_lt hdb hn (by omega)
  · subst h; exact len10_le_of_lt hdb hn (by omega)

theorem NumR.sign {w : World} {s z : Int} {sl : Value} {n : Nat} (h : NumR w (.agg #[.int .i64 s, sl]) z n) : (z = 0 ∧ s = 0) ∨ (0 < z ∧ s = 1) ∨ (z < 0 ∧ s = -1) := by
  obtain ⟨s', sl', ds, e, hd, hn, hz, hs, -⟩ := h
  simp only [Value.agg.injEq, Array.mk.injEq, List.cons.injEq, Value.int.injEq, and_true, true_and] at e
  obtain ⟨rfl, rfl⟩ := e
  have hdb : DB ds := by obtain ⟨_, _, _, _, _, h, _⟩ := hd; exact h
  rcases sign_of hdb hn hs with ⟨h1, h2⟩ | ⟨h1, rfl | rfl⟩
  · subst h2; exact .inl ⟨by omega, rfl⟩
  · exact .inr (.inl ⟨by omega, rfl⟩)
  · exact .inr (.inr ⟨by omega, rfl⟩)

theorem NumR.dig {w : World} {s z : Int} {sl : Value} {n : Nat} (h : NumR w (.agg #[.int .i64 s, sl]) z n) : ∃ ds, Dig w sl ds ∧ Nrm ds ∧ DB ds ∧ z = s * dv ds ∧ ds.length ≤ n := by
  obtain ⟨s', sl', ds, e, hd, hn, hz, hs, hl⟩ := h
  simp only [Value.agg.injEq, Array.mk.injEq, List.cons.injEq, Value.int.injEq, and_true, true_and] at e
  obtain ⟨rfl, rfl⟩ := e
  have hdb : DB ds := by obtain ⟨_, _, _, _, _, h, _⟩ := hd; exact h
  exact ⟨ds, hd, hn, hdb, hz, hl⟩

/-- Two boxes came in, two are for the results; what is left; the size. -/
structure OSt (w W : World) (D : Nat) (a0 a1 b0 b1 l0 l1 d0 d1 : Value) : Prop where
  a : BoxR W w.heap.size a0 a1
  b : BoxR W (w.heap.size + 1) b0 b1
  r : BoxR W (w.heap.size + 1 + 1) (.int .i64 0) (.slice none 0 0)
  s : BoxR W (w.heap.size + 1 + 1 + 1) (.int .i64 0) (.slice none 0 0)
  l : BoxR W (w.heap.size + 1 + 1 + 1 + 1) l0 l1
  d : BoxR W D d0 d1
  below : Below w.heap.size w W
  hD : w.heap.size + 1 + 1 + 1 + 1 < D

theorem OSt.later {w W W' : World} {D : Nat} {a0 a1 b0 b1 l0 l1 d0 d1 : Value} (h : OSt w W D a0 a1 b0 b1 l0 l1 d0 d1) (hb : Below W.heap.size W W') : OSt w W' D a0 a1 b0 b1 l0 l1 d0 d1 :=
  ⟨h.a.later hb h.a.lt, h.b.later hb h.b.lt, h.r.later hb h.r.lt, h.s.later hb h.s.lt, h.l.later hb h.l.lt, h.d.later hb h.d.lt, h.below.trans (hb.mono h.below.size), h.hD⟩

theorem OSt.drew {w W : World} {D : Nat} {a0 a1 b0 b1 l0 l1 d0 d1 : Value} (h : OSt w W D a0 a1 b0 b1 l0 l1 d0 d1) : OSt w W.drew D a0 a1 b0 b1 l0 l1 d0 d1 := ⟨h.a, h.b, h.r, h.s, h.l, h.d, h.below.drew, h.hD⟩

/-- A slice of digits, to be appended. -/
theorem Dig.news {w : World} {b off cap : Nat} {ds : List Int} (h : Dig w (.slice (some ⟨b, off, none⟩) ds.length cap) ds) (h0 : 0 < ds.length) : ∀ j u, (ds.map (Value.int .i64))[j]? = some u → w.cell? ((⟨b, off, none⟩ : Addr).add j) = some u := fun j u hu => by
  obtain ⟨_, _, e, -, -, -, hac⟩ := h
  simp only [Value.slice.injEq, true_and] at e
  obtain ⟨rfl, rfl⟩ := e
  obtain ⟨ab, aoff, acur, afz, e, -, hac⟩ := hac h0
  simp only [Option.some.injEq, Addr.mk.injEq, and_true] at e
  obtain ⟨rfl, rfl⟩ := e
  rw [List.getElem?_map] at hu
  by_cases hj : j < ds.length
  · rw [List.getElem?_eq_getElem hj] at hu
    simp only [Option.map_some, Option.some.injEq] at hu
    subst hu
    have := hac j hj
    rw [List.getD_eq_getElem?_getD, List.getElem?_eq_getElem hj, Option.getD_some] at this
    unfold Addr.add
    split
    · rename_i h0; subst h0; exact this
    · exact this
  · rw [List.getElem?_eq_none (by omega)] at hu
    cases hu

theorem Dig.form {w : World} {v : Value} {ds : List Int} (h : Dig w v ds) (h0 : 0 < ds.length) : ∃ b off cap, v = .slice (some ⟨b, off, none⟩) ds.length cap := by
  obtain ⟨ao, cap, rfl, -, -, -, hac⟩ := h
  obtain ⟨b, off, _, _, rfl, -⟩ := hac h0
  exact ⟨b, off, cap, rfl⟩

/-- What comes back. -/
def OverPost (w : World) (x y : Int) (n m : Nat) (e : Ending) (w' : World) : Prop :=
  ∃ vq vr q r, e = .returned (.tuple #[vq, vr]) ∧ NumR w' vq q (n + 6) ∧ NumR w' vr r m ∧ x = q * y + r ∧ Left r y ∧ Below w.heap.size w w'

/-- At the outer loop's head. -/
structure OInv (w wr : World) (D : Nat) (a b : List Int) (m : Nat) (p : Nat) (vq : Value) (qs : List Int) (left : Int) (l0 l1 d0 d1 : Value) : Prop where
  q : Dig wr vq qs
  ql : qs.length = a.length - p
  e0 : qs.length = 0 → vq = .slice none 0 0
  sum : dv qs * dv b + left = dv (a.drop p)
  le0 : 0 ≤ left
  le1 : left < dv b
  num : NumR wr (.agg #[l0, l1]) left m
  siz : NumR wr (.agg #[d0, d1]) (dv b) m

end Go.Proofs.YtdedolkgcdlmeaaGreatDoor
