/- The reference's division, walked. -/
import Derived.Test.YtdedolkgcdlmeaaGreatDoorOverA
namespace Go.Proofs.YtdedolkgcdlmeaaGreatDoor
open Go.RowKit Limbs Digs

theorem Dig.setBox {w : World} {v : Value} {ds : List Int} (h : Dig w v ds) {B : Nat} {u0 u1 : Value} (hB : BoxR w B u0 u1) (v0 v1 : Value) : Dig ((w.setCell ⟨B, 0, none⟩ v0).setCell ⟨B, 1, none⟩ v1) v ds :=
  (h.setCell hB (by decide) 0 v0).setCell (heap_setCell_same w B 0 _ _ v0 hB) (by decide) 1 v1

/-- Inside a round: what is left with one digit more, the size, the digits so far. -/
structure OIn (w W : World) (D : Nat) (a0 a1 b0 b1 : Value) (m : Nat) (vq : Value) (qs : List Int) (left B : Int) (l0 l1 d0 d1 : Value) : Prop where
  st : OSt w W D a0 a1 b0 b1 l0 l1 d0 d1
  num : NumR W (.agg #[l0, l1]) left (m + 1)
  siz : NumR W (.agg #[d0, d1]) B m
  q : Dig W vq qs

theorem OIn.later {w W W' : World} {D : Nat} {a0 a1 b0 b1 : Value} {m : Nat} {vq : Value} {qs : List Int} {left B : Int} {l0 l1 d0 d1 : Value} (h : OIn w W D a0 a1 b0 b1 m vq qs left B l0 l1 d0 d1) (hb : Below W.heap.size W W') : OIn w W' D a0 a1 b0 b1 m vq qs left B l0 l1 d0 d1 :=
  ⟨h.st.later hb, h.num.below hb (Nat.le_refl _), h.siz.below hb (Nat.le_refl _), h.q.below hb (Nat.le_refl _)⟩

theorem OIn.drew {w W : World} {D : Nat} {a0 a1 b0 b1 : Value} {m : Nat} {vq : Value} {qs : List Int} {left B : Int} {l0 l1 d0 d1 : Value} (h : OIn w W D a0 a1 b0 b1 m vq qs left B l0 l1 d0 d1) : OIn w W.drew D a0 a1 b0 b1 m vq qs left B l0 l1 d0 d1 :=
  ⟨h.st.drew, h.num, h.siz, h.q⟩

theorem OverPost.drew {w W : World} {x y : Int} {n m : Nat} {e : Ending} (h : OverPost w x y n m e W) : OverPost w x y n m e W.drew := by
  obtain ⟨vq, vr, q, r, h1, h2, h3, h4, h5, h6⟩ := h
  exact ⟨vq, vr, q, r, h1, h2, h3, h4, h5, h6.drew⟩

/-- Behind the loop: the two numbers' variables. -/
structure OFin (w W : World) (E H : Nat) (b0 b1 : Value) (k m : Nat) (y q r : Int) (n0 n1 r0 r1 : Value) : Prop where
  b : BoxR W (w.heap.size + 1) b0 b1
  br : BoxR W (w.heap.size + 1 + 1) (.int .i64 0) (.slice none 0 0)
  bs : BoxR W (w.heap.size + 1 + 1 + 1) (.int .i64 0) (.slice none 0 0)
  e : BoxR W E n0 n1
  h : BoxR W H r0 r1
  below : Below w.heap.size w W
  hE : w.heap.size + 1 + 1 + 1 + 1 < E
  hH : E < H
  ny : NumR W (.agg #[b0, b1]) y m
  nq : NumR W (.agg #[n0, n1]) q k
  nr : NumR W (.agg #[r0, r1]) r m

theorem OFin.later {w W W' : World} {E H : Nat} {b0 b1 : Value} {k m : Nat} {y q r : Int} {n0 n1 r0 r1 : Value} (f : OFin w W E H b0 b1 k m y q r n0 n1 r0 r1) (hb : Below W.heap.size W W') : OFin w W' E H b0 b1 k m y q r n0 n1 r0 r1 :=
  ⟨f.b.later hb f.b.lt, f.br.later hb f.br.lt, f.bs.later hb f.bs.lt, f.e.later hb f.e.lt, f.h.later hb f.h.lt, f.below.trans (hb.mono f.below.size), f.hE, f.hH, f.ny.below hb (Nat.le_refl _), f.nq.below hb (Nat.le_refl _), f.nr.below hb (Nat.le_refl _)⟩

theorem OFin.drew {w W : World} {E H : Nat} {b0 b1 : Value} {k m : Nat} {y q r : Int} {n0 n1 r0 r1 : Value} (f : OFin w W E H b0 b1 k m y q r n0 n1 r0 r1) : OFin w W.drew E H b0 b1 k m y q r n0 n1 r0 r1 :=
  ⟨f.b, f.br, f.bs, f.e, f.h, f.below.drew, f.hE, f.hH, f.ny, f.nq, f.nr⟩

theorem OFin.mono {w W : World} {E H : Nat} {b0 b1 : Value} {k k' m : Nat} {y q r : Int} {n0 n1 r0 r1 : Value} (f : OFin w W E H b0 b1 k m y q r n0 n1 r0 r1) (hk : k ≤ k') : OFin w W E H b0 b1 k' m y q r n0 n1 r0 r1 :=
  ⟨f.b, f.br, f.bs, f.e, f.h, f.below, f.hE, f.hH, f.ny, f.nq.mono hk, f.nr⟩

/-- The results' variables are written. -/
theorem OFin.give {w W : World} {E H : Nat} {b0 b1 : Value} {k m : Nat} {x y q r : Int} {n0 n1 r0 r1 : Value} (f : OFin w W E H b0 b1 (k + 6) m y q r n0 n1 r0 r1) (hx : x = q * y + r) (hl : Left r y) :
    OverPost w x y k m (.returned (.tuple #[.agg #[n0, n1], .agg #[r0, r1]])) ((((W.setCell ⟨w.heap.size + 1 + 1, 0, none⟩ n0).setCell ⟨w.heap.size + 1 + 1, 1, none⟩ n1).setCell ⟨w.heap.size + 1 + 1 + 1, 0, none⟩ r0).setCell ⟨w.heap.size + 1 + 1 + 1, 1, none⟩ r1) := by
  have hs := (f.bs.other (show w.heap.size + 1 + 1 + 1 ≠ w.heap.size + 1 + 1 by omega) 0 n0).other (show w.heap.size + 1 + 1 + 1 ≠ w.heap.size + 1 + 1 by omega) 1 n1
  exact ⟨_, _, q, r, rfl, (f.nq.setCell f.br _ _).setCell hs _ _, (f.nr.setCell f.br _ _).setCell hs _ _, hx, hl, (((f.below.setCell (by simp; omega) _).setCell (by simp; omega) _).setCell (by simp; omega) _).setCell (by simp; omega) _⟩

end Go.Proofs.YtdedolkgcdlmeaaGreatDoor
