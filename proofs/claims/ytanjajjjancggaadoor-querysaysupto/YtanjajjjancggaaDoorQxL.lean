/- The reference on expressions: the pure part: parts, depth, fault, reading. -/
import Derived.Test.YtanjajjjancggaaDoorQxK

namespace Go.Proofs.YtanjajjjancggaaDoor
open Go.RowKit

mutual
def partsE : Ex → Nat
 | .mk _ _ _ a => 1 + partsL a
def partsL : List Ex → Nat
 | [] => 0
 | x :: t => partsE x + partsL t
end

mutual
def deepE : Ex → Nat
 | .mk _ _ _ a => deepL a + 1
def deepL : List Ex → Nat
 | [] => 0
 | x :: t => max (deepE x) (deepL t)
end

theorem partsE_pos (e : Ex) : 1 ≤ partsE e := by
 obtain ⟨k, n, s, a⟩ := e
 rw [partsE]; omega

mutual
theorem deep_parts : ∀ e : Ex, deepE e ≤ partsE e
 | .mk k n s a => by
  have := deepL_parts a
  rw [deepE, partsE]; omega
theorem deepL_parts : ∀ l : List Ex, deepL l ≤ partsL l
 | [] => by rw [deepL, partsL]; exact Nat.le_refl _
 | x :: t => by
  have := deep_parts x
  have := deepL_parts t
  rw [deepL, partsL]; omega
end

theorem roomL_neg : ∀ (l : List Ex) (d : Nat), roomL l d (-1) = -1
 | [], d => by rw [roomL]
 | x :: t, d => by rw [roomL, if_neg (by decide)]

mutual
theorem room_is : ∀ (e : Ex) (d : Nat) (m : Int), 0 ≤ m → roomE e d m = if (partsE e : Int) ≤ m ∧ deepE e ≤ d then m - partsE e else -1
 | .mk k n s a, d, m, h => by
  rw [roomE, partsE, deepE]
  by_cases hd : d = 0
  ·rw [if_pos hd, if_neg (by omega)]
  ·rw [if_neg hd]
   by_cases hm : m = 0
   ·subst hm
    rw [show (0 : Int) - 1 = -1 by decide, roomL_neg, if_neg (by omega)]
   ·rw [roomL_is a (d - 1) (m - 1) (by omega)]
    by_cases h1 : (partsL a : Int) ≤ m - 1 ∧ deepL a ≤ d - 1
    ·rw [if_pos h1, if_pos (by omega)]; omega
    ·rw [if_neg h1, if_neg (by omega)]
theorem roomL_is : ∀ (l : List Ex) (d : Nat) (m : Int), 0 ≤ m → roomL l d m = if (partsL l : Int) ≤ m ∧ deepL l ≤ d then m - partsL l else -1
 | [], d, m, h => by
  rw [roomL, partsL, deepL, if_pos (by omega)]; omega
 | x :: t, d, m, h => by
  have hp := partsE_pos x
  rw [roomL, if_pos h, room_is x d m h, partsL, deepL]
  by_cases h1 : (partsE x : Int) ≤ m ∧ deepE x ≤ d
  ·rw [if_pos h1, roomL_is t d _ (by omega)]
   by_cases h2 : (partsL t : Int) ≤ m - partsE x ∧ deepL t ≤ d
   ·rw [if_pos h2, if_pos (by omega)]; omega
   ·rw [if_neg h2, if_neg (by omega)]
  ·rw [if_neg h1, roomL_neg, if_neg (by omega)]
end

theorem fault_is (e : Ex) : faultE e = if 20 < partsE e ∨ 6 < deepE e then 2 else if shapedE e = true then 0 else 3 := by
 unfold faultE
 rw [room_is e 6 20 (by decide)]
 by_cases h : (partsE e : Int) ≤ 20 ∧ deepE e ≤ 6
 ·have h1 : ¬ ((20 : Int) - partsE e < 0) := by omega
  have h2 : ¬ (20 < partsE e ∨ 6 < deepE e) := by omega
  rw [if_pos h, if_neg h1, if_neg h2]
 ·rw [if_neg h, if_pos (by decide), if_pos (by omega)]

def inRef (b : UInt8) : Bool := (decide (97 ≤ b.toNat) && decide (b.toNat ≤ 122)) || (decide (48 ≤ b.toNat) && decide (b.toNat ≤ 57))

def readR : Nat → List UInt8 → Option (Ex × List UInt8)
 | 0, _ => none
 | d + 1, l =>
  if Lib.hasPrefix l [40] = true then
   match readR d (Lib.trimPrefix l [40]) with
   | none => none
   | some (a, r) =>
    if Lib.hasPrefix r (spacedB true) = true then
     match readR d (Lib.trimPrefix r (spacedB true)) with
     | none => none
     | some (b, r) => if Lib.hasPrefix r [41] = true then some (.mk (kindQ true) 0 ⟨#[]⟩ [a, b], Lib.trimPrefix r [41]) else none
    else if Lib.hasPrefix r (spacedB false) = true then
     match readR d (Lib.trimPrefix r (spacedB false)) with
     | none => none
     | some (b, r) => if Lib.hasPrefix r [41] = true then some (.mk (kindQ false) 0 ⟨#[]⟩ [a, b], Lib.trimPrefix r [41]) else none
    else none
  else if Lib.hasPrefix l fillP = true then
   match readR d (Lib.trimPrefix l fillP) with
   | none => none
   | some (a, r) => some (.mk 4 0 ⟨#[]⟩ [a], r)
  else if Lib.hasPrefix l wholeP = true then
   match (Lib.trimPrefix l wholeP).takeWhile inRef with
   | [c] => if 49 ≤ c.toNat ∧ c.toNat ≤ 52 then some (.mk 5 ((c.toNat : Int) - 48) ⟨#[]⟩ [], (Lib.trimPrefix l wholeP).dropWhile inRef) else none
   | _ => none
  else some (.mk 1 0 ⟨(l.takeWhile inRef).toArray⟩ [], l.dropWhile inRef)

theorem prefix_split {l p : List UInt8} (h : Lib.hasPrefix l p = true) : l = p ++ Lib.trimPrefix l p := by
 unfold Lib.trimPrefix
 rw [if_pos h]
 unfold Lib.hasPrefix at h
 rw [List.isPrefixOf_iff_prefix] at h
 obtain ⟨t, rfl⟩ := h
 rw [List.drop_left]

theorem shaped_two {k n : Int} {s : ByteArray} {a b : Ex} (h : shapedE (.mk k n s [a, b]) = true) : shapedE a = true ∧ shapedE b = true := by
 rw [shapedE, shapedL, shapedL, shapedL, Bool.and_true, Bool.and_eq_true, Bool.and_eq_true] at h
 exact h.2

theorem shaped_one {k n : Int} {s : ByteArray} {a : Ex} (h : shapedE (.mk k n s [a]) = true) : shapedE a = true := by
 rw [shapedE, shapedL, shapedL, Bool.and_true, Bool.and_eq_true] at h
 exact h.2

theorem dec_digit {c : UInt8} (h : 49 ≤ c.toNat ∧ c.toNat ≤ 52) : Lib.decDigits (c.toNat - 48) = [c] := by
 have : c = 49 ∨ c = 50 ∨ c = 51 ∨ c = 52 := by
  have : c.toNat = 49 ∨ c.toNat = 50 ∨ c.toNat = 51 ∨ c.toNat = 52 := by omega
  rcases this with h | h | h | h
  ·exact .inl (UInt8.toNat.inj h)
  ·exact .inr (.inl (UInt8.toNat.inj h))
  ·exact .inr (.inr (.inl (UInt8.toNat.inj h)))
  ·exact .inr (.inr (.inr (UInt8.toNat.inj h)))
 rcases this with rfl | rfl | rfl | rfl <;> decide +kernel

theorem readR_text : ∀ (d : Nat) (l r : List UInt8) (x : Ex), readR d l = some (x, r) → shapedE x = true → ∃ q : Qx, q.ok ∧ q.ex = x ∧ q.text ++ r = l
 | 0, l, r, x, h, hs => by rw [readR] at h; cases h
 | d + 1, l, r, x, h, hs => by
  rw [readR] at h
  split at h
  ·rename_i h1
   have e1 := prefix_split h1
   split at h
   ·cases h
   ·rename_i a r1 ha
    have two : ∀ k : Bool, Lib.hasPrefix r1 (spacedB k) = true → (match readR d (Lib.trimPrefix r1 (spacedB k)) with
     | none => none
     | some (b, r) => if Lib.hasPrefix r [41] = true then some ((.mk (kindQ k) 0 ⟨#[]⟩ [a, b] : Ex), Lib.trimPrefix r [41]) else none) = some (x, r) → ∃ q : Qx, q.ok ∧ q.ex = x ∧ q.text ++ r = l := by
     intro k h2 h
     have e2 := prefix_split h2
     split at h
     ·cases h
     ·rename_i b r2 hb
      split at h
      ·rename_i h3
       have e3 := prefix_split h3
       obtain ⟨rfl, rfl⟩ := Prod.mk.inj (Option.some.inj h)
       obtain ⟨s1, s2⟩ := shaped_two hs
       obtain ⟨p, hp, rfl, tp⟩ := readR_text d _ _ _ ha s1
       obtain ⟨q, hq, rfl, tq⟩ := readR_text d _ _ _ hb s2
       refine ⟨.two k p q, ⟨hp, hq⟩, rfl, ?_⟩
       conv => rhs; rw [e1, ← tp, e2, ← tq, e3]
       simp [Qx.text]
      ·cases h
    split at h
    ·rename_i h2
     exact two true h2 h
    ·split at h
     ·rename_i h2
      exact two false h2 h
     ·cases h
  ·split at h
   ·rename_i h2
    have e2 := prefix_split h2
    split at h
    ·cases h
    ·rename_i a r1 ha
     obtain ⟨rfl, rfl⟩ := Prod.mk.inj (Option.some.inj h)
     obtain ⟨p, hp, rfl, tp⟩ := readR_text d _ _ _ ha (shaped_one hs)
     refine ⟨.fill p, hp, rfl, ?_⟩
     conv => rhs; rw [e2, ← tp]
     simp [Qx.text, fillB, fillP]
   ·split at h
    ·rename_i h3
     have e3 := prefix_split h3
     split at h
     ·rename_i c hc
      split at h
      ·rename_i h4
       obtain ⟨rfl, rfl⟩ := Prod.mk.inj (Option.some.inj h)
       refine ⟨.whole (c.toNat - 48), by show _ ∧ _; omega, by rw [Qx.ex]; congr 1; omega, ?_⟩
       have e4 : Lib.trimPrefix l wholeP = [c] ++ (Lib.trimPrefix l wholeP).dropWhile inRef := by
        rw [← hc, List.takeWhile_append_dropWhile]
       rw [Qx.text, dec_digit h4]
       conv => rhs; rw [e3, e4]
       simp [wholeB, wholeP]
      ·cases h
     ·cases h
    ·obtain ⟨rfl, rfl⟩ := Prod.mk.inj (Option.some.inj h)
     refine ⟨.name ⟨(l.takeWhile inRef).toArray⟩, ?_, rfl, ?_⟩
     ·rw [shapedE, shapedL, Bool.and_true] at hs
      unfold usedE at hs
      rw [if_pos rfl] at hs
      exact (and3 hs).1
     ·rw [Qx.text]
      show (l.takeWhile inRef).toArray.toList ++ _ = _
      rw [List.takeWhile_append_dropWhile]

end Go.Proofs.YtanjajjjancggaaDoor

/- Reading an expression: two parts in brackets. -/
namespace Go.Proofs.YtanjajjjancggaaDoor
open Go.RowKit

def ExF (W : World) (base : Nat) : Nat → Ex → List Value → Prop
 | 0, _, _ => False
 | d + 1, .mk kind n s a, cs => ∃ o cap, cs = exC kind n s (.slice o a.length cap) ∧ a.length ≤ cap ∧ a.length ≤ 9223372036854775807 ∧
     (0 < a.length → ∃ b off, o = some ⟨b, off, none⟩ ∧ base ≤ b ∧ b < W.heap.size ∧ ∀ (i : Nat) (x : Ex), a[i]? = some x → ∃ ys, ExF W base d x ys ∧ ∀ (j : Nat) (u : Value), ys[j]? = some u → W.cell? ⟨b, off + i * 4 + j, none⟩ = some u)

theorem ExF.ex {W : World} {base : Nat} : ∀ {d : Nat} {e : Ex} {cs : List Value}, ExF W base d e cs → ExD W d e cs
 | 0, _, _, h => h.elim
 | d + 1, .mk kind n s a, cs, h => by
  rw [ExF] at h
  rw [ExD]
  obtain ⟨o, cap, e, h1, h2, h3⟩ := h
  refine ⟨o, cap, e, h1, h2, fun h0 => ?_⟩
  obtain ⟨b, off, e, -, hlt, h4⟩ := h3 h0
  refine ⟨b, off, e, hlt, fun i x hi => ?_⟩
  obtain ⟨ys, h5, h6⟩ := h4 i x hi
  exact ⟨ys, h5.ex, h6⟩

theorem ExF.keep {W W' : World} {base base' : Nat} (hl : base' ≤ base) (hs : W.heap.size ≤ W'.heap.size) (hk : ∀ b, base ≤ b → b < W.heap.size → W'.heap[b]? = W.heap[b]?) : ∀ {d : Nat} {e : Ex} {cs : List Value}, ExF W base d e cs → ExF W' base' d e cs
 | 0, _, _, h => h.elim
 | d + 1, .mk kind n s a, cs, h => by
  rw [ExF] at h ⊢
  obtain ⟨o, cap, e, h1, h2, h3⟩ := h
  refine ⟨o, cap, e, h1, h2, fun h0 => ?_⟩
  obtain ⟨b, off, e, hb, hlt, h4⟩ := h3 h0
  refine ⟨b, off, e, Nat.le_trans hl hb, Nat.lt_of_lt_of_le hlt hs, fun i x hi => ?_⟩
  obtain ⟨ys, h5, h6⟩ := h4 i x hi
  exact ⟨ys, ExF.keep hl hs hk h5, fun j u hj => (World.cell?_of_block (hk b hb hlt)).trans (h6 j u hj)⟩

theorem ExF.later {W W' : World} {base base' d : Nat} {e : Ex} {cs : List Value} (h : ExF W base d e cs) (hl : base' ≤ base) (hb : Below W.heap.size W W') : ExF W' base' d e cs := h.keep hl hb.size (fun b _ hlt => hb.block b hlt)

theorem ExF.up {W : World} {base : Nat} : ∀ {d : Nat} {e : Ex} {cs : List Value}, ExF W base d e cs → ExF W base (d + 1) e cs
 | 0, _, _, h => h.elim
 | d + 1, .mk kind n s a, cs, h => by
  rw [ExF] at h ⊢
  obtain ⟨o, cap, e, h1, h2, h3⟩ := h
  refine ⟨o, cap, e, h1, h2, fun h0 => ?_⟩
  obtain ⟨b, off, e, hb, hlt, h4⟩ := h3 h0
  refine ⟨b, off, e, hb, hlt, fun i x hi => ?_⟩
  obtain ⟨ys, h5, h6⟩ := h4 i x hi
  exact ⟨ys, ExF.up h5, h6⟩

theorem ExF.mono {W : World} {base d d' : Nat} {e : Ex} {cs : List Value} (h : ExF W base d e cs) (hd : d ≤ d') : ExF W base d' e cs := by
 obtain ⟨k, rfl⟩ := Nat.exists_eq_add_of_le hd
 clear hd
 induction k with
 | zero => exact h
 | succ k ih => exact ih.up

theorem ExF.agg {W : World} {base d : Nat} {e : Ex} {cs : List Value} (h : ExF W base d e cs) : ∃ k n s o m cap, cs = exC k n s (.slice o m cap) := by
 obtain ⟨k, n, s, a⟩ := e
 obtain ⟨o, cap, rfl⟩ := h.ex.agg
 exact ⟨k, n, s, o, _, cap, rfl⟩

theorem ExF.leaf (W : World) (base : Nat) (k n : Int) (s : ByteArray) : ExF W base 1 (.mk k n s []) (exC k n s (.slice none 0 0)) := by
 rw [ExF]
 exact ⟨none, 0, rfl, Nat.le_refl _, by decide, fun h => absurd h (by decide)⟩

theorem ExF.one {W : World} {base d B : Nat} {a : Ex} {ys : List Value} {t : TypeId} (h : ExF W base d a ys) (k n : Int) (s : ByteArray) (hB : base ≤ B) (hh : W.heap[B]? = some (.cells ys.toArray t (0, 0))) : ExF W base (d + 1) (.mk k n s [a]) (exC k n s (.slice (some ⟨B, 0, none⟩) 1 1)) := by
 rw [ExF]
 refine ⟨_, 1, rfl, Nat.le_refl _, (by show 1 ≤ _; decide), fun _ => ⟨B, 0, rfl, hB, heap_lt hh, fun i x hi => ?_⟩⟩
 obtain rfl : i = 0 := by
  have := (List.getElem?_eq_some_iff.1 hi).1
  simp at this
  exact this
 obtain rfl := Option.some.inj hi
 refine ⟨ys, h, fun j u hj => ?_⟩
 rw [show 0 + 0 * 4 + j = j by omega, cell_of_row _ _ _ _ _ _ hh]
 simpa using hj

theorem ExF.pair {W : World} {base d B : Nat} {a b : Ex} {ys zs : List Value} {t : TypeId} (h : ExF W base d a ys) (h' : ExF W base d b zs) (k n : Int) (s : ByteArray) (hB : base ≤ B) (hh : W.heap[B]? = some (.cells (ys ++ zs).toArray t (0, 0))) (hl : ys.length = 4) : ExF W base (d + 1) (.mk k n s [a, b]) (exC k n s (.slice (some ⟨B, 0, none⟩) 2 2)) := by
 rw [ExF]
 refine ⟨_, 2, rfl, Nat.le_refl _, (by show 2 ≤ _; decide), fun _ => ⟨B, 0, rfl, hB, heap_lt hh, fun i x hi => ?_⟩⟩
 have hlt := (List.getElem?_eq_some_iff.1 hi).1
 rcases (by simp at hlt; omega : i = 0 ∨ i = 1) with rfl | rfl
 ·obtain rfl := Option.some.inj hi
  refine ⟨ys, h, fun j u hj => ?_⟩
  rw [show 0 + 0 * 4 + j = j by omega, cell_of_row _ _ _ _ _ _ hh]
  have hj' := (List.getElem?_eq_some_iff.1 hj).1
  rw [← Array.getElem?_toList]
  show (ys ++ zs)[j]? = _
  rw [List.getElem?_append_left hj']
  exact hj
 ·obtain rfl := Option.some.inj hi
  refine ⟨zs, h', fun j u hj => ?_⟩
  rw [cell_of_row _ _ _ _ _ _ hh, ← Array.getElem?_toList]
  show (ys ++ zs)[0 + 1 * 4 + j]? = _
  rw [List.getElem?_append_right (by omega), hl, show 0 + 1 * 4 + j - 4 = j by omega]
  exact hj

def twoX (f : List UInt8 → Option (Ex × List UInt8)) (l : List UInt8) : Option (Ex × List UInt8) :=
 match f l with
 | none => none
 | some (a, r) => match signX r with
  | none => none
  | some (k, r) => match f r with
   | none => none
   | some (b, r) => if Lib.hasPrefix r [41] = true then some (.mk (kindQ k) 0 ⟨#[]⟩ [a, b], Lib.trimPrefix r [41]) else none

theorem readX_two {d : Nat} {l : List UInt8} (h : Lib.hasPrefix l [40] = true) : readX (d + 1) l = twoX (readX d) (Lib.trimPrefix l [40]) := by
 rw [readX, if_pos h]
 rfl

def RdP (f : List UInt8 → Option (Ex × List UInt8)) (l : List UInt8) (w : World) (e : Ending) (w' : World) : Prop :=
 ∃ x cs r ok dd, e = .returned (.tuple #[.agg cs.toArray, strV r, .bool ok]) ∧ ExF w' w.heap.size dd x cs ∧ Below w.heap.size w w' ∧ (∃ p, l = p ++ r) ∧ (Ascii l → f l = if ok = true then some (x, r) else none)

theorem Ascii.tail {p r : List UInt8} (h : Ascii (p ++ r)) : Ascii r := fun b hb => h b (by simp [hb])

theorem trim_suffix (l p : List UInt8) : ∃ q, l = q ++ Lib.trimPrefix l p := by
 unfold Lib.trimPrefix
 split
 ·exact ⟨l.take p.length, (List.take_append_drop _ _).symm⟩
 ·exact ⟨[], rfl⟩

@[reducible] def put4 (W : World) (b : Nat) (k n : Int) (s : ByteArray) (v : Value) : World := (((W.setCell ⟨b, 0, none⟩ (.int .i64 k)).setCell ⟨b, 1, none⟩ (.int .i64 n)).setCell ⟨b, 2, none⟩ (.string s)).setCell ⟨b, 3, none⟩ v

theorem ExB.put {W : World} {b : Nat} {k n : Int} {s : ByteArray} {v : Value} (x : ExB W b k n s v) (k' n' : Int) (s' : ByteArray) (v' : Value) : ExB (put4 W b k' n' s' v') b k' n' s' v' := by
 unfold ExB at x ⊢
 rw [heap_setCell_same _ b 3 _ _ _ (heap_setCell_same _ b 2 _ _ _ (heap_setCell_same _ b 1 _ _ _ (heap_setCell_same _ b 0 _ _ _ x)))]
 rfl

theorem put4_heap {W : World} {b c : Nat} (k n : Int) (s : ByteArray) (v : Value) (h : c ≠ b) : (put4 W b k n s v).heap[c]? = W.heap[c]? := by
 rw [heap_setCell_other _ _ _ _ (fun e => h e), heap_setCell_other _ _ _ _ (fun e => h e), heap_setCell_other _ _ _ _ (fun e => h e), heap_setCell_other _ _ _ _ (fun e => h e)]

theorem put4_size (W : World) (b : Nat) (k n : Int) (s : ByteArray) (v : Value) : (put4 W b k n s v).heap.size = W.heap.size := by simp

theorem put4_below {K : Nat} {w W : World} {b : Nat} (h : Below K w W) (hK : K ≤ b) (k n : Int) (s : ByteArray) (v : Value) : Below K w (put4 W b k n s v) :=
 ((((h.setCell (p := ⟨b, 0, none⟩) hK _).setCell (p := ⟨b, 1, none⟩) hK _).setCell (p := ⟨b, 2, none⟩) hK _).setCell (p := ⟨b, 3, none⟩) hK _)

theorem ExF.put {W : World} {base d b : Nat} {e : Ex} {cs : List Value} (h : ExF W base d e cs) (hb : b < base) (base' : Nat) (hl : base' ≤ base) (k n : Int) (s : ByteArray) (v : Value) : ExF (put4 W b k n s v) base' d e cs :=
 h.keep hl (Nat.le_of_eq (put4_size W b k n s v).symm) (fun c hc _ => put4_heap k n s v (by omega))

theorem rdP_none {f : List UInt8 → Option (Ex × List UInt8)} {l : List UInt8} {w W : World} (hb : Below w.heap.size w W) (hf : Ascii l → f l = none) : RdP f l w (.returned (.tuple #[.agg #[.int .i64 0, .int .i64 0, .string ⟨#[]⟩, .slice none 0 0], .string ⟨#[]⟩, .bool false])) W :=
 ⟨.mk 0 0 ⟨#[]⟩ [], exC 0 0 ⟨#[]⟩ (.slice none 0 0), [], false, 1, rfl, ExF.leaf _ _ _ _ _, hb, ⟨l, (List.append_nil l).symm⟩, fun h => by rw [hf h]; rfl⟩

set_option linter.unusedSimpArgs false in
set_option maxRecDepth 100000 in
set_option maxHeartbeats 3200000 in
theorem readTwo_of (D : Nat) (H : ∀ (w : World) (l : List UInt8), l.length ≤ 1000000 → ErrQ w → Calls Tryd.prog 22 #[strV l, .int .i64 (D : Int)] w fun e w' => RdP (readX D) l w e w') (w : World) (l : List UInt8) (hl : l.length ≤ 1000000) (he : ErrQ w) :
  Calls Tryd.prog 32 #[strV l, .int .i64 (D : Int)] w fun e w' => RdP (twoX (readX D)) l w e w' := by
 have hb1 := alloc_below w (.cells #[.int .i64 0, .int .i64 0, .string ⟨#[]⟩, .slice none 0 0] 24)
 have HX := hide (ExB.new w 0 0 ⟨#[]⟩ (.slice none 0 0)); have HB1 := hide hb1; have HE := hide he
 have HH := hide H
 clear hb1 H he
 go_enter Tryd.func32, Tryd.ntmps32
 go_wp2_with fail
 refine (HH.out _ l hl (HE.out.below HB1.out)).mono ?_
 rintro e w2 ⟨x, cs, r, ok, dd, rfl, hx, hb2, hsuf, hrd⟩
 obtain ⟨k, n, s, o, m, cap, rfl⟩ := hx.agg
 have HF2 := hide hx; have HS := hide hsuf; have HR := hide hrd
 have HX2 := hide (HX.out.later hb2); have HB2 := hide (HB1.out.trans (hb2.mono HB1.out.size))
 clear hx hb2 hsuf hrd HX HB1
 cases ok with
 | false =>
  have hb3 := alloc_below w2 (.cells #[.int .i64 k, .int .i64 n, .string s, .slice o m cap] 24)
  have HX3 := hide (HX2.out.later hb3)
  have HFIN : Hid (RdP (twoX (readX D)) l w (.returned (.tuple #[.agg #[.int .i64 0, .int .i64 0, .string ⟨#[]⟩, .slice none 0 0], .string ⟨#[]⟩, .bool false])) (put4 (w2.alloc (.cells #[.int .i64 k, .int .i64 n, .string s, .slice o m cap] 24)) w.heap.size 0 0 ⟨#[]⟩ (.slice none 0 0))) :=
   rdP_none (put4_below (HB2.out.trans (hb3.mono HB2.out.size)) (Nat.le_refl _) _ _ _ _) (fun h => by unfold twoX; rw [HR.out h]; rfl)
  obtain ⟨c0, c1, c2, c3, hf⟩ := HX3.out.cells
  have f0 := hf 0; have f1 := hf 1; have f2 := hf 2; have f3 := hf 3
  obtain ⟨g0, g1, g2, g3, -⟩ := (HX3.out.put 0 0 ⟨#[]⟩ (.slice none 0 0)).cells
  clear hb3 hf
  go_wp2
  exact bodyPost_ret (v := .tuple #[.agg #[.int .i64 0, .int .i64 0, .string ⟨#[]⟩, .slice none 0 0], .string ⟨#[]⟩, .bool false]) (by simp [results, Tryd.results32, go_sem, g0, g1, g2, g3]) rfl HFIN.out
 | true =>
  have hb3 := alloc_below w2 (.cells #[.int .i64 k, .int .i64 n, .string s, .slice o m cap] 24)
  have HX3 := hide (HX2.out.later hb3); have HB3 := hide (HB2.out.trans (hb3.mono HB2.out.size)); have HF3 := hide (HF2.out.later (Nat.le_refl _) hb3)
  have HY3 := hide (ExB.new w2 k n s (.slice o m cap))
  have hlt3 : w.heap.size < w2.heap.size := heap_lt HX2.out
  clear hb3 HX2 HB2 HF2
  obtain ⟨W3, hW3⟩ : ∃ W3, w2.alloc (.cells #[.int .i64 k, .int .i64 n, .string s, .slice o m cap] 24) = W3 := ⟨_, rfl⟩
  have hsz3 : w2.heap.size < W3.heap.size := by rw [← hW3]; simp
  rw [hW3] at HX3 HB3 HF3 HY3
  have HSG := hide (show Calls Tryd.prog 40 #[strV r] W3 fun e w' => SgP r W3 e w' from readSign_any ⟨r.toArray⟩ W3)
  have hrl : r.length ≤ l.length := by obtain ⟨p, hp⟩ := HS.out; rw [hp, List.length_append]; omega
  have HK : Hid (∀ W, Below W3.heap.size W3 W → ExB W w.heap.size 0 0 ⟨#[]⟩ (.slice none 0 0) ∧ Below w.heap.size w W ∧ ExF W (w.heap.size + 1) dd x (exC k n s (.slice o m cap)) ∧ ExB W w2.heap.size k n s (.slice o m cap) ∧ ErrQ W) := fun W hb =>
   ⟨HX3.out.later hb, HB3.out.trans (hb.mono HB3.out.size), HF3.out.later (by simp) hb, HY3.out.later hb, HE.out.below (HB3.out.trans (hb.mono HB3.out.size))⟩
  clear HX3 HB3 HF3 HY3
  go_wp2_with fail
  refine HSG.out.mono ?_
  rintro e w5 ⟨rfl, hb5⟩
  have HB5 := hide hb5
  clear hb5 HSG
  cases hsg : signX r with
  | none =>
   have HK5 := hide (HK.out w5 HB5.out)
   have HFIN : Hid (RdP (twoX (readX D)) l w (.returned (.tuple #[.agg #[.int .i64 0, .int .i64 0, .string ⟨#[]⟩, .slice none 0 0], .string ⟨#[]⟩, .bool false])) (put4 w5 w.heap.size 0 0 ⟨#[]⟩ (.slice none 0 0))) :=
    rdP_none (put4_below HK5.out.2.1 (Nat.le_refl _) _ _ _ _) (fun h => by unfold twoX; rw [HR.out h]; simp only [if_true]; rw [hsg])
   obtain ⟨c0, c1, c2, c3, hf⟩ := HK5.out.1.cells
   have f0 := hf 0; have f1 := hf 1; have f2 := hf 2; have f3 := hf 3
   obtain ⟨g0, g1, g2, g3, -⟩ := (HK5.out.1.put 0 0 ⟨#[]⟩ (.slice none 0 0)).cells
   clear hf hsg HK5
   rw [show sgV none = .tuple #[.int .i64 0, strV [], .bool false] from rfl]
   go_wp2
   exact bodyPost_ret (v := .tuple #[.agg #[.int .i64 0, .int .i64 0, .string ⟨#[]⟩, .slice none 0 0], .string ⟨#[]⟩, .bool false]) (by simp [results, Tryd.results32, go_sem, g0, g1, g2, g3]) rfl HFIN.out
  | some p =>
   obtain ⟨sk, r2⟩ := p
   have HSGX := hide hsg
   have hr2 : ∃ q, r = q ++ r2 := by
    unfold signX at hsg
    split at hsg
    ·obtain ⟨-, rfl⟩ := Prod.mk.inj (Option.some.inj hsg)
     exact ⟨r.take 3, (List.take_append_drop _ _).symm⟩
    ·split at hsg
     ·obtain ⟨-, rfl⟩ := Prod.mk.inj (Option.some.inj hsg)
      exact ⟨r.take 3, (List.take_append_drop _ _).symm⟩
     ·cases hsg
   have hr2l : r2.length ≤ 1000000 := by obtain ⟨q, hq⟩ := hr2; rw [hq, List.length_append] at hrl; omega
   have HR2 := hide hr2
   clear hsg hr2
   rw [show sgV (some (sk, r2)) = .tuple #[.int .i64 (kindQ sk), strV r2, .bool true] from rfl]
   go_wp2_with fail
   refine (HH.out w5 r2 hr2l (HK.out w5 HB5.out).2.2.2.2).mono ?_
   rintro e w6 ⟨x2, cs2, r3, ok2, dd2, rfl, hx2, hb6, hsuf2, hrd2⟩
   obtain ⟨k2, n2, s2, o2, m2, cap2, rfl⟩ := hx2.agg
   have hb7 := alloc_below w6 (.cells #[.int .i64 k2, .int .i64 n2, .string s2, .slice o2 m2 cap2] 24)
   have HB7 := hide (HB5.out.trans ((hb6.trans (hb7.mono hb6.size)).mono HB5.out.size))
   have HF7 := hide (hx2.later (base' := w.heap.size + 1) (by have := HB5.out.size; omega) hb7)
   have HY7 := hide (ExB.new w6 k2 n2 s2 (.slice o2 m2 cap2))
   have HS2 := hide hsuf2; have HRD2 := hide hrd2
   obtain ⟨W7, hW7⟩ : ∃ W7, w6.alloc (.cells #[.int .i64 k2, .int .i64 n2, .string s2, .slice o2 m2 cap2] 24) = W7 := ⟨_, rfl⟩
   rw [hW7] at HB7 HF7 HY7
   have HK7 := hide (HK.out W7 HB7.out)
   have hsz67 : w.heap.size + 1 ≤ W7.heap.size := by have := HB7.out.size; omega
   clear hx2 hb6 hsuf2 hrd2 hb7 HK
   cases ok2 with
   | false =>
    have HFIN : Hid (RdP (twoX (readX D)) l w (.returned (.tuple #[.agg #[.int .i64 0, .int .i64 0, .string ⟨#[]⟩, .slice none 0 0], .string ⟨#[]⟩, .bool false])) (put4 W7 w.heap.size 0 0 ⟨#[]⟩ (.slice none 0 0))) :=
     rdP_none (put4_below HK7.out.2.1 (Nat.le_refl _) _ _ _ _) (fun h => by
      have h2 : Ascii r2 := by
       obtain ⟨p, hp⟩ := HS.out
       rw [hp] at h
       obtain ⟨q, hq⟩ := HR2.out
       have := h.tail
       rw [hq] at this
       exact this.tail
      unfold twoX; rw [HR.out h]; simp only [if_true]; rw [HSGX.out]; simp only; rw [HRD2.out h2]; rfl)
    obtain ⟨c0, c1, c2, c3, hf⟩ := HK7.out.1.cells
    have f0 := hf 0; have f1 := hf 1; have f2 := hf 2; have f3 := hf 3
    obtain ⟨g0, g1, g2, g3, -⟩ := (HK7.out.1.put 0 0 ⟨#[]⟩ (.slice none 0 0)).cells
    clear hf HK7
    go_wp2
    exact bodyPost_ret (v := .tuple #[.agg #[.int .i64 0, .int .i64 0, .string ⟨#[]⟩, .slice none 0 0], .string ⟨#[]⟩, .bool false]) (by simp [results, Tryd.results32, go_sem, g0, g1, g2, g3]) rfl HFIN.out
   | true =>
    have HCU := hide (show Calls Tryd.prog 31 #[strV r3, .string ⟨#[41]⟩] W7 fun e w' => e = .returned (.tuple #[strV (Lib.trimPrefix r3 [41]), .bool (Lib.hasPrefix r3 [41])]) ∧ w' = W7 from Tryd.strings_CutPrefix ⟨r3.toArray⟩ ⟨#[41]⟩ W7)
    obtain ⟨r4, hr4⟩ : ∃ x, Lib.trimPrefix r3 [41] = x := ⟨_, rfl⟩
    obtain ⟨ok3, hok3⟩ : ∃ x, Lib.hasPrefix r3 [41] = x := ⟨_, rfl⟩
    have hb9 := alloc_below W7 (.cells #[.int .i64 k, .int .i64 n, .string s, .slice o m cap, .int .i64 k2, .int .i64 n2, .string s2, .slice o2 m2 cap2] 24)
    have hh9 := heap_alloc_new W7 (.cells #[.int .i64 k, .int .i64 n, .string s, .slice o m cap, .int .i64 k2, .int .i64 n2, .string s2, .slice o2 m2 cap2] 24)
    have HX9 := hide (HK7.out.1.later hb9)
    have HFIN : Hid (RdP (twoX (readX D)) l w (.returned (.tuple #[.agg #[.int .i64 (kindQ sk), .int .i64 0, .string ⟨#[]⟩, .slice (some ⟨W7.heap.size, 0, none⟩) 2 2], strV r4, .bool ok3])) (put4 (W7.alloc (.cells #[.int .i64 k, .int .i64 n, .string s, .slice o m cap, .int .i64 k2, .int .i64 n2, .string s2, .slice o2 m2 cap2] 24)) w.heap.size (kindQ sk) 0 ⟨#[]⟩ (.slice (some ⟨W7.heap.size, 0, none⟩) 2 2))) := by
     refine ⟨.mk (kindQ sk) 0 ⟨#[]⟩ [x, x2], exC (kindQ sk) 0 ⟨#[]⟩ (.slice (some ⟨W7.heap.size, 0, none⟩) 2 2), r4, ok3, max dd dd2 + 1, rfl, ?_, put4_below (HK7.out.2.1.trans (hb9.mono HK7.out.2.1.size)) (Nat.le_refl _) _ _ _ _, ?_, fun h => ?_⟩
     ·exact ExF.put (ExF.pair (t := 24) ((HK7.out.2.2.1.later (Nat.le_refl _) hb9).mono (Nat.le_max_left _ _)) ((HF7.out.later (Nat.le_refl _) hb9).mono (Nat.le_max_right _ _)) (kindQ sk) 0 ⟨#[]⟩ hsz67 hh9 rfl) (by omega) _ (by omega) _ _ _ _
     ·obtain ⟨p, hp⟩ := HS.out
      obtain ⟨q, hq⟩ := HR2.out
      obtain ⟨p2, hp2⟩ := HS2.out
      obtain ⟨p3, hp3⟩ := trim_suffix r3 [41]
      rw [hr4] at hp3
      exact ⟨p ++ (q ++ (p2 ++ p3)), by rw [hp, hq, hp2, hp3]; simp⟩
     ·have h2 : Ascii r2 := by
       obtain ⟨p, hp⟩ := HS.out
       rw [hp] at h
       obtain ⟨q, hq⟩ := HR2.out
       have := h.tail
       rw [hq] at this
       exact this.tail
      unfold twoX
      rw [HR.out h]
      simp only [if_true]
      rw [HSGX.out]
      simp only
      rw [HRD2.out h2]
      simp only [if_true]
      rw [hok3, hr4]
    rw [hr4, hok3] at HCU
    obtain ⟨a0, a1, a2, a3, -⟩ := HK7.out.2.2.2.1.cells
    obtain ⟨b0, b1, b2, b3, -⟩ := HY7.out.cells
    obtain ⟨c0, c1, c2, c3, hf⟩ := HX9.out.cells
    have f0 := hf 0; have f1 := hf 1; have f2 := hf 2; have f3 := hf 3
    obtain ⟨g0, g1, g2, g3, -⟩ := (HX9.out.put (kindQ sk) 0 ⟨#[]⟩ (.slice (some ⟨W7.heap.size, 0, none⟩) 2 2)).cells
    clear hf hb9 hh9 hr4 hok3
    go_wp2_with fail
    refine HCU.out.mono ?_
    rintro e w8 ⟨rfl, hw8⟩
    subst hw8
    go_wp2
    exact bodyPost_ret (v := .tuple #[.agg #[.int .i64 (kindQ sk), .int .i64 0, .string ⟨#[]⟩, .slice (some ⟨w8.heap.size, 0, none⟩) 2 2], strV r4, .bool ok3]) (by simp [results, Tryd.results32, go_sem, g0, g1, g2, g3]) rfl HFIN.out

end Go.Proofs.YtanjajjjancggaaDoor
