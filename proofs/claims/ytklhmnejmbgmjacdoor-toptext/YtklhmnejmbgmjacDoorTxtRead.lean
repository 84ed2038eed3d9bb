/- A number's text is read as it. -/
import Derived.Test.YtklhmnejmbgmjacDoorParseD
import Derived.Test.YtklhmnejmbgmjacDoorText
namespace Go.Proofs.YtklhmnejmbgmjacDoor
open Go.RowKit Limbs

theorem byt_list (l : List UInt8) (k : Nat) : byt ⟨l.toArray⟩ k = ((l[k]?.map fun b => (b.toNat : Int)).getD 0) := by
  unfold byt
  by_cases h : k < l.length
  · have h' : k < (⟨l.toArray⟩ : ByteArray).size := h
    rw [dif_pos h', List.getElem?_eq_getElem h]
    rfl
  · have h' : ¬ k < (⟨l.toArray⟩ : ByteArray).size := h
    rw [dif_neg h', List.getElem?_eq_none (by omega)]
    rfl

theorem dval_prefix (l m : List UInt8) (k : Nat) (h : k ≤ l.length) : dval ⟨(l ++ m).toArray⟩ k = dval ⟨l.toArray⟩ k := by
  induction k with
  | zero => rfl
  | succ k ih =>
    simp only [dval]
    rw [ih (by omega), byt_list, byt_list, List.getElem?_append_left (by omega)]

theorem dval_snoc (l : List UInt8) (b : UInt8) : dval ⟨(l ++ [b]).toArray⟩ (l.length + 1) = 10 * dval ⟨l.toArray⟩ l.length + ((b.toNat : Int) - 48) := by
  simp only [dval]
  rw [dval_prefix _ _ _ (Nat.le_refl _), byt_list]
  simp

/-- Digits alone; no nought ahead, but of nought; they are the number. -/
theorem decDigits_reads (u : Nat) : (∀ k, k < (Lib.decDigits u).length → 48 ≤ byt ⟨(Lib.decDigits u).toArray⟩ k ∧ byt ⟨(Lib.decDigits u).toArray⟩ k ≤ 57) ∧ (0 < u → byt ⟨(Lib.decDigits u).toArray⟩ 0 ≠ 48) ∧ dval ⟨(Lib.decDigits u).toArray⟩ (Lib.decDigits u).length = u ∧ 0 < (Lib.decDigits u).length := by
  induction u using Nat.strongRecOn with
  | _ u ih =>
    by_cases h : u < 10
    · have e : Lib.decDigits u = [UInt8.ofNat (48 + u)] := by rw [Lib.decDigits, dif_pos h]
      have eb : ((UInt8.ofNat (48 + u)).toNat : Int) = 48 + u := by rw [UInt8.toNat_ofNat']; omega
      rw [e]
      refine ⟨fun k hk => ?_, fun h0 => ?_, ?_, by simp⟩
      · obtain rfl : k = 0 := by simpa using hk
        rw [byt_list, List.getElem?_cons_zero, Option.map_some, Option.getD_some, eb]; omega
      · rw [byt_list, List.getElem?_cons_zero, Option.map_some, Option.getD_some, eb]; omega
      · show 10 * 0 + (byt ⟨[UInt8.ofNat (48 + u)].toArray⟩ 0 - 48) = (u : Int)
        rw [byt_list, List.getElem?_cons_zero, Option.map_some, Option.getD_some, eb]; omega
    · have e : Lib.decDigits u = Lib.decDigits (u / 10) ++ [UInt8.ofNat (48 + u % 10)] := by rw [Lib.decDigits, dif_neg h]
      have eb : ((UInt8.ofNat (48 + u % 10)).toNat : Int) = 48 + (u % 10 : Nat) := by rw [UInt8.toNat_ofNat']; omega
      obtain ⟨i1, i2, i3, i4⟩ := ih (u / 10) (by omega)
      rw [e]
      generalize Lib.decDigits (u / 10) = l at *
      refine ⟨fun k hk => ?_, fun h0 => ?_, ?_, by simp⟩
      · rw [List.length_append, List.length_singleton] at hk
        rcases Nat.lt_succ_iff_lt_or_eq.1 hk with h1 | h1
        · have := i1 k h1
          rw [byt_list] at this ⊢
          rw [List.getElem?_append_left h1]; exact this
        · subst h1
          rw [byt_list, List.getElem?_append_right (Nat.le_refl _), Nat.sub_self, List.getElem?_cons_zero, Option.map_some, Option.getD_some, eb]; omega
      · have := i2 (by omega)
        rw [byt_list] at this ⊢
        rw [List.getElem?_append_left i4]; exact this
      · rw [List.length_append, List.length_singleton, dval_snoc, i3, eb]; omega

theorem decDigits_dec (u : Nat) : isDec ⟨(Lib.decDigits u).toArray⟩ := by
  obtain ⟨h1, h2, h3, h4⟩ := decDigits_reads u
  refine ⟨h1, ?_⟩
  by_cases h : u = 0
  · subst h
    left
    rw [Lib.decDigits, dif_pos (by decide)]
    rfl
  · exact .inr ⟨by show (Lib.decDigits u).length ≠ 0; omega, h2 (by omega)⟩

/-- A number's text falls into its sign and its digits, and these are the number. -/
theorem txt_reads (z : Int) : ∃ t neg, Falls ⟨(txt z).toArray⟩ t neg ∧ good t neg ∧ sg neg (dval t t.size) = z := by
  unfold txt Lib.itoa
  by_cases hz : z < 0
  · rw [if_pos hz]
    obtain ⟨h1, h2, h3, h4⟩ := decDigits_reads z.natAbs
    have hd := decDigits_dec z.natAbs
    refine ⟨⟨(Lib.decDigits z.natAbs).toArray⟩, true, .inl ⟨rfl, ?_, ?_, ?_, ?_⟩, ⟨hd, fun h => ?_⟩, ?_⟩
    · show 1 < (45 :: Lib.decDigits z.natAbs).length
      rw [List.length_cons]; omega
    · rw [byt_list]; rfl
    · rw [Lib.extract_eq]
      show (⟨(((45 :: Lib.decDigits z.natAbs).drop 1).take _).toArray⟩ : ByteArray) = _
      rw [List.drop_succ_cons, List.drop_zero, List.take_of_length_le (by show _ ≤ (45 :: Lib.decDigits z.natAbs).length - 1; simp)]
    · show (Lib.decDigits z.natAbs).length + 1 = (45 :: Lib.decDigits z.natAbs).length
      rfl
    · have := h2 (by omega)
      rw [h.2] at this
      exact this (by decide)
    · show sg true (dval _ (Lib.decDigits z.natAbs).length) = z
      rw [h3]; unfold sg; rw [if_pos rfl]; omega
  · rw [if_neg hz]
    obtain ⟨h1, h2, h3, h4⟩ := decDigits_reads z.toNat
    refine ⟨⟨(Lib.decDigits z.toNat).toArray⟩, false, .inr ⟨rfl, rfl, fun h => ?_⟩, ⟨decDigits_dec _, fun h => by simp at h⟩, ?_⟩
    · have := (h1 0 h4).1
      omega
    · show sg false (dval _ (Lib.decDigits z.toNat).length) = z
      rw [h3]; unfold sg; rw [if_neg (by decide)]; omega

end Go.Proofs.YtklhmnejmbgmjacDoor
