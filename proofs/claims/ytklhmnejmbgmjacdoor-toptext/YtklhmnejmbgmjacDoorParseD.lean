/- A text, read by the program. -/
import Derived.Test.YtklhmnejmbgmjacDoorParseC
namespace Go.Proofs.YtklhmnejmbgmjacDoor
open Go.RowKit Limbs

/-- A text that is a number's. -/
def good (t : ByteArray) (neg : Bool) : Prop := isDec t ∧ ¬ (neg = true ∧ t = ⟨#[48]⟩)

/-- How a text falls into its sign and the rest. -/
def Falls (s t : ByteArray) (neg : Bool) : Prop :=
  (neg = true ∧ 1 < s.size ∧ byt s 0 = 45 ∧ s.extract 1 s.size = t ∧ t.size + 1 = s.size) ∨ (neg = false ∧ t = s ∧ ¬ (1 < s.size ∧ byt s 0 = 45))

theorem data_cons {s : ByteArray} (h : 0 < s.size) : ∃ x xs, s.data.toList = x :: xs ∧ byt s 0 = (x.toNat : Int) := by
  obtain ⟨⟨l⟩⟩ := s
  match l, h with
  | x :: xs, h => exact ⟨x, xs, rfl, by simp [byt, h]; rfl⟩

theorem cut_true {s : ByteArray} (h : 0 < s.size) (h45 : byt s 0 = 45) : Lib.hasPrefix s.data.toList [45] = true ∧ (⟨(Lib.trimPrefix s.data.toList [45]).toArray⟩ : ByteArray) = s.extract 1 s.size := by
  obtain ⟨x, xs, e, hx⟩ := data_cons h
  have hx' : x = 45 := UInt8.toNat_inj.1 (by have : (x.toNat : Int) = 45 := by omega
                                             have : (45 : UInt8).toNat = 45 := rfl
                                             omega)
  have hp : Lib.hasPrefix s.data.toList [45] = true := by rw [e, hx']; rfl
  refine ⟨hp, ?_⟩
  unfold Lib.trimPrefix
  rw [if_pos hp, Lib.extract_eq]
  have : (s.data.toList.drop 1).take (s.size - 1) = s.data.toList.drop 1 := List.take_of_length_le (by rw [List.length_drop]; exact Nat.le_refl _)
  rw [this]; rfl

theorem cut_false {s : ByteArray} (h : ¬ (0 < s.size ∧ byt s 0 = 45)) : Lib.hasPrefix s.data.toList [45] = false ∧ (⟨(Lib.trimPrefix s.data.toList [45]).toArray⟩ : ByteArray) = s := by
  have hp : Lib.hasPrefix s.data.toList [45] = false := by
    by_cases h0 : 0 < s.size
    · obtain ⟨x, xs, e, hx⟩ := data_cons h0
      rw [e]
      have hne : x ≠ 45 := fun e' => h ⟨h0, by rw [hx, e']; rfl⟩
      show ((45 : UInt8) == x && _) = false
      have : ((45 : UInt8) == x) = false := by rw [beq_eq_false_iff_ne]; exact fun e => hne e.symm
      rw [this]; rfl
    · rw [size_zero (show s.size = 0 by omega)]; rfl
  refine ⟨hp, ?_⟩
  unfold Lib.trimPrefix
  rw [if_neg (by rw [hp]; decide)]

/-- What the program says of a text. -/
def ReadPostP (w : World) (t : ByteArray) (neg : Bool) (e : Ending) (w' : World) : Prop :=
  (good t neg → ReadPost w (sg neg (dval t t.size)) t.size e w') ∧ (¬ good t neg → ErrPost w 5 e w')

theorem parse_any (w : World) (s t : ByteArray) (neg : Bool) (hs : s.size ≤ 400) (hF : Falls s t neg) :
    Calls Tryd.prog 11 #[.string s] w fun e w' => ReadPostP w t neg e w' := by
  rcases hF with ⟨rfl, h1, h45, ht, hts⟩ | ⟨rfl, rfl, hn⟩
  · obtain ⟨hp, he⟩ := cut_true (show 0 < s.size by omega) h45
    by_cases hg : good t true
    · exact (parse_good w s t true hs (he.trans ht) hp (by omega) hg.1 hg.2).mono fun e w' h => ⟨fun _ => h, fun h' => absurd hg h'⟩
    · refine (parse_bad w s t true hs (he.trans ht) hp (by omega) ?_).mono fun e w' h => ⟨fun h' => absurd h' hg, fun _ => h⟩
      by_cases hd : isDec t
      · exact .inr (Classical.byContradiction fun h => hg ⟨hd, h⟩)
      · exact .inl hd
  · by_cases h45 : 0 < t.size ∧ byt t 0 = 45
    · obtain ⟨hp, he⟩ := cut_true h45.1 h45.2
      have h1 : t.size = 1 := by
        rcases Nat.lt_or_ge 1 t.size with h | h
        · exact absurd ⟨h, h45.2⟩ hn
        · have := h45.1; omega
      have hg : ¬ good t false := fun hg => by have := (hg.1.1 0 h45.1).1; have := h45.2; omega
      refine (parse_bad w t _ true hs he hp (by rw [ByteArray.size_extract]; omega) (.inl fun hd => ?_)).mono fun e w' h => ⟨fun h' => absurd h' hg, fun _ => h⟩
      have hsz : (t.extract 1 t.size).size = 0 := by rw [ByteArray.size_extract]; omega
      rcases hd.2 with h | h
      · rw [h] at hsz; exact absurd hsz (by decide)
      · exact h.1 hsz
    · obtain ⟨hp, he⟩ := cut_false h45
      by_cases hg : good t false
      · exact (parse_good w t t false hs he hp hs hg.1 hg.2).mono fun e w' h => ⟨fun _ => h, fun h' => absurd hg h'⟩
      · refine (parse_bad w t t false hs he hp hs ?_).mono fun e w' h => ⟨fun h' => absurd h' hg, fun _ => h⟩
        by_cases hd : isDec t
        · exact absurd ⟨hd, fun h => by simp at h⟩ hg
        · exact .inl hd

theorem falls (s : ByteArray) : ∃ t neg, Falls s t neg := by
  by_cases h : 1 < s.size ∧ byt s 0 = 45
  · exact ⟨s.extract 1 s.size, true, .inl ⟨rfl, h.1, h.2, rfl, by rw [ByteArray.size_extract]; omega⟩⟩
  · exact ⟨s, false, .inr ⟨rfl, rfl, h⟩⟩

end Go.Proofs.YtklhmnejmbgmjacDoor
