/- A vector's text, cut: what is needed to read it. No walk in it. -/
import Derived.Test.YtklhmnejmbgmjabGreatDoorVecT
import Derived.Test.YtklhmnejmbgmjabGreatDoorTxtRead

namespace Go.Proofs.YtklhmnejmbgmjabGreatDoor
open Go.RowKit Limbs

theorem txt_no_blank (z : Int) : (32 : UInt8) ∉ txt z := by
  have hd : ∀ u : Nat, (32 : UInt8) ∉ Lib.decDigits u := fun u hm => by
    obtain ⟨k, hk, e⟩ := List.getElem_of_mem hm
    have h := (decDigits_reads u).1 k hk
    rw [byt_list, List.getElem?_eq_getElem hk, e] at h
    have : ((32 : UInt8).toNat : Int) = 32 := rfl
    simp only [Option.map_some, Option.getD_some] at h
    omega
  unfold txt Lib.itoa
  split
  · intro h
    rcases List.mem_cons.1 h with h | h
    · exact absurd h (by decide)
    · exact hd _ h
  · exact hd _

theorem txts_no_blank (zs : List Int) : ∀ x ∈ zs.map txt, (32 : UInt8) ∉ x := fun x hx => by
  obtain ⟨z, -, rfl⟩ := List.mem_map.1 hx
  exact txt_no_blank z

theorem count_join : ∀ xs : List (List UInt8), xs ≠ [] → (∀ x ∈ xs, (32 : UInt8) ∉ x) → Lib.countByte (Lib.join xs [32]) 32 + 1 = xs.length
  | [], h, _ => absurd rfl h
  | [x], _, hx => by
    rw [Lib.join_one]
    unfold Lib.countByte
    rw [List.count_eq_zero.2 (hx x (by simp))]
    rfl
  | x :: y :: r, _, hx => by
    have ih := count_join (y :: r) (by simp) fun z hz => hx z (List.mem_cons_of_mem _ hz)
    rw [join_two]
    unfold Lib.countByte at ih ⊢
    rw [List.count_append, List.count_eq_zero.2 (hx x (by simp)), List.count_cons_self, List.length_cons, ← ih]
    omega

/-- The pieces are the numbers' texts. -/
theorem split_vec (zs : List Int) (h0 : zs ≠ []) : Lib.splitB ⟨#[32]⟩ 0 (Lib.countB ⟨(Lib.join (zs.map txt) [32]).toArray⟩ ⟨#[32]⟩) ⟨(Lib.join (zs.map txt) [32]).toArray⟩ = zs.map btxt ∧ Lib.countB ⟨(Lib.join (zs.map txt) [32]).toArray⟩ ⟨#[32]⟩ + 1 = zs.length := by
  obtain ⟨h1, h2⟩ := split_join 32 (zs.map txt) (by simpa using h0) (txts_no_blank zs)
  rw [List.length_map] at h1 h2
  have e : Lib.countB ⟨(Lib.join (zs.map txt) [32]).toArray⟩ ⟨#[32]⟩ = zs.length - 1 := by
    show Lib.count (Lib.join (zs.map txt) [32]) [32] = _
    omega
  have hl : 0 < zs.length := List.length_pos_iff.2 h0
  refine ⟨?_, by omega⟩
  have hd := Lib.splitB_data ⟨#[32]⟩ 0 (zs.length - 1) ⟨(Lib.join (zs.map txt) [32]).toArray⟩
  rw [e]
  have h3 : (Lib.splitB ⟨#[32]⟩ 0 (zs.length - 1) ⟨(Lib.join (zs.map txt) [32]).toArray⟩).map (·.data.toList) = (zs.map btxt).map (·.data.toList) := by
    rw [hd, btxt_data]
    exact h2
  have inj : Function.Injective (fun b : ByteArray => b.data.toList) := fun a b h => by
    cases a; cases b
    simp only at h
    congr 1
    exact Array.toList_inj.1 h
  exact (List.map_inj_right fun a b h => inj h).1 h3

end Go.Proofs.YtklhmnejmbgmjabGreatDoor

/- A number's text, parsed. -/
namespace Go.Proofs.YtklhmnejmbgmjabGreatDoor
open Go.RowKit Limbs

theorem parse_txt (w : World) (z : Int) (h : (txt z).length ≤ 400) :
    Calls Tryz.prog 52 #[.string ⟨(txt z).toArray⟩] w fun e w' => ∃ n, n ≤ 400 ∧ ReadPost w z n e w' := by
  obtain ⟨t, neg, hF, hg, hz⟩ := txt_reads z
  have hs : (⟨(txt z).toArray⟩ : ByteArray).size ≤ 400 := by show (txt z).toArray.size ≤ 400; simpa using h
  have ht : t.size ≤ 400 := by
    rcases hF with ⟨-, -, -, -, h1⟩ | ⟨-, h1, -⟩
    · omega
    · rw [h1]; exact hs
  refine (parse_any w _ t neg hs hF).mono fun e w' hp => ⟨t.size, ht, ?_⟩
  have := hp.1 hg
  rwa [hz] at this

/-- Two numbers have one text just if they are one. -/
theorem txt_inj {x y : Int} (h : txt x = txt y) : x = y := by
  obtain ⟨t, neg, hF, hg, hz⟩ := txt_reads x
  obtain ⟨t', neg', hF', hg', hz'⟩ := txt_reads y
  rw [← h] at hF'
  have hb : neg = neg' ∧ t = t' := by
    rcases hF with ⟨rfl, h1, h2, h3, -⟩ | ⟨rfl, h1, h2⟩ <;> rcases hF' with ⟨rfl, k1, k2, k3, -⟩ | ⟨rfl, k1, k2⟩
    · exact ⟨rfl, h3.symm.trans k3⟩
    · exact absurd ⟨h1, h2⟩ k2
    · exact absurd ⟨k1, k2⟩ h2
    · exact ⟨rfl, h1.trans k1.symm⟩
  obtain ⟨rfl, rfl⟩ := hb
  rw [← hz, ← hz']

end Go.Proofs.YtklhmnejmbgmjabGreatDoor

/- A text, cut at blanks; which numbers the pieces are. -/
namespace Go.Proofs.YtklhmnejmbgmjabGreatDoor
open Go.RowKit Limbs

/-- The pieces between blanks. -/
def pieces : List UInt8 → List (List UInt8)
  | [] => [[]]
  | c :: l => if c = 32 then [] :: pieces l else (match pieces l with
    | [] => [[c]]
    | p :: ps => (c :: p) :: ps)

theorem pieces_ne (l : List UInt8) : pieces l ≠ [] := by
  cases l with
  | nil => simp [pieces]
  | cons c l =>
    unfold pieces
    split
    · simp
    · split <;> simp

theorem pieces_plain (x : List UInt8) (h : (32 : UInt8) ∉ x) : pieces x = [x] := by
  induction x with
  | nil => rfl
  | cons c x ih =>
    have hc : c ≠ 32 := fun e => h (by rw [e]; exact List.mem_cons_self)
    rw [pieces, if_neg hc, ih fun h' => h (List.mem_cons_of_mem _ h')]

theorem pieces_cut (x r : List UInt8) (h : (32 : UInt8) ∉ x) : pieces (x ++ 32 :: r) = x :: pieces r := by
  induction x with
  | nil => rw [List.nil_append, pieces, if_pos rfl]
  | cons c x ih =>
    have hc : c ≠ 32 := fun e => h (by rw [e]; exact List.mem_cons_self)
    rw [List.cons_append, pieces, if_neg hc, ih fun h' => h (List.mem_cons_of_mem _ h')]

theorem pieces_blank (l : List UInt8) : ∀ p ∈ pieces l, (32 : UInt8) ∉ p := by
  induction l with
  | nil => intro p hp; simp [pieces] at hp; subst hp; simp
  | cons c l ih =>
    intro p hp
    unfold pieces at hp
    split at hp
    · rcases List.mem_cons.1 hp with rfl | h
      · simp
      · exact ih p h
    · rename_i hc
      split at hp
      · rename_i e; exact absurd e (pieces_ne l)
      · rename_i q qs e
        rcases List.mem_cons.1 hp with rfl | h
        · intro hm
          rcases List.mem_cons.1 hm with h | h
          · exact hc h.symm
          · exact ih q (by rw [e]; exact List.mem_cons_self) h
        · exact ih p (by rw [e]; exact List.mem_cons_of_mem _ h)

theorem join_pieces (l : List UInt8) : Lib.join (pieces l) [32] = l := by
  induction l with
  | nil => rw [pieces, Lib.join_one]
  | cons c l ih =>
    unfold pieces
    split
    · rename_i hc
      subst hc
      cases e : pieces l with
      | nil => exact absurd e (pieces_ne l)
      | cons q qs => rw [join_two, ← e, ih]; rfl
    · split
      · rename_i e; exact absurd e (pieces_ne l)
      · rename_i q qs e
        rw [e] at ih
        cases qs with
        | nil => rw [Lib.join_one] at ih ⊢; rw [ih]
        | cons r rs => rw [join_two] at ih ⊢; rw [List.cons_append, ih]

def bytes (p : List UInt8) : ByteArray := ⟨p.toArray⟩

theorem split_pieces (s : ByteArray) : Lib.splitB ⟨#[32]⟩ 0 (Lib.countB s ⟨#[32]⟩) s = (pieces s.data.toList).map bytes ∧ Lib.countB s ⟨#[32]⟩ + 1 = (pieces s.data.toList).length ∧ Lib.countByte s.data.toList 32 + 1 = (pieces s.data.toList).length := by
  obtain ⟨⟨l⟩⟩ := s
  show Lib.splitB ⟨#[32]⟩ 0 (Lib.countB ⟨l.toArray⟩ ⟨#[32]⟩) ⟨l.toArray⟩ = (pieces l).map bytes ∧ Lib.countB ⟨l.toArray⟩ ⟨#[32]⟩ + 1 = (pieces l).length ∧ Lib.countByte l 32 + 1 = (pieces l).length
  obtain ⟨h1, h2⟩ := split_join 32 (pieces l) (pieces_ne l) (pieces_blank l)
  have h3 := count_join (pieces l) (pieces_ne l) (pieces_blank l)
  rw [join_pieces] at h1 h2 h3
  have e : Lib.countB ⟨l.toArray⟩ ⟨#[32]⟩ = (pieces l).length - 1 := by
    show Lib.count l [32] = _
    omega
  have hl : 0 < (pieces l).length := List.length_pos_iff.2 (pieces_ne l)
  refine ⟨?_, by omega, h3⟩
  have hd := Lib.splitB_data ⟨#[32]⟩ 0 ((pieces l).length - 1) ⟨l.toArray⟩
  rw [e]
  have hm : ((pieces l).map bytes).map (·.data.toList) = pieces l := by
    rw [List.map_map]
    conv => rhs; rw [← List.map_id (pieces l)]
    apply List.map_congr_left
    intro z _
    simp [bytes]
  have h4 : (Lib.splitB ⟨#[32]⟩ 0 ((pieces l).length - 1) ⟨l.toArray⟩).map (·.data.toList) = ((pieces l).map bytes).map (·.data.toList) := by
    rw [hd, hm]
    exact h2
  have inj : Function.Injective (fun b : ByteArray => b.data.toList) := fun a b h => by
    cases a; cases b
    simp only at h
    congr 1
    exact Array.toList_inj.1 h
  exact (List.map_inj_right fun a b h => inj h).1 h4

/-- Which number a text is, or none. -/
def Rd (p : ByteArray) (o : Option Int) : Prop := ∃ t neg, Falls p t neg ∧ ((good t neg ∧ o = some (sg neg (dval t t.size))) ∨ (¬ good t neg ∧ o = none))

theorem rd_some (p : ByteArray) : ∃ o, Rd p o := by
  obtain ⟨t, neg, h⟩ := falls p
  by_cases hg : good t neg
  · exact ⟨_, t, neg, h, .inl ⟨hg, rfl⟩⟩
  · exact ⟨_, t, neg, h, .inr ⟨hg, rfl⟩⟩

theorem falls_size {s t : ByteArray} {neg : Bool} (h : Falls s t neg) : t.size ≤ s.size := by
  rcases h with ⟨-, -, -, -, h⟩ | ⟨-, h, -⟩
  · omega
  · rw [h]; exact Nat.le_refl _

/-- Which numbers texts are, one by one. -/
def RdAll (ps : List ByteArray) (os : List (Option Int)) : Prop := os.length = ps.length ∧ ∀ i, i < ps.length → Rd (ps.getD i ByteArray.empty) (os.getD i none)

theorem rdAll_some (ps : List ByteArray) : ∃ os, RdAll ps os := by
  induction ps with
  | nil => exact ⟨[], rfl, fun i hi => absurd hi (by simp)⟩
  | cons p ps ih =>
    obtain ⟨os, h1, h2⟩ := ih
    obtain ⟨o, ho⟩ := rd_some p
    refine ⟨o :: os, by simp [h1], fun i hi => ?_⟩
    cases i with
    | zero => simpa using ho
    | succ i => simpa using h2 i (by simpa using hi)

/-- What a vector's text is: the error's number, or numbers. -/
def SpecV (s : ByteArray) (o : Except Int (List Int)) : Prop :=
  ((s.size < 2 ∨ byt s 0 ≠ 40 ∨ byt s (s.size - 1) ≠ 41) ∧ o = .error 5) ∨
  (s.size ≥ 2 ∧ byt s 0 = 40 ∧ byt s (s.size - 1) = 41 ∧ 8 < (pieces (s.extract 1 (s.size - 1)).data.toList).length ∧ o = .error 6) ∨
  (s.size ≥ 2 ∧ byt s 0 = 40 ∧ byt s (s.size - 1) = 41 ∧ (pieces (s.extract 1 (s.size - 1)).data.toList).length ≤ 8 ∧
    ∃ os, RdAll ((pieces (s.extract 1 (s.size - 1)).data.toList).map bytes) os ∧ ((none ∈ os ∧ o = .error 5) ∨ (none ∉ os ∧ o = .ok (os.map (·.getD 0)))))

theorem specV_some (s : ByteArray) : ∃ o, SpecV s o := by
  by_cases h1 : s.size < 2 ∨ byt s 0 ≠ 40 ∨ byt s (s.size - 1) ≠ 41
  · exact ⟨_, .inl ⟨h1, rfl⟩⟩
  · have g1 : s.size ≥ 2 := by omega
    have g2 : byt s 0 = 40 := by omega
    have g3 : byt s (s.size - 1) = 41 := by omega
    by_cases h2 : 8 < (pieces (s.extract 1 (s.size - 1)).data.toList).length
    · exact ⟨_, .inr (.inl ⟨g1, g2, g3, h2, rfl⟩)⟩
    · obtain ⟨os, hos⟩ := rdAll_some ((pieces (s.extract 1 (s.size - 1)).data.toList).map bytes)
      by_cases h3 : none ∈ os
      · exact ⟨_, .inr (.inr ⟨g1, g2, g3, by omega, os, hos, .inl ⟨h3, rfl⟩⟩)⟩
      · exact ⟨_, .inr (.inr ⟨g1, g2, g3, by omega, os, hos, .inr ⟨h3, rfl⟩⟩)⟩

theorem pieces_size (l : List UInt8) : ∀ p ∈ pieces l, p.length ≤ l.length := by
  induction l with
  | nil => intro p hp; simp [pieces] at hp; subst hp; simp
  | cons c l ih =>
    intro p hp
    unfold pieces at hp
    split at hp
    · rcases List.mem_cons.1 hp with rfl | h
      · simp
      · have := ih p h; simp; omega
    · split at hp
      · rename_i e; exact absurd e (pieces_ne l)
      · rename_i q qs e
        rcases List.mem_cons.1 hp with rfl | h
        · have := ih q (by rw [e]; exact List.mem_cons_self); simp; omega
        · have := ih p (by rw [e]; exact List.mem_cons_of_mem _ h); simp; omega

theorem parse_rd (w : World) (p : ByteArray) (o : Option Int) (hp : p.size ≤ 400) (h : Rd p o) :
    Calls Tryz.prog 52 #[.string p] w fun e w' => (∀ z, o = some z → ReadPost w z 400 e w') ∧ (o = none → ErrPost w 5 e w') := by
  obtain ⟨t, neg, hF, ho⟩ := h
  have ht := falls_size hF
  refine (parse_any w p t neg hp hF).mono fun e w' hpp => ?_
  rcases ho with ⟨hg, rfl⟩ | ⟨hg, rfl⟩
  · refine ⟨fun z hz => ?_, fun h => by cases h⟩
    obtain ⟨v, h1, h2, h3⟩ := hpp.1 hg
    cases hz
    exact ⟨v, h1, h2.mono (by omega), h3⟩
  · exact ⟨(fun z hz => by cases hz), fun _ => hpp.2 hg⟩

theorem opt_take {os : List (Option Int)} {k : Nat} (hk : k < os.length) (h : none ∉ os.take k) {z : Int} (hz : os.getD k none = some z) : none ∉ os.take (k + 1) := by
  rw [List.take_succ_eq_append_getElem hk]
  intro hm
  rcases List.mem_append.1 hm with h' | h'
  · exact h h'
  · rw [List.mem_singleton] at h'
    rw [List.getD_eq_getElem?_getD, List.getElem?_eq_getElem hk, Option.getD_some, ← h'] at hz
    cases hz

end Go.Proofs.YtklhmnejmbgmjabGreatDoor
