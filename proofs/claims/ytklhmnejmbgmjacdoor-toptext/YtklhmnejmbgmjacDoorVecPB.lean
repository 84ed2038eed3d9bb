/- A vector's text, cut: what is needed to read it. No walk in it. -/
import Derived.Test.YtklhmnejmbgmjacDoorVecT
import Derived.Test.YtklhmnejmbgmjacDoorTxtRead

namespace Go.Proofs.YtklhmnejmbgmjacDoor
open Go.RowKit Limbs

theorem txt_no_blank (z : Int) : (32 : UInt8) ∉ txt z := by
  have hd : ∀ u : Nat, (32 : UInt8) ∉ Lib.decDigits u := fun u hm => by
    obtain ⟨k, hk, e⟩ := List.getElem_of_mem hm
    have h := (decDigits_reads u).1 k hk
    rw [byt_list, List.getElem?_eq_getElem hk, e] at h
    have : ((32 : UInt8).toNat : Int) = 32 := rfl
    simp only [Option.map_some, Option.getD_some] at h
    omega
  unfold txt Lib.itoa
  split
  · intro h
    rcases List.mem_cons.1 h with h | h
    · exact absurd h (by decide)
    · exact hd _ h
  · exact hd _

theorem txts_no_blank (zs : List Int) : ∀ x ∈ zs.map txt, (32 : UInt8) ∉ x := fun x hx => by
  obtain ⟨z, -, rfl⟩ := List.mem_map.1 hx
  exact txt_no_blank z

theorem count_join : ∀ xs : List (List UInt8), xs ≠ [] → (∀ x ∈ xs, (32 : UInt8) ∉ x) → Lib.countByte (Lib.join xs [32]) 32 + 1 = xs.length
  | [], h, _ => absurd rfl h
  | [x], _, hx => by
    rw [Lib.join_one]
    unfold Lib.countByte
    rw [List.count_eq_zero.2 (hx x (by simp))]
    rfl
  | x :: y :: r, _, hx => by
    have ih := count_join (y :: r) (by simp) fun z hz => hx z (List.mem_cons_of_mem _ hz)
    rw [join_two]
    unfold Lib.countByte at ih ⊢
    rw [List.count_append, List.count_eq_zero.2 (hx x (by simp)), List.count_cons_self, List.length_cons, ← ih]
    omega

/-- The pieces are the numbers' texts. -/
theorem split_vec (zs : List Int) (h0 : zs ≠ []) : Lib.splitB ⟨#[32]⟩ 0 (Lib.countB ⟨(Lib.join (zs.map txt) [32]).toArray⟩ ⟨#[32]⟩) ⟨(Lib.join (zs.map txt) [32]).toArray⟩ = zs.map btxt ∧ Lib.countB ⟨(Lib.join (zs.map txt) [32]).toArray⟩ ⟨#[32]⟩ + 1 = zs.length := by
  obtain ⟨h1, h2⟩ := split_join 32 (zs.map txt) (by simpa using h0) (txts_no_blank zs)
  rw [List.length_map] at h1 h2
  have e : Lib.countB ⟨(Lib.join (zs.map txt) [32]).toArray⟩ ⟨#[32]⟩ = zs.length - 1 := by
    show Lib.count (Lib.join (zs.map txt) [32]) [32] = _
    omega
  have hl : 0 < zs.length := List.length_pos_iff.2 h0
  refine ⟨?_, by omega⟩
  have hd := Lib.splitB_data ⟨#[32]⟩ 0 (zs.length - 1) ⟨(Lib.join (zs.map txt) [32]).toArray⟩
  rw [e]
  have h3 : (Lib.splitB ⟨#[32]⟩ 0 (zs.length - 1) ⟨(Lib.join (zs.map txt) [32]).toArray⟩).map (·.data.toList) = (zs.map btxt).map (·.data.toList) := by
    rw [hd, btxt_data]
    exact h2
  have inj : Function.Injective (fun b : ByteArray => b.data.toList) := fun a b h => by
    cases a; cases b
    simp only at h
    congr 1
    exact Array.toList_inj.1 h
  exact (List.map_inj_right fun a b h => inj h).1 h3

end Go.Proofs.YtklhmnejmbgmjacDoor

/- A number's text, parsed. -/
namespace Go.Proofs.YtklhmnejmbgmjacDoor
open Go.RowKit Limbs

theorem parse_txt (w : World) (z : Int) (h : (txt z).length ≤ 400) :
    Calls Tryd.prog 11 #[.string ⟨(txt z).toArray⟩] w fun e w' => ∃ n, n ≤ 400 ∧ ReadPost w z n e w' := by
  obtain ⟨t, neg, hF, hg, hz⟩ := txt_reads z
  have hs : (⟨(txt z).toArray⟩ : ByteArray).size ≤ 400 := by show (txt z).toArray.size ≤ 400; simpa using h
  have ht : t.size ≤ 400 := by
    rcases hF with ⟨-, -, -, -, h1⟩ | ⟨-, h1, -⟩
    · omega
    · rw [h1]; exact hs
  refine (parse_any w _ t neg hs hF).mono fun e w' hp => ⟨t.size, ht, ?_⟩
  have := hp.1 hg
  rwa [hz] at this

/-- Two numbers have one text just if they are one. -/
theorem txt_inj {x y : Int} (h : txt x = txt y) : x = y := by
  obtain ⟨t, neg, hF, hg, hz⟩ := txt_reads x
  obtain ⟨t', neg', hF', hg', hz'⟩ := txt_reads y
  rw [← h] at hF'
  have hb : neg = neg' ∧ t = t' := by
    rcases hF with ⟨rfl, h1, h2, h3, -⟩ | ⟨rfl, h1, h2⟩ <;> rcases hF' with ⟨rfl, k1, k2, k3, -⟩ | ⟨rfl, k1, k2⟩
    · exact ⟨rfl, h3.symm.trans k3⟩
    · exact absurd ⟨h1, h2⟩ k2
    · exact absurd ⟨k1, k2⟩ h2
    · exact ⟨rfl, h1.trans k1.symm⟩
  obtain ⟨rfl, rfl⟩ := hb
  rw [← hz, ← hz']

end Go.Proofs.YtklhmnejmbgmjacDoor
