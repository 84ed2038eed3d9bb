/- strconv.Atoi of any text, laid at this translation. -/
import Derived.Shelf.Strconv.AtoiAll
import Derived.Test.YtanjajjjancggaaDoorBpZ
import Derived.Test.YtanjajjjancggaaDoorQxJ

namespace Go.Proofs
open Go.Shelf Go.RowKit

theorem Tryd.laysM172 : LaysM.n172 Tryd.prog Tryd.lays172_ren := { Tryd.lays172 with
 t80 := Tryd.underlying117
 a80 := Tryd.isAgg117
 z80 := Tryd.sizeOf117
 v80 := Tryd.zeroValue117
 i0 := by kernel_rfl
 i2 := by kernel_rfl
 i3 := by kernel_rfl
 i4 := by kernel_rfl
 i5 := by kernel_rfl
 i9 := by kernel_rfl
 i20 := by kernel_rfl
 i21 := by kernel_rfl
 i37 := by kernel_rfl
 i46 := by kernel_rfl
 i51 := by kernel_rfl
 i53 := by kernel_rfl
 i75 := by kernel_rfl
 i76 := by kernel_rfl
 i80 := by kernel_rfl
 i85 := by kernel_rfl
 i127 := by kernel_rfl
 i143 := by kernel_rfl
 i145 := by kernel_rfl
 i167 := by kernel_rfl
 i168 := by kernel_rfl
 i171 := by kernel_rfl
 i173 := by kernel_rfl
 i175 := by kernel_rfl
 i210 := by kernel_rfl
 i212 := by kernel_rfl
 i232 := by kernel_rfl
 i233 := by kernel_rfl
 m15 := by kernel_rfl
 m16 := by kernel_rfl
 m17 := by kernel_rfl
 m18 := by kernel_rfl
 m19 := by kernel_rfl
 }

theorem Tryd.laysC172 : LaysC.n172 Tryd.prog Tryd.lays172_ren := {
 toM := Tryd.laysM172
 c0 := by kernel_rfl
 c2 := by kernel_rfl
 c3 := by kernel_rfl
 c4 := by kernel_rfl
 c5 := by kernel_rfl
 c9 := by kernel_rfl
 c20 := by kernel_rfl
 c21 := by kernel_rfl
 c37 := by kernel_rfl
 c46 := by kernel_rfl
 c51 := by kernel_rfl
 c53 := by kernel_rfl
 c75 := by kernel_rfl
 c76 := by kernel_rfl
 c80 := by kernel_rfl
 c85 := by kernel_rfl
 c127 := by kernel_rfl
 c143 := by kernel_rfl
 c145 := by kernel_rfl
 c167 := by kernel_rfl
 c168 := by kernel_rfl
 c171 := by kernel_rfl
 c173 := by kernel_rfl
 c175 := by kernel_rfl
 c210 := by kernel_rfl
 c212 := by kernel_rfl
 c213 := by kernel_rfl
 c232 := by kernel_rfl
 c233 := by kernel_rfl
 }

theorem Tryd.atoi_all (s : ByteArray) (hs : s.size ≤ 1000000) (w : World) (e1 e2 : Value) (h1 : w.cell? ⟨0, 0, none⟩ = some e1) (k1 : e1 = .nilIface ∨ ∃ te pe, e1 = .iface te pe) (h2 : w.cell? ⟨1, 0, none⟩ = some e2) (k2 : e2 = .nilIface ∨ ∃ te pe, e2 = .iface te pe) :
  Calls Tryd.prog 34 #[.string s] w fun e w' => ∃ z ev, e = .returned (.tuple #[.int .i64 z, ev]) ∧ (-9223372036854775808 ≤ z ∧ z ≤ 9223372036854775807) ∧ Below w.heap.size w w' ∧ ((Lib.atoiAll s.data.toList = .ok z ∧ ev = .nilIface) ∨ ((∀ v, Lib.atoiAll s.data.toList ≠ .ok v) ∧ ∃ te pe, ev = .iface te pe)) := by
 cases h : Lib.atoiAll s.data.toList with
 | ok v =>
  refine (Any.strconv_Atoi_ok Tryd.laysC172 s (by omega) v h w).mono ?_
  rintro e w' ⟨rfl, hw⟩
  refine ⟨v, _, rfl, Lib.atoiAll_bounds h, ?_, .inl ⟨rfl, rfl⟩⟩
  rcases hw with rfl | ⟨t, rfl⟩
  ·exact Below.refl _ _
  ·exact Lib.bytesWorld_below _ _ _
 | «syntax» =>
  refine (Any.strconv_Atoi_syntax Tryd.laysC172 s (by omega) h e1 w h1 k1).mono ?_
  rintro e w' ⟨N, rfl, -, -, hb⟩
  exact ⟨_, _, rfl, by decide, hb, .inr ⟨fun v hv => (by cases hv), _, _, rfl⟩⟩
 | range =>
  refine (Any.strconv_Atoi_range Tryd.laysC172 s (by omega) h e2 w h2 k2).mono ?_
  rintro e w' ⟨N, rfl, -, -, hb⟩
  exact ⟨_, _, rfl, Lib.atoiSat_bounds _, hb, .inr ⟨fun v hv => (by cases hv), _, _, rfl⟩⟩

end Go.Proofs

/- Reading an expression: the pure part; new expressions in memory. -/
namespace Go.Proofs.YtanjajjjancggaaDoor
open Go.RowKit

def ErrQ (w : World) : Prop := (∃ e, w.cell? ⟨0, 0, none⟩ = some e ∧ (e = .nilIface ∨ ∃ te pe, e = .iface te pe) ∧ 0 < w.heap.size) ∧ ∃ e, w.cell? ⟨1, 0, none⟩ = some e ∧ (e = .nilIface ∨ ∃ te pe, e = .iface te pe) ∧ 1 < w.heap.size

theorem ErrQ.below {w w' : World} (h : ErrQ w) (hb : Below w.heap.size w w') : ErrQ w' := by
 obtain ⟨⟨e1, h1, h2, h3⟩, e2, k1, k2, k3⟩ := h
 exact ⟨⟨e1, (hb.cell (p := ⟨0, 0, none⟩) h3).trans h1, h2, Nat.lt_of_lt_of_le h3 hb.size⟩, e2, (hb.cell (p := ⟨1, 0, none⟩) k3).trans k1, k2, Nat.lt_of_lt_of_le k3 hb.size⟩

def AtP (l : List UInt8) (w : World) (e : Ending) (w' : World) : Prop := ∃ z ev, e = .returned (.tuple #[.int .i64 z, ev]) ∧ Below w.heap.size w w' ∧ ((Lib.atoiAll l = .ok z ∧ ev = .nilIface) ∨ ((∀ v, Lib.atoiAll l ≠ .ok v) ∧ ∃ te pe, ev = .iface te pe))

theorem atoiQ (w : World) (he : ErrQ w) (s : ByteArray) (hs : s.size ≤ 1000000) : Calls Tryd.prog 34 #[.string s] w fun e w' => AtP s.data.toList w e w' := by
 obtain ⟨⟨e1, h1, h2, -⟩, e2, k1, k2, -⟩ := he
 exact (Go.Proofs.Tryd.atoi_all s hs w e1 e2 h1 h2 k1 k2).mono fun e w' ⟨z, ev, h1, _, h3, h4⟩ => ⟨z, ev, h1, h3, h4⟩

def fillP : List UInt8 := [102, 105, 108, 108, 32]
def wholeP : List UInt8 := [119, 104, 111, 108, 101, 32]

def numX (l : List UInt8) : Option Int := match Lib.atoiAll l with
 | .ok v => some v
 | _ => none

def readX : Nat → List UInt8 → Option (Ex × List UInt8)
 | 0, _ => none
 | d + 1, l =>
  if Lib.hasPrefix l [40] = true then
   match readX d (Lib.trimPrefix l [40]) with
   | none => none
   | some (a, r) => match signX r with
    | none => none
    | some (k, r) => match readX d r with
     | none => none
     | some (b, r) => if Lib.hasPrefix r [41] = true then some (.mk (kindQ k) 0 ⟨#[]⟩ [a, b], Lib.trimPrefix r [41]) else none
  else if Lib.hasPrefix l fillP = true then
   match readX d (Lib.trimPrefix l fillP) with
   | none => none
   | some (a, r) => some (.mk 4 0 ⟨#[]⟩ [a], r)
  else if Lib.hasPrefix l wholeP = true then
   match numX ((Lib.trimPrefix l wholeP).takeWhile inWord) with
   | none => none
   | some v => some (.mk 5 v ⟨#[]⟩ [], (Lib.trimPrefix l wholeP).dropWhile inWord)
  else some (.mk 1 0 ⟨(l.takeWhile inWord).toArray⟩ [], l.dropWhile inWord)

def Stop (r : List UInt8) : Prop := r = [] ∨ ∃ b t, r = b :: t ∧ inWord b = false

theorem prefix_app (p l : List UInt8) : Lib.hasPrefix (p ++ l) p = true ∧ Lib.trimPrefix (p ++ l) p = l := by
 have h : Lib.hasPrefix (p ++ l) p = true := by
  unfold Lib.hasPrefix
  rw [List.isPrefixOf_iff_prefix]
  exact List.prefix_append _ _
 exact ⟨h, by unfold Lib.trimPrefix; rw [if_pos h, List.drop_left]⟩

theorem word_app {l r : List UInt8} (hl : ∀ b ∈ l, inWord b = true) (hr : Stop r) : (l ++ r).takeWhile inWord = l ∧ (l ++ r).dropWhile inWord = r := by
 induction l with
 | nil =>
  rcases hr with rfl | ⟨b, t, rfl, hb⟩
  ·exact ⟨rfl, rfl⟩
  ·exact ⟨by rw [List.nil_append, List.takeWhile_cons, hb]; rfl, by rw [List.nil_append, List.dropWhile_cons, hb]; rfl⟩
 | cons a l ih =>
  have ha := hl a (by simp)
  obtain ⟨h1, h2⟩ := ih (fun b hb => hl b (by simp [hb]))
  exact ⟨by rw [List.cons_append, List.takeWhile_cons, if_pos ha, h1], by rw [List.cons_append, List.dropWhile_cons, if_pos ha, h2]⟩

theorem name_word {s : ByteArray} (h : nmOk s = true) : s.data.toList ≠ [] ∧ ∀ b ∈ s.data.toList, inWord b = true ∧ b ≠ 40 := by
 have h := of_decide_eq_true h
 refine ⟨fun e => ?_, fun b hb => ?_⟩
 ·have h0 := Lib.size_eq s
  rw [e, List.length_nil] at h0
  exact absurd h.1 (by rw [h0]; decide)
 ·obtain ⟨i, hi⟩ := List.getElem?_of_mem hb
  have hlt : i < s.size := by rw [Lib.size_eq]; exact (List.getElem?_eq_some_iff.1 hi).1
  have hby := h.2.2 i hlt
  have e : byt s i = b.toNat := by
   rw [← byt_eq hlt]
   have h1 : s[i]'hlt = b := by
    have h2 := Lib.data_getElem? s i hlt
    rw [hi] at h2
    exact (Option.some.inj h2).symm
   rw [h1]
  rw [e] at hby
  unfold inWord
  rw [Bool.and_eq_true, bne_iff_ne, bne_iff_ne]
  refine ⟨⟨?_, ?_⟩, ?_⟩ <;> (intro e2; subst e2; simp at hby)

theorem calledS_nm {s : ByteArray} (h : calledS s = true) : nmOk s = true ∧ s.data.toList ≠ fillB ∧ s.data.toList ≠ wholeB := by
 unfold calledS at h
 obtain ⟨h1, h2, h3⟩ := and3 h
 rw [Bool.not_eq_true', beq_eq_false_iff_ne, Lib.toList_data] at h2 h3
 exact ⟨h1, h2, h3⟩

theorem name_not {s : ByteArray} (h : calledS s = true) {r : List UInt8} (hr : Stop r) (p : List UInt8) (hp : p = fillB ∨ p = wholeB) : Lib.hasPrefix (s.data.toList ++ r) (p ++ [32]) = false := by
 obtain ⟨h1, h2, h3⟩ := calledS_nm h
 obtain ⟨-, hw⟩ := name_word h1
 cases hh : Lib.hasPrefix (s.data.toList ++ r) (p ++ [32]) with
 | false => rfl
 | true =>
  unfold Lib.hasPrefix at hh
  rw [List.isPrefixOf_iff_prefix] at hh
  obtain ⟨t, ht⟩ := hh
  have hpw : ∀ b ∈ p, inWord b = true := by
   rcases hp with rfl | rfl <;> decide
  have hs1 : Stop (32 :: t) := .inr ⟨32, t, rfl, rfl⟩
  have e1 := (word_app hpw hs1).1
  have e2 := (word_app (fun b hb => (hw b hb).1) hr).1
  rw [← ht, List.append_assoc, List.singleton_append, e1] at e2
  rcases hp with rfl | rfl
  ·exact absurd e2.symm h2
  ·exact absurd e2.symm h3

theorem name_open {s : ByteArray} (h : calledS s = true) (r : List UInt8) : Lib.hasPrefix (s.data.toList ++ r) [40] = false := by
 obtain ⟨h1, -, -⟩ := calledS_nm h
 obtain ⟨hne, hw⟩ := name_word h1
 cases hl : s.data.toList with
 | nil => exact absurd hl hne
 | cons b t =>
  have := (hw b (by rw [hl]; simp)).2
  show List.isPrefixOf [40] (b :: (t ++ r)) = false
  simp [List.isPrefixOf]
  exact fun e => this e.symm

theorem stop_blank (l : List UInt8) : Stop (32 :: l) := .inr ⟨32, l, rfl, rfl⟩
theorem stop_close (l : List UInt8) : Stop (41 :: l) := .inr ⟨41, l, rfl, rfl⟩

theorem digit_num {n : Nat} (h : 1 ≤ n ∧ n ≤ 4) : numX (Lib.decDigits n) = some (n : Int) ∧ ∀ b ∈ Lib.decDigits n, inWord b = true := by
 have : n = 1 ∨ n = 2 ∨ n = 3 ∨ n = 4 := by omega
 rcases this with rfl | rfl | rfl | rfl
 all_goals (refine ⟨?_, ?_⟩ <;> decide +kernel)

theorem signX_app (k : Bool) (r : List UInt8) : signX (spacedB k ++ r) = some (k, r) := by
 have h := prefix_app (spacedB k) r
 cases k with
 | false =>
  rw [signX_at false (fun h => by cases h) h.1]
  exact congrArg (fun x => some (false, x)) h.2
 | true =>
  refine (signX_at true (fun _ => ?_) h.1).trans (congrArg (fun x => some (true, x)) h.2)
  rfl

theorem read_text : ∀ (q : Qx) (d : Nat) (r : List UInt8), q.ok → q.deep ≤ d → Stop r → readX d (q.text ++ r) = some (q.ex, r)
 | .name s, d, r, hok, hd, hr => by
  rw [Qx.deep] at hd
  obtain ⟨d, rfl⟩ : ∃ e, d = e + 1 := ⟨d - 1, by omega⟩
  obtain ⟨h1, -, -⟩ := calledS_nm hok
  obtain ⟨-, hw⟩ := name_word h1
  obtain ⟨e1, e2⟩ := word_app (fun b hb => (hw b hb).1) hr
  rw [Qx.text, readX, name_open hok, if_neg (by decide), show fillP = fillB ++ [32] from rfl, name_not hok hr fillB (.inl rfl), if_neg (by decide), show wholeP = wholeB ++ [32] from rfl, name_not hok hr wholeB (.inr rfl), if_neg (by decide), e1, e2, Qx.ex, Array.toArray_toList]
 | .whole n, d, r, hok, hd, hr => by
  rw [Qx.deep] at hd
  obtain ⟨d, rfl⟩ : ∃ e, d = e + 1 := ⟨d - 1, by omega⟩
  obtain ⟨h1, h2⟩ := digit_num hok
  obtain ⟨e1, e2⟩ := word_app h2 hr
  have e : (Qx.whole n).text ++ r = wholeP ++ (Lib.decDigits n ++ r) := by
   rw [Qx.text]
   simp [wholeB, wholeP]
  obtain ⟨p1, p2⟩ := prefix_app wholeP (Lib.decDigits n ++ r)
  have n1 : Lib.hasPrefix (wholeP ++ (Lib.decDigits n ++ r)) [40] = false := rfl
  have n2 : Lib.hasPrefix (wholeP ++ (Lib.decDigits n ++ r)) fillP = false := rfl
  rw [e, readX, n1, if_neg (by decide), n2, if_neg (by decide), if_pos p1, p2, e1, e2, h1]
  rfl
 | .fill a, d, r, hok, hd, hr => by
  rw [Qx.deep] at hd
  obtain ⟨d, rfl⟩ : ∃ e, d = e + 1 := ⟨d - 1, by omega⟩
  have e : (Qx.fill a).text ++ r = fillP ++ (a.text ++ r) := by
   rw [Qx.text]
   simp [fillB, fillP]
  obtain ⟨p1, p2⟩ := prefix_app fillP (a.text ++ r)
  have n1 : Lib.hasPrefix (fillP ++ (a.text ++ r)) [40] = false := rfl
  rw [e, readX, n1, if_neg (by decide), if_pos p1, p2, read_text a d r hok (by omega) hr]
  rfl
 | .two k a b, d, r, hok, hd, hr => by
  rw [Qx.deep] at hd
  obtain ⟨d, rfl⟩ : ∃ e, d = e + 1 := ⟨d - 1, by omega⟩
  have e : (Qx.two k a b).text ++ r = [40] ++ (a.text ++ (spacedB k ++ (b.text ++ ([41] ++ r)))) := by
   rw [Qx.text]
   simp
  obtain ⟨p1, p2⟩ := prefix_app [40] (a.text ++ (spacedB k ++ (b.text ++ ([41] ++ r))))
  obtain ⟨c1, c2⟩ := prefix_app [41] r
  rw [e, readX, if_pos p1, p2, read_text a d (spacedB k ++ (b.text ++ ([41] ++ r))) hok.1 (by omega) (.inr ⟨32, _, rfl, rfl⟩)]
  simp only
  rw [signX_app]
  simp only
  rw [read_text b d ([41] ++ r) hok.2 (by omega) (stop_close _)]
  simp only
  rw [if_pos c1, c2]
  rfl

end Go.Proofs.YtanjajjjancggaaDoor

/- Reading an expression: two parts in brackets. -/
namespace Go.Proofs.YtanjajjjancggaaDoor
open Go.RowKit

def ExF (W : World) (base : Nat) : Nat → Ex → List Value → Prop
 | 0, _, _ => False
 | d + 1, .mk kind n s a, cs => ∃ o cap, cs = exC kind n s (.slice o a.length cap) ∧ a.length ≤ cap ∧ a.length ≤ 9223372036854775807 ∧
     (0 < a.length → ∃ b off, o = some ⟨b, off, none⟩ ∧ base ≤ b ∧ b < W.heap.size ∧ ∀ (i : Nat) (x : Ex), a[i]? = some x → ∃ ys, ExF W base d x ys ∧ ∀ (j : Nat) (u : Value), ys[j]? = some u → W.cell? ⟨b, off + i * 4 + j, none⟩ = some u)

theorem ExF.ex {W : World} {base : Nat} : ∀ {d : Nat} {e : Ex} {cs : List Value}, ExF W base d e cs → ExD W d e cs
 | 0, _, _, h => h.elim
 | d + 1, .mk kind n s a, cs, h => by
  rw [ExF] at h
  rw [ExD]
  obtain ⟨o, cap, e, h1, h2, h3⟩ := h
  refine ⟨o, cap, e, h1, h2, fun h0 => ?_⟩
  obtain ⟨b, off, e, -, hlt, h4⟩ := h3 h0
  refine ⟨b, off, e, hlt, fun i x hi => ?_⟩
  obtain ⟨ys, h5, h6⟩ := h4 i x hi
  exact ⟨ys, h5.ex, h6⟩

theorem ExF.keep {W W' : World} {base base' : Nat} (hl : base' ≤ base) (hs : W.heap.size ≤ W'.heap.size) (hk : ∀ b, base ≤ b → b < W.heap.size → W'.heap[b]? = W.heap[b]?) : ∀ {d : Nat} {e : Ex} {cs : List Value}, ExF W base d e cs → ExF W' base' d e cs
 | 0, _, _, h => h.elim
 | d + 1, .mk kind n s a, cs, h => by
  rw [ExF] at h ⊢
  obtain ⟨o, cap, e, h1, h2, h3⟩ := h
  refine ⟨o, cap, e, h1, h2, fun h0 => ?_⟩
  obtain ⟨b, off, e, hb, hlt, h4⟩ := h3 h0
  refine ⟨b, off, e, Nat.le_trans hl hb, Nat.lt_of_lt_of_le hlt hs, fun i x hi => ?_⟩
  obtain ⟨ys, h5, h6⟩ := h4 i x hi
  exact ⟨ys, ExF.keep hl hs hk h5, fun j u hj => (World.cell?_of_block (hk b hb hlt)).trans (h6 j u hj)⟩

theorem ExF.later {W W' : World} {base base' d : Nat} {e : Ex} {cs : List Value} (h : ExF W base d e cs) (hl : base' ≤ base) (hb : Below W.heap.size W W') : ExF W' base' d e cs := h.keep hl hb.size (fun b _ hlt => hb.block b hlt)

theorem ExF.up {W : World} {base : Nat} : ∀ {d : Nat} {e : Ex} {cs : List Value}, ExF W base d e cs → ExF W base (d + 1) e cs
 | 0, _, _, h => h.elim
 | d + 1, .mk kind n s a, cs, h => by
  rw [ExF] at h ⊢
  obtain ⟨o, cap, e, h1, h2, h3⟩ := h
  refine ⟨o, cap, e, h1, h2, fun h0 => ?_⟩
  obtain ⟨b, off, e, hb, hlt, h4⟩ := h3 h0
  refine ⟨b, off, e, hb, hlt, fun i x hi => ?_⟩
  obtain ⟨ys, h5, h6⟩ := h4 i x hi
  exact ⟨ys, ExF.up h5, h6⟩

theorem ExF.mono {W : World} {base d d' : Nat} {e : Ex} {cs : List Value} (h : ExF W base d e cs) (hd : d ≤ d') : ExF W base d' e cs := by
 obtain ⟨k, rfl⟩ := Nat.exists_eq_add_of_le hd
 clear hd
 induction k with
 | zero => exact h
 | succ k ih => exact ih.up

theorem ExF.agg {W : World} {base d : Nat} {e : Ex} {cs : List Value} (h : ExF W base d e cs) : ∃ k n s o m cap, cs = exC k n s (.slice o m cap) := by
 obtain ⟨k, n, s, a⟩ := e
 obtain ⟨o, cap, rfl⟩ := h.ex.agg
 exact ⟨k, n, s, o, _, cap, rfl⟩

theorem ExF.leaf (W : World) (base : Nat) (k n : Int) (s : ByteArray) : ExF W base 1 (.mk k n s []) (exC k n s (.slice none 0 0)) := by
 rw [ExF]
 exact ⟨none, 0, rfl, Nat.le_refl _, by decide, fun h => absurd h (by decide)⟩

theorem ExF.one {W : World} {base d B : Nat} {a : Ex} {ys : List Value} {t : TypeId} (h : ExF W base d a ys) (k n : Int) (s : ByteArray) (hB : base ≤ B) (hh : W.heap[B]? = some (.cells ys.toArray t (0, 0))) : ExF W base (d + 1) (.mk k n s [a]) (exC k n s (.slice (some ⟨B, 0, none⟩) 1 1)) := by
 rw [ExF]
 refine ⟨_, 1, rfl, Nat.le_refl _, (by show 1 ≤ _; decide), fun _ => ⟨B, 0, rfl, hB, heap_lt hh, fun i x hi => ?_⟩⟩
 obtain rfl : i = 0 := by
  have := (List.getElem?_eq_some_iff.1 hi).1
  simp at this
  exact this
 obtain rfl := Option.some.inj hi
 refine ⟨ys, h, fun j u hj => ?_⟩
 rw [show 0 + 0 * 4 + j = j by omega, cell_of_row _ _ _ _ _ _ hh]
 simpa using hj

theorem ExF.pair {W : World} {base d B : Nat} {a b : Ex} {ys zs : List Value} {t : TypeId} (h : ExF W base d a ys) (h' : ExF W base d b zs) (k n : Int) (s : ByteArray) (hB : base ≤ B) (hh : W.heap[B]? = some (.cells (ys ++ zs).toArray t (0, 0))) (hl : ys.length = 4) : ExF W base (d + 1) (.mk k n s [a, b]) (exC k n s (.slice (some ⟨B, 0, none⟩) 2 2)) := by
 rw [ExF]
 refine ⟨_, 2, rfl, Nat.le_refl _, (by show 2 ≤ _; decide), fun _ => ⟨B, 0, rfl, hB, heap_lt hh, fun i x hi => ?_⟩⟩
 have hlt := (List.getElem?_eq_some_iff.1 hi).1
 rcases (by simp at hlt; omega : i = 0 ∨ i = 1) with rfl | rfl
 ·obtain rfl := Option.some.inj hi
  refine ⟨ys, h, fun j u hj => ?_⟩
  rw [show 0 + 0 * 4 + j = j by omega, cell_of_row _ _ _ _ _ _ hh]
  have hj' := (List.getElem?_eq_some_iff.1 hj).1
  rw [← Array.getElem?_toList]
  show (ys ++ zs)[j]? = _
  rw [List.getElem?_append_left hj']
  exact hj
 ·obtain rfl := Option.some.inj hi
  refine ⟨zs, h', fun j u hj => ?_⟩
  rw [cell_of_row _ _ _ _ _ _ hh, ← Array.getElem?_toList]
  show (ys ++ zs)[0 + 1 * 4 + j]? = _
  rw [List.getElem?_append_right (by omega), hl, show 0 + 1 * 4 + j - 4 = j by omega]
  exact hj

def twoX (f : List UInt8 → Option (Ex × List UInt8)) (l : List UInt8) : Option (Ex × List UInt8) :=
 match f l with
 | none => none
 | some (a, r) => match signX r with
  | none => none
  | some (k, r) => match f r with
   | none => none
   | some (b, r) => if Lib.hasPrefix r [41] = true then some (.mk (kindQ k) 0 ⟨#[]⟩ [a, b], Lib.trimPrefix r [41]) else none

theorem readX_two {d : Nat} {l : List UInt8} (h : Lib.hasPrefix l [40] = true) : readX (d + 1) l = twoX (readX d) (Lib.trimPrefix l [40]) := by
 rw [readX, if_pos h]
 rfl

def RdP (f : List UInt8 → Option (Ex × List UInt8)) (l : List UInt8) (w : World) (e : Ending) (w' : World) : Prop :=
 ∃ x cs r ok dd, e = .returned (.tuple #[.agg cs.toArray, strV r, .bool ok]) ∧ ExF w' w.heap.size dd x cs ∧ Below w.heap.size w w' ∧ (∃ p, l = p ++ r) ∧ (Ascii l → f l = if ok = true then some (x, r) else none)

theorem Ascii.tail {p r : List UInt8} (h : Ascii (p ++ r)) : Ascii r := fun b hb => h b (by simp [hb])

theorem trim_suffix (l p : List UInt8) : ∃ q, l = q ++ Lib.trimPrefix l p := by
 unfold Lib.trimPrefix
 split
 ·exact ⟨l.take p.length, (List.take_append_drop _ _).symm⟩
 ·exact ⟨[], rfl⟩

@[reducible] def put4 (W : World) (b : Nat) (k n : Int) (s : ByteArray) (v : Value) : World := (((W.setCell ⟨b, 0, none⟩ (.int .i64 k)).setCell ⟨b, 1, none⟩ (.int .i64 n)).setCell ⟨b, 2, none⟩ (.string s)).setCell ⟨b, 3, none⟩ v

theorem ExB.put {W : World} {b : Nat} {k n : Int} {s : ByteArray} {v : Value} (x : ExB W b k n s v) (k' n' : Int) (s' : ByteArray) (v' : Value) : ExB (put4 W b k' n' s' v') b k' n' s' v' := by
 unfold ExB at x ⊢
 rw [heap_setCell_same _ b 3 _ _ _ (heap_setCell_same _ b 2 _ _ _ (heap_setCell_same _ b 1 _ _ _ (heap_setCell_same _ b 0 _ _ _ x)))]
 rfl

theorem put4_heap {W : World} {b c : Nat} (k n : Int) (s : ByteArray) (v : Value) (h : c ≠ b) : (put4 W b k n s v).heap[c]? = W.heap[c]? := by
 rw [heap_setCell_other _ _ _ _ (fun e => h e), heap_setCell_other _ _ _ _ (fun e => h e), heap_setCell_other _ _ _ _ (fun e => h e), heap_setCell_other _ _ _ _ (fun e => h e)]

theorem put4_size (W : World) (b : Nat) (k n : Int) (s : ByteArray) (v : Value) : (put4 W b k n s v).heap.size = W.heap.size := by simp

theorem put4_below {K : Nat} {w W : World} {b : Nat} (h : Below K w W) (hK : K ≤ b) (k n : Int) (s : ByteArray) (v : Value) : Below K w (put4 W b k n s v) :=
 ((((h.setCell (p := ⟨b, 0, none⟩) hK _).setCell (p := ⟨b, 1, none⟩) hK _).setCell (p := ⟨b, 2, none⟩) hK _).setCell (p := ⟨b, 3, none⟩) hK _)

theorem ExF.put {W : World} {base d b : Nat} {e : Ex} {cs : List Value} (h : ExF W base d e cs) (hb : b < base) (base' : Nat) (hl : base' ≤ base) (k n : Int) (s : ByteArray) (v : Value) : ExF (put4 W b k n s v) base' d e cs :=
 h.keep hl (Nat.le_of_eq (put4_size W b k n s v).symm) (fun c hc _ => put4_heap k n s v (by omega))

theorem rdP_none {f : List UInt8 → Option (Ex × List UInt8)} {l : List UInt8} {w W : World} (hb : Below w.heap.size w W) (hf : Ascii l → f l = none) : RdP f l w (.returned (.tuple #[.agg #[.int .i64 0, .int .i64 0, .string ⟨#[]⟩, .slice none 0 0], .string ⟨#[]⟩, .bool false])) W :=
 ⟨.mk 0 0 ⟨#[]⟩ [], exC 0 0 ⟨#[]⟩ (.slice none 0 0), [], false, 1, rfl, ExF.leaf _ _ _ _ _, hb, ⟨l, (List.append_nil l).symm⟩, fun h => by rw [hf h]; rfl⟩

set_option linter.unusedSimpArgs false in
set_option maxRecDepth 100000 in
set_option maxHeartbeats 3200000 in
theorem readTwo_of (D : Nat) (H : ∀ (w : World) (l : List UInt8), l.length ≤ 1000000 → ErrQ w → Calls Tryd.prog 22 #[strV l, .int .i64 (D : Int)] w fun e w' => RdP (readX D) l w e w') (w : World) (l : List UInt8) (hl : l.length ≤ 1000000) (he : ErrQ w) :
  Calls Tryd.prog 32 #[strV l, .int .i64 (D : Int)] w fun e w' => RdP (twoX (readX D)) l w e w' := by
 have hb1 := alloc_below w (.cells #[.int .i64 0, .int .i64 0, .string ⟨#[]⟩, .slice none 0 0] 24)
 have HX := hide (ExB.new w 0 0 ⟨#[]⟩ (.slice none 0 0)); have HB1 := hide hb1; have HE := hide he
 have HH := hide H
 clear hb1 H he
 go_enter Tryd.func32, Tryd.ntmps32
 go_wp2_with fail
 refine (HH.out _ l hl (HE.out.below HB1.out)).mono ?_
 rintro e w2 ⟨x, cs, r, ok, dd, rfl, hx, hb2, hsuf, hrd⟩
 obtain ⟨k, n, s, o, m, cap, rfl⟩ := hx.agg
 have HF2 := hide hx; have HS := hide hsuf; have HR := hide hrd
 have HX2 := hide (HX.out.later hb2); have HB2 := hide (HB1.out.trans (hb2.mono HB1.out.size))
 clear hx hb2 hsuf hrd HX HB1
 cases ok with
 | false =>
  have hb3 := alloc_below w2 (.cells #[.int .i64 k, .int .i64 n, .string s, .slice o m cap] 24)
  have HX3 := hide (HX2.out.later hb3)
  have HFIN : Hid (RdP (twoX (readX D)) l w (.returned (.tuple #[.agg #[.int .i64 0, .int .i64 0, .string ⟨#[]⟩, .slice none 0 0], .string ⟨#[]⟩, .bool false])) (put4 (w2.alloc (.cells #[.int .i64 k, .int .i64 n, .string s, .slice o m cap] 24)) w.heap.size 0 0 ⟨#[]⟩ (.slice none 0 0))) :=
   rdP_none (put4_below (HB2.out.trans (hb3.mono HB2.out.size)) (Nat.le_refl _) _ _ _ _) (fun h => by unfold twoX; rw [HR.out h]; rfl)
  obtain ⟨c0, c1, c2, c3, hf⟩ := HX3.out.cells
  have f0 := hf 0; have f1 := hf 1; have f2 := hf 2; have f3 := hf 3
  obtain ⟨g0, g1, g2, g3, -⟩ := (HX3.out.put 0 0 ⟨#[]⟩ (.slice none 0 0)).cells
  clear hb3 hf
  go_wp2
  exact bodyPost_ret (v := .tuple #[.agg #[.int .i64 0, .int .i64 0, .string ⟨#[]⟩, .slice none 0 0], .string ⟨#[]⟩, .bool false]) (by simp [results, Tryd.results32, go_sem, g0, g1, g2, g3]) rfl HFIN.out
 | true =>
  have hb3 := alloc_below w2 (.cells #[.int .i64 k, .int .i64 n, .string s, .slice o m cap] 24)
  have HX3 := hide (HX2.out.later hb3); have HB3 := hide (HB2.out.trans (hb3.mono HB2.out.size)); have HF3 := hide (HF2.out.later (Nat.le_refl _) hb3)
  have HY3 := hide (ExB.new w2 k n s (.slice o m cap))
  have hlt3 : w.heap.size < w2.heap.size := heap_lt HX2.out
  clear hb3 HX2 HB2 HF2
  obtain ⟨W3, hW3⟩ : ∃ W3, w2.alloc (.cells #[.int .i64 k, .int .i64 n, .string s, .slice o m cap] 24) = W3 := ⟨_, rfl⟩
  have hsz3 : w2.heap.size < W3.heap.size := by rw [← hW3]; simp
  rw [hW3] at HX3 HB3 HF3 HY3
  have HSG := hide (show Calls Tryd.prog 40 #[strV r] W3 fun e w' => SgP r W3 e w' from readSign_any ⟨r.toArray⟩ W3)
  have hrl : r.length ≤ l.length := by obtain ⟨p, hp⟩ := HS.out; rw [hp, List.length_append]; omega
  have HK : Hid (∀ W, Below W3.heap.size W3 W → ExB W w.heap.size 0 0 ⟨#[]⟩ (.slice none 0 0) ∧ Below w.heap.size w W ∧ ExF W (w.heap.size + 1) dd x (exC k n s (.slice o m cap)) ∧ ExB W w2.heap.size k n s (.slice o m cap) ∧ ErrQ W) := fun W hb =>
   ⟨HX3.out.later hb, HB3.out.trans (hb.mono HB3.out.size), HF3.out.later (by simp) hb, HY3.out.later hb, HE.out.below (HB3.out.trans (hb.mono HB3.out.size))⟩
  clear HX3 HB3 HF3 HY3
  go_wp2_with fail
  refine HSG.out.mono ?_
  rintro e w5 ⟨rfl, hb5⟩
  have HB5 := hide hb5
  clear hb5 HSG
  cases hsg : signX r with
  | none =>
   have HK5 := hide (HK.out w5 HB5.out)
   have HFIN : Hid (RdP (twoX (readX D)) l w (.returned (.tuple #[.agg #[.int .i64 0, .int .i64 0, .string ⟨#[]⟩, .slice none 0 0], .string ⟨#[]⟩, .bool false])) (put4 w5 w.heap.size 0 0 ⟨#[]⟩ (.slice none 0 0))) :=
    rdP_none (put4_below HK5.out.2.1 (Nat.le_refl _) _ _ _ _) (fun h => by unfold twoX; rw [HR.out h]; simp only [if_true]; rw [hsg])
   obtain ⟨c0, c1, c2, c3, hf⟩ := HK5.out.1.cells
   have f0 := hf 0; have f1 := hf 1; have f2 := hf 2; have f3 := hf 3
   obtain ⟨g0, g1, g2, g3, -⟩ := (HK5.out.1.put 0 0 ⟨#[]⟩ (.slice none 0 0)).cells
   clear hf hsg HK5
   rw [show sgV none = .tuple #[.int .i64 0, strV [], .bool false] from rfl]
   go_wp2
   exact bodyPost_ret (v := .tuple #[.agg #[.int .i64 0, .int .i64 0, .string ⟨#[]⟩, .slice none 0 0], .string ⟨#[]⟩, .bool false]) (by simp [results, Tryd.results32, go_sem, g0, g1, g2, g3]) rfl HFIN.out
  | some p =>
   obtain ⟨sk, r2⟩ := p
   have HSGX := hide hsg
   have hr2 : ∃ q, r = q ++ r2 := by
    unfold signX at hsg
    split at hsg
    ·obtain ⟨-, rfl⟩ := Prod.mk.inj (Option.some.inj hsg)
     exact ⟨r.take 3, (List.take_append_drop _ _).symm⟩
    ·split at hsg
     ·obtain ⟨-, rfl⟩ := Prod.mk.inj (Option.some.inj hsg)
      exact ⟨r.take 3, (List.take_append_drop _ _).symm⟩
     ·cases hsg
   have hr2l : r2.length ≤ 1000000 := by obtain ⟨q, hq⟩ := hr2; rw [hq, List.length_append] at hrl; omega
   have HR2 := hide hr2
   clear hsg hr2
   rw [show sgV (some (sk, r2)) = .tuple #[.int .i64 (kindQ sk), strV r2, .bool true] from rfl]
   go_wp2_with fail
   refine (HH.out w5 r2 hr2l (HK.out w5 HB5.out).2.2.2.2).mono ?_
   rintro e w6 ⟨x2, cs2, r3, ok2, dd2, rfl, hx2, hb6, hsuf2, hrd2⟩
   obtain ⟨k2, n2, s2, o2, m2, cap2, rfl⟩ := hx2.agg
   have hb7 := alloc_below w6 (.cells #[.int .i64 k2, .int .i64 n2, .string s2, .slice o2 m2 cap2] 24)
   have HB7 := hide (HB5.out.trans ((hb6.trans (hb7.mono hb6.size)).mono HB5.out.size))
   have HF7 := hide (hx2.later (base' := w.heap.size + 1) (by have := HB5.out.size; omega) hb7)
   have HY7 := hide (ExB.new w6 k2 n2 s2 (.slice o2 m2 cap2))
   have HS2 := hide hsuf2; have HRD2 := hide hrd2
   obtain ⟨W7, hW7⟩ : ∃ W7, w6.alloc (.cells #[.int .i64 k2, .int .i64 n2, .string s2, .slice o2 m2 cap2] 24) = W7 := ⟨_, rfl⟩
   rw [hW7] at HB7 HF7 HY7
   have HK7 := hide (HK.out W7 HB7.out)
   have hsz67 : w.heap.size + 1 ≤ W7.heap.size := by have := HB7.out.size; omega
   clear hx2 hb6 hsuf2 hrd2 hb7 HK
   cases ok2 with
   | false =>
    have HFIN : Hid (RdP (twoX (readX D)) l w (.returned (.tuple #[.agg #[.int .i64 0, .int .i64 0, .string ⟨#[]⟩, .slice none 0 0], .string ⟨#[]⟩, .bool false])) (put4 W7 w.heap.size 0 0 ⟨#[]⟩ (.slice none 0 0))) :=
     rdP_none (put4_below HK7.out.2.1 (Nat.le_refl _) _ _ _ _) (fun h => by
      have h2 : Ascii r2 := by
       obtain ⟨p, hp⟩ := HS.out
       rw [hp] at h
       obtain ⟨q, hq⟩ := HR2.out
       have := h.tail
       rw [hq] at this
       exact this.tail
      unfold twoX; rw [HR.out h]; simp only [if_true]; rw [HSGX.out]; simp only; rw [HRD2.out h2]; rfl)
    obtain ⟨c0, c1, c2, c3, hf⟩ := HK7.out.1.cells
    have f0 := hf 0; have f1 := hf 1; have f2 := hf 2; have f3 := hf 3
    obtain ⟨g0, g1, g2, g3, -⟩ := (HK7.out.1.put 0 0 ⟨#[]⟩ (.slice none 0 0)).cells
    clear hf HK7
    go_wp2
    exact bodyPost_ret (v := .tuple #[.agg #[.int .i64 0, .int .i64 0, .string ⟨#[]⟩, .slice none 0 0], .string ⟨#[]⟩, .bool false]) (by simp [results, Tryd.results32, go_sem, g0, g1, g2, g3]) rfl HFIN.out
   | true =>
    have HCU := hide (show Calls Tryd.prog 31 #[strV r3, .string ⟨#[41]⟩] W7 fun e w' => e = .returned (.tuple #[strV (Lib.trimPrefix r3 [41]), .bool (Lib.hasPrefix r3 [41])]) ∧ w' = W7 from Tryd.strings_CutPrefix ⟨r3.toArray⟩ ⟨#[41]⟩ W7)
    obtain ⟨r4, hr4⟩ : ∃ x, Lib.trimPrefix r3 [41] = x := ⟨_, rfl⟩
    obtain ⟨ok3, hok3⟩ : ∃ x, Lib.hasPrefix r3 [41] = x := ⟨_, rfl⟩
    have hb9 := alloc_below W7 (.cells #[.int .i64 k, .int .i64 n, .string s, .slice o m cap, .int .i64 k2, .int .i64 n2, .string s2, .slice o2 m2 cap2] 24)
    have hh9 := heap_alloc_new W7 (.cells #[.int .i64 k, .int .i64 n, .string s, .slice o m cap, .int .i64 k2, .int .i64 n2, .string s2, .slice o2 m2 cap2] 24)
    have HX9 := hide (HK7.out.1.later hb9)
    have HFIN : Hid (RdP (twoX (readX D)) l w (.returned (.tuple #[.agg #[.int .i64 (kindQ sk), .int .i64 0, .string ⟨#[]⟩, .slice (some ⟨W7.heap.size, 0, none⟩) 2 2], strV r4, .bool ok3])) (put4 (W7.alloc (.cells #[.int .i64 k, .int .i64 n, .string s, .slice o m cap, .int .i64 k2, .int .i64 n2, .string s2, .slice o2 m2 cap2] 24)) w.heap.size (kindQ sk) 0 ⟨#[]⟩ (.slice (some ⟨W7.heap.size, 0, none⟩) 2 2))) := by
     refine ⟨.mk (kindQ sk) 0 ⟨#[]⟩ [x, x2], exC (kindQ sk) 0 ⟨#[]⟩ (.slice (some ⟨W7.heap.size, 0, none⟩) 2 2), r4, ok3, max dd dd2 + 1, rfl, ?_, put4_below (HK7.out.2.1.trans (hb9.mono HK7.out.2.1.size)) (Nat.le_refl _) _ _ _ _, ?_, fun h => ?_⟩
     ·exact ExF.put (ExF.pair (t := 24) ((HK7.out.2.2.1.later (Nat.le_refl _) hb9).mono (Nat.le_max_left _ _)) ((HF7.out.later (Nat.le_refl _) hb9).mono (Nat.le_max_right _ _)) (kindQ sk) 0 ⟨#[]⟩ hsz67 hh9 rfl) (by omega) _ (by omega) _ _ _ _
     ·obtain ⟨p, hp⟩ := HS.out
      obtain ⟨q, hq⟩ := HR2.out
      obtain ⟨p2, hp2⟩ := HS2.out
      obtain ⟨p3, hp3⟩ := trim_suffix r3 [41]
      rw [hr4] at hp3
      exact ⟨p ++ (q ++ (p2 ++ p3)), by rw [hp, hq, hp2, hp3]; simp⟩
     ·have h2 : Ascii r2 := by
       obtain ⟨p, hp⟩ := HS.out
       rw [hp] at h
       obtain ⟨q, hq⟩ := HR2.out
       have := h.tail
       rw [hq] at this
       exact this.tail
      unfold twoX
      rw [HR.out h]
      simp only [if_true]
      rw [HSGX.out]
      simp only
      rw [HRD2.out h2]
      simp only [if_true]
      rw [hok3, hr4]
    rw [hr4, hok3] at HCU
    obtain ⟨a0, a1, a2, a3, -⟩ := HK7.out.2.2.2.1.cells
    obtain ⟨b0, b1, b2, b3, -⟩ := HY7.out.cells
    obtain ⟨c0, c1, c2, c3, hf⟩ := HX9.out.cells
    have f0 := hf 0; have f1 := hf 1; have f2 := hf 2; have f3 := hf 3
    obtain ⟨g0, g1, g2, g3, -⟩ := (HX9.out.put (kindQ sk) 0 ⟨#[]⟩ (.slice (some ⟨W7.heap.size, 0, none⟩) 2 2)).cells
    clear hf hb9 hh9 hr4 hok3
    go_wp2_with fail
    refine HCU.out.mono ?_
    rintro e w8 ⟨rfl, hw8⟩
    subst hw8
    go_wp2
    exact bodyPost_ret (v := .tuple #[.agg #[.int .i64 (kindQ sk), .int .i64 0, .string ⟨#[]⟩, .slice (some ⟨w8.heap.size, 0, none⟩) 2 2], strV r4, .bool ok3]) (by simp [results, Tryd.results32, go_sem, g0, g1, g2, g3]) rfl HFIN.out

end Go.Proofs.YtanjajjjancggaaDoor
