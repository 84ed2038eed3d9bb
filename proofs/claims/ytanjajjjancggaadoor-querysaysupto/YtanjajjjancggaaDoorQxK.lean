/- package query: a sign. -/
import Derived.Test.YtanjajjjancggaaDoorQxI
import Derived.Shelf.Strconv.AtoiAll
import Derived.Test.YtanjajjjancggaaDoorBgL

namespace Go.Proofs.YtanjajjjancggaaDoor
open Go.RowKit

def signX (l : List UInt8) : Option (Bool × List UInt8) :=
 if Lib.hasPrefix l [32, 43, 32] = true then some (false, l.drop 3) else if Lib.hasPrefix l [32, 38, 32] = true then some (true, l.drop 3) else none

def sgV : Option (Bool × List UInt8) → Value
 | none => .tuple #[.int .i64 0, strV [], .bool false]
 | some (k, r) => .tuple #[.int .i64 (kindQ k), strV r, .bool true]

def SgP (l : List UInt8) (w : World) (e : Ending) (w' : World) : Prop := e = .returned (sgV (signX l)) ∧ Below w.heap.size w w'

theorem signX_at {l : List UInt8} (k : Bool) (h0 : k = true → Lib.hasPrefix l [32, 43, 32] = false) (h : Lib.hasPrefix l [32, signB k, 32] = true) : signX l = some (k, Lib.trimPrefix l [32, signB k, 32]) := by
 unfold signX Lib.trimPrefix
 rw [if_pos h]
 cases k with
 | false => rw [if_pos (show Lib.hasPrefix l [32, 43, 32] = true from h)]; rfl
 | true =>
  rw [h0 rfl, if_neg (by decide), if_pos (show Lib.hasPrefix l [32, 38, 32] = true from h)]
  rfl

theorem sign_step (s : ByteArray) (k : Bool) (W : World) : Calls Tryd.prog 31 #[.string s, strV [32, signB k, 32]] W fun e w' => e = .returned (.tuple #[strV (Lib.trimPrefix s.data.toList [32, signB k, 32]), .bool (Lib.hasPrefix s.data.toList [32, signB k, 32])]) ∧ w' = W :=
 Tryd.strings_CutPrefix s ⟨#[32, signB k, 32]⟩ W

set_option linter.unusedSimpArgs false in
set_option maxRecDepth 100000 in
set_option maxHeartbeats 1600000 in
theorem readSign_any (s : ByteArray) (w : World) : Calls Tryd.prog 40 #[.string s] w fun e w' => SgP s.data.toList w e w' := by
 have HC := hide (sign_step s)
 have hc0 : (w.alloc (.cells #[.int .i64 2, .int .i64 3] 3)).cell? ⟨w.heap.size, 0, none⟩ = some (.int .i64 2) := by rw [cell_of_row _ _ _ _ _ _ (heap_alloc_new w _)]; rfl
 have hc1 : (w.alloc (.cells #[.int .i64 2, .int .i64 3] 3)).cell? ⟨w.heap.size, 1, none⟩ = some (.int .i64 3) := by rw [cell_of_row _ _ _ _ _ _ (heap_alloc_new w _)]; rfl
 have hsz : w.heap.size < (w.alloc (.cells #[.int .i64 2, .int .i64 3] 3)).heap.size := by simp
 have HIN : Hid ((w.alloc (.cells #[.int .i64 2, .int .i64 3] 3)).cell? ⟨w.heap.size, 0, none⟩ = some (.int .i64 2) ∧ (w.alloc (.cells #[.int .i64 2, .int .i64 3] 3)).cell? ⟨w.heap.size, 1, none⟩ = some (.int .i64 3) ∧ w.heap.size < (w.alloc (.cells #[.int .i64 2, .int .i64 3] 3)).heap.size ∧ Below w.heap.size w (w.alloc (.cells #[.int .i64 2, .int .i64 3] 3))) := ⟨hc0, hc1, hsz, alloc_below w _⟩
 clear hc0 hc1 hsz
 obtain ⟨l, hl⟩ : ∃ l, s.data.toList = l := ⟨_, rfl⟩
 rw [hl] at HC ⊢
 clear hl
 go_enter Tryd.func40, Tryd.ntmps40
 go_wp2
 go_loopw [11] (fun x wr => ∃ j : Nat, j ≤ 2 ∧ x = .int .i64 j ∧ Hid ((0 < j → Lib.hasPrefix l [32, 43, 32] = false) ∧ (1 < j → Lib.hasPrefix l [32, 38, 32] = false)) ∧ Hid (wr.cell? ⟨w.heap.size, 0, none⟩ = some (.int .i64 2) ∧ wr.cell? ⟨w.heap.size, 1, none⟩ = some (.int .i64 3) ∧ w.heap.size < wr.heap.size ∧ Below w.heap.size w wr)) (fun x _ => 2 - (intOf x).toNat)
 case atStart => exact ⟨0, by decide, rfl, ⟨fun h => by omega, fun h => by omega⟩, HIN⟩
 case round =>
  clear HIN
  obtain ⟨j, hj, rfl, HP, HW⟩ := hrel
  rcases (by omega : j = 0 ∨ j = 1 ∨ j = 2) with rfl | rfl | rfl
  ·obtain ⟨c0, -, -, -⟩ := HW.out
   go_wp2_with fail
   refine (signs_any wr).mono ?_
   rintro e w2 ⟨rfl, hm, hb2⟩
   have hl2 := run_sign w2 wr.heap.size false hm
   have HB2 := hide (HW.out.2.2.2.trans (hb2.mono HW.out.2.2.2.size)); have HW2 := hide (show w2.cell? ⟨w.heap.size, 0, none⟩ = some (.int .i64 2) ∧ w2.cell? ⟨w.heap.size, 1, none⟩ = some (.int .i64 3) ∧ w.heap.size < w2.heap.size from ⟨(hb2.cell (p := ⟨w.heap.size, 0, none⟩) HW.out.2.2.1).trans HW.out.1, (hb2.cell (p := ⟨w.heap.size, 1, none⟩) HW.out.2.2.1).trans HW.out.2.1, Nat.lt_of_lt_of_le HW.out.2.2.1 hb2.size⟩)
   clear hm hb2 HW c0
   rw [show kindQ false = 2 from rfl] at hl2
   go_wp2_with fail
   refine (spaced_any w2 (signB false)).mono ?_
   rintro e w3 ⟨rfl, hb3⟩
   have HB3 := hide (HB2.out.trans (hb3.mono HB2.out.size)); have HW3 := hide (show w3.cell? ⟨w.heap.size, 0, none⟩ = some (.int .i64 2) ∧ w3.cell? ⟨w.heap.size, 1, none⟩ = some (.int .i64 3) ∧ w.heap.size < w3.heap.size from ⟨(hb3.cell (p := ⟨w.heap.size, 0, none⟩) HW2.out.2.2).trans HW2.out.1, (hb3.cell (p := ⟨w.heap.size, 1, none⟩) HW2.out.2.2).trans HW2.out.2.1, Nat.lt_of_lt_of_le HW2.out.2.2 hb3.size⟩)
   clear hb3 HB2 HW2 hl2
   go_wp2_with fail
   refine (HC.out false w3).mono ?_
   rintro e w4 ⟨rfl, hw4⟩
   subst hw4
   cases hp : Lib.hasPrefix l [32, signB false, 32] with
   | true =>
    have HFIN : Hid (SgP l w (.returned (.tuple #[.int .i64 2, strV (Lib.trimPrefix l [32, signB false, 32]), .bool true])) w4) := ⟨by rw [signX_at false (fun h => by cases h) hp]; rfl, HB3.out⟩
    clear hp
    go_wp2
    go_ret3
    exact HFIN.out
   | false =>
    have HPN : Hid ((0 < 1 → Lib.hasPrefix l [32, 43, 32] = false) ∧ (1 < 1 → Lib.hasPrefix l [32, 38, 32] = false)) := ⟨fun _ => hp, fun h => by omega⟩
    clear hp
    go_wp2
    go_roundw
    case rel => exact ⟨1, by decide, rfl, HPN, ⟨HW3.out.1, HW3.out.2.1, HW3.out.2.2, HB3.out⟩⟩
    case measure => simp [intOf]
  ·obtain ⟨-, c1, -, -⟩ := HW.out
   go_wp2_with fail
   refine (signs_any wr).mono ?_
   rintro e w2 ⟨rfl, hm, hb2⟩
   have hl2 := run_sign w2 wr.heap.size true hm
   have HB2 := hide (HW.out.2.2.2.trans (hb2.mono HW.out.2.2.2.size)); have HW2 := hide (show w2.cell? ⟨w.heap.size, 0, none⟩ = some (.int .i64 2) ∧ w2.cell? ⟨w.heap.size, 1, none⟩ = some (.int .i64 3) ∧ w.heap.size < w2.heap.size from ⟨(hb2.cell (p := ⟨w.heap.size, 0, none⟩) HW.out.2.2.1).trans HW.out.1, (hb2.cell (p := ⟨w.heap.size, 1, none⟩) HW.out.2.2.1).trans HW.out.2.1, Nat.lt_of_lt_of_le HW.out.2.2.1 hb2.size⟩)
   clear hm hb2 HW c1
   rw [show kindQ true = 3 from rfl] at hl2
   go_wp2_with fail
   refine (spaced_any w2 (signB true)).mono ?_
   rintro e w3 ⟨rfl, hb3⟩
   have HB3 := hide (HB2.out.trans (hb3.mono HB2.out.size)); have HW3 := hide (show w3.cell? ⟨w.heap.size, 0, none⟩ = some (.int .i64 2) ∧ w3.cell? ⟨w.heap.size, 1, none⟩ = some (.int .i64 3) ∧ w.heap.size < w3.heap.size from ⟨(hb3.cell (p := ⟨w.heap.size, 0, none⟩) HW2.out.2.2).trans HW2.out.1, (hb3.cell (p := ⟨w.heap.size, 1, none⟩) HW2.out.2.2).trans HW2.out.2.1, Nat.lt_of_lt_of_le HW2.out.2.2 hb3.size⟩)
   clear hb3 HB2 HW2 hl2
   go_wp2_with fail
   refine (HC.out true w3).mono ?_
   rintro e w4 ⟨rfl, hw4⟩
   subst hw4
   cases hp : Lib.hasPrefix l [32, signB true, 32] with
   | true =>
    have HFIN : Hid (SgP l w (.returned (.tuple #[.int .i64 3, strV (Lib.trimPrefix l [32, signB true, 32]), .bool true])) w4) := ⟨by rw [signX_at true (fun _ => HP.out.1 (by decide)) hp]; rfl, HB3.out⟩
    clear hp
    go_wp2
    go_ret3
    exact HFIN.out
   | false =>
    have HPN : Hid ((0 < 2 → Lib.hasPrefix l [32, 43, 32] = false) ∧ (1 < 2 → Lib.hasPrefix l [32, 38, 32] = false)) := ⟨fun _ => HP.out.1 (by decide), fun _ => hp⟩
    clear hp
    go_wp2
    go_roundw
    case rel => exact ⟨2, by decide, rfl, HPN, ⟨HW3.out.1, HW3.out.2.1, HW3.out.2.2, HB3.out⟩⟩
    case measure => simp [intOf]
  ·have HFIN : Hid (SgP l w (.returned (.tuple #[.int .i64 0, .string ⟨#[]⟩, .bool false])) wr) := by
    refine ⟨?_, HW.out.2.2.2⟩
    unfold signX
    rw [HP.out.1 (by decide), HP.out.2 (by decide)]
    rfl
   go_wp2
   go_ret3
   exact HFIN.out

end Go.Proofs.YtanjajjjancggaaDoor

/- strconv.Atoi of any text, laid at this translation. -/
namespace Go.Proofs
open Go.Shelf Go.RowKit

theorem Tryd.laysM172 : LaysM.n172 Tryd.prog Tryd.lays172_ren := { Tryd.lays172 with
 t80 := Tryd.underlying117
 a80 := Tryd.isAgg117
 z80 := Tryd.sizeOf117
 v80 := Tryd.zeroValue117
 i0 := by kernel_rfl
 i2 := by kernel_rfl
 i3 := by kernel_rfl
 i4 := by kernel_rfl
 i5 := by kernel_rfl
 i9 := by kernel_rfl
 i20 := by kernel_rfl
 i21 := by kernel_rfl
 i37 := by kernel_rfl
 i46 := by kernel_rfl
 i51 := by kernel_rfl
 i53 := by kernel_rfl
 i75 := by kernel_rfl
 i76 := by kernel_rfl
 i80 := by kernel_rfl
 i85 := by kernel_rfl
 i127 := by kernel_rfl
 i143 := by kernel_rfl
 i145 := by kernel_rfl
 i167 := by kernel_rfl
 i168 := by kernel_rfl
 i171 := by kernel_rfl
 i173 := by kernel_rfl
 i175 := by kernel_rfl
 i210 := by kernel_rfl
 i212 := by kernel_rfl
 i232 := by kernel_rfl
 i233 := by kernel_rfl
 m15 := by kernel_rfl
 m16 := by kernel_rfl
 m17 := by kernel_rfl
 m18 := by kernel_rfl
 m19 := by kernel_rfl
 }

theorem Tryd.laysC172 : LaysC.n172 Tryd.prog Tryd.lays172_ren := {
 toM := Tryd.laysM172
 c0 := by kernel_rfl
 c2 := by kernel_rfl
 c3 := by kernel_rfl
 c4 := by kernel_rfl
 c5 := by kernel_rfl
 c9 := by kernel_rfl
 c20 := by kernel_rfl
 c21 := by kernel_rfl
 c37 := by kernel_rfl
 c46 := by kernel_rfl
 c51 := by kernel_rfl
 c53 := by kernel_rfl
 c75 := by kernel_rfl
 c76 := by kernel_rfl
 c80 := by kernel_rfl
 c85 := by kernel_rfl
 c127 := by kernel_rfl
 c143 := by kernel_rfl
 c145 := by kernel_rfl
 c167 := by kernel_rfl
 c168 := by kernel_rfl
 c171 := by kernel_rfl
 c173 := by kernel_rfl
 c175 := by kernel_rfl
 c210 := by kernel_rfl
 c212 := by kernel_rfl
 c213 := by kernel_rfl
 c232 := by kernel_rfl
 c233 := by kernel_rfl
 }

theorem Tryd.atoi_all (s : ByteArray) (hs : s.size ≤ 1000000) (w : World) (e1 e2 : Value) (h1 : w.cell? ⟨0, 0, none⟩ = some e1) (k1 : e1 = .nilIface ∨ ∃ te pe, e1 = .iface te pe) (h2 : w.cell? ⟨1, 0, none⟩ = some e2) (k2 : e2 = .nilIface ∨ ∃ te pe, e2 = .iface te pe) :
  Calls Tryd.prog 34 #[.string s] w fun e w' => ∃ z ev, e = .returned (.tuple #[.int .i64 z, ev]) ∧ (-9223372036854775808 ≤ z ∧ z ≤ 9223372036854775807) ∧ Below w.heap.size w w' ∧ ((Lib.atoiAll s.data.toList = .ok z ∧ ev = .nilIface) ∨ ((∀ v, Lib.atoiAll s.data.toList ≠ .ok v) ∧ ∃ te pe, ev = .iface te pe)) := by
 cases h : Lib.atoiAll s.data.toList with
 | ok v =>
  refine (Any.strconv_Atoi_ok Tryd.laysC172 s (by omega) v h w).mono ?_
  rintro e w' ⟨rfl, hw⟩
  refine ⟨v, _, rfl, Lib.atoiAll_bounds h, ?_, .inl ⟨rfl, rfl⟩⟩
  rcases hw with rfl | ⟨t, rfl⟩
  ·exact Below.refl _ _
  ·exact Lib.bytesWorld_below _ _ _
 | «syntax» =>
  refine (Any.strconv_Atoi_syntax Tryd.laysC172 s (by omega) h e1 w h1 k1).mono ?_
  rintro e w' ⟨N, rfl, -, -, hb⟩
  exact ⟨_, _, rfl, by decide, hb, .inr ⟨fun v hv => (by cases hv), _, _, rfl⟩⟩
 | range =>
  refine (Any.strconv_Atoi_range Tryd.laysC172 s (by omega) h e2 w h2 k2).mono ?_
  rintro e w' ⟨N, rfl, -, -, hb⟩
  exact ⟨_, _, rfl, Lib.atoiSat_bounds _, hb, .inr ⟨fun v hv => (by cases hv), _, _, rfl⟩⟩

end Go.Proofs

/- Reading an expression: the pure part; new expressions in memory. -/
namespace Go.Proofs.YtanjajjjancggaaDoor
open Go.RowKit

def ErrQ (w : World) : Prop := (∃ e, w.cell? ⟨0, 0, none⟩ = some e ∧ (e = .nilIface ∨ ∃ te pe, e = .iface te pe) ∧ 0 < w.heap.size) ∧ ∃ e, w.cell? ⟨1, 0, none⟩ = some e ∧ (e = .nilIface ∨ ∃ te pe, e = .iface te pe) ∧ 1 < w.heap.size

theorem ErrQ.below {w w' : World} (h : ErrQ w) (hb : Below w.heap.size w w') : ErrQ w' := by
 obtain ⟨⟨e1, h1, h2, h3⟩, e2, k1, k2, k3⟩ := h
 exact ⟨⟨e1, (hb.cell (p := ⟨0, 0, none⟩) h3).trans h1, h2, Nat.lt_of_lt_of_le h3 hb.size⟩, e2, (hb.cell (p := ⟨1, 0, none⟩) k3).trans k1, k2, Nat.lt_of_lt_of_le k3 hb.size⟩

def AtP (l : List UInt8) (w : World) (e : Ending) (w' : World) : Prop := ∃ z ev, e = .returned (.tuple #[.int .i64 z, ev]) ∧ Below w.heap.size w w' ∧ ((Lib.atoiAll l = .ok z ∧ ev = .nilIface) ∨ ((∀ v, Lib.atoiAll l ≠ .ok v) ∧ ∃ te pe, ev = .iface te pe))

theorem atoiQ (w : World) (he : ErrQ w) (s : ByteArray) (hs : s.size ≤ 1000000) : Calls Tryd.prog 34 #[.string s] w fun e w' => AtP s.data.toList w e w' := by
 obtain ⟨⟨e1, h1, h2, -⟩, e2, k1, k2, -⟩ := he
 exact (Go.Proofs.Tryd.atoi_all s hs w e1 e2 h1 h2 k1 k2).mono fun e w' ⟨z, ev, h1, _, h3, h4⟩ => ⟨z, ev, h1, h3, h4⟩

def fillP : List UInt8 := [102, 105, 108, 108, 32]
def wholeP : List UInt8 := [119, 104, 111, 108, 101, 32]

def numX (l : List UInt8) : Option Int := match Lib.atoiAll l with
 | .ok v => some v
 | _ => none

def readX : Nat → List UInt8 → Option (Ex × List UInt8)
 | 0, _ => none
 | d + 1, l =>
  if Lib.hasPrefix l [40] = true then
   match readX d (Lib.trimPrefix l [40]) with
   | none => none
   | some (a, r) => match signX r with
    | none => none
    | some (k, r) => match readX d r with
     | none => none
     | some (b, r) => if Lib.hasPrefix r [41] = true then some (.mk (kindQ k) 0 ⟨#[]⟩ [a, b], Lib.trimPrefix r [41]) else none
  else if Lib.hasPrefix l fillP = true then
   match readX d (Lib.trimPrefix l fillP) with
   | none => none
   | some (a, r) => some (.mk 4 0 ⟨#[]⟩ [a], r)
  else if Lib.hasPrefix l wholeP = true then
   match numX ((Lib.trimPrefix l wholeP).takeWhile inWord) with
   | none => none
   | some v => some (.mk 5 v ⟨#[]⟩ [], (Lib.trimPrefix l wholeP).dropWhile inWord)
  else some (.mk 1 0 ⟨(l.takeWhile inWord).toArray⟩ [], l.dropWhile inWord)

def Stop (r : List UInt8) : Prop := r = [] ∨ ∃ b t, r = b :: t ∧ inWord b = false

theorem prefix_app (p l : List UInt8) : Lib.hasPrefix (p ++ l) p = true ∧ Lib.trimPrefix (p ++ l) p = l := by
 have h : Lib.hasPrefix (p ++ l) p = true := by
  unfold Lib.hasPrefix
  rw [List.isPrefixOf_iff_prefix]
  exact List.prefix_append _ _
 exact ⟨h, by unfold Lib.trimPrefix; rw [if_pos h, List.drop_left]⟩

theorem word_app {l r : List UInt8} (hl : ∀ b ∈ l, inWord b = true) (hr : Stop r) : (l ++ r).takeWhile inWord = l ∧ (l ++ r).dropWhile inWord = r := by
 induction l with
 | nil =>
  rcases hr with rfl | ⟨b, t, rfl, hb⟩
  ·exact ⟨rfl, rfl⟩
  ·exact ⟨by rw [List.nil_append, List.takeWhile_cons, hb]; rfl, by rw [List.nil_append, List.dropWhile_cons, hb]; rfl⟩
 | cons a l ih =>
  have ha := hl a (by simp)
  obtain ⟨h1, h2⟩ := ih (fun b hb => hl b (by simp [hb]))
  exact ⟨by rw [List.cons_append, List.takeWhile_cons, if_pos ha, h1], by rw [List.cons_append, List.dropWhile_cons, if_pos ha, h2]⟩

theorem name_word {s : ByteArray} (h : nmOk s = true) : s.data.toList ≠ [] ∧ ∀ b ∈ s.data.toList, inWord b = true ∧ b ≠ 40 := by
 have h := of_decide_eq_true h
 refine ⟨fun e => ?_, fun b hb => ?_⟩
 ·have h0 := Lib.size_eq s
  rw [e, List.length_nil] at h0
  exact absurd h.1 (by rw [h0]; decide)
 ·obtain ⟨i, hi⟩ := List.getElem?_of_mem hb
  have hlt : i < s.size := by rw [Lib.size_eq]; exact (List.getElem?_eq_some_iff.1 hi).1
  have hby := h.2.2 i hlt
  have e : byt s i = b.toNat := by
   rw [← byt_eq hlt]
   have h1 : s[i]'hlt = b := by
    have h2 := Lib.data_getElem? s i hlt
    rw [hi] at h2
    exact (Option.some.inj h2).symm
   rw [h1]
  rw [e] at hby
  unfold inWord
  rw [Bool.and_eq_true, bne_iff_ne, bne_iff_ne]
  refine ⟨⟨?_, ?_⟩, ?_⟩ <;> (intro e2; subst e2; simp at hby)

theorem calledS_nm {s : ByteArray} (h : calledS s = true) : nmOk s = true ∧ s.data.toList ≠ fillB ∧ s.data.toList ≠ wholeB := by
 unfold calledS at h
 obtain ⟨h1, h2, h3⟩ := and3 h
 rw [Bool.not_eq_true', beq_eq_false_iff_ne, Lib.toList_data] at h2 h3
 exact ⟨h1, h2, h3⟩

theorem name_not {s : ByteArray} (h : calledS s = true) {r : List UInt8} (hr : Stop r) (p : List UInt8) (hp : p = fillB ∨ p = wholeB) : Lib.hasPrefix (s.data.toList ++ r) (p ++ [32]) = false := by
 obtain ⟨h1, h2, h3⟩ := calledS_nm h
 obtain ⟨-, hw⟩ := name_word h1
 cases hh : Lib.hasPrefix (s.data.toList ++ r) (p ++ [32]) with
 | false => rfl
 | true =>
  unfold Lib.hasPrefix at hh
  rw [List.isPrefixOf_iff_prefix] at hh
  obtain ⟨t, ht⟩ := hh
  have hpw : ∀ b ∈ p, inWord b = true := by
   rcases hp with rfl | rfl <;> decide
  have hs1 : Stop (32 :: t) := .inr ⟨32, t, rfl, rfl⟩
  have e1 := (word_app hpw hs1).1
  have e2 := (word_app (fun b hb => (hw b hb).1) hr).1
  rw [← ht, List.append_assoc, List.singleton_append, e1] at e2
  rcases hp with rfl | rfl
  ·exact absurd e2.symm h2
  ·exact absurd e2.symm h3

theorem name_open {s : ByteArray} (h : calledS s = true) (r : List UInt8) : Lib.hasPrefix (s.data.toList ++ r) [40] = false := by
 obtain ⟨h1, -, -⟩ := calledS_nm h
 obtain ⟨hne, hw⟩ := name_word h1
 cases hl : s.data.toList with
 | nil => exact absurd hl hne
 | cons b t =>
  have := (hw b (by rw [hl]; simp)).2
  show List.isPrefixOf [40] (b :: (t ++ r)) = false
  simp [List.isPrefixOf]
  exact fun e => this e.symm

theorem stop_blank (l : List UInt8) : Stop (32 :: l) := .inr ⟨32, l, rfl, rfl⟩
theorem stop_close (l : List UInt8) : Stop (41 :: l) := .inr ⟨41, l, rfl, rfl⟩

theorem digit_num {n : Nat} (h : 1 ≤ n ∧ n ≤ 4) : numX (Lib.decDigits n) = some (n : Int) ∧ ∀ b ∈ Lib.decDigits n, inWord b = true := by
 have : n = 1 ∨ n = 2 ∨ n = 3 ∨ n = 4 := by omega
 rcases this with rfl | rfl | rfl | rfl
 all_goals (refine ⟨?_, ?_⟩ <;> decide +kernel)

theorem signX_app (k : Bool) (r : List UInt8) : signX (spacedB k ++ r) = some (k, r) := by
 have h := prefix_app (spacedB k) r
 cases k with
 | false =>
  rw [signX_at false (fun h => by cases h) h.1]
  exact congrArg (fun x => some (false, x)) h.2
 | true =>
  refine (signX_at true (fun _ => ?_) h.1).trans (congrArg (fun x => some (true, x)) h.2)
  rfl

theorem read_text : ∀ (q : Qx) (d : Nat) (r : List UInt8), q.ok → q.deep ≤ d → Stop r → readX d (q.text ++ r) = some (q.ex, r)
 | .name s, d, r, hok, hd, hr => by
  rw [Qx.deep] at hd
  obtain ⟨d, rfl⟩ : ∃ e, d = e + 1 := ⟨d - 1, by omega⟩
  obtain ⟨h1, -, -⟩ := calledS_nm hok
  obtain ⟨-, hw⟩ := name_word h1
  obtain ⟨e1, e2⟩ := word_app (fun b hb => (hw b hb).1) hr
  rw [Qx.text, readX, name_open hok, if_neg (by decide), show fillP = fillB ++ [32] from rfl, name_not hok hr fillB (.inl rfl), if_neg (by decide), show wholeP = wholeB ++ [32] from rfl, name_not hok hr wholeB (.inr rfl), if_neg (by decide), e1, e2, Qx.ex, Array.toArray_toList]
 | .whole n, d, r, hok, hd, hr => by
  rw [Qx.deep] at hd
  obtain ⟨d, rfl⟩ : ∃ e, d = e + 1 := ⟨d - 1, by omega⟩
  obtain ⟨h1, h2⟩ := digit_num hok
  obtain ⟨e1, e2⟩ := word_app h2 hr
  have e : (Qx.whole n).text ++ r = wholeP ++ (Lib.decDigits n ++ r) := by
   rw [Qx.text]
   simp [wholeB, wholeP]
  obtain ⟨p1, p2⟩ := prefix_app wholeP (Lib.decDigits n ++ r)
  have n1 : Lib.hasPrefix (wholeP ++ (Lib.decDigits n ++ r)) [40] = false := rfl
  have n2 : Lib.hasPrefix (wholeP ++ (Lib.decDigits n ++ r)) fillP = false := rfl
  rw [e, readX, n1, if_neg (by decide), n2, if_neg (by decide), if_pos p1, p2, e1, e2, h1]
  rfl
 | .fill a, d, r, hok, hd, hr => by
  rw [Qx.deep] at hd
  obtain ⟨d, rfl⟩ : ∃ e, d = e + 1 := ⟨d - 1, by omega⟩
  have e : (Qx.fill a).text ++ r = fillP ++ (a.text ++ r) := by
   rw [Qx.text]
   simp [fillB, fillP]
  obtain ⟨p1, p2⟩ := prefix_app fillP (a.text ++ r)
  have n1 : Lib.hasPrefix (fillP ++ (a.text ++ r)) [40] = false := rfl
  rw [e, readX, n1, if_neg (by decide), if_pos p1, p2, read_text a d r hok (by omega) hr]
  rfl
 | .two k a b, d, r, hok, hd, hr => by
  rw [Qx.deep] at hd
  obtain ⟨d, rfl⟩ : ∃ e, d = e + 1 := ⟨d - 1, by omega⟩
  have e : (Qx.two k a b).text ++ r = [40] ++ (a.text ++ (spacedB k ++ (b.text ++ ([41] ++ r)))) := by
   rw [Qx.text]
   simp
  obtain ⟨p1, p2⟩ := prefix_app [40] (a.text ++ (spacedB k ++ (b.text ++ ([41] ++ r))))
  obtain ⟨c1, c2⟩ := prefix_app [41] r
  rw [e, readX, if_pos p1, p2, read_text a d (spacedB k ++ (b.text ++ ([41] ++ r))) hok.1 (by omega) (.inr ⟨32, _, rfl, rfl⟩)]
  simp only
  rw [signX_app]
  simp only
  rw [read_text b d ([41] ++ r) hok.2 (by omega) (stop_close _)]
  simp only
  rw [if_pos c1, c2]
  rfl

end Go.Proofs.YtanjajjjancggaaDoor
