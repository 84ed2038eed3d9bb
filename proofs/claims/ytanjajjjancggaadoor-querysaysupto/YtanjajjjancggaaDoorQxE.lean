/- package query: room, shaped, Check. -/
import Derived.Test.YtanjajjjancggaaDoorQxC
import Derived.Test.YtanjajjjancggaaDoorBgL
import Derived.Laws.RangeAny
import Derived.WalkMore

namespace Go.Proofs.YtanjajjjancggaaDoor
open Go.RowKit

theorem drop_at {α : Type} {l : List α} {j : Nat} {x : α} (h : l[j]? = some x) : l.drop j = x :: l.drop (j + 1) := by
 obtain ⟨hj, e⟩ := List.getElem?_eq_some_iff.1 h
 rw [List.drop_eq_getElem_cons hj, e]

set_option linter.unusedSimpArgs false in
set_option maxRecDepth 100000 in
set_option maxHeartbeats 1600000 in
theorem shaped_any : ∀ (d : Nat) (w : World) (e : Ex) (cs : List Value), ExD w d e cs →
  Calls Tryd.prog 20 #[.agg cs.toArray] w fun e' w' => e' = .returned (.bool (shapedE e)) ∧ Below w.heap.size w w'
 | 0, _, _, _, h => h.elim
 | d + 1, w, .mk k n s a, cs, h => by
  have IH := hide (fun W x ys hx => shaped_any d W x ys hx)
  obtain ⟨d', o, cap, e, rfl, hmax, hat⟩ := h.shape
  obtain rfl : d = d' := by omega
  have HAT := hide hat
  obtain ⟨N, hN⟩ : ∃ N, a.length = N := ⟨_, rfl⟩
  rw [shapedE, hN]
  rw [hN] at hmax
  have HN := hide hN
  have hb1 := alloc_below w (.cells #[.int .i64 k, .int .i64 n, .string s, .slice o N cap] 24)
  have HX := hide (ExB.new w k n s (.slice o N cap))
  obtain ⟨z0, z1, z2, z3, -⟩ := HX.out.cells
  have HB1 := hide hb1
  have HU := hide (used_any (w.alloc (.cells #[.int .i64 k, .int .i64 n, .string s, .slice o N cap] 24)) k n s o N cap)
  clear h hat hb1 e hN
  generalize usedE k n s N = u at *
  obtain ⟨R, hR0⟩ : ∃ R, shapedL a = R := ⟨_, rfl⟩
  have hR := hide hR0
  rw [hR0]
  clear hR0
  go_enter Tryd.func20, Tryd.ntmps20
  go_wp2_with fail
  refine HU.out.mono ?_
  rintro e w2 ⟨rfl, hb2⟩
  have HX2 := hide (HX.out.later hb2); have HB2 := hide (HB1.out.trans (hb2.mono HB1.out.size))
  clear hb2 HX HB1 HU z0 z1 z2 z3
  obtain ⟨z0, z1, z2, z3, -⟩ := HX2.out.cells
  cases u with
  | false =>
   go_wp2
   go_ret
   exact ⟨rfl, HB2.out⟩
  | true =>
   have HR : Hid (shapedL (a.drop 0) = R) := hR.out
   go_wp2
   go_loopw [10] (fun x wr => ∃ j : Nat, j ≤ N ∧ x = .int .i64 j ∧ Hid (shapedL (a.drop j) = R) ∧ Hid (ExB wr w.heap.size k n s (.slice o N cap)) ∧ Hid (Below w.heap.size w wr)) (fun x _ => N - (intOf x).toNat)
   case atStart => exact ⟨0, Nat.zero_le _, rfl, HR, HX2, HB2⟩
   case round =>
    clear HR HX2 HB2 z0 z1 z2 z3
    obtain ⟨j, hj, rfl, HR, HX, HB⟩ := hrel
    obtain ⟨z0, z1, z2, z3, -⟩ := HX.out.cells
    by_cases hjl : j < N
    ·obtain ⟨x, hget⟩ : ∃ x, a[j]? = some x := ⟨_, List.getElem?_eq_getElem (by rw [HN.out]; exact hjl)⟩
     obtain ⟨b, off, ys, k', m', s', v', rfl, hlt, hys, hx, c0, c1, c2, c3, o', n', c', rfl⟩ := HAT.out j _ hget
     have y0 := (HB.out.cell (p := ⟨b, off + j * 4, none⟩) hlt).trans c0
     have y1 := (HB.out.cell (p := ⟨b, off + j * 4 + 1, none⟩) hlt).trans c1
     have y2 := (HB.out.cell (p := ⟨b, off + j * 4 + 2, none⟩) hlt).trans c2
     have y3 := (HB.out.cell (p := ⟨b, off + j * 4 + 3, none⟩) hlt).trans c3
     have HC := hide (IH.out wr _ _ (hx.below HB.out))
     have hd := HR.out
     rw [drop_at hget, shapedL] at hd
     have HD := hide hd
     subst hys
     clear hx hd c0 c1 c2 c3 hget
     generalize shapedE x = r at *
     go_wp2_with fail
     refine HC.out.mono ?_
     rintro e w3 ⟨rfl, hb3⟩
     have HX3 := hide (HX.out.later hb3); have HB3 := hide (HB.out.trans (hb3.mono HB.out.size))
     clear hb3 HC HX HB y0 y1 y2 y3 z0 z1 z2 z3
     cases r with
     | false =>
      have hr := hide (show R = false by rw [← HD.out]; rfl)
      go_wp2
      go_ret
      exact ⟨by rw [hr.out]; rfl, HB3.out⟩
     | true =>
      have HR3 : Hid (shapedL (a.drop (j + 1)) = R) := by show _ = _; rw [← HD.out, Bool.true_and]
      go_wp2
      go_roundw
      case rel => exact ⟨j + 1, by omega, by go_num, HR3, HX3, HB3⟩
      case measure => simp [intOf]; omega
    ·obtain rfl : j = N := by omega
     have hr := HR.out
     rw [List.drop_of_length_le (by rw [HN.out]; exact Nat.le_refl _), shapedL] at hr
     have hr := hide hr
     go_wp2
     go_ret
     exact ⟨by rw [← hr.out]; rfl, HB.out⟩

set_option linter.unusedSimpArgs false in
set_option maxRecDepth 100000 in
set_option maxHeartbeats 1600000 in
theorem room_any : ∀ (d : Nat) (w : World) (e : Ex) (cs : List Value), ExD w d e cs → ∀ (D : Nat) (m : Int), D ≤ 6 → 0 ≤ m → m ≤ 20 →
  Calls Tryd.prog 19 #[.agg cs.toArray, .int .i64 (D : Int), .int .i64 m] w fun e' w' => e' = .returned (.int .i64 (roomE e D m)) ∧ Below w.heap.size w w'
 | 0, _, _, _, h => h.elim
 | d + 1, w, .mk k n s a, cs, h => by
  intro D m hD6 hm0 hm20
  have IH := hide (fun W x ys hx => room_any d W x ys hx)
  obtain ⟨d', o, cap, e, rfl, hmax, hat⟩ := h.shape
  obtain rfl : d = d' := by omega
  have HAT := hide hat
  obtain ⟨N, hN⟩ : ∃ N, a.length = N := ⟨_, rfl⟩
  rw [roomE]
  rw [hN] at hmax ⊢
  have HN := hide hN
  have hb1 := alloc_below w (.cells #[.int .i64 k, .int .i64 n, .string s, .slice o N cap] 24)
  have HX := hide (ExB.new w k n s (.slice o N cap))
  have HB1 := hide hb1
  clear h hat hb1 e hN
  by_cases hD : D = 0
  ·subst hD
   rw [if_pos rfl]
   go_enter Tryd.func19, Tryd.ntmps19
   go_wp2
   go_ret
   exact ⟨rfl, HB1.out⟩
  rw [if_neg hD]
  have g1 : decide ((D : Int) < 1) = false := decide_eq_false (by omega)
  obtain ⟨R, hR⟩ : ∃ R, roomL a (D - 1) (m - 1) = R := ⟨_, rfl⟩
  have HR : Hid (roomL (a.drop 0) (D - 1) (m - 1) = R) := hR
  rw [hR]
  clear hR
  obtain ⟨z0, z1, z2, z3, -⟩ := HX.out.cells
  go_enter Tryd.func19, Tryd.ntmps19
  go_wp2
  clear g1
  go_loopw [2, 7] (fun q x wr => ∃ (j : Nat) (M : Int), j ≤ N ∧ x = .int .i64 j ∧ q = .int .i64 M ∧ -1 ≤ M ∧ M < 20 ∧ Hid (roomL (a.drop j) (D - 1) M = R) ∧ Hid (ExB wr w.heap.size k n s (.slice o N cap)) ∧ Hid (Below w.heap.size w wr)) (fun _ x _ => N - (intOf x).toNat)
  case atStart => exact ⟨0, m - 1, Nat.zero_le _, rfl, by go_num, by omega, by omega, HR, HX, HB1⟩
  case round =>
   clear HR HX HB1 z0 z1 z2 z3
   obtain ⟨j, M, hj, rfl, rfl, hM1, hM2, HR, HX, HB⟩ := hrel
   obtain ⟨z0, z1, z2, z3, -⟩ := HX.out.cells
   by_cases hjl : j < N
   ·have gj : decide ((j : Int) < (N : Int)) = true := decide_eq_true (by omega)
    obtain ⟨x, hget⟩ : ∃ x, a[j]? = some x := ⟨_, List.getElem?_eq_getElem (by rw [HN.out]; exact hjl)⟩
    have hd := HR.out
    rw [drop_at hget, roomL] at hd
    by_cases hM0 : 0 ≤ M
    ·have gM : decide ((0 : Int) ≤ M) = true := decide_eq_true hM0
     rw [if_pos hM0] at hd
     obtain ⟨b, off, ys, k', m', s', v', rfl, hlt, hys, hx, c0, c1, c2, c3, o', n', c', rfl⟩ := HAT.out j _ hget
     have y0 := (HB.out.cell (p := ⟨b, off + j * 4, none⟩) hlt).trans c0
     have y1 := (HB.out.cell (p := ⟨b, off + j * 4 + 1, none⟩) hlt).trans c1
     have y2 := (HB.out.cell (p := ⟨b, off + j * 4 + 2, none⟩) hlt).trans c2
     have y3 := (HB.out.cell (p := ⟨b, off + j * 4 + 3, none⟩) hlt).trans c3
     have HC := hide (IH.out wr _ _ (hx.below HB.out) (D - 1) M (by omega) hM0 (by omega))
     have HD := hide hd
     have HLE := hide (roomE_le x (D - 1) M hM0)
     have eD : ((D - 1 : Nat) : Int) = (D : Int) - 1 := by omega
     rw [eD] at HC
     subst hys
     clear hx hd c0 c1 c2 c3 hget eD
     generalize roomE x (D - 1) M = r at *
     go_wp2_with fail
     refine HC.out.mono ?_
     rintro e w3 ⟨rfl, hb3⟩
     have HX3 := hide (HX.out.later hb3); have HB3 := hide (HB.out.trans (hb3.mono HB.out.size))
     have hle := HLE.out
     clear hb3 HC HX HB y0 y1 y2 y3 z0 z1 z2 z3 HLE
     go_wp2
     go_roundw
     case rel => exact ⟨j + 1, r, by omega, by go_num, rfl, hle.1, by omega, HD, HX3, HB3⟩
     case measure => simp [intOf]; omega
    ·have gM : decide ((0 : Int) ≤ M) = false := decide_eq_false hM0
     rw [if_neg hM0] at hd
     have hd := hide hd
     go_wp2
     go_ret
     exact ⟨rfl, HB.out⟩
   ·have gj : decide ((j : Int) < (N : Int)) = false := decide_eq_false (by omega)
    obtain rfl : j = N := by omega
    have hr := HR.out
    rw [List.drop_of_length_le (by rw [HN.out]; exact Nat.le_refl _), roomL] at hr
    have hr := hide hr
    go_wp2
    go_ret
    exact ⟨by first | rfl | (rw [hr.out]; rfl), HB.out⟩

theorem ExD.agg {W : World} {d : Nat} {k n : Int} {s : ByteArray} {a : List Ex} {cs : List Value} (h : ExD W d (.mk k n s a) cs) : ∃ o cap, cs = exC k n s (.slice o a.length cap) := by
 obtain ⟨d', o, cap, -, e, -⟩ := h.shape
 exact ⟨o, cap, e⟩

set_option linter.unusedSimpArgs false in
set_option maxRecDepth 100000 in
set_option maxHeartbeats 1600000 in
theorem check_any (w : World) (e : Ex) (cs : List Value) (h : ExV w e cs) :
  Calls Tryd.prog 10 #[.agg cs.toArray] w fun e' w' => e' = .returned (errV (faultE e)) ∧ Below w.heap.size w w' := by
 obtain ⟨d, h⟩ := h
 obtain ⟨k, n, s, a⟩ := e
 obtain ⟨o, cap, rfl⟩ := h.agg
 have hb1 := alloc_below w (.cells #[.int .i64 k, .int .i64 n, .string s, .slice o a.length cap] 24)
 have HX := hide (ExB.new w k n s (.slice o a.length cap))
 have HB1 := hide hb1
 have HD := hide (h.below hb1)
 have hro := room_any d _ (.mk k n s a) _ HD.out 6 20 (Nat.le_refl _) (by decide) (by decide)
 have HS := hide (shaped_any d)
 obtain ⟨r, hr⟩ : ∃ r, roomE (.mk k n s a) 6 20 = r := ⟨_, rfl⟩
 obtain ⟨sh, hsh⟩ : ∃ r, shapedE (.mk k n s a) = r := ⟨_, rfl⟩
 have hf : faultE (.mk k n s a) = if r < 0 then 2 else if sh = true then 0 else 3 := by unfold faultE; rw [hr, hsh]
 rw [hr] at hro
 rw [hf]
 have HR := hide hro
 have HSH := hide hsh
 obtain ⟨N, hN⟩ : ∃ N, a.length = N := ⟨_, rfl⟩
 rw [hN] at HX HB1 HD HR ⊢
 obtain ⟨z0, z1, z2, z3, -⟩ := HX.out.cells
 clear h hb1 hr hsh hN hf hro
 go_enter Tryd.func10, Tryd.ntmps10
 go_wp2_with fail
 refine HR.out.mono ?_
 rintro e w2 ⟨rfl, hb2⟩
 have HX2 := hide (HX.out.later hb2); have HB2 := hide (HB1.out.trans (hb2.mono HB1.out.size)); have HD2 := hide (HD.out.below hb2)
 clear hb2 HX HB1 HD HR z0 z1 z2 z3
 obtain ⟨z0, z1, z2, z3, -⟩ := HX2.out.cells
 by_cases h0 : r < 0
 ·go_wp2
  go_ret
  exact ⟨rfl, HB2.out⟩
 have HC := hide (HS.out w2 _ _ HD2.out)
 rw [HSH.out] at HC
 go_wp2_with fail
 refine HC.out.mono ?_
 rintro e w3 ⟨rfl, hb3⟩
 have HB3 := hide (HB2.out.trans (hb3.mono HB2.out.size))
 clear hb3 HC HS
 cases sh with
 | true =>
  go_wp2
  go_ret
  exact ⟨rfl, HB3.out⟩
 | false =>
  go_wp2
  go_ret
  exact ⟨rfl, HB3.out⟩

end Go.Proofs.YtanjajjjancggaaDoor

/- strings.IndexAny of a blank and a closing bracket, of any text. -/
namespace Go.Proofs.YtanjajjjancggaaDoor
open Go.RowKit

@[reducible] def endS : ByteArray := ⟨#[32, 41]⟩

def VrP (r : Int) (w : World) (e : Ending) (w' : World) : Prop := ∃ b, e = .returned (.bool b) ∧ w' = w ∧ (b = true → 0 ≤ r ∧ r ≤ 1114111 ∧ Utf8.valid r = true)

set_option linter.unusedSimpArgs false in
set_option maxRecDepth 100000 in
theorem validRune_any (r : Int) (w : World) : Calls Tryd.prog 61 #[.int .i32 r] w fun e w' => VrP r w e w' := by
 by_cases h0 : 0 ≤ r
 ·by_cases h1 : r < 55296
  ·have g0 : decide (0 ≤ r) = true := decide_eq_true h0
   have g1 : decide (r < 55296) = true := decide_eq_true h1
   go_enter Tryd.func61, Tryd.ntmps61
   go_wp2
   go_ret
   exact ⟨true, rfl, rfl, fun _ => ⟨h0, by omega, by simp [Utf8.valid]; omega⟩⟩
  ·have g0 : decide (0 ≤ r) = true := decide_eq_true h0
   have g1 : decide (r < 55296) = false := decide_eq_false h1
   by_cases h2 : 57343 < r
   ·by_cases h3 : r ≤ 1114111
    ·have g2 : decide (57343 < r) = true := decide_eq_true h2
     have g3 : decide (r ≤ 1114111) = true := decide_eq_true h3
     go_enter Tryd.func61, Tryd.ntmps61
     go_wp2
     go_ret
     exact ⟨true, rfl, rfl, fun _ => ⟨h0, h3, by simp [Utf8.valid]; omega⟩⟩
    ·have g2 : decide (57343 < r) = true := decide_eq_true h2
     have g3 : decide (r ≤ 1114111) = false := decide_eq_false h3
     go_enter Tryd.func61, Tryd.ntmps61
     go_wp2
     go_ret
     exact ⟨false, rfl, rfl, fun h => by cases h⟩
   ·have g2 : decide (57343 < r) = false := decide_eq_false h2
    go_enter Tryd.func61, Tryd.ntmps61
    go_wp2
    go_ret
    exact ⟨false, rfl, rfl, fun h => by cases h⟩
 ·have g0 : decide (0 ≤ r) = false := decide_eq_false h0
  have g2 : decide (57343 < r) = false := decide_eq_false (by omega)
  go_enter Tryd.func61, Tryd.ntmps61
  go_wp2
  go_ret
  exact ⟨false, rfl, rfl, fun h => by cases h⟩

theorem encode_high {r : Int} (h0 : 128 ≤ r) (hv : Utf8.valid r = true) : (∃ x y : UInt8, Utf8.encode r = ⟨#[x, y]⟩ ∧ y ≠ 41) ∨ (∃ x y z : UInt8, Utf8.encode r = ⟨#[x, y, z]⟩) ∨ ∃ x y z u : UInt8, Utf8.encode r = ⟨#[x, y, z, u]⟩ := by
 unfold Utf8.encode
 rw [if_pos hv]
 simp only
 rw [if_neg (by omega)]
 split
 ·refine .inl ⟨_, _, rfl, fun e => ?_⟩
  have := congrArg UInt8.toNat e
  simp only [UInt8.toNat_ofNat'] at this
  have h41 : (41 : UInt8).toNat = 41 := rfl
  omega
 ·split
  ·exact .inr (.inl ⟨_, _, _, rfl⟩)
  ·exact .inr (.inr ⟨_, _, _, _, rfl⟩)

def IrP (w : World) (e : Ending) (w' : World) : Prop := ∃ z, e = .returned (.int .i64 z) ∧ Below w.heap.size w w'

set_option linter.unusedSimpArgs false in
set_option maxRecDepth 100000 in
set_option maxHeartbeats 1600000 in
theorem indexRune_two (r : Int) (w : World) (hr : 128 ≤ r) : Calls Tryd.prog 47 #[.string endS, .int .i32 r] w fun e w' => IrP w e w' := by
 have g0 : decide (0 ≤ r) = true := decide_eq_true (by omega)
 have g1 : decide (r < 128) = false := decide_eq_false (by omega)
 by_cases h1 : r = 65533
 ·subst h1
  have HI : Hid (∀ i, Below w.heap.size w (w.iter endS i)) := fun i => alloc_below w _
  go_enter Tryd.func47, Tryd.ntmps47
  go_wp2
  go_loopw [5, 6] (fun a b wr => ∃ i : Nat, i ≤ 2 ∧ wr = w.iter endS i) (fun _ _ wr => 2 - wr.iterPos w.heap.size)
  case atStart => exact ⟨0, by decide, rfl⟩
  case round =>
   obtain ⟨i, hi, rfl⟩ := hrel
   rcases (by omega : i = 0 ∨ i = 1 ∨ i = 2) with rfl | rfl | rfl
   ·have hnx : ∀ ty, (Instr.next (.pointer (some ⟨w.heap.size, 0, none⟩)) true ty).run Tryd.prog (w.iter endS 0) = .ok (.tuple #[.bool true, .int .i64 0, .int .i32 32]) (w.iter endS 1) := fun ty => run_next_ascii w endS 0 ty (by decide) (by decide)
    go_wp2
    go_roundw
    case rel => exact ⟨1, by decide, rfl⟩
    case measure => simp
   ·have hnx : ∀ ty, (Instr.next (.pointer (some ⟨w.heap.size, 0, none⟩)) true ty).run Tryd.prog (w.iter endS 1) = .ok (.tuple #[.bool true, .int .i64 1, .int .i32 41]) (w.iter endS 2) := fun ty => run_next_ascii w endS 1 ty (by decide) (by decide)
    go_wp2
    go_roundw
    case rel => exact ⟨2, by decide, rfl⟩
    case measure => simp
   ·have hnx : ∀ ty, (Instr.next (.pointer (some ⟨w.heap.size, 0, none⟩)) true ty).run Tryd.prog (w.iter endS 2) = _ := fun ty => run_next_end w endS 2 ty (by decide)
    go_wp2
    go_ret
    exact ⟨_, rfl, HI.out 2⟩
 have g2 : (r == 65533) = false := beq_eq_false_iff_ne.2 h1
 have HV := hide (validRune_any r w)
 have hcv : ∀ W, (convert 21 9 (.int .i32 r)).run Tryd.prog W = .ok (.string (Utf8.encode r)) W := fun W => by kernel_rfl
 clear h1
 go_enter Tryd.func47, Tryd.ntmps47
 go_wp2_with fail
 refine HV.out.mono ?_
 rintro e w1 ⟨b, rfl, hw, hb⟩
 subst hw
 clear HV
 cases b with
 | false =>
  go_wp2
  go_ret
  exact ⟨_, rfl, Below.refl _ _⟩
 | true =>
  rcases encode_high hr (hb rfl).2.2 with ⟨x, y, he, hy⟩ | ⟨x, y, z, he⟩ | ⟨x, y, z, u, he⟩
  ·rw [he] at hcv
   have HIB := hide (Tryd.strings_IndexByte ⟨#[]⟩ (y.toNat : Int) w1)
   have hy' : ¬ ((41 : Int) = (y.toNat : Int)) := fun e => hy (UInt8.toNat_inj.1 (by show y.toNat = 41; omega))
   have hy2 : ((41 : Int) != (y.toNat : Int)) = true := bne_iff_ne.2 hy'
   clear he hy hb hr g0 g1 g2
   go_wp2
   go_step3
   go_wp2
   go_loopw [9] (fun i wr => i = .int .i64 1 ∧ wr = w1) (fun _ _ => 0)
   case atStart => exact ⟨rfl, rfl⟩
   case round =>
    obtain ⟨rfl, rfl⟩ := hrel
    go_wp2
    go_step3
    go_wp2_with fail
    go_hide hQ
    go_region
    have hy3 : ((endS[1].toNat : Int) != (((⟨#[x, y]⟩ : ByteArray)[1]'(by show 1 < 2; decide)).toNat : Int)) = true := hy2
    rw [← hQ]
    clear hQ
    go_wp2_with fail
    have hwr : IntKind.i64.wrap 2 = 2 := by decide
    have hib : ∀ b, Lib.indexByte [] b = -1 := fun _ => rfl
    go_hide hQ
    go_region_held3 (fun _ => True) (trivial) (first | (go_at_call 60; refine (Tryd.strings_IndexByte _ _ _).mono ?_; rintro e w2 ⟨rfl, hw2⟩; subst hw2))
    rw [← hQ]
    clear hQ
    go_wp2
    refine (?_ : bodyPost Tryd.prog _ _ Exit.ret _ _)
    go_ret
    exact ⟨_, rfl, (Below.refl _ _).drew.trans ((Below.refl _ _).drew.mono (Nat.le_refl _))⟩
  ·rw [he] at hcv
   clear he hb hr g0 g1 g2
   go_wp2
   go_step3
   go_wp2
   go_loopw [9] (fun i wr => i = .int .i64 2 ∧ wr = w1) (fun _ _ => 0)
   case atStart => exact ⟨rfl, rfl⟩
   case round =>
    obtain ⟨rfl, rfl⟩ := hrel
    go_wp2
    go_ret
    exact ⟨_, rfl, Below.refl _ _⟩
  ·rw [he] at hcv
   clear he hb hr g0 g1 g2
   go_wp2
   go_step3
   go_wp2
   go_loopw [9] (fun i wr => i = .int .i64 3 ∧ wr = w1) (fun _ _ => 0)
   case atStart => exact ⟨rfl, rfl⟩
   case round =>
    obtain ⟨rfl, rfl⟩ := hrel
    go_wp2
    go_ret
    exact ⟨_, rfl, Below.refl _ _⟩

def putI (W : World) (b : Nat) (s : ByteArray) (p : Nat) : World := { W with heap := W.heap.setIfInBounds b (.stringIter s p) }

theorem run_next_at {W : World} {b : Nat} {s : ByteArray} {pos : Nat} (hh : W.heap[b]? = some (.stringIter s pos)) (h : pos < s.size) (ty : TypeId) :
  (Instr.next (.pointer (some ⟨b, 0, none⟩)) true ty).run Tryd.prog W = .ok (.tuple #[.bool true, .int .i64 pos, .int .i32 (Utf8.decode s pos).1]) (putI W b s (pos + (Utf8.decode s pos).2)) := by
 simp only [Instr.next, getObj, setObj, Sem.run_bind, Sem.run, hh, Result.andThen, h, if_true, putI]
 simp [goInt]

theorem run_next_at_end {W : World} {b : Nat} {s : ByteArray} {pos : Nat} (hh : W.heap[b]? = some (.stringIter s pos)) (h : ¬ pos < s.size) (ty : TypeId) :
  (Instr.next (.pointer (some ⟨b, 0, none⟩)) true ty).run Tryd.prog W = .ok (.tuple #[.bool false]) W := by
 simp [Instr.next, getObj, Sem.run, hh, h]

theorem putI_at {W : World} {b : Nat} {s : ByteArray} {p : Nat} (h : b < W.heap.size) : (putI W b s p).heap[b]? = some (.stringIter s p) := by
 unfold putI
 simp [h]

theorem putI_below {w W : World} {s : ByteArray} {p : Nat} (h : Below w.heap.size w W) : Below w.heap.size w (putI W w.heap.size s p) := by
 refine ⟨h.os, h.tape, h.output, by simp [putI]; exact h.size, fun b hb => ?_⟩
 unfold putI
 simp only [Array.getElem?_setIfInBounds]
 rw [if_neg (by omega)]
 exact h.block b hb

theorem width_posQ (s : ByteArray) (pos : Nat) (h : pos < s.size) : 1 ≤ (Utf8.decode s pos).2 := by
 by_cases ha : (s[pos]'h).toNat < 128
 ·rw [decode_ascii s pos h ha]
  exact Nat.le_refl _
 ·exact (decode_high s pos h (by omega)).2

def posI (W : World) (b : Nat) : Nat := match W.heap[b]? with
 | some (.stringIter _ p) => p
 | _ => 0

def IaP (s : ByteArray) (w : World) (e : Ending) (w' : World) : Prop := ∃ z : Int, e = .returned (.int .i64 z) ∧ -1 ≤ z ∧ z ≤ s.size ∧ Below w.heap.size w w'

theorem useSet_any (n : Int) (w : World) : Calls Tryd.prog 48 #[.int .i64 n] w fun e w' => e = .returned (.bool (decide (8 < n))) ∧ w' = w := by
 go_enter Tryd.func48, Tryd.ntmps48
 go_wp2
 go_ret
 exact ⟨rfl, rfl⟩

set_option linter.unusedSimpArgs false in
set_option maxRecDepth 100000 in
set_option maxHeartbeats 1600000 in
theorem indexAny_short2 (s : ByteArray) (w : World) (h8 : s.size ≤ 8) : Calls Tryd.prog 41 #[.string s, .string endS] w fun e w' => IaP s w e w' := by
 have g8 : decide ((8 : Int) < (s.size : Int)) = false := decide_eq_false (by omega)
 have hI : (w.iter s 0).heap[w.heap.size]? = some (.stringIter s 0) := World.iter_heap w s 0
 have HI := hide hI
 have HB : Hid (Below w.heap.size w (w.iter s 0)) := alloc_below w _
 clear hI
 go_enter Tryd.func41, Tryd.ntmps41
 go_wp2_with fail
 refine (useSet_any _ _).mono ?_
 rintro e w1 ⟨rfl, hw⟩
 subst hw
 rw [g8]
 go_wp2
 go_loopw [9, 10] (fun _ _ wr => ∃ pos : Nat, Hid (wr.heap[w1.heap.size]? = some (.stringIter s pos)) ∧ Hid (Below w1.heap.size w1 wr)) (fun _ _ wr => s.size - posI wr w1.heap.size)
 case atStart => exact ⟨0, HI, HB⟩
 case round =>
  clear HI HB
  obtain ⟨pos, HI, HB⟩ := hrel
  by_cases hp : pos < s.size
  ·have hnx := run_next_at HI.out hp
   have hsz := heap_lt HI.out
   have HIN := hide (putI_at (W := wr) (s := s) (p := pos + (Utf8.decode s pos).2) hsz)
   have HBN := hide (putI_below (s := s) (p := pos + (Utf8.decode s pos).2) HB.out)
   have hwd := width_posQ s pos hp
   have hpo : posI wr w1.heap.size = pos := by unfold posI; rw [HI.out]
   have HD : Hid ((Utf8.decode s pos).1 < 128 ∨ 128 ≤ (Utf8.decode s pos).1) := by show _ ∨ _; omega
   obtain ⟨r, hr⟩ : ∃ r, (Utf8.decode s pos).1 = r := ⟨_, rfl⟩
   obtain ⟨q, hq⟩ : ∃ q, pos + (Utf8.decode s pos).2 = q := ⟨_, rfl⟩
   rw [hr, hq] at hnx
   rw [hr] at HD
   rw [hq] at HIN HBN
   have hpq : pos < q := by omega
   clear hr hq hwd HI HB hsz
   obtain ⟨W1, hW1⟩ : ∃ W1, putI wr w1.heap.size s q = W1 := ⟨_, rfl⟩
   rw [hW1] at hnx HIN HBN
   clear hW1
   have HIR : Hid (Calls Tryd.prog 47 #[.string endS, .int .i32 (r : Int)] W1 fun e w' => IrP W1 e w') := by
    rcases HD.out with h | h
    ·exact (Tryd.strings_IndexRune_ascii endS (r : Int) W1 (by omega) (by omega)).mono fun e w' ⟨h1, h2⟩ => ⟨_, h1, by rw [h2]; exact Below.refl _ _⟩
    ·exact indexRune_two (r : Int) W1 (by omega)
   clear HD
   go_wp2_with fail
   refine HIR.out.mono ?_
   rintro e w3 ⟨z, rfl, hb3⟩
   have HI3 := hide ((hb3.block _ (heap_lt HIN.out)).trans HIN.out); have HB3 := hide (HBN.out.trans (hb3.mono HBN.out.size))
   have hp3 : posI w3 w1.heap.size = q := by unfold posI; rw [HI3.out]
   clear hb3 HIR HIN HBN hnx
   by_cases hz : 0 ≤ z
   ·have gz : decide (0 ≤ z) = true := decide_eq_true hz
    go_wp2
    go_ret
    exact ⟨_, rfl, by omega, by omega, HB3.out⟩
   ·have gz : decide (0 ≤ z) = false := decide_eq_false hz
    go_wp2
    go_roundw
    case rel => exact ⟨q, HI3, HB3⟩
    case measure => rw [hp3, hpo]; omega
  ·have hnx := run_next_at_end HI.out hp
   have HB1 := HB
   clear HB
   go_wp2
   go_ret
   exact ⟨_, rfl, by omega, by omega, HB1.out⟩

end Go.Proofs.YtanjajjjancggaaDoor

/- package query: the signs. -/
namespace Go.Proofs.YtanjajjjancggaaDoor
open Go.RowKit

def SgM (W : World) (b : Nat) : Prop := W.heap[b]? = some (.map #[⟨.int .i64 2, .int .u8 43, 0⟩, ⟨.int .i64 3, .int .u8 38, 1⟩] 2)

theorem SgM.later {W W' : World} {b : Nat} (x : SgM W b) (hb : Below W.heap.size W W') : SgM W' b := (hb.block _ (heap_lt x)).trans x

theorem run_makeSigns (w : World) : (Instr.makeMap 53 none).run Tryd.prog w = .ok (.map (some w.heap.size)) (w.alloc (.map #[] 0)) := by
 kernel_rfl

theorem run_getM {W : World} {b : Nat} {es : Array MapEntry} {c : Nat} (h : W.heap[b]? = some (.map es c)) : (getObj b).run Tryd.prog W = .ok (.map es c) W := by simp [getObj, Sem.run, h]

theorem run_setM {W : World} {b : Nat} {es : Array MapEntry} {c : Nat} (o : Obj) (h : W.heap[b]? = some (.map es c)) : (setObj b o).run Tryd.prog W = .ok () { W with heap := W.heap.setIfInBounds b o } := by simp [setObj, Sem.run, h]

def putM (W : World) (b : Nat) (es : Array MapEntry) (c : Nat) : World := { W with heap := W.heap.setIfInBounds b (.map es c) }

theorem putM_at {W : World} {b : Nat} {es : Array MapEntry} {c : Nat} (h : b < W.heap.size) : (putM W b es c).heap[b]? = some (.map es c) := by
 unfold putM
 simp [h]

theorem run_putSign {W : World} {b : Nat} {es : Array MapEntry} {c : Nat} (h : W.heap[b]? = some (.map es c)) (k : Int) (v : Value) (hn : ∀ W', (Instr.findKey 3 (.int .i64 k) es.toList).run Tryd.prog W' = .ok none W') :
  (Instr.mapUpdate 53 (.map (some b)) (.int .i64 k) v).run Tryd.prog W = .ok () (putM W b (es.push ⟨.int .i64 k, v, c⟩) (c + 1)) := by
 have h1 := run_getM h
 have h2 := fun o => run_setM o h
 have h3 : ∀ W', (Instr.checkKey false 10000 3 (.int .i64 k)).run Tryd.prog W' = .ok () W' := fun W' => by kernel_rfl
 have hu : ∀ W', (underlying 53).run Tryd.prog W' = .ok (.map 3 5) W' := fun W' => by kernel_rfl
 simp [Instr.mapUpdate, h1, h2, h3, hn, hu, Result.andThen, putM]

set_option linter.unusedSimpArgs false in
set_option maxRecDepth 100000 in
theorem signs_any (w : World) : Calls Tryd.prog 27 #[] w fun e w' => e = .returned (.map (some w.heap.size)) ∧ SgM w' w.heap.size ∧ Below w.heap.size w w' := by
 have r1 := run_makeSigns w
 have h1 := heap_alloc_new w (.map #[] 0)
 have r2 := run_putSign h1 2 (.int .u8 43) (fun W' => by kernel_rfl)
 have h2 := putM_at (W := w.alloc (.map #[] 0)) (b := w.heap.size) (es := #[⟨.int .i64 2, .int .u8 43, 0⟩]) (c := 1) (by simp)
 have r3 := run_putSign h2 3 (.int .u8 38) (fun W' => by kernel_rfl)
 have h3 := putM_at (W := putM (w.alloc (.map #[] 0)) w.heap.size #[⟨.int .i64 2, .int .u8 43, 0⟩] 1) (b := w.heap.size) (es := #[⟨.int .i64 2, .int .u8 43, 0⟩, ⟨.int .i64 3, .int .u8 38, 1⟩]) (c := 2) (by simp [putM])
 have H3 : Hid (SgM (putM (putM (w.alloc (.map #[] 0)) w.heap.size #[⟨.int .i64 2, .int .u8 43, 0⟩] 1) w.heap.size #[⟨.int .i64 2, .int .u8 43, 0⟩, ⟨.int .i64 3, .int .u8 38, 1⟩] 2) w.heap.size) := h3
 have HB : Hid (Below w.heap.size w (putM (putM (w.alloc (.map #[] 0)) w.heap.size #[⟨.int .i64 2, .int .u8 43, 0⟩] 1) w.heap.size #[⟨.int .i64 2, .int .u8 43, 0⟩, ⟨.int .i64 3, .int .u8 38, 1⟩] 2)) := by
  refine ⟨rfl, rfl, rfl, by simp [putM], fun b hb => ?_⟩
  unfold putM
  simp only [Array.getElem?_setIfInBounds]
  rw [if_neg (by omega), if_neg (by omega)]
  exact heap_alloc_old w _ hb
 clear h1 h2 h3
 go_enter Tryd.func27, Tryd.ntmps27
 go_wp2
 go_ret
 exact ⟨rfl, H3.out, HB.out⟩

theorem run_sign (W : World) (b : Nat) (k : Bool) (h : SgM W b) : (Instr.lookup 53 (.map (some b)) (.int .i64 (kindQ k)) false).run Tryd.prog W = .ok (.int .u8 ((signB k).toNat : Int)) W := by
 have h1 := run_getM h
 have hu : ∀ W', (underlying 53).run Tryd.prog W' = .ok (.map 3 5) W' := fun W' => by kernel_rfl
 cases k with
 | false =>
  have h3 : ∀ W', (Instr.checkKey false 10000 3 (.int .i64 2)).run Tryd.prog W' = .ok () W' := fun W' => by kernel_rfl
  have h4 : ∀ W', (Instr.findKey 3 (.int .i64 2) [⟨.int .i64 2, .int .u8 43, 0⟩, ⟨.int .i64 3, .int .u8 38, 1⟩]).run Tryd.prog W' = .ok (some (0, .int .u8 43)) W' := fun W' => by kernel_rfl
  simp [Instr.lookup, kindQ, signB, h1, h3, h4, hu, Result.andThen]
 | true =>
  have h3 : ∀ W', (Instr.checkKey false 10000 3 (.int .i64 3)).run Tryd.prog W' = .ok () W' := fun W' => by kernel_rfl
  have h4 : ∀ W', (Instr.findKey 3 (.int .i64 3) [⟨.int .i64 2, .int .u8 43, 0⟩, ⟨.int .i64 3, .int .u8 38, 1⟩]).run Tryd.prog W' = .ok (some (1, .int .u8 38)) W' := fun W' => by kernel_rfl
  simp [Instr.lookup, kindQ, signB, h1, h3, h4, hu, Result.andThen]

end Go.Proofs.YtanjajjjancggaaDoor
