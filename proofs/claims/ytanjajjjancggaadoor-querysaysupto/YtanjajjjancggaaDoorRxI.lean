/- The reference: a number's text. -/
import Derived.Test.YtanjajjjancggaaDoorText
import Derived.Laws.IdiomStrings
import Derived.Test.YtanjajjjancggaaDoorRxF
import Derived.Test.YtanjajjjancggaaDoorRefF
import Derived.Test.YtanjajjjancggaaDoorQxG

namespace Go.Proofs.YtanjajjjancggaaDoor
open Go.RowKit Limbs Digs

def pw : Nat → Int
 | 0 => 1
 | n + 1 => 10 * pw n

theorem pw_pos (n : Nat) : 0 < pw n := by
 induction n with
 | zero => decide
 | succ n ih => simp only [pw]; omega

def TIs (M : Nat) (r : Int) (l : List UInt8) : Prop := (0 < r → Lib.decDigits M = Lib.decDigits r.toNat ++ l) ∧ (r = 0 → Lib.decDigits M = l)

theorem TIs.step {M : Nat} {r : Int} {l : List UInt8} (h : TIs M r l) (hr : 0 < r) : TIs M (r / 10) (UInt8.ofNat (48 + (r % 10).toNat) :: l) := by
 have h1 := h.1 hr
 obtain ⟨k, rfl⟩ := Int.eq_ofNat_of_zero_le (Int.le_of_lt hr)
 rw [Int.toNat_natCast] at h1
 have e1 : ((k : Int) / 10) = ((k / 10 : Nat) : Int) := by omega
 have e2 : ((k : Int) % 10) = ((k % 10 : Nat) : Int) := by omega
 rw [e1, e2, Int.toNat_natCast]
 by_cases hk : k < 10
 ·have e : Lib.decDigits k = [UInt8.ofNat (48 + k)] := by rw [Lib.decDigits, dif_pos hk]
  rw [e] at h1
  refine ⟨fun h => by omega, fun _ => ?_⟩
  rw [h1, Nat.mod_eq_of_lt hk]
  rfl
 ·have e : Lib.decDigits k = Lib.decDigits (k / 10) ++ [UInt8.ofNat (48 + k % 10)] := by rw [Lib.decDigits, dif_neg hk]
  rw [e] at h1
  refine ⟨fun _ => ?_, fun h => by omega⟩
  rw [h1, Int.toNat_natCast, List.append_assoc]
  rfl

structure DIn (M : Nat) (H : Int) (m : Nat) (d : Int) (l : List UInt8) : Prop where
 d0 : 0 ≤ d
 d1 : d < pw m
 h0 : 0 ≤ H
 txt : TIs M (d + pw m * H) l

theorem DIn.step {M : Nat} {H d : Int} {m : Nat} {l : List UInt8} (h : DIn M H (m + 1) d l) (hp : 0 < d ∨ 0 < H) : DIn M H m (d / 10) (UInt8.ofNat (48 + (d % 10).toNat) :: l) := by
 obtain ⟨h1, h2, h3, h4⟩ := h
 have hq := pw_pos m
 simp only [pw] at h2 h4
 have e0 : 10 * pw m * H = 10 * (pw m * H) := Int.mul_assoc _ _ _
 rw [e0] at h4
 have hn : 0 ≤ pw m * H := Int.mul_nonneg (by omega) h3
 have hpos : 0 < d + 10 * (pw m * H) := by
  rcases hp with hp | hp
  ·omega
  ·have : 0 < pw m * H := Int.mul_pos hq hp
   omega
 have := h4.step hpos
 refine ⟨by omega, by omega, h3, ?_⟩
 have e1 : (d + 10 * (pw m * H)) / 10 = d / 10 + pw m * H := by omega
 have e2 : (d + 10 * (pw m * H)) % 10 = d % 10 := by omega
 rw [e1, e2] at this
 exact this

theorem DIn.skip {M : Nat} {H d : Int} {m : Nat} {l : List UInt8} (h : DIn M H (m + 1) d l) (hd : ¬ 0 < d) (hH : H = 0) : DIn M H m (d / 10) l := by
 obtain ⟨h1, h2, h3, h4⟩ := h
 obtain rfl : d = 0 := by omega
 subst hH
 refine ⟨by omega, by have := pw_pos m; omega, by omega, ?_⟩
 simpa using h4

theorem one_byte (b : UInt8) (l : List UInt8) : (⟨#[b]⟩ : ByteArray) ++ ⟨l.toArray⟩ = ⟨(b :: l).toArray⟩ := by
 apply ByteArray.ext
 simp

theorem byte_back (W : World) (z : Int) (h0 : 0 ≤ z) (h1 : z < 10) : (convert 67 9 (.slice (some ⟨W.heap.size, 0, none⟩) 1 1)).run Tryd.prog (W.alloc (.cells #[.int .u8 (48 + z)] 5)) = .ok (.string ⟨#[UInt8.ofNat (48 + z.toNat)]⟩) (W.alloc (.cells #[.int .u8 (48 + z)] 5)) := by
 refine run_convert_bytes_back _ 67 9 5 ⟨W.heap.size, 0, none⟩ 1 [UInt8.ofNat (48 + z.toNat)] (by kernel_rfl) (by kernel_rfl) (by kernel_rfl) fun j hj => ?_
 obtain rfl : j = 0 := by simpa using hj
 have h := World.news_of_block (heap_alloc_new W (.cells #[.int .u8 (48 + z)] 5)) 0 _ rfl
 rw [h]
 have e : ((UInt8.ofNat (48 + z.toNat)).toNat : Int) = 48 + z := by
  rw [UInt8.toNat_ofNat']
  omega
 rw [List.getElem_cons_zero, e]

set_option maxRecDepth 100000 in
set_option maxHeartbeats 1600000 in
theorem decimal_of (w : World) (va : Value) (x : Int) (n : Nat) (ha : NumR w va x n) (hn : n ≤ 10000) :
  Calls Tryd.prog 29 #[va] w fun e w' => TextPost w x e w' := by
 obtain ⟨sa, la, a, rfl, hla, nra, hx, hsa, hna⟩ := ha
 have HA := hide hla
 obtain ⟨ao, acap, rfl, -, -, adb, hac⟩ := hla
 have hs := sign_of adb nra hsa
 have hb0 : Box (w.alloc (.cells #[.int .i64 sa, .slice ao a.length acap] 58)) w.heap.size (.int .i64 sa) (.slice ao a.length acap) := box_new w _ _ _ _ rfl
 have HW0 : Hid (Below w.heap.size w (w.alloc (.cells #[.int .i64 sa, .slice ao a.length acap] 58))) := (Below.refl _ _).alloc (Nat.le_refl _) _
 have HC := hide (fun (i : Nat) (h : i < a.length) => show ∃ b off, ao = some ⟨b, off, none⟩ ∧ b < w.heap.size ∧ w.cell? ⟨b, off + i, none⟩ = some (.int .i64 (a.getD i 0)) by
  obtain ⟨b, off, cur, fz, e, hb, hc⟩ := hac (by omega)
  exact ⟨b, off, e, heap_lt hb, hc i h⟩)
 clear hsa hac
 rcases hs with ⟨h1, rfl⟩ | ⟨h1, hs⟩
 ·have HF : Hid (TextPost w x (.returned (.string ⟨#[48]⟩)) (w.alloc (.cells #[.int .i64 0, .slice ao a.length acap] 58))) := by
   refine ⟨?_, HW0.out⟩
   have : x = 0 := by rw [hx]; omega
   subst this
   have : txt 0 = [48] := by
    unfold txt Lib.itoa
    rw [if_neg (by decide), show (0 : Int).toNat = 0 from rfl, Lib.decDigits, dif_pos (by decide)]
    rfl
   rw [this]
  clear hx
  go_enter Tryd.func29, Tryd.ntmps29
  go_wp2
  go_ret
  exact HF.out
 ·have hz1 : (sa == 0) = false := by rw [beq_eq_false_iff_ne]; omega
  obtain ⟨M, hM⟩ : ∃ M : Nat, dv a = (M : Int) := Int.eq_ofNat_of_zero_le (Int.le_of_lt h1)
  have HX := hide (show x = sa * (M : Int) by rw [hx, hM])
  have HT0 : Hid (TIs M (dv (a.drop 0)) []) := by
   rw [List.drop_zero, hM]
   exact ⟨fun _ => by rw [Int.toNat_natCast]; simp, fun h => by omega⟩
  have hal : a.length ≤ 10000 := by omega
  have hM0 : 0 < M := by omega
  clear hx h1
  obtain ⟨c0, c1, -, -⟩ := hb0
  go_enter Tryd.func29, Tryd.ntmps29
  go_wp2
  go_loopw [3, 4] (fun s i wr => ∃ (p : Nat) (l : List UInt8), p ≤ a.length ∧ i = .int .i64 p ∧ s = .string ⟨l.toArray⟩ ∧ l.length ≤ 4 * p ∧ TIs M (dv (a.drop p)) l ∧ Below (w.heap.size + 1) (w.alloc (.cells #[.int .i64 sa, .slice ao a.length acap] 58)) wr) (fun _ i _ => a.length - (intOf i).toNat)
  case atStart => exact ⟨0, [], Nat.zero_le _, rfl, rfl, by simp, HT0.out, Below.refl _ _⟩
  case round =>
   clear HT0
   obtain ⟨p, l, hp, rfl, rfl, hll, ht, hbw⟩ := hrel
   have hsz : (⟨l.toArray⟩ : ByteArray).size ≤ 40000 := by show l.toArray.size ≤ _; simp; omega
   have HT := hide ht
   have HBW := hide hbw
   have d0 := (hbw.cell (p := ⟨w.heap.size, 0, none⟩) (Nat.lt_succ_self _)).trans c0
   have d1 := (hbw.cell (p := ⟨w.heap.size, 1, none⟩) (Nat.lt_succ_self _)).trans c1
   clear ht hbw
   by_cases hlt : p < a.length
   ·obtain ⟨ab, aoff, rfl, hbl, hcell⟩ := HC.out p hlt
    have hcw := (HBW.out.cell (p := ⟨ab, aoff + p, none⟩) (Nat.lt_succ_of_lt hbl)).trans (((HW0.out.cell (p := ⟨ab, aoff + p, none⟩) hbl)).trans hcell)
    have hdg := adb p
    have HDR := hide (show dv (a.drop p) = a.getD p 0 + 10000 * dv (a.drop (p + 1)) by rw [drop_cons_getD a p hlt]; rfl)
    have HH : Hid (0 ≤ dv (a.drop (p + 1)) ∧ (p + 1 < a.length → 0 < dv (a.drop (p + 1))) ∧ (¬ p + 1 < a.length → dv (a.drop (p + 1)) = 0)) := by
     have hdd := DB_drop adb (p + 1)
     refine ⟨dv_nonneg hdd, fun h => dv_pos hdd ?_ (by rw [List.length_drop]; omega), fun h => by rw [List.drop_eq_nil_of_le (by omega)]; rfl⟩
     rcases nra with h' | h'
     ·omega
     ·refine .inr ?_
      rw [List.length_drop, getD_drop, show p + 1 + (a.length - (p + 1) - 1) = a.length - 1 by omega]
      exact h'
    generalize a.getD p 0 = dg at *
    have ep : pw 4 = 10000 := by decide
    have HD : Hid (DIn M (dv (a.drop (p + 1))) 4 dg l) := ⟨hdg.1, by omega, HH.out.1, by rw [ep, ← HDR.out]; exact HT.out⟩
    clear hcell HDR HT
    generalize wr = W0 at *
    go_wp2
    go_loopw [3, 5, 6] (fun s d k w1 => ∃ (j : Nat) (l : List UInt8) (z : Int), j ≤ 4 ∧ k = .int .i64 j ∧ d = .int .i64 z ∧ s = .string ⟨l.toArray⟩ ∧ l.length ≤ 4 * p + j ∧ Hid (DIn M (dv (a.drop (p + 1))) (4 - j) z l) ∧ Hid (Below (w.heap.size + 1) (w.alloc (.cells #[.int .i64 sa, .slice (some ⟨ab, aoff, none⟩) a.length acap] 58)) w1)) (fun _ _ k _ => 4 - (intOf k).toNat)
    case atStart => exact ⟨0, l, dg, by omega, rfl, rfl, rfl, by omega, HD, HBW⟩
    case round =>
     clear HD d0 d1 hcw HBW
     obtain ⟨j, l', z, hj, rfl, rfl, rfl, hll', HD, HBW⟩ := hrel
     have hsz' : (⟨l'.toArray⟩ : ByteArray).size ≤ 50000 := by show l'.toArray.size ≤ _; simp; omega
     have d0 := (HBW.out.cell (p := ⟨w.heap.size, 0, none⟩) (Nat.lt_succ_self _)).trans c0
     have d1 := (HBW.out.cell (p := ⟨w.heap.size, 1, none⟩) (Nat.lt_succ_self _)).trans c1
     have hz0 := HD.out.d0
     have hzm : z < 10000 := by
      have h1 := HD.out.d1
      have h2 : pw (4 - j) ≤ 10000 := by rcases (by omega : j = 0 ∨ j = 1 ∨ j = 2 ∨ j = 3 ∨ j = 4) with rfl | rfl | rfl | rfl | rfl <;> decide
      omega
     by_cases hj4 : j < 4
     ·have hm3 : z.tmod 10 = z % 10 := Int.tmod_eq_emod_of_nonneg hz0
      have hm4 : z.tdiv 10 = z / 10 := Int.tdiv_eq_ediv_of_nonneg hz0
      have e4 : 4 - j = (4 - (j + 1)) + 1 := by omega
      have HD' := hide (show DIn M (dv (a.drop (p + 1))) ((4 - (j + 1)) + 1) z l' by rw [← e4]; exact HD.out)
      clear HD e4
      by_cases hc : p + 1 < a.length ∨ 0 < z
      ·have HS := hide (HD'.out.step (by rcases hc with hc | hc; exact .inr (HH.out.2.1 hc); exact .inl hc))
       clear HD'
       have hcv := byte_back wr (z % 10) (by omega) (by omega)
       have HBW' := hide (show Below (w.heap.size + 1) _ (wr.alloc (.cells #[.int .u8 (48 + z % 10)] 5)) from HBW.out.alloc (by have := HBW.out.size; simp at this; omega) _)
       clear HBW
       by_cases hc1 : p + 1 < a.length
       ·have hlt2 : (p : Int) < (a.length : Int) - 1 := by omega
        go_wp2
        go_roundw
        case rel => exact ⟨j + 1, _, _, by omega, by go_num, rfl, by rw [one_byte, UInt8.ofNat_add]; rfl, by simp; omega, HS, HBW'⟩
        case measure => simp [intOf]; omega
       ·have hlt2 : ¬ ((p : Int) < (a.length : Int) - 1) := by omega
        have hz1 : 0 < z := by omega
        go_wp2
        go_roundw
        case rel => exact ⟨j + 1, _, _, by omega, by go_num, rfl, by rw [one_byte, UInt8.ofNat_add]; rfl, by simp; omega, HS, HBW'⟩
        case measure => simp [intOf]; omega
      ·have HS := hide (HD'.out.skip (by omega) (HH.out.2.2 (by omega)))
       have hlt2 : ¬ ((p : Int) < (a.length : Int) - 1) := by omega
       have hz1 : ¬ (0 < z) := by omega
       clear HD'
       go_wp2
       go_roundw
       case rel => exact ⟨j + 1, _, _, by omega, by go_num, rfl, rfl, by omega, HS, HBW⟩
       case measure => simp [intOf]; omega
     ·obtain rfl : j = 4 := by omega
      have HN : Hid (TIs M (dv (a.drop (p + 1))) l') := by
       have h1 := HD.out.d1
       have h2 := HD.out.txt
       simp only [Nat.sub_self, pw] at h1 h2
       have : z = 0 := by omega
       subst this
       show TIs M _ l'
       simpa using h2
      clear HD
      go_wp2
      go_roundw
      case rel => exact ⟨p + 1, l', by omega, by go_num, rfl, by omega, HN.out, HBW.out⟩
      case measure => simp [intOf]; omega
   ·obtain rfl : p = a.length := by omega
    have HL : Hid (Lib.decDigits M = l) := by
     have := HT.out.2 (by rw [List.drop_eq_nil_of_le (Nat.le_refl _)]; rfl)
     exact this
    have HB := hide (show Below w.heap.size w wr from HW0.out.trans (HBW.out.mono (Nat.le_succ _)))
    rcases hs with rfl | rfl
    ·have HF : Hid (TextPost w x (.returned (.string ⟨l.toArray⟩)) wr) := ⟨by
      rw [← HL.out, HX.out]
      unfold txt Lib.itoa
      rw [if_neg (by omega)]
      simp, HB.out⟩
     clear HT HL HX
     go_wp2
     go_ret
     exact HF.out
    ·have HF : Hid (TextPost w x (.returned (.string ⟨(45 :: l).toArray⟩)) wr) := ⟨by
      rw [← HL.out, HX.out]
      unfold txt Lib.itoa
      rw [if_pos (by omega)]
      have e : ((-1 : Int) * (M : Int)).natAbs = M := by omega
      rw [e], HB.out⟩
     clear HT HL HX
     go_wp2
     go_ret
     rw [one_byte]
     exact HF.out

end Go.Proofs.YtanjajjjancggaaDoor

/- The reference: an expression's text. -/
namespace Go.Proofs.YtanjajjjancggaaDoor
open Go.RowKit Limbs Digs

set_option maxRecDepth 100000 in
theorem decimalX (w : World) (n : Nat) (h : 1 ≤ n ∧ n ≤ 4) :
  Calls Tryd.prog 21 #[.int .i64 (n : Int)] w fun e w' => e = .returned (strV (Lib.decDigits n)) ∧ Below w.heap.size w w' := by
 have hi : txt (n : Int) = Lib.decDigits n := by
  have : n = 1 ∨ n = 2 ∨ n = 3 ∨ n = 4 := by omega
  rcases this with rfl | rfl | rfl | rfl <;> decide +kernel
 have HI := hide hi
 clear hi
 go_enter Tryd.func21, Tryd.ntmps21
 go_wp2_with fail
 refine (n_any w (n : Int) (by omega) (by omega)).mono ?_
 rintro e w1 ⟨v, rfl, hv, hb1⟩
 have HV := hide hv; have HB := hide hb1
 clear hv hb1
 go_wp2_with fail
 refine (decimal_of w1 v (n : Int) 5 HV.out (by decide)).mono ?_
 rintro e w2 ⟨rfl, hb2⟩
 have HB2 := hide (HB.out.trans (hb2.mono HB.out.size))
 clear hb2
 go_wp2
 go_ret
 exact ⟨by show Ending.returned (.string _) = _; rw [HI.out], HB2.out⟩

set_option linter.unusedSimpArgs false in
set_option maxRecDepth 100000 in
set_option maxHeartbeats 1600000 in
theorem wroteR_any : ∀ (q : Qx) (d : Nat) (w : World) (cs : List Value), q.ok → q.deep ≤ 15 → ExD w d q.ex cs →
  Calls Tryd.prog 11 #[.agg cs.toArray] w fun e w' => e = .returned (strV q.text) ∧ Below w.heap.size w w'
 | .name s, d, w, cs, hok, hd, h => by
  obtain ⟨d', o, cap, -, rfl, -, -⟩ := h.shape
  have hb1 := alloc_below w (.cells #[.int .i64 1, .int .i64 0, .string s, .slice o 0 cap] 24)
  obtain ⟨z0, z1, z2, z3, -⟩ := (ExB.new w 1 0 s (.slice o 0 cap)).cells
  have HB := hide hb1
  rw [Qx.text, strV_of]
  clear h hb1
  go_enter Tryd.func11, Tryd.ntmps11
  go_wp2
  go_ret
  exact ⟨rfl, HB.out⟩
 | .whole n, d, w, cs, hok, hd, h => by
  obtain ⟨d', o, cap, -, rfl, -, -⟩ := h.shape
  have hb1 := alloc_below w (.cells #[.int .i64 5, .int .i64 (n : Int), .string ⟨#[]⟩, .slice o 0 cap] 24)
  obtain ⟨z0, z1, z2, z3, -⟩ := (ExB.new w 5 (n : Int) ⟨#[]⟩ (.slice o 0 cap)).cells
  have HB := hide hb1
  have HI := hide (fun W => decimalX W n hok)
  have hl : (Lib.decDigits n).length ≤ 2 := by
   obtain ⟨h1, h4⟩ := hok
   have : n = 1 ∨ n = 2 ∨ n = 3 ∨ n = 4 := by omega
   rcases this with rfl | rfl | rfl | rfl <;> decide +kernel
  rw [Qx.text]
  clear h hb1
  generalize hdd : Lib.decDigits n = dd at *
  have hq : ¬ (9223372036854775807 < 6 + dd.length) := by omega
  have HS : Hid ((⟨#[119, 104, 111, 108, 101, 32]⟩ ++ ⟨dd.toArray⟩ : ByteArray) = ⟨(wholeB ++ 32 :: dd).toArray⟩) := by
   show _ = _
   apply ByteArray.ext
   simp [wholeB]
  go_enter Tryd.func11, Tryd.ntmps11
  go_wp2_with fail
  refine (HI.out _).mono ?_
  rintro e w2 ⟨rfl, hb2⟩
  have HB2 := hide (HB.out.trans (hb2.mono HB.out.size))
  clear hb2 HB
  go_wp2
  go_ret
  exact ⟨by show Ending.returned (.string _) = _; rw [HS.out], HB2.out⟩
 | .fill a, d, w, cs, hok, hd, h => by
  rw [Qx.deep] at hd
  obtain ⟨d', o, cap, -, rfl, -, hat⟩ := h.shape
  obtain ⟨b, off, ys, k0, m0, z0, v0, rfl, hlt, rfl, hx0, c0, c1, c2, c3, o', n', c', rfl⟩ := hat 0 a.ex rfl
  rw [show off + 0 * 4 = off by omega] at c0
  rw [show off + 0 * 4 + 1 = off + 1 by omega] at c1
  rw [show off + 0 * 4 + 2 = off + 2 by omega] at c2
  rw [show off + 0 * 4 + 3 = off + 3 by omega] at c3
  have hb1 := alloc_below w (.cells #[.int .i64 4, .int .i64 0, .string ⟨#[]⟩, .slice (some ⟨b, off, none⟩) 1 cap] 24)
  obtain ⟨x0, x1, x2, x3, -⟩ := (ExB.new w 4 0 ⟨#[]⟩ (.slice (some ⟨b, off, none⟩) 1 cap)).cells
  have y0 := TwoM.later_lt hlt c0 hb1
  have y1 := TwoM.later_lt hlt c1 hb1
  have y2 := TwoM.later_lt hlt c2 hb1
  have y3 := TwoM.later_lt hlt c3 hb1
  have HC := hide (wroteR_any a d' _ _ hok (by omega) (hx0.below hb1))
  have hl := text_million (q := a) hok (by omega)
  have HB := hide hb1
  rw [Qx.text]
  clear h hb1 hat hx0 c0 c1 c2 c3
  generalize a.text = ta at *
  have hq : ¬ (9223372036854775807 < 5 + ta.length) := by omega
  have HS : Hid ((⟨#[102, 105, 108, 108, 32]⟩ ++ ⟨ta.toArray⟩ : ByteArray) = ⟨(fillB ++ 32 :: ta).toArray⟩) := by
   show _ = _
   apply ByteArray.ext
   simp [fillB]
  go_enter Tryd.func11, Tryd.ntmps11
  go_wp2_with fail
  refine HC.out.mono ?_
  rintro e w2 ⟨rfl, hb2⟩
  have HB2 := hide (HB.out.trans (hb2.mono HB.out.size))
  clear hb2 HC HB y0 y1 y2 y3 x0 x1 x2 x3
  go_wp2
  go_ret
  exact ⟨by show Ending.returned (.string _) = _; rw [HS.out], HB2.out⟩
 | .two k a b, d, w, cs, hok, hd, h => by
  rw [Qx.deep] at hd
  obtain ⟨d', -, -, rfl, -, -, -⟩ := h.shape
  have la := text_million hok.1 (show a.deep ≤ 15 by omega)
  have lb := text_million hok.2 (show b.deep ≤ 15 by omega)
  have ha := fun W ys hx => wroteR_any a d' W ys hok.1 (by omega) hx
  have hb := fun W ys hx => wroteR_any b d' W ys hok.2 (by omega) hx
  cases k with
  | false => exact wroteR_sum w a.ex b.ex cs a.text b.text la lb d' h ha hb
  | true => exact wroteR_meet w a.ex b.ex cs a.text b.text la lb d' h ha hb

end Go.Proofs.YtanjajjjancggaaDoor

/- The reference: with what a text begins. -/
namespace Go.Proofs.YtanjajjjancggaaDoor
open Go.RowKit

theorem prefix_take (l p : List UInt8) : ((({ data := l.toArray } : ByteArray).extract 0 p.length).toList == p) = Lib.hasPrefix l p := by
 rw [extract_take, Lib.toList_data]
 show (l.take p.length == p) = _
 unfold Lib.hasPrefix
 rw [Bool.eq_iff_iff, beq_iff_eq, List.isPrefixOf_iff_prefix, List.prefix_iff_eq_take]
 exact eq_comm

theorem prefix_len {l p : List UInt8} (h : ¬ p.length ≤ l.length) : Lib.hasPrefix l p = false := by
 cases hh : Lib.hasPrefix l p with
 | false => rfl
 | true =>
  unfold Lib.hasPrefix at hh
  rw [List.isPrefixOf_iff_prefix] at hh
  exact absurd hh.length_le h

set_option linter.unusedSimpArgs false in
set_option maxRecDepth 100000 in
theorem begins_any (l p : List UInt8) (w : World) : Calls Tryd.prog 35 #[strV l, strV p] w fun e w' => e = .returned (.bool (Lib.hasPrefix l p)) ∧ w' = w := by
 by_cases h : p.length ≤ l.length
 ·have g1 : decide ((p.length : Int) ≤ (l.length : Int)) = true := decide_eq_true (by omega)
  go_enter Tryd.func35, Tryd.ntmps35
  go_wp2
  go_ret
  exact ⟨by rw [← prefix_take]; rfl, rfl⟩
 ·have g1 : decide ((p.length : Int) ≤ (l.length : Int)) = false := decide_eq_false (by omega)
  go_enter Tryd.func35, Tryd.ntmps35
  go_wp2
  go_ret
  exact ⟨by rw [prefix_len h]; rfl, rfl⟩

end Go.Proofs.YtanjajjjancggaaDoor

/- The reference: letters. -/
namespace Go.Proofs.YtanjajjjancggaaDoor
open Go.RowKit

def LtR (l : List UInt8) (at' j : Nat) : Prop := (l.drop at').takeWhile inRef = (l.drop at').take (j - at') ++ (l.drop j).takeWhile inRef ∧ (l.drop at').dropWhile inRef = (l.drop j).dropWhile inRef

theorem LtR.start (l : List UInt8) (a : Nat) : LtR l a a := by
 refine ⟨?_, rfl⟩
 rw [Nat.sub_self, List.take_zero, List.nil_append]

theorem LtR.step {l : List UInt8} {a j : Nat} {b : UInt8} (h : LtR l a j) (ha : a ≤ j) (hb : l[j]? = some b) (hr : inRef b = true) : LtR l a (j + 1) := by
 obtain ⟨h1, h2⟩ := h
 rw [drop_at hb, List.takeWhile_cons, if_pos hr] at h1
 rw [drop_at hb, List.dropWhile_cons, if_pos hr] at h2
 refine ⟨?_, h2⟩
 rw [h1, show j + 1 - a = (j - a) + 1 by omega, List.take_add_one, List.getElem?_drop, show a + (j - a) = j by omega, hb]
 simp

theorem LtR.fin {l : List UInt8} {a j : Nat} (h : LtR l a j) (hr : ∀ b, l[j]? = some b → inRef b = false) : (l.drop a).takeWhile inRef = (l.drop a).take (j - a) ∧ (l.drop a).dropWhile inRef = l.drop j := by
 obtain ⟨h1, h2⟩ := h
 cases hb : l[j]? with
 | none =>
  have hj : l.drop j = [] := by rw [List.getElem?_eq_none_iff] at hb; exact List.drop_of_length_le hb
  rw [hj] at h1 h2 ⊢
  exact ⟨by rw [h1]; simp, h2⟩
 | some b =>
  have hr := hr b hb
  rw [drop_at hb, List.takeWhile_cons, hr] at h1
  rw [drop_at hb, List.dropWhile_cons, hr] at h2
  refine ⟨by rw [h1]; simp, ?_⟩
  rw [h2, drop_at hb]
  rfl

theorem inRef_of {b : UInt8} {c1 c2 c3 c4 : Bool} (h1 : decide ((97 : Int) ≤ (b.toNat : Int)) = c1) (h2 : decide ((b.toNat : Int) ≤ 122) = c2) (h3 : decide ((48 : Int) ≤ (b.toNat : Int)) = c3) (h4 : decide ((b.toNat : Int) ≤ 57) = c4) : inRef b = ((c1 && c2) || (c3 && c4)) := by
 unfold inRef
 subst h1 h2 h3 h4
 congr 2 <;> (rw [decide_eq_decide]; omega)

end Go.Proofs.YtanjajjjancggaaDoor

/- The reference: reading an expression. -/
namespace Go.Proofs.YtanjajjjancggaaDoor
open Go.RowKit

def twoR (f : List UInt8 → Option (Ex × List UInt8)) (l : List UInt8) : Option (Ex × List UInt8) :=
 match f l with
 | none => none
 | some (a, r) =>
  if Lib.hasPrefix r (spacedB true) = true then
   match f (Lib.trimPrefix r (spacedB true)) with
   | none => none
   | some (b, r) => if Lib.hasPrefix r [41] = true then some (.mk (kindQ true) 0 ⟨#[]⟩ [a, b], Lib.trimPrefix r [41]) else none
  else if Lib.hasPrefix r (spacedB false) = true then
   match f (Lib.trimPrefix r (spacedB false)) with
   | none => none
   | some (b, r) => if Lib.hasPrefix r [41] = true then some (.mk (kindQ false) 0 ⟨#[]⟩ [a, b], Lib.trimPrefix r [41]) else none
  else none

theorem readR_two {d : Nat} {l : List UInt8} (h : Lib.hasPrefix l [40] = true) : readR (d + 1) l = twoR (readR d) (Lib.trimPrefix l [40]) := by
 rw [readR, if_pos h]
 rfl

theorem readR_fill {d : Nat} {l : List UInt8} (h1 : Lib.hasPrefix l [40] = false) (h2 : Lib.hasPrefix l fillP = true) : readR (d + 1) l = match readR d (Lib.trimPrefix l fillP) with
  | none => none
  | some (a, r) => some (.mk 4 0 ⟨#[]⟩ [a], r) := by
 rw [readR, h1, if_neg (by decide), if_pos h2]
 rfl

theorem readR_whole' {d : Nat} {l : List UInt8} (h1 : Lib.hasPrefix l [40] = false) (h2 : Lib.hasPrefix l fillP = false) (h3 : Lib.hasPrefix l wholeP = true) : readR (d + 1) l = match (Lib.trimPrefix l wholeP).takeWhile inRef with
   | [c] => if 49 ≤ c.toNat ∧ c.toNat ≤ 52 then some (.mk 5 ((c.toNat : Int) - 48) ⟨#[]⟩ [], (Lib.trimPrefix l wholeP).dropWhile inRef) else none
   | _ => none := by
 rw [readR, h1, if_neg (by decide), h2, if_neg (by decide), if_pos h3]
 rfl

theorem readR_name {d : Nat} {l : List UInt8} (h1 : Lib.hasPrefix l [40] = false) (h2 : Lib.hasPrefix l fillP = false) (h3 : Lib.hasPrefix l wholeP = false) : readR (d + 1) l = some (.mk 1 0 ⟨(l.takeWhile inRef).toArray⟩ [], l.dropWhile inRef) := by
 rw [readR, h1, if_neg (by decide), h2, if_neg (by decide), h3, if_neg (by decide)]

theorem trim_drop {l p : List UInt8} (h : Lib.hasPrefix l p = true) : Lib.trimPrefix l p = l.drop p.length ∧ p.length ≤ l.length := by
 refine ⟨by unfold Lib.trimPrefix; rw [if_pos h], ?_⟩
 unfold Lib.hasPrefix at h
 rw [List.isPrefixOf_iff_prefix] at h
 exact h.length_le

theorem extract_from (l : List UInt8) (n : Nat) : ({ data := l.toArray } : ByteArray).extract n l.length = ⟨(l.drop n).toArray⟩ := by
 have h := extract_drop ⟨l.toArray⟩ n
 rwa [show (⟨l.toArray⟩ : ByteArray).size = l.length from by show l.toArray.size = _; simp] at h

theorem extract_mid (l : List UInt8) (a b : Nat) : ({ data := l.toArray } : ByteArray).extract a b = ⟨((l.drop a).take (b - a)).toArray⟩ := by
 apply ByteArray.ext
 rw [← Array.toList_inj, ByteArray.data_extract, Array.toList_extract]

def RrP (f : List UInt8 → Option (Ex × List UInt8)) (l : List UInt8) (w : World) (e : Ending) (w' : World) : Prop :=
 Below w.heap.size w w' ∧ ((f l = none ∧ e = .returned (.tuple #[.agg #[.int .i64 0, .int .i64 0, .string ⟨#[]⟩, .slice none 0 0], .int .i64 (-1)])) ∨ ∃ x cs n dd, e = .returned (.tuple #[.agg cs.toArray, .int .i64 (n : Nat)]) ∧ ExF w' w.heap.size dd x cs ∧ n ≤ l.length ∧ f l = some (x, l.drop n))

set_option linter.unusedSimpArgs false in
set_option linter.unusedVariables false in
set_option maxRecDepth 100000 in
set_option maxHeartbeats 40000000 in
theorem readExpr_deep (w : World) (l : List UInt8) : Calls Tryd.prog 23 #[strV l, .int .i64 (7 : Nat)] w fun e w' => RrP (readR 0) l w e w' := by
 have HX := hide (ExB.new w 0 0 ⟨#[]⟩ (.slice none 0 0)); have HB1 := hide (alloc_below w (.cells #[.int .i64 0, .int .i64 0, .string ⟨#[]⟩, .slice none 0 0] 24))
 obtain ⟨W1, hW1⟩ : ∃ W1, w.alloc (.cells #[.int .i64 0, .int .i64 0, .string ⟨#[]⟩, .slice none 0 0] 24) = W1 := ⟨_, rfl⟩
 rw [hW1] at HX HB1
 have HFIN : Hid (RrP (readR 0) l w (.returned (.tuple #[.agg #[.int .i64 0, .int .i64 0, .string ⟨#[]⟩, .slice none 0 0], .int .i64 (-1)])) (put4 W1 w.heap.size 0 0 ⟨#[]⟩ (.slice none 0 0))) :=
  ⟨put4_below HB1.out (Nat.le_refl _) _ _ _ _, .inl ⟨rfl, rfl⟩⟩
 obtain ⟨c0, c1, c2, c3, hf⟩ := HX.out.cells
 have f0 := hf 0; have f1 := hf 1; have f2 := hf 2; have f3 := hf 3
 obtain ⟨g0, g1, g2, g3, -⟩ := (HX.out.put 0 0 ⟨#[]⟩ (.slice none 0 0)).cells
 clear hf
 go_enter Tryd.func23, Tryd.ntmps23
 go_wp2
 exact bodyPost_ret (v := .tuple #[.agg #[.int .i64 0, .int .i64 0, .string ⟨#[]⟩, .slice none 0 0], .int .i64 (-1)]) (by simp [results, Tryd.results23, go_sem, g0, g1, g2, g3]) rfl HFIN.out

end Go.Proofs.YtanjajjjancggaaDoor
