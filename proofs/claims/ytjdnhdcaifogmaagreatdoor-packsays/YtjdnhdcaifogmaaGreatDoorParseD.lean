/- The reference: a number's text. -/
import Derived.Test.YtjdnhdcaifogmaaGreatDoorText
import Derived.Laws.IdiomStrings
import Derived.Test.YtjdnhdcaifogmaaGreatDoorDivOne
import Derived.Test.YtjdnhdcaifogmaaGreatDoorPgB
import Derived.Test.YtjdnhdcaifogmaaGreatDoorBgD
import Derived.Test.YtjdnhdcaifogmaaGreatDoorRefB
import Derived.Lib.Strings
import Derived.Test.YtjdnhdcaifogmaaGreatDoorBpH

namespace Go.Proofs.YtjdnhdcaifogmaaGreatDoor
open Go.RowKit Limbs Digs

def pw : Nat → Int
 | 0 => 1
 | n + 1 => 10 * pw n

theorem pw_pos (n : Nat) : 0 < pw n := by
 induction n with
 | zero => decide
 | succ n ih => simp only [pw]; omega

def TIs (M : Nat) (r : Int) (l : List UInt8) : Prop := (0 < r → Lib.decDigits M = Lib.decDigits r.toNat ++ l) ∧ (r = 0 → Lib.decDigits M = l)

theorem TIs.step {M : Nat} {r : Int} {l : List UInt8} (h : TIs M r l) (hr : 0 < r) : TIs M (r / 10) (UInt8.ofNat (48 + (r % 10).toNat) :: l) := by
 have h1 := h.1 hr
 obtain ⟨k, rfl⟩ := Int.eq_ofNat_of_zero_le (Int.le_of_lt hr)
 rw [Int.toNat_natCast] at h1
 have e1 : ((k : Int) / 10) = ((k / 10 : Nat) : Int) := by omega
 have e2 : ((k : Int) % 10) = ((k % 10 : Nat) : Int) := by omega
 rw [e1, e2, Int.toNat_natCast]
 by_cases hk : k < 10
 ·have e : Lib.decDigits k = [UInt8.ofNat (48 + k)] := by rw [Lib.decDigits, dif_pos hk]
  rw [e] at h1
  refine ⟨fun h => by omega, fun _ => ?_⟩
  rw [h1, Nat.mod_eq_of_lt hk]
  rfl
 ·have e : Lib.decDigits k = Lib.decDigits (k / 10) ++ [UInt8.ofNat (48 + k % 10)] := by rw [Lib.decDigits, dif_neg hk]
  rw [e] at h1
  refine ⟨fun _ => ?_, fun h => by omega⟩
  rw [h1, Int.toNat_natCast, List.append_assoc]
  rfl

structure DIn (M : Nat) (H : Int) (m : Nat) (d : Int) (l : List UInt8) : Prop where
 d0 : 0 ≤ d
 d1 : d < pw m
 h0 : 0 ≤ H
 txt : TIs M (d + pw m * H) l

theorem DIn.step {M : Nat} {H d : Int} {m : Nat} {l : List UInt8} (h : DIn M H (m + 1) d l) (hp : 0 < d ∨ 0 < H) : DIn M H m (d / 10) (UInt8.ofNat (48 + (d % 10).toNat) :: l) := by
 obtain ⟨h1, h2, h3, h4⟩ := h
 have hq := pw_pos m
 simp only [pw] at h2 h4
 have e0 : 10 * pw m * H = 10 * (pw m * H) := Int.mul_assoc _ _ _
 rw [e0] at h4
 have hn : 0 ≤ pw m * H := Int.mul_nonneg (by omega) h3
 have hpos : 0 < d + 10 * (pw m * H) := by
  rcases hp with hp | hp
  ·omega
  ·have : 0 < pw m * H := Int.mul_pos hq hp
   omega
 have := h4.step hpos
 refine ⟨by omega, by omega, h3, ?_⟩
 have e1 : (d + 10 * (pw m * H)) / 10 = d / 10 + pw m * H := by omega
 have e2 : (d + 10 * (pw m * H)) % 10 = d % 10 := by omega
 rw [e1, e2] at this
 exact this

theorem DIn.skip {M : Nat} {H d : Int} {m : Nat} {l : List UInt8} (h : DIn M H (m + 1) d l) (hd : ¬ 0 < d) (hH : H = 0) : DIn M H m (d / 10) l := by
 obtain ⟨h1, h2, h3, h4⟩ := h
 obtain rfl : d = 0 := by omega
 subst hH
 refine ⟨by omega, by have := pw_pos m; omega, by omega, ?_⟩
 simpa using h4

theorem one_byte (b : UInt8) (l : List UInt8) : (⟨#[b]⟩ : ByteArray) ++ ⟨l.toArray⟩ = ⟨(b :: l).toArray⟩ := by
 apply ByteArray.ext
 simp

theorem byte_back (W : World) (z : Int) (h0 : 0 ≤ z) (h1 : z < 10) : (convert 58 9 (.slice (some ⟨W.heap.size, 0, none⟩) 1 1)).run Tryz.prog (W.alloc (.cells #[.int .u8 (48 + z)] 5)) = .ok (.string ⟨#[UInt8.ofNat (48 + z.toNat)]⟩) (W.alloc (.cells #[.int .u8 (48 + z)] 5)) := by
 refine run_convert_bytes_back _ 58 9 5 ⟨W.heap.size, 0, none⟩ 1 [UInt8.ofNat (48 + z.toNat)] (by kernel_rfl) (by kernel_rfl) (by kernel_rfl) fun j hj => ?_
 obtain rfl : j = 0 := by simpa using hj
 have h := World.news_of_block (heap_alloc_new W (.cells #[.int .u8 (48 + z)] 5)) 0 _ rfl
 rw [h]
 have e : ((UInt8.ofNat (48 + z.toNat)).toNat : Int) = 48 + z := by
  rw [UInt8.toNat_ofNat']
  omega
 rw [List.getElem_cons_zero, e]

set_option maxRecDepth 100000 in
set_option maxHeartbeats 1600000 in
theorem decimal_of (w : World) (va : Value) (x : Int) (n : Nat) (ha : NumR w va x n) (hn : n ≤ 10000) :
  Calls Tryz.prog 47 #[va] w fun e w' => TextPost w x e w' := by
 obtain ⟨sa, la, a, rfl, hla, nra, hx, hsa, hna⟩ := ha
 have HA := hide hla
 obtain ⟨ao, acap, rfl, -, -, adb, hac⟩ := hla
 have hs := sign_of adb nra hsa
 have hb0 : Box (w.alloc (.cells #[.int .i64 sa, .slice ao a.length acap] 95)) w.heap.size (.int .i64 sa) (.slice ao a.length acap) := box_new w _ _ _ _ rfl
 have HW0 : Hid (Below w.heap.size w (w.alloc (.cells #[.int .i64 sa, .slice ao a.length acap] 95))) := (Below.refl _ _).alloc (Nat.le_refl _) _
 have HC := hide (fun (i : Nat) (h : i < a.length) => show ∃ b off, ao = some ⟨b, off, none⟩ ∧ b < w.heap.size ∧ w.cell? ⟨b, off + i, none⟩ = some (.int .i64 (a.getD i 0)) by
  obtain ⟨b, off, cur, fz, e, hb, hc⟩ := hac (by omega)
  exact ⟨b, off, e, heap_lt hb, hc i h⟩)
 clear hsa hac
 rcases hs with ⟨h1, rfl⟩ | ⟨h1, hs⟩
 ·have HF : Hid (TextPost w x (.returned (.string ⟨#[48]⟩)) (w.alloc (.cells #[.int .i64 0, .slice ao a.length acap] 95))) := by
   refine ⟨?_, HW0.out⟩
   have : x = 0 := by rw [hx]; omega
   subst this
   have : txt 0 = [48] := by
    unfold txt Lib.itoa
    rw [if_neg (by decide), show (0 : Int).toNat = 0 from rfl, Lib.decDigits, dif_pos (by decide)]
    rfl
   rw [this]
  clear hx
  go_enter Tryz.func47, Tryz.ntmps47
  go_wp2
  go_ret
  exact HF.out
 ·have hz1 : (sa == 0) = false := by rw [beq_eq_false_iff_ne]; omega
  obtain ⟨M, hM⟩ : ∃ M : Nat, dv a = (M : Int) := Int.eq_ofNat_of_zero_le (Int.le_of_lt h1)
  have HX := hide (show x = sa * (M : Int) by rw [hx, hM])
  have HT0 : Hid (TIs M (dv (a.drop 0)) []) := by
   rw [List.drop_zero, hM]
   exact ⟨fun _ => by rw [Int.toNat_natCast]; simp, fun h => by omega⟩
  have hal : a.length ≤ 10000 := by omega
  have hM0 : 0 < M := by omega
  clear hx h1
  obtain ⟨c0, c1, -, -⟩ := hb0
  go_enter Tryz.func47, Tryz.ntmps47
  go_wp2
  go_loopw [3, 4] (fun s i wr => ∃ (p : Nat) (l : List UInt8), p ≤ a.length ∧ i = .int .i64 p ∧ s = .string ⟨l.toArray⟩ ∧ l.length ≤ 4 * p ∧ TIs M (dv (a.drop p)) l ∧ Below (w.heap.size + 1) (w.alloc (.cells #[.int .i64 sa, .slice ao a.length acap] 95)) wr) (fun _ i _ => a.length - (intOf i).toNat)
  case atStart => exact ⟨0, [], Nat.zero_le _, rfl, rfl, by simp, HT0.out, Below.refl _ _⟩
  case round =>
   clear HT0
   obtain ⟨p, l, hp, rfl, rfl, hll, ht, hbw⟩ := hrel
   have hsz : (⟨l.toArray⟩ : ByteArray).size ≤ 40000 := by show l.toArray.size ≤ _; simp; omega
   have HT := hide ht
   have HBW := hide hbw
   have d0 := (hbw.cell (p := ⟨w.heap.size, 0, none⟩) (Nat.lt_succ_self _)).trans c0
   have d1 := (hbw.cell (p := ⟨w.heap.size, 1, none⟩) (Nat.lt_succ_self _)).trans c1
   clear ht hbw
   by_cases hlt : p < a.length
   ·obtain ⟨ab, aoff, rfl, hbl, hcell⟩ := HC.out p hlt
    have hcw := (HBW.out.cell (p := ⟨ab, aoff + p, none⟩) (Nat.lt_succ_of_lt hbl)).trans (((HW0.out.cell (p := ⟨ab, aoff + p, none⟩) hbl)).trans hcell)
    have hdg := adb p
    have HDR := hide (show dv (a.drop p) = a.getD p 0 + 10000 * dv (a.drop (p + 1)) by rw [drop_cons_getD a p hlt]; rfl)
    have HH : Hid (0 ≤ dv (a.drop (p + 1)) ∧ (p + 1 < a.length → 0 < dv (a.drop (p + 1))) ∧ (¬ p + 1 < a.length → dv (a.drop (p + 1)) = 0)) := by
     have hdd := DB_drop adb (p + 1)
     refine ⟨dv_nonneg hdd, fun h => dv_pos hdd ?_ (by rw [List.length_drop]; omega), fun h => by rw [List.drop_eq_nil_of_le (by omega)]; rfl⟩
     rcases nra with h' | h'
     ·omega
     ·refine .inr ?_
      rw [List.length_drop, getD_drop, show p + 1 + (a.length - (p + 1) - 1) = a.length - 1 by omega]
      exact h'
    generalize a.getD p 0 = dg at *
    have ep : pw 4 = 10000 := by decide
    have HD : Hid (DIn M (dv (a.drop (p + 1))) 4 dg l) := ⟨hdg.1, by omega, HH.out.1, by rw [ep, ← HDR.out]; exact HT.out⟩
    clear hcell HDR HT
    generalize wr = W0 at *
    go_wp2
    go_loopw [3, 5, 6] (fun s d k w1 => ∃ (j : Nat) (l : List UInt8) (z : Int), j ≤ 4 ∧ k = .int .i64 j ∧ d = .int .i64 z ∧ s = .string ⟨l.toArray⟩ ∧ l.length ≤ 4 * p + j ∧ Hid (DIn M (dv (a.drop (p + 1))) (4 - j) z l) ∧ Hid (Below (w.heap.size + 1) (w.alloc (.cells #[.int .i64 sa, .slice (some ⟨ab, aoff, none⟩) a.length acap] 95)) w1)) (fun _ _ k _ => 4 - (intOf k).toNat)
    case atStart => exact ⟨0, l, dg, by omega, rfl, rfl, rfl, by omega, HD, HBW⟩
    case round =>
     clear HD d0 d1 hcw HBW
     obtain ⟨j, l', z, hj, rfl, rfl, rfl, hll', HD, HBW⟩ := hrel
     have hsz' : (⟨l'.toArray⟩ : ByteArray).size ≤ 50000 := by show l'.toArray.size ≤ _; simp; omega
     have d0 := (HBW.out.cell (p := ⟨w.heap.size, 0, none⟩) (Nat.lt_succ_self _)).trans c0
     have d1 := (HBW.out.cell (p := ⟨w.heap.size, 1, none⟩) (Nat.lt_succ_self _)).trans c1
     have hz0 := HD.out.d0
     have hzm : z < 10000 := by
      have h1 := HD.out.d1
      have h2 : pw (4 - j) ≤ 10000 := by rcases (by omega : j = 0 ∨ j = 1 ∨ j = 2 ∨ j = 3 ∨ j = 4) with rfl | rfl | rfl | rfl | rfl <;> decide
      omega
     by_cases hj4 : j < 4
     ·have hm3 : z.tmod 10 = z % 10 := Int.tmod_eq_emod_of_nonneg hz0
      have hm4 : z.tdiv 10 = z / 10 := Int.tdiv_eq_ediv_of_nonneg hz0
      have e4 : 4 - j = (4 - (j + 1)) + 1 := by omega
      have HD' := hide (show DIn M (dv (a.drop (p + 1))) ((4 - (j + 1)) + 1) z l' by rw [← e4]; exact HD.out)
      clear HD e4
      by_cases hc : p + 1 < a.length ∨ 0 < z
      ·have HS := hide (HD'.out.step (by rcases hc with hc | hc; exact .inr (HH.out.2.1 hc); exact .inl hc))
       clear HD'
       have hcv := byte_back wr (z % 10) (by omega) (by omega)
       have HBW' := hide (show Below (w.heap.size + 1) _ (wr.alloc (.cells #[.int .u8 (48 + z % 10)] 5)) from HBW.out.alloc (by have := HBW.out.size; simp at this; omega) _)
       clear HBW
       by_cases hc1 : p + 1 < a.length
       ·have hlt2 : (p : Int) < (a.length : Int) - 1 := by omega
        go_wp2
        go_roundw
        case rel => exact ⟨j + 1, _, _, by omega, by go_num, rfl, by rw [one_byte, UInt8.ofNat_add]; rfl, by simp; omega, HS, HBW'⟩
        case measure => simp [intOf]; omega
       ·have hlt2 : ¬ ((p : Int) < (a.length : Int) - 1) := by omega
        have hz1 : 0 < z := by omega
        go_wp2
        go_roundw
        case rel => exact ⟨j + 1, _, _, by omega, by go_num, rfl, by rw [one_byte, UInt8.ofNat_add]; rfl, by simp; omega, HS, HBW'⟩
        case measure => simp [intOf]; omega
      ·have HS := hide (HD'.out.skip (by omega) (HH.out.2.2 (by omega)))
       have hlt2 : ¬ ((p : Int) < (a.length : Int) - 1) := by omega
       have hz1 : ¬ (0 < z) := by omega
       clear HD'
       go_wp2
       go_roundw
       case rel => exact ⟨j + 1, _, _, by omega, by go_num, rfl, rfl, by omega, HS, HBW⟩
       case measure => simp [intOf]; omega
     ·obtain rfl : j = 4 := by omega
      have HN : Hid (TIs M (dv (a.drop (p + 1))) l') := by
       have h1 := HD.out.d1
       have h2 := HD.out.txt
       simp only [Nat.sub_self, pw] at h1 h2
       have : z = 0 := by omega
       subst this
       show TIs M _ l'
       simpa using h2
      clear HD
      go_wp2
      go_roundw
      case rel => exact ⟨p + 1, l', by omega, by go_num, rfl, by omega, HN.out, HBW.out⟩
      case measure => simp [intOf]; omega
   ·obtain rfl : p = a.length := by omega
    have HL : Hid (Lib.decDigits M = l) := by
     have := HT.out.2 (by rw [List.drop_eq_nil_of_le (Nat.le_refl _)]; rfl)
     exact this
    have HB := hide (show Below w.heap.size w wr from HW0.out.trans (HBW.out.mono (Nat.le_succ _)))
    rcases hs with rfl | rfl
    ·have HF : Hid (TextPost w x (.returned (.string ⟨l.toArray⟩)) wr) := ⟨by
      rw [← HL.out, HX.out]
      unfold txt Lib.itoa
      rw [if_neg (by omega)]
      simp, HB.out⟩
     clear HT HL HX
     go_wp2
     go_ret
     exact HF.out
    ·have HF : Hid (TextPost w x (.returned (.string ⟨(45 :: l).toArray⟩)) wr) := ⟨by
      rw [← HL.out, HX.out]
      unfold txt Lib.itoa
      rw [if_pos (by omega)]
      have e : ((-1 : Int) * (M : Int)).natAbs = M := by omega
      rw [e], HB.out⟩
     clear HT HL HX
     go_wp2
     go_ret
     rw [one_byte]
     exact HF.out

end Go.Proofs.YtjdnhdcaifogmaaGreatDoor

/- The reference: a catalog's text. -/
namespace Go.Proofs.YtjdnhdcaifogmaaGreatDoor
open Go.RowKit Limbs Digs

set_option maxRecDepth 100000 in
theorem decimalR_any (w : World) (n : Int) (h0 : -9223372036854775808 ≤ n) (h1 : n ≤ 9223372036854775807) :
  Calls Tryz.prog 24 #[.int .i64 n] w fun e w' => e = .returned (.string (itoS n)) ∧ Below w.heap.size w w' := by
 go_enter Tryz.func24, Tryz.ntmps24
 go_wp2_with fail
 refine (n_any w n h0 h1).mono ?_
 rintro e w1 ⟨v, rfl, hv, hb1⟩
 have HV := hide hv; have HB := hide hb1
 clear hv hb1
 go_wp2_with fail
 refine (decimal_of w1 v n 5 HV.out (by decide)).mono ?_
 rintro e w2 ⟨rfl, hb2⟩
 have HB2 := hide (HB.out.trans (hb2.mono HB.out.size))
 clear hb2
 go_wp2
 go_ret
 exact ⟨rfl, HB2.out⟩

def numS (z : Int) : List UInt8 := 32 :: Lib.itoa z

theorem join_lead : ∀ xs : List (List UInt8), xs ≠ [] → 32 :: Lib.join xs [32] = xs.flatMap (fun x => 32 :: x)
 | [], h => absurd rfl h
 | [x], _ => by simp [Lib.join]
 | x :: y :: r, _ => by
  have e : Lib.join (x :: y :: r) [32] = x ++ [32] ++ Lib.join (y :: r) [32] := by simp [Lib.join]
  have ih := join_lead (y :: r) (by simp)
  rw [e, List.flatMap_cons, ← ih]
  simp

theorem genT_num {g : List Int} (h : g ≠ []) : genT g = 59 :: g.flatMap numS := by
 have h2 : g.map Lib.itoa ≠ [] := by simpa using h
 have := join_lead _ h2
 unfold genT numT
 show 59 :: (32 :: Lib.join (g.map Lib.itoa) [32]) = _
 rw [this, List.flatMap_map]
 rfl

theorem cat_bytes (a : List UInt8) (s : ByteArray) : bytesP a ++ s = bytesP (a ++ s.data.toList) := by
 apply ByteArray.ext
 apply Array.toList_inj.1
 rw [bapp]
 simp [bytesP]

theorem ito_small {z : Int} (h1 : -999 ≤ z) (h2 : z ≤ 999) : (itoS z).size ≤ 4 := by
 have := (ito_len h1 h2).2
 show (Lib.itoa z).toArray.size ≤ 4
 rw [List.size_toArray]
 exact this

def lineP (x : Nmd) (k : Nat) : List UInt8 := headT x ++ (x.gens.take k).flatMap genT
def genP (g : List Int) (j : Nat) : List UInt8 := 59 :: (g.take j).flatMap numS

theorem flat_take {α : Type} (f : α → List UInt8) (l : List α) (k : Nat) : ((l.take k).flatMap f).length ≤ (l.flatMap f).length := by
 conv => rhs; rw [← List.take_append_drop k l, List.flatMap_append, List.length_append]
 omega

theorem lineP_len {x : Nmd} (h : NmOk x) (k : Nat) : (lineP x k).length ≤ 234 := by
 have h1 := lineT_len h
 have h2 := flat_take genT x.gens k
 unfold lineT at h1
 unfold lineP
 rw [List.length_append, List.length_append] at h1
 rw [List.length_append]
 omega

theorem lineP_succ {x : Nmd} {k : Nat} {g : List Int} (hg : x.gens[k]? = some g) (h0 : g ≠ []) : lineP x (k + 1) = lineP x k ++ genP g g.length := by
 obtain ⟨hk, e⟩ := List.getElem?_eq_some_iff.1 hg
 unfold lineP genP
 rw [List.take_succ_eq_append_getElem hk, e, List.flatMap_append, List.take_of_length_le (Nat.le_refl _), List.flatMap_cons, List.flatMap_nil, List.append_nil, genT_num h0, List.append_assoc]

theorem lineP_gen {x : Nmd} {k : Nat} {g : List Int} (h : NmOk x) (hg : x.gens[k]? = some g) (j : Nat) : (lineP x k).length + (genP g j).length ≤ 234 := by
 have h0 : g ≠ [] := by
  have h1 := (genF_ok.1 (h.gens g (List.mem_of_getElem? hg))).1
  have h2 := h.n
  intro e
  rw [e] at h1
  simp at h1
  omega
 have h1 := lineP_len h (k + 1)
 rw [lineP_succ hg h0, List.length_append] at h1
 have h2 := flat_take numS g j
 unfold genP at h1 ⊢
 rw [List.take_of_length_le (Nat.le_refl _)] at h1
 rw [List.length_cons] at h1 ⊢
 omega

set_option linter.unusedSimpArgs false in
set_option maxRecDepth 100000 in
set_option maxHeartbeats 3200000 in
theorem textR_any (w : World) (v : Value) (qs : List Nc) (h : CatN w v qs) (hok : CatOk (qs.map (·.x))) :
  Calls Tryz.prog 8 #[v] w fun e w' => e = .returned (.string (bytesP (textC (qs.map (·.x))))) ∧ Below w.heap.size w w' := by
 obtain ⟨ao, cap, rfl, -⟩ := id h
 obtain ⟨n, hn⟩ : ∃ n, qs.length = n := ⟨_, rfl⟩
 have HC := hide h; have HOK := hide hok; have HN := hide hn
 have HTL : Hid (∀ i, (textC ((qs.map (·.x)).take i)).length ≤ 1872) := fun i => by
  have h1 := text_len (cs := (qs.map (·.x)).take i) (fun x hx => hok.all x (List.mem_of_mem_take hx))
  have h2 := hok.few
  rw [List.length_take] at h1
  omega
 have hn8 : n ≤ 8 := by
  have h1 := hok.few
  rw [List.length_map, hn] at h1
  exact h1
 rw [hn]
 clear h hok hn
 go_enter Tryz.func8, Tryz.ntmps8
 go_wp2_with fail
 go_loopw [3, 4] (fun sv ix wr => ∃ (i : Nat) (ST : ByteArray), i ≤ n ∧ ix = .int .i64 i ∧ sv = .string ST ∧ Hid (ST = bytesP (textC ((qs.map (·.x)).take i))) ∧ Hid (Below w.heap.size w wr)) (fun _ ix _ => n - (intOf ix).toNat)
 case atStart => exact ⟨0, ⟨#[]⟩, Nat.zero_le _, rfl, rfl, hide rfl, hide (Below.refl _ _)⟩
 case round =>
  obtain ⟨i, ST, hi, rfl, rfl, HST, HB⟩ := hrel
  have hst : ST.size ≤ 1872 := by rw [HST.out, bytesP_size]; exact HTL.out i
  by_cases hil : i < n
  ·have hib : i < qs.length := by rw [HN.out]; exact hil
   obtain ⟨q, hq⟩ : ∃ q, qs[i]? = some q := ⟨_, List.getElem?_eq_getElem hib⟩
   have HXM : Hid (NmOk q.x) := HOK.out.all q.x (List.mem_map.2 ⟨q, List.mem_of_getElem? hq, rfl⟩)
   have HTK : Hid ((qs.map (·.x)).take (i + 1) = (qs.map (·.x)).take i ++ [q.x]) := by
    show _ = _
    rw [List.take_succ_eq_append_getElem (by rw [List.length_map]; exact hib), List.getElem_map, (List.getElem?_eq_some_iff.1 hq).2]
   obtain ⟨_, _, e, -, hh⟩ := HC.out.below HB.out
   rw [HN.out] at e
   simp only [Value.slice.injEq, true_and] at e
   obtain ⟨rfl, rfl⟩ := e
   obtain ⟨b, off, rfl, hlt, hc⟩ := hh (by omega)
   obtain ⟨c0, c1, c2, c3⟩ := hc i q hq
   obtain ⟨⟨nm, nn, gens⟩, go_, gl, gc⟩ := q
   have hgl : gl = gens.length := by
    obtain ⟨_, _, e, -⟩ := id c3
    simp only [Value.slice.injEq] at e
    exact e.2.1
   dsimp only at c0 c1 c2
   have HG := hide (show RowsS wr (.slice go_ gl gc) gens from c3)
   subst hgl
   have hnn := HXM.out.n
   have hnm : nm.size ≤ 8 := (of_decide_eq_true HXM.out.name).2.1
   dsimp only at hnn
   have hit := ito_small (z := nn) (by omega) (by omega)
   obtain ⟨IT, hIT⟩ : ∃ IT, itoS nn = IT := ⟨_, rfl⟩
   rw [hIT] at hit
   have HIT := hide hIT
   have q1 : ¬ 9223372036854775807 < ST.size + nm.size := by omega
   have q2 : ¬ 9223372036854775807 < ST.size + nm.size + 1 := by omega
   have q3 : ¬ 9223372036854775807 < ST.size + nm.size + 1 + IT.size := by omega
   clear hh hc hq hib c3
   go_wp2_with fail
   refine wp_region_held_drew (S := (fun w' => w'.cell? ⟨b, off + i * 3, none⟩ = some (.string nm) ∧ w'.cell? ⟨b, off + i * 3 + 1, none⟩ = some (.int .i64 nn))) (by kernel_rfl) (by (try dsimp only); go_keep) (fun hHeld => ?_)
   refine held_run (v := ?_) 0 13 rfl rfl (by kernel_rfl) (by kernel_rfl) (by kernel_rfl) (fun _ _ _ h => h) (by rfl) ?_ (by assumption) ?_
   rotate_left
   ·(intro w hSw; (try dsimp only at hSw); go_simp; with_reducible rfl)
   simp only [Act.put, List.setIfInBounds_toArray, List.set_cons_zero, List.set_cons_succ]
   refine held_run (v := ?_) 1 14 rfl rfl (by kernel_rfl) (by kernel_rfl) (by kernel_rfl) (fun _ _ _ h => h) (by rfl) ?_ (by assumption) ?_
   rotate_left
   ·(intro w hSw; (try dsimp only at hSw); go_simp; with_reducible rfl)
   simp only [Act.put, List.setIfInBounds_toArray, List.set_cons_zero, List.set_cons_succ]
   refine held_run (v := ?_) 2 15 rfl rfl (by kernel_rfl) (by kernel_rfl) (by kernel_rfl) (fun _ _ _ h => h) (by rfl) ?_ (by assumption) ?_
   rotate_left
   ·(intro w hSw; (try dsimp only at hSw); go_simp; with_reducible rfl)
   simp only [Act.put, List.setIfInBounds_toArray, List.set_cons_zero, List.set_cons_succ]
   refine held_run (v := ?_) 3 16 rfl rfl (by kernel_rfl) (by kernel_rfl) (by kernel_rfl) (fun _ _ _ h => h) (by rfl) ?_ (by assumption) ?_
   rotate_left
   ·(intro w hSw; (try dsimp only at hSw); go_simp; with_reducible rfl)
   simp only [Act.put, List.setIfInBounds_toArray, List.set_cons_zero, List.set_cons_succ]
   refine held_run (v := ?_) 4 17 rfl rfl (by kernel_rfl) (by kernel_rfl) (by kernel_rfl) (fun _ _ _ h => h) (by rfl) ?_ (by assumption) ?_
   rotate_left
   ·(intro w hSw; (try dsimp only at hSw); go_simp; with_reducible rfl)
   simp only [Act.put, List.setIfInBounds_toArray, List.set_cons_zero, List.set_cons_succ]
   refine held_run (v := ?_) 5 18 rfl rfl (by kernel_rfl) (by kernel_rfl) (by kernel_rfl) (fun _ _ _ h => h) (by rfl) ?_ (by assumption) ?_
   rotate_left
   ·(intro w hSw; (try dsimp only at hSw); go_simp; with_reducible rfl)
   simp only [Act.put, List.setIfInBounds_toArray, List.set_cons_zero, List.set_cons_succ]
   refine held_run (v := ?_) 6 19 rfl rfl (by kernel_rfl) (by kernel_rfl) (by kernel_rfl) (fun _ _ _ h => h) (by rfl) ?_ (by assumption) ?_
   rotate_left
   ·(intro w hSw; (try dsimp only at hSw); go_simp; with_reducible rfl)
   simp only [Act.put, List.setIfInBounds_toArray, List.set_cons_zero, List.set_cons_succ]
   refine held_run (v := ?_) 7 20 rfl rfl (by kernel_rfl) (by kernel_rfl) (by kernel_rfl) (fun _ _ _ h => h) (by rfl) ?_ (by assumption) ?_
   rotate_left
   ·(intro w hSw; (try dsimp only at hSw); go_simp; with_reducible rfl)
   simp only [Act.put, List.setIfInBounds_toArray, List.set_cons_zero, List.set_cons_succ]
   refine held_run (v := ?_) 8 21 rfl rfl (by kernel_rfl) (by kernel_rfl) (by kernel_rfl) (fun _ _ _ h => h) (by rfl) ?_ (by assumption) ?_
   rotate_left
   ·(intro w hSw; (try dsimp only at hSw); go_simp; with_reducible rfl)
   simp only [Act.put, List.setIfInBounds_toArray, List.set_cons_zero, List.set_cons_succ]
   refine held_run (v := ?_) 9 22 rfl rfl (by kernel_rfl) (by kernel_rfl) (by kernel_rfl) (fun _ _ _ h => h) (by rfl) ?_ (by assumption) ?_
   rotate_left
   ·(intro w hSw; (try dsimp only at hSw); go_simp; with_reducible rfl)
   simp only [Act.put, List.setIfInBounds_toArray, List.set_cons_zero, List.set_cons_succ]
   refine held_run (v := ?_) 10 23 rfl rfl (by kernel_rfl) (by kernel_rfl) (by kernel_rfl) (fun _ _ _ h => h) (by rfl) ?_ (by assumption) ?_
   rotate_left
   ·(intro w hSw; (try dsimp only at hSw); go_simp; with_reducible rfl)
   simp only [Act.put, List.setIfInBounds_toArray, List.set_cons_zero, List.set_cons_succ]
   refine held_run (v := ?_) 11 24 rfl rfl (by kernel_rfl) (by kernel_rfl) (by kernel_rfl) (fun _ _ _ h => h) (by rfl) ?_ (by assumption) ?_
   rotate_left
   ·(intro w hSw; (try dsimp only at hSw); go_simp; with_reducible rfl)
   simp only [Act.put, List.setIfInBounds_toArray, List.set_cons_zero, List.set_cons_succ]
   refine held_run (v := ?_) 12 25 rfl rfl (by kernel_rfl) (by kernel_rfl) (by kernel_rfl) (fun _ _ _ h => h) (by rfl) ?_ (by assumption) ?_
   rotate_left
   ·(intro w hSw; (try dsimp only at hSw); go_simp; with_reducible rfl)
   simp only [Act.put, List.setIfInBounds_toArray, List.set_cons_zero, List.set_cons_succ]
   refine wpAnyH_ready (rs := [13]) (by kernel_rfl) (by simp) (AllReadyH.cons (o := _) rfl (fun K hK => ?_) AllReadyH.nil)
   go_simp
   (refine (decimalR_any _ nn (by omega) (by omega)).mono ?_; rintro e w5 ⟨rfl, hb5'⟩; have hb5 : Below wr.heap.size wr w5 := (Below.refl _ _).drew.trans (hb5'.mono (Nat.le_refl _)); clear hb5'; have d0 := (hb5.cell (p := ⟨b, off + i * 3, none⟩) hlt).trans c0; have d1 := (hb5.cell (p := ⟨b, off + i * 3 + 1, none⟩) hlt).trans c1)
   go_wp2_with fail
   refine hK.out _ _ (by (try dsimp only); go_keep) (fun hHeld => ?_)
   clear hK K
   try simp only [Act.put, List.setIfInBounds_toArray, List.set_cons_zero, List.set_cons_succ]
   refine held_run (v := ?_) 14 27 rfl rfl (by kernel_rfl) (by kernel_rfl) (by kernel_rfl) (fun _ _ _ h => h) (by rfl) ?_ (by assumption) ?_
   rotate_left
   ·(intro w hSw; (try dsimp only at hSw); go_simp; with_reducible rfl)
   simp only [Act.put, List.setIfInBounds_toArray, List.set_cons_zero, List.set_cons_succ]
   refine held_run (v := ?_) 15 3 rfl rfl (by kernel_rfl) (by kernel_rfl) (by kernel_rfl) (fun _ _ _ h => h) (by rfl) ?_ (by assumption) ?_
   rotate_left
   ·(intro w hSw; (try dsimp only at hSw); go_simp; with_reducible rfl)
   simp only [Act.put, List.setIfInBounds_toArray, List.set_cons_zero, List.set_cons_succ]
   refine wpAnyH_done (by kernel_rfl) ?_ _
   obtain ⟨T1, hT1⟩ : ∃ T1, ST ++ nm ++ ⟨#[32]⟩ ++ IT = T1 := ⟨_, rfl⟩
   rw [hT1]
   obtain ⟨L0, hL0⟩ : ∃ L0, textC ((qs.map (·.x)).take i) = L0 := ⟨_, rfl⟩
   have HL0 := hide hL0
   have HT1 : Hid (T1 = bytesP (L0 ++ lineP ⟨nm, nn, gens⟩ 0)) := by
    show _ = _
    rw [← hT1, HST.out, ← HIT.out, hL0, cat_bytes, cat_bytes, cat_bytes]
    unfold lineP headT
    simp [itoS]
   have HLN : Hid (L0.length ≤ 1872) := by show _ ≤ _; rw [← hL0]; exact HTL.out i
   have HB5 := hide (HB.out.trans (hb5.mono HB.out.size)); have HG5 := hide (HG.out.below hb5)
   have d2 := (hb5.cell (p := ⟨b, off + i * 3 + 2, none⟩) hlt).trans c2
   have hlt5 : b < w5.heap.size := Nat.lt_of_lt_of_le hlt hb5.size
   have hgn : gens.length ≤ 10 := HXM.out.few
   clear hT1 hL0 c0 c1 c2 d0 d1 q1 q2 q3 hit hst HST HG HB hb5 hlt HIT hnm
   go_wp2_with fail
   go_loopw [3, 5] (fun sv kx wr => ∃ (k : Nat) (T : ByteArray), k ≤ gens.length ∧ kx = .int .i64 k ∧ sv = .string T ∧ Hid (T = bytesP (L0 ++ lineP ⟨nm, nn, gens⟩ k)) ∧ Hid (Below w5.heap.size w5 wr)) (fun _ kx _ => gens.length - (intOf kx).toNat)
   case atStart => exact ⟨0, T1, Nat.zero_le _, rfl, rfl, HT1, hide (Below.refl _ _)⟩
   case round =>
    clear HT1
    obtain ⟨k, T, hk, rfl, rfl, HT, HBK⟩ := hrel
    have ht : T.size ≤ 2106 := by
     rw [HT.out, bytesP_size, List.length_append]
     have h1 := lineP_len HXM.out k; have h2 := HLN.out
     omega
    have c2 := (HBK.out.cell (p := ⟨b, off + i * 3 + 2, none⟩) hlt5).trans d2
    by_cases hkl : k < gens.length
    ·obtain ⟨g, hg⟩ : ∃ g, gens[k]? = some g := ⟨_, List.getElem?_eq_getElem hkl⟩
     obtain ⟨_, _, e, -, hh⟩ := HG5.out.below HBK.out
     simp only [Value.slice.injEq, true_and] at e
     obtain ⟨rfl, rfl⟩ := e
     obtain ⟨b2, off2, rfl, hlt2, hc⟩ := hh (by omega)
     obtain ⟨u, cu, hrow⟩ := hc k g hg
     obtain ⟨uo, uc, rfl, -, hrng, hcell⟩ := hrow
     have hgm := HXM.out.gens g (List.mem_of_getElem? hg)
     obtain ⟨hg1, hg2⟩ := genF_ok.1 hgm
     have hgl1 : g.length ≤ 4 := by dsimp only at hg1; omega
     have hg0 : 0 < g.length := by dsimp only at hg1; omega
     have HGZ := hide hg2; have HGE := hide hg
     have q1 : ¬ 9223372036854775807 < T.size + 1 := by omega
     obtain ⟨b3, off3, rfl, hlt3, hc3⟩ := hcell hg0
     have HC3 := hide hc3
     obtain ⟨T2, hT2⟩ : ∃ T2, T ++ ⟨#[59]⟩ = T2 := ⟨_, rfl⟩
     have HT2 : Hid (T2 = bytesP (L0 ++ lineP ⟨nm, nn, gens⟩ k ++ genP g 0)) := by
      show _ = _
      rw [← hT2, HT.out, cat_bytes]
      simp [genP]
     clear hh hc hrng hcell hc3 hg hg1 hg2 hgm HT ht
     go_wp2_with fail
     try rw [hT2]
     clear hT2 q1
     generalize wr = W6 at *
     go_loopw [3, 6] (fun sv jx wr => ∃ (j : Nat) (U : ByteArray), j ≤ g.length ∧ jx = .int .i64 j ∧ sv = .string U ∧ Hid (U = bytesP (L0 ++ lineP ⟨nm, nn, gens⟩ k ++ genP g j)) ∧ Hid (Below W6.heap.size W6 wr)) (fun _ jx _ => g.length - (intOf jx).toNat)
     case atStart => exact ⟨0, T2, Nat.zero_le _, rfl, rfl, HT2, hide (Below.refl _ _)⟩
     case round =>
      clear HT2
      obtain ⟨j, U, hj, rfl, rfl, HU, HBJ⟩ := hrel
      have hu : U.size ≤ 2106 := by
       rw [HU.out, bytesP_size, List.length_append, List.length_append]
       have h1 := lineP_gen HXM.out HGE.out j; have h2 := HLN.out
       omega
      have e2 := (HBJ.out.cell (p := ⟨b, off + i * 3 + 2, none⟩) (Nat.lt_of_lt_of_le hlt5 HBK.out.size)).trans c2
      have eu := (HBJ.out.cell (p := ⟨b2, off2 + k, none⟩) hlt2).trans cu
      by_cases hjl : j < g.length
      ·have ez := (HBJ.out.cell (p := ⟨b3, off3 + j, none⟩) hlt3).trans (HC3.out j hjl)
       have hzr := HGZ.out (g.getD j 0) (by rw [getD_at hjl]; exact List.getElem_mem _)
       have HTJ : Hid (g.take (j + 1) = g.take j ++ [g.getD j 0]) := by show _ = _; rw [List.take_succ_eq_append_getElem hjl, getD_at hjl]
       generalize g.getD j 0 = z at *
       have hit := ito_small hzr.1 hzr.2
       obtain ⟨IT, hIT⟩ : ∃ IT, itoS z = IT := ⟨_, rfl⟩
       rw [hIT] at hit
       have q1 : ¬ 9223372036854775807 < U.size + 1 := by omega
       have q2 : ¬ 9223372036854775807 < U.size + 1 + IT.size := by omega
       go_wp2_with fail
       clear e2 eu ez
       refine (decimalR_any _ z (by omega) (by omega)).mono ?_
       rintro e w7 ⟨rfl, hb7⟩
       rw [hIT]
       have HBJ2 := hide (HBJ.out.trans (hb7.mono HBJ.out.size))
       obtain ⟨U2, hU2⟩ : ∃ U2, U ++ ⟨#[32]⟩ ++ IT = U2 := ⟨_, rfl⟩
       have HU2 : Hid (U2 = bytesP (L0 ++ lineP ⟨nm, nn, gens⟩ k ++ genP g (j + 1))) := by
        show _ = _
        rw [← hU2, HU.out, ← hIT, cat_bytes, cat_bytes]
        unfold genP
        rw [HTJ.out, List.flatMap_append]
        simp [numS, itoS]
       clear hb7 HU hIT HTJ hzr hu hit HBJ
       go_wp2_with fail
       try rw [hU2]
       clear hU2
       go_roundw
       case rel => exact ⟨j + 1, U2, by omega, by go_num, rfl, HU2, HBJ2⟩
       case measure => simp [intOf]; omega
      ·obtain rfl : j = g.length := by omega
       have HT3 : Hid (U = bytesP (L0 ++ lineP ⟨nm, nn, gens⟩ (k + 1))) := by
        show _ = _
        rw [HU.out, lineP_succ HGE.out (List.ne_nil_of_length_pos hg0), List.append_assoc]
       have HBK2 := hide (HBK.out.trans (HBJ.out.mono HBK.out.size))
       clear HU hu HBJ HBK
       go_wp2_with fail
       go_roundw
       case rel => exact ⟨k + 1, U, by omega, by go_num, rfl, HT3, HBK2⟩
       case measure => simp [intOf]; omega
    ·obtain rfl : k = gens.length := by omega
     have q1 : ¬ 9223372036854775807 < T.size + 1 := by omega
     obtain ⟨T2, hT2⟩ : ∃ T2, T ++ ⟨#[10]⟩ = T2 := ⟨_, rfl⟩
     have HT2 : Hid (T2 = bytesP (textC ((qs.map (·.x)).take (i + 1)))) := by
      show _ = _
      rw [HTK.out, ← hT2, HT.out, cat_bytes]
      unfold textC at HL0 ⊢
      rw [List.flatMap_append, HL0.out]
      unfold lineT lineP
      rw [List.take_of_length_le (Nat.le_refl _)]
      simp
     have HBW := hide (HB5.out.trans (HBK.out.mono HB5.out.size))
     clear HT ht HBK HB5
     go_wp2_with fail
     try rw [hT2]
     clear hT2
     go_roundw
     case rel => exact ⟨i + 1, T2, by omega, by go_num, rfl, HT2, HBW⟩
     case measure => simp [intOf]; omega
  ·obtain rfl : i = n := by omega
   have HFIN : Hid (ST = bytesP (textC (qs.map (·.x)))) := by
    show _ = _
    rw [HST.out, List.take_of_length_le (by rw [List.length_map, HN.out]; exact Nat.le_refl _)]
   clear HST
   go_wp2
   go_ret
   exact ⟨by rw [HFIN.out]; rfl, HB.out⟩

end Go.Proofs.YtjdnhdcaifogmaaGreatDoor

/- Ten times the limbs, and a digit more; are these digits? -/
namespace Go.Proofs.YtjdnhdcaifogmaaGreatDoor
open Go.RowKit Limbs

def DInv (w wr : World) (base : Nat) (v : Value) (zs : List Int) (d : Int) (k : Nat) (cy : Int) (ys : List Int) : Prop :=
 wr.ownsRow base 143 1 v zs.length (ys.map (Value.int .u32)) ∧ ys.length = zs.length ∧ LB ys ∧ ys.drop k = zs.drop k ∧ lv (ys.take k) + bp k * cy = 10 * lv (zs.take k) + d ∧ 0 ≤ cy ∧ cy ≤ 255 ∧ Below base w wr

theorem DInv.step {w wr : World} {base g cap : Nat} {zs ys : List Int} {d cy T : Int} {k : Nat} (h : DInv w wr base (.slice (some ⟨g, 0, none⟩) zs.length cap) zs d k cy ys) (hk : k < zs.length) (hT : T = cy + 10 * ys.getD k 0) :
  DInv w (wr.setCell ⟨g, k, none⟩ (.int .u32 (T % 4294967296))) base (.slice (some ⟨g, 0, none⟩) zs.length cap) zs d (k + 1) (T / 4294967296) (ys.set k (T % 4294967296)) := by
 obtain ⟨h1, h2, h3, h4, h5, h6, h7, h8⟩ := h
 have hz := h3 k
 have hst := h1.stored k (.int .u32 (T % 4294967296))
 have he : ys.getD k 0 = zs.getD k 0 := by
  have e1 := drop_cons_getD ys k (by omega)
  have e2 := drop_cons_getD zs k hk
  rw [h4] at e1
  rw [e1] at e2
  exact (List.cons.injEq _ _ _ _ ▸ e2).1
 have hlt := h1.lt g rfl
 refine ⟨by rw [List.map_set]; exact hst.1, by simp [h2], LB_set h3 k (by omega), ?_, ?_, by omega, by omega, h8.setCell (by simp; omega) _⟩
 ·rw [drop_set_lt ys k (k + 1) _ (Nat.lt_succ_self k)]
  have e1 := congrArg (List.drop 1) h4
  rwa [List.drop_drop, List.drop_drop] at e1
 ·rw [lv_take_succ, take_set_ge ys k k _ (Nat.le_refl _), getD_set _ _ _ _ (by omega), if_pos rfl, lv_take_succ]
  simp only [bp]
  have e1 : 4294967296 * bp k * (T / 4294967296) = bp k * (4294967296 * (T / 4294967296)) := by rw [Int.mul_comm 4294967296, Int.mul_assoc]
  have e2 : bp k * (T % 4294967296) + bp k * (4294967296 * (T / 4294967296)) = bp k * T := by rw [← Int.mul_add]; congr 1; omega
  have e3 : bp k * T = bp k * cy + bp k * (10 * ys.getD k 0) := by rw [hT, Int.mul_add]
  have e4 : bp k * (10 * ys.getD k 0) = 10 * (bp k * zs.getD k 0) := by rw [he, Int.mul_left_comm]
  rw [e1, Int.mul_add]
  omega

def DigitPost (w : World) (base : Nat) (zs : List Int) (d : Int) (e : Ending) (w' : World) : Prop :=
 ∃ v' ys, e = .returned v' ∧ w'.ownsRow base 143 1 v' ys.length (ys.map (Value.int .u32)) ∧ LB ys ∧ lv ys = 10 * lv zs + d ∧ ys.length ≤ zs.length + 1 ∧ Below base w w'

theorem DInv.fin {w wr : World} {base : Nat} {v : Value} {zs ys : List Int} {d : Int} {cy : Int} (h : DInv w wr base v zs d zs.length cy ys) : lv ys + bp zs.length * cy = 10 * lv zs + d := by
 have := h.2.2.2.2.1
 rw [List.take_length, lv_take_ge ys (by rw [h.2.1]; exact Nat.le_refl _)] at this
 exact this

def isDec (s : ByteArray) : Prop := (∀ k, k < s.size → 48 ≤ byt s k ∧ byt s k ≤ 57) ∧ (s = ⟨#[48]⟩ ∨ (s.size ≠ 0 ∧ byt s 0 ≠ 48))

theorem size_zero {s : ByteArray} (h : s.size = 0) : s = ⟨#[]⟩ := by
 cases s with
 | mk d =>
  congr 1
  exact Array.eq_empty_of_size_eq_zero h

theorem str_eq (s : ByteArray) (l : List UInt8) : s.toList = l ↔ s = ⟨l.toArray⟩ := by
 rw [Lib.toList_data]
 constructor
 ·intro h; subst h; cases s; rfl
 ·intro h; subst h; rfl

end Go.Proofs.YtjdnhdcaifogmaaGreatDoor

/- A number's text, read. -/
namespace Go.Proofs.YtjdnhdcaifogmaaGreatDoor
open Go.RowKit Limbs

def dval (s : ByteArray) : Nat → Int
 | 0 => 0
 | k + 1 => 10 * dval s k + (byt s k - 48)

def ErrPost (w : World) (n : Int) (e : Ending) (w' : World) : Prop :=
 e = .returned (.tuple #[.agg #[.bool false, .slice none 0 0], .iface 71 (.int .i64 n)]) ∧ Below w.heap.size w w'

def ReadPost (w : World) (z : Int) (n : Nat) (e : Ending) (w' : World) : Prop :=
 ∃ v, e = .returned (.tuple #[v, .nilIface]) ∧ NumL w' v z n ∧ Below w.heap.size w w'

end Go.Proofs.YtjdnhdcaifogmaaGreatDoor

/- A text, read by the program. -/
namespace Go.Proofs.YtjdnhdcaifogmaaGreatDoor
open Go.RowKit Limbs

def good (t : ByteArray) (neg : Bool) : Prop := isDec t ∧ ¬ (neg = true ∧ t = ⟨#[48]⟩)

def Falls (s t : ByteArray) (neg : Bool) : Prop :=
 (neg = true ∧ 1 < s.size ∧ byt s 0 = 45 ∧ s.extract 1 s.size = t ∧ t.size + 1 = s.size) ∨ (neg = false ∧ t = s ∧ ¬ (1 < s.size ∧ byt s 0 = 45))

def ReadPostP (w : World) (t : ByteArray) (neg : Bool) (e : Ending) (w' : World) : Prop :=
 (good t neg → ReadPost w (sg neg (dval t t.size)) t.size e w') ∧ (¬ good t neg → ErrPost w 5 e w')

theorem falls (s : ByteArray) : ∃ t neg, Falls s t neg := by
 by_cases h : 1 < s.size ∧ byt s 0 = 45
 ·exact ⟨s.extract 1 s.size, true, .inl ⟨rfl, h.1, h.2, rfl, by rw [ByteArray.size_extract]; omega⟩⟩
 ·exact ⟨s, false, .inr ⟨rfl, rfl, h⟩⟩

end Go.Proofs.YtjdnhdcaifogmaaGreatDoor
