/- The reference: a number's text. -/
import Derived.Test.YtaijeimgbbpgiaaDoorRefJ
import Derived.Test.YtaijeimgbbpgiaaDoorText
import Derived.Laws.IdiomStrings
namespace Go.Proofs.YtaijeimgbbpgiaaDoor
open Go.RowKit Limbs Digs

/-- a power of ten -/
def pw : Nat → Int
  | 0 => 1
  | n + 1 => 10 * pw n

theorem pw_pos (n : Nat) : 0 < pw n := by
  induction n with
  | zero => decide
  | succ n ih => simp only [pw]; omega

/-- What is left, and the digits behind it, are the number's. -/
def TIs (M : Nat) (r : Int) (l : List UInt8) : Prop := (0 < r → Lib.decDigits M = Lib.decDigits r.toNat ++ l) ∧ (r = 0 → Lib.decDigits M = l)

theorem TIs.step {M : Nat} {r : Int} {l : List UInt8} (h : TIs M r l) (hr : 0 < r) : TIs M (r / 10) (UInt8.ofNat (48 + (r % 10).toNat) :: l) := by
  have h1 := h.1 hr
  obtain ⟨k, rfl⟩ := Int.eq_ofNat_of_zero_le (Int.le_of_lt hr)
  rw [Int.toNat_natCast] at h1
  have e1 : ((k : Int) / 10) = ((k / 10 : Nat) : Int) := by omega
  have e2 : ((k : Int) % 10) = ((k % 10 : Nat) : Int) := by omega
  rw [e1, e2, Int.toNat_natCast]
  by_cases hk : k < 10
  · have e : Lib.decDigits k = [UInt8.ofNat (48 + k)] := by rw [Lib.decDigits, dif_pos hk]
    rw [e] at h1
    refine ⟨fun h => by omega, fun _ => ?_⟩
    rw [h1, Nat.mod_eq_of_lt hk]
    rfl
  · have e : Lib.decDigits k = Lib.decDigits (k / 10) ++ [UInt8.ofNat (48 + k % 10)] := by rw [Lib.decDigits, dif_neg hk]
    rw [e] at h1
    refine ⟨fun _ => ?_, fun h => by omega⟩
    rw [h1, Int.toNat_natCast, List.append_assoc]
    rfl

/-- In a group of digits: so many of its digits are still to come. -/
structure DIn (M : Nat) (H : Int) (m : Nat) (d : Int) (l : List UInt8) : Prop where
  d0 : 0 ≤ d
  d1 : d < pw m
  h0 : 0 ≤ H
  txt : TIs M (d + pw m * H) l

theorem DIn.step {M : Nat} {H d : Int} {m : Nat} {l : List UInt8} (h : DIn M H (m + 1) d l) (hp : 0 < d ∨ 0 < H) : DIn M H m (d / 10) (UInt8.ofNat (48 + (d % 10).toNat) :: l) := by
  obtain ⟨h1, h2, h3, h4⟩ := h
  have hq := pw_pos m
  simp only [pw] at h2 h4
  have e0 : 10 * pw m * H = 10 * (pw m * H) := Int.mul_assoc _ _ _
  rw [e0] at h4
  have hn : 0 ≤ pw m * H := Int.mul_nonneg (by omega) h3
  have hpos : 0 < d + 10 * (pw m * H) := by
    rcases hp with hp | hp
    · omega
    · have : 0 < pw m * H := Int.mul_pos hq hp
      omega
  have := h4.step hpos
  refine ⟨by omega, by omega, h3, ?_⟩
  have e1 : (d + 10 * (pw m * H)) / 10 = d / 10 + pw m * H := by omega
  have e2 : (d + 10 * (pw m * H)) % 10 = d % 10 := by omega
  rw [e1, e2] at this
  exact this

theorem DIn.skip {M : Nat} {H d : Int} {m : Nat} {l : List UInt8} (h : DIn M H (m + 1) d l) (hd : ¬ 0 < d) (hH : H = 0) : DIn M H m (d / 10) l := by
  obtain ⟨h1, h2, h3, h4⟩ := h
  obtain rfl : d = 0 := by omega
  subst hH
  refine ⟨by omega, by have := pw_pos m; omega, by omega, ?_⟩
  simpa using h4

theorem one_byte (b : UInt8) (l : List UInt8) : (⟨#[b]⟩ : ByteArray) ++ ⟨l.toArray⟩ = ⟨(b :: l).toArray⟩ := by
  apply ByteArray.ext
  simp

theorem byte_back (W : World) (z : Int) (h0 : 0 ≤ z) (h1 : z < 10) : (convert 91 9 (.slice (some ⟨W.heap.size, 0, none⟩) 1 1)).run Tryd.prog (W.alloc (.cells #[.int .u8 (48 + z)] 5)) = .ok (.string ⟨#[UInt8.ofNat (48 + z.toNat)]⟩) (W.alloc (.cells #[.int .u8 (48 + z)] 5)) := by
  refine run_convert_bytes_back _ 91 9 5 ⟨W.heap.size, 0, none⟩ 1 [UInt8.ofNat (48 + z.toNat)] (by kernel_rfl) (by kernel_rfl) (by kernel_rfl) fun j hj => ?_
  obtain rfl : j = 0 := by simpa using hj
  have h := World.news_of_block (heap_alloc_new W (.cells #[.int .u8 (48 + z)] 5)) 0 _ rfl
  rw [h]
  have e : ((UInt8.ofNat (48 + z.toNat)).toNat : Int) = 48 + z := by
    rw [UInt8.toNat_ofNat']
    omega
  rw [List.getElem_cons_zero, e]

set_option maxRecDepth 100000 in
set_option maxHeartbeats 1600000 in
theorem decimal_of (w : World) (va : Value) (x : Int) (n : Nat) (ha : NumR w va x n) (hn : n ≤ 10000) :
    Calls Tryd.prog 37 #[va] w fun e w' => TextPost w x e w' := by
  obtain ⟨sa, la, a, rfl, hla, nra, hx, hsa, hna⟩ := ha
  have HA := hide hla
  obtain ⟨ao, acap, rfl, -, -, adb, hac⟩ := hla
  have hs := sign_of adb nra hsa
  have hb0 : Box (w.alloc (.cells #[.int .i64 sa, .slice ao a.length acap] 42)) w.heap.size (.int .i64 sa) (.slice ao a.length acap) := box_new w _ _ _ _ rfl
  have HW0 : Hid (Below w.heap.size w (w.alloc (.cells #[.int .i64 sa, .slice ao a.length acap] 42))) := (Below.refl _ _).alloc (Nat.le_refl _) _
  have HC := hide (fun (i : Nat) (h : i < a.length) => show ∃ b off, ao = some ⟨b, off, none⟩ ∧ b < w.heap.size ∧ w.cell? ⟨b, off + i, none⟩ = some (.int .i64 (a.getD i 0)) by
    obtain ⟨b, off, cur, fz, e, hb, hc⟩ := hac (by omega)
    exact ⟨b, off, e, heap_lt hb, hc i h⟩)
  clear hsa hac
  rcases hs with ⟨h1, rfl⟩ | ⟨h1, hs⟩
  · have HF : Hid (TextPost w x (.returned (.string ⟨#[48]⟩)) (w.alloc (.cells #[.int .i64 0, .slice ao a.length acap] 42))) := by
      refine ⟨?_, HW0.out⟩
      have : x = 0 := by rw [hx]; omega
      subst this
      have : txt 0 = [48] := by
        unfold txt Lib.itoa
        rw [if_neg (by decide), show (0 : Int).toNat = 0 from rfl, Lib.decDigits, dif_pos (by decide)]
        rfl
      rw [this]
    clear hx
    go_enter Tryd.func37, Tryd.ntmps37
    go_wp2
    go_ret
    exact HF.out
  · have hz1 : (sa == 0) = false := by rw [beq_eq_false_iff_ne]; omega
    obtain ⟨M, hM⟩ : ∃ M : Nat, dv a = (M : Int) := Int.eq_ofNat_of_zero_le (Int.le_of_lt h1)
    have HX := hide (show x = sa * (M : Int) by rw [hx, hM])
    have HT0 : Hid (TIs M (dv (a.drop 0)) []) := by
      rw [List.drop_zero, hM]
      exact ⟨fun _ => by rw [Int.toNat_natCast]; simp, fun h => by omega⟩
    have hal : a.length ≤ 10000 := by omega
    have hM0 : 0 < M := by omega
    clear hx h1
    obtain ⟨c0, c1, -, -⟩ := hb0
    go_enter Tryd.func37, Tryd.ntmps37
    go_wp2
    go_loopw [3, 4] (fun s i wr => ∃ (p : Nat) (l : List UInt8), p ≤ a.length ∧ i = .int .i64 p ∧ s = .string ⟨l.toArray⟩ ∧ l.length ≤ 4 * p ∧ TIs M (dv (a.drop p)) l ∧ Below (w.heap.size + 1) (w.alloc (.cells #[.int .i64 sa, .slice ao a.length acap] 42)) wr) (fun _ i _ => a.length - (intOf i).toNat)
    case atStart => exact ⟨0, [], Nat.zero_le _, rfl, rfl, by simp, HT0.out, Below.refl _ _⟩
    case round =>
      clear HT0
      obtain ⟨p, l, hp, rfl, rfl, hll, ht, hbw⟩ := hrel
      have hsz : (⟨l.toArray⟩ : ByteArray).size ≤ 40000 := by show l.toArray.size ≤ _; simp; omega
      have HT := hide ht
      have HBW := hide hbw
      have d0 := (hbw.cell (p := ⟨w.heap.size, 0, none⟩) (Nat.lt_succ_self _)).trans c0
      have d1 := (hbw.cell (p := ⟨w.heap.size, 1, none⟩) (Nat.lt_succ_self _)).trans c1
      clear ht hbw
      by_cases hlt : p < a.length
      · obtain ⟨ab, aoff, rfl, hbl, hcell⟩ := HC.out p hlt
        have hcw := (HBW.out.cell (p := ⟨ab, aoff + p, none⟩) (Nat.lt_succ_of_lt hbl)).trans (((HW0.out.cell (p := ⟨ab, aoff + p, none⟩) hbl)).trans hcell)
        have hdg := adb p
        have HDR := hide (show dv (a.drop p) = a.getD p 0 + 10000 * dv (a.drop (p + 1)) by rw [drop_cons_getD a p hlt]; rfl)
        have HH : Hid (0 ≤ dv (a.drop (p + 1)) ∧ (p + 1 < a.length → 0 < dv (a.drop (p + 1))) ∧ (¬ p + 1 < a.length → dv (a.drop (p + 1)) = 0)) := by
          have hdd := DB_drop adb (p + 1)
          refine ⟨dv_nonneg hdd, fun h => dv_pos hdd ?_ (by rw [List.length_drop]; omega), fun h => by rw [List.drop_eq_nil_of_le (by omega)]; rfl⟩
          rcases nra with h' | h'
          · omega
          · refine .inr ?_
            rw [List.length_drop, getD_drop, show p + 1 + (a.length - (p + 1) - 1) = a.length - 1 by omega]
            exact h'
        generalize a.getD p 0 = dg at *
        have ep : pw 4 = 10000 := by decide
        have HD : Hid (DIn M (dv (a.drop (p + 1))) 4 dg l) := ⟨hdg.1, by omega, HH.out.1, by rw [ep, ← HDR.out]; exact HT.out⟩
        clear hcell HDR HT
        generalize wr = W0 at *
        go_wp2
        go_loopw [3, 5, 6] (fun s d k w1 => ∃ (j : Nat) (l : List UInt8) (z : Int), j ≤ 4 ∧ k = .int .i64 j ∧ d = .int .i64 z ∧ s = .string ⟨l.toArray⟩ ∧ l.length ≤ 4 * p + j ∧ Hid (DIn M (dv (a.drop (p + 1))) (4 - j) z l) ∧ Hid (Below (w.heap.size + 1) (w.alloc (.cells #[.int .i64 sa, .slice (some ⟨ab, aoff, none⟩) a.length acap] 42)) w1)) (fun _ _ k _ => 4 - (intOf k).toNat)
        case atStart => exact ⟨0, l, dg, by omega, rfl, rfl, rfl, by omega, HD, HBW⟩
        case round =>
          clear HD d0 d1 hcw HBW
          obtain ⟨j, l', z, hj, rfl, rfl, rfl, hll', HD, HBW⟩ := hrel
          have hsz' : (⟨l'.toArray⟩ : ByteArray).size ≤ 50000 := by show l'.toArray.size ≤ _; simp; omega
          have d0 := (HBW.out.cell (p := ⟨w.heap.size, 0, none⟩) (Nat.lt_succ_self _)).trans c0
          have d1 := (HBW.out.cell (p := ⟨w.heap.size, 1, none⟩) (Nat.lt_succ_self _)).trans c1
          have hz0 := HD.out.d0
          have hzm : z < 10000 := by
            have h1 := HD.out.d1
            have h2 : pw (4 - j) ≤ 10000 := by rcases (by omega : j = 0 ∨ j = 1 ∨ j = 2 ∨ j = 3 ∨ j = 4) with rfl | rfl | rfl | rfl | rfl <;> decide
            omega
          by_cases hj4 : j < 4
          · have hm3 : z.tmod 10 = z % 10 := Int.tmod_eq_emod_of_nonneg hz0
            have hm4 : z.tdiv 10 = z / 10 := Int.tdiv_eq_ediv_of_nonneg hz0
            have e4 : 4 - j = (4 - (j + 1)) + 1 := by omega
            have HD' := hide (show DIn M (dv (a.drop (p + 1))) ((4 - (j + 1)) + 1) z l' by rw [← e4]; exact HD.out)
            clear HD e4
            by_cases hc : p + 1 < a.length ∨ 0 < z
            · have HS := hide (HD'.out.step (by rcases hc with hc | hc; exact .inr (HH.out.2.1 hc); exact .inl hc))
              clear HD'
              have hcv := byte_back wr (z % 10) (by omega) (by omega)
              have HBW' := hide (show Below (w.heap.size + 1) _ (wr.alloc (.cells #[.int .u8 (48 + z % 10)] 5)) from HBW.out.alloc (by have := HBW.out.size; simp at this; omega) _)
              clear HBW
              by_cases hc1 : p + 1 < a.length
              · have hlt2 : (p : Int) < (a.length : Int) - 1 := by omega
                go_wp2
                go_roundw
                case rel => exact ⟨j + 1, _, _, by omega, by go_num, rfl, by rw [one_byte, UInt8.ofNat_add]; rfl, by simp; omega, HS, HBW'⟩
                case measure => simp [intOf]; omega
              · have hlt2 : ¬ ((p : Int) < (a.length : Int) - 1) := by omega
                have hz1 : 0 < z := by omega
                go_wp2
                go_roundw
                case rel => exact ⟨j + 1, _, _, by omega, by go_num, rfl, by rw [one_byte, UInt8.ofNat_add]; rfl, by simp; omega, HS, HBW'⟩
                case measure => simp [intOf]; omega
            · have HS := hide (HD'.out.skip (by omega) (HH.out.2.2 (by omega)))
              have hlt2 : ¬ ((p : Int) < (a.length : Int) - 1) := by omega
              have hz1 : ¬ (0 < z) := by omega
              clear HD'
              go_wp2
              go_roundw
              case rel => exact ⟨j + 1, _, _, by omega, by go_num, rfl, rfl, by omega, HS, HBW⟩
              case measure => simp [intOf]; omega
          · obtain rfl : j = 4 := by omega
            have HN : Hid (TIs M (dv (a.drop (p + 1))) l') := by
              have h1 := HD.out.d1
              have h2 := HD.out.txt
              simp only [Nat.sub_self, pw] at h1 h2
              have : z = 0 := by omega
              subst this
              show TIs M _ l'
              simpa using h2
            clear HD
            go_wp2
            go_roundw
            case rel => exact ⟨p + 1, l', by omega, by go_num, rfl, by omega, HN.out, HBW.out⟩
            case measure => simp [intOf]; omega
      · obtain rfl : p = a.length := by omega
        have HL : Hid (Lib.decDigits M = l) := by
          have := HT.out.2 (by rw [List.drop_eq_nil_of_le (Nat.le_refl _)]; rfl)
          exact this
        have HB := hide (show Below w.heap.size w wr from HW0.out.trans (HBW.out.mono (Nat.le_succ _)))
        rcases hs with rfl | rfl
        · have HF : Hid (TextPost w x (.returned (.string ⟨l.toArray⟩)) wr) := ⟨by
            rw [← HL.out, HX.out]
            unfold txt Lib.itoa
            rw [if_neg (by omega)]
            simp, HB.out⟩
          clear HT HL HX
          go_wp2
          go_ret
          exact HF.out
        · have HF : Hid (TextPost w x (.returned (.string ⟨(45 :: l).toArray⟩)) wr) := ⟨by
            rw [← HL.out, HX.out]
            unfold txt Lib.itoa
            rw [if_pos (by omega)]
            have e : ((-1 : Int) * (M : Int)).natAbs = M := by omega
            rw [e], HB.out⟩
          clear HT HL HX
          go_wp2
          go_ret
          rw [one_byte]
          exact HF.out

end Go.Proofs.YtaijeimgbbpgiaaDoor
