/- WalSays: its head. -/
import Derived.Test.YtlkenhfhnpohhaaOpenW
namespace Go.Proofs.Ytlkenhfhnpohhaa
open Go.RowKit

set_option linter.unusedSimpArgs false in
set_option maxRecDepth 100000 in
set_option maxHeartbeats 3200000 in
theorem walSays_any (w : World) (sv av : Value) (ss : List ByteArray) (al : List ActW) (fr0 mn0 first : Int) (hs : TxtsN w sv ss) (hal : ActsW w av al) (hfr : -9223372036854775808 ≤ fr0 ∧ fr0 ≤ 9223372036854775807) (hmn : -9223372036854775808 ≤ mn0 ∧ mn0 ≤ 9223372036854775807) :
  Calls Try.prog 3 #[sv, .int .i64 fr0, .int .i64 mn0, .int .i64 first, av] w fun e w' => e = .returned (.bool true) ∧ Below w.heap.size w w' := by
 have HS := hide hs; have HAL := hide hal
 obtain ⟨so, sc, rfl, -⟩ := id hs
 obtain ⟨ao, acap, rfl, -⟩ := id hal
 obtain ⟨n, hn⟩ : ∃ n, ss.length = n := ⟨_, rfl⟩
 have HN := hide hn
 rw [hn]
 clear hs hal hn
 go_enter Try.func3, Try.ntmps3
 go_wp2_with fail
 refine (logs_any w).mono ?_
 rintro e w1 ⟨rfl, hb1⟩
 have HB1 := hide hb1
 clear hb1
 by_cases h40 : 40 < n
 ·have g0 : decide (40 < (n : Int)) = true := decide_eq_true (by omega)
  go_wp2
  go_ret
  exact ⟨rfl, HB1.out⟩
 have g0 : decide (40 < (n : Int)) = false := decide_eq_false (by omega)
 go_wp2_with fail
 refine (lightActsW_any w1 _ al 20 (HAL.out.below HB1.out) (by decide)).mono ?_
 rintro e w2 ⟨b, rfl, hlb, hb2⟩
 have HB2 := hide (HB1.out.trans (hb2.mono HB1.out.size)); have HLB := hide hlb
 clear hb2 HB1 hlb
 cases b with
 | false =>
  go_wp2
  go_ret
  exact ⟨rfl, HB2.out⟩
 | true =>
 have hlt := HLB.out rfl
 have HLT := hide hlt
 clear hlt HLB
 by_cases hfst : 1000000 < first
 ·have g1 : decide (1000000 < first) = true := decide_eq_true hfst
  go_wp2
  go_ret
  exact ⟨rfl, HB2.out⟩
 have g1 : decide (1000000 < first) = false := decide_eq_false hfst
 go_wp2_with fail
 go_loopw [12] (fun ix wr => ∃ k : Nat, k ≤ n ∧ ix = .int .i64 k ∧ wr = w2 ∧ Hid (∀ s ∈ ss.take k, s.size ≤ 64)) (fun ix _ => n - (intOf ix).toNat)
 case atStart => exact ⟨0, Nat.zero_le _, rfl, rfl, hide (by simp)⟩
 case round =>
  obtain ⟨k, hk, rfl, hwr, H64⟩ := hrel
  subst hwr
  by_cases hkl : k < n
  ·have hkb : k < ss.length := by rw [HN.out]; exact hkl
   obtain ⟨s, hsk⟩ : ∃ s, ss[k]? = some s := ⟨_, List.getElem?_eq_getElem hkb⟩
   obtain ⟨_, _, e, -, hh⟩ := HS.out.below HB2.out
   rw [HN.out] at e
   simp only [Value.slice.injEq, true_and] at e
   obtain ⟨rfl, rfl⟩ := e
   obtain ⟨b, off, rfl, hlt, hc⟩ := hh (by omega)
   have cs := hc k s hsk
   have HTK : Hid (ss.take (k + 1) = ss.take k ++ [s]) := by show _ = _; rw [List.take_succ_eq_append_getElem hkb, (List.getElem?_eq_some_iff.1 hsk).2]
   clear hh hc hsk hkb
   by_cases h64 : 64 < s.size
   ·have g3 : decide (64 < (s.size : Int)) = true := decide_eq_true (by omega)
    clear h64
    go_wp2
    go_ret
    exact ⟨rfl, HB2.out⟩
   ·have g3 : decide (64 < (s.size : Int)) = false := decide_eq_false (by omega)
    have H64b : Hid (∀ s ∈ ss.take (k + 1), s.size ≤ 64) := fun q hq => by
     rw [HTK.out] at hq
     rcases List.mem_append.1 hq with hq | hq
     ·exact H64.out q hq
     ·rw [List.mem_singleton] at hq
      rw [hq]
      omega
    clear h64 H64
    go_wp2
    go_roundw
    case rel => exact ⟨k + 1, by omega, by go_num, by first | rfl | trivial, H64b⟩
    case measure => simp [intOf]; omega
  ·obtain rfl : k = n := by omega
   have H64b : Hid (∀ s ∈ ss, s.size ≤ 64) := hide (by
    have h := H64.out
    rw [← HN.out, List.take_length] at h
    exact h)
   clear H64
   go_upto_region 9 with fail
   go_cut [13, 14] from 57 to 64 (fun pv ev wx => ∃ m : Nat, m ≤ 200 ∧ k ≤ m ∧ pv = .pointer (some ⟨wr.heap.size, 0, none⟩) ∧ ev = .nilIface ∧ DiskO wx wr.heap.size wr.heap.size (newD m) ∧ Below wr.heap.size wr wx)
   case first =>
    rcases (by omega : k = 0 ∨ k = 1 ∨ 2 ≤ k) with h0 | h0 | h0
    ·subst h0
     go_wp2_with fail
     refine (new_ok wr 1 (by decide) (by decide)).mono ?_
     rintro e w3 ⟨rfl, hd3, hb3⟩
     have HD3 := hide hd3; have HB3 := hide hb3
     clear hd3 hb3
     go_wp2_with fail
     go_meet
     case rel => exact ⟨1, by decide, by decide, rfl, rfl, HD3.out, HB3.out⟩
    ·subst h0
     go_wp2_with fail
     refine (new_ok wr 1 (by decide) (by decide)).mono ?_
     rintro e w3 ⟨rfl, hd3, hb3⟩
     have HD3 := hide hd3; have HB3 := hide hb3
     clear hd3 hb3
     go_wp2_with fail
     go_meet
     case rel => exact ⟨1, by decide, by decide, rfl, rfl, HD3.out, HB3.out⟩
    ·have gm1 : ¬ (k : Int) ≤ 1 := by omega
     have gm4 : ¬ k ≤ 1 := by omega
     go_wp2_with fail
     refine (new_ok wr k (by omega) (by omega)).mono ?_
     rintro e w3 ⟨rfl, hd3, hb3⟩
     have HD3 := hide hd3; have HB3 := hide hb3
     clear hd3 hb3
     go_wp2_with fail
     go_meet
     case rel => exact ⟨k, by omega, Nat.le_refl _, rfl, rfl, HD3.out, HB3.out⟩
   case rest =>
    obtain ⟨m, hm, hkm, rfl, rfl, hd3, hb3⟩ := hcut
    have HD3 := hide hd3; have HB3 := hide (HB2.out.trans (hb3.mono HB2.out.size))
    have HWB := hide hb3.size
    obtain ⟨B, hB⟩ : ∃ B, wr.heap.size = B := ⟨_, rfl⟩
    have HWS := hide (show w.heap.size ≤ B from hB ▸ HB2.out.size)
    rw [hB] at HD3 HWB ⊢
    clear hd3 hb3 hB
    go_upto_block 2 with fail
    go_cut [10, 15] from 70 to 84 (fun _ _ wx => ∃ (E : Dsk) (kw : Nat), Below w.heap.size w wx ∧ B ≤ wx.heap.size ∧ DiskO wx B B E ∧ Well E m kw ∧ kw ≤ 300 ∧ Free E)
    case first =>
     go_wp2_with fail
     go_loopw [15] (fun ix wr => ∃ (j : Nat) (E : Dsk), j ≤ k ∧ ix = .int .i64 j ∧ Hid (Below w.heap.size w wr) ∧ Hid (B ≤ wr.heap.size) ∧ Hid (DiskO wr B B E) ∧ Hid (Well E m j) ∧ Hid (Free E)) (fun ix _ => k - (intOf ix).toNat)
     case atStart => exact ⟨0, newD m, Nat.zero_le _, rfl, HB3, HWB, HD3, hide (newD_well m), hide (newD_free m)⟩
     case round =>
      clear HB3 HWB HD3
      obtain ⟨j, E, hj, rfl, HB, HW, HD, HWE, HF⟩ := hrel
      by_cases hjl : j < k
      ·have hjb : j < ss.length := by rw [HN.out]; exact hjl
       obtain ⟨s, hsj⟩ : ∃ s, ss[j]? = some s := ⟨_, List.getElem?_eq_getElem hjb⟩
       obtain ⟨_, _, e, -, hh⟩ := HS.out.below HB.out
       rw [HN.out] at e
       simp only [Value.slice.injEq, true_and] at e
       obtain ⟨rfl, rfl⟩ := e
       obtain ⟨b, off, rfl, hlt, hc⟩ := hh (by omega)
       have cs := hc j s hsj
       have hs64 := H64b.out s (List.mem_of_getElem? hsj)
       clear hh hc hsj hjb
       have hpe : putErr E (j : Int) s = .nilIface := by
        unfold putErr stepErr
        rw [if_pos ⟨by omega, by rw [HWE.out.len]; omega⟩, if_pos hs64, if_pos HF.out.steps]
       have hput := put_any wr B B E m j (j : Int) s HD.out HWE.out (by omega) hm (by omega) HW.out
       rw [hpe] at hput
       have HP := hide hput
       clear hput hpe
       go_wp2_with fail
       refine HP.out.mono ?_
       rintro e w5 ⟨rfl, hd5, hk5⟩
       have HB5 := hide (HB.out.trans ((hk5.below HW.out).mono HWS.out)); have HW5 := hide (Nat.le_trans HW.out hk5.size); have HD5 := hide hd5
       have HWE5 := hide (HWE.out.put (j : Int) s); have HF5 := hide (HF.out.put (j : Int) s)
       clear hd5 hk5 HP
       go_wp2_with fail
       go_roundw
       case rel => exact ⟨j + 1, _, by omega, by go_num, HB5, HW5, HD5, HWE5, HF5⟩
       case measure => simp [intOf]; omega
      ·go_wp2_with fail
       go_meet
       case rel => exact ⟨E, j, HB.out, HW.out, HD.out, HWE.out, by omega, HF.out⟩
    case rest =>
     obtain ⟨E, kw, h1, h2, h3, h4, h5, h6⟩ := hcut
     apply_assumption
     exact walSays_C w _ ao acap B B m kw fr0 mn0 first E al HAL.out HLT.out.2 HLT.out.1 h1 HWS.out h2 hm hfr hmn (by omega) h3 h4 h5 h6

end Go.Proofs.Ytlkenhfhnpohhaa
