/- TopDisk: what was flushed is there behind any fall; of the others just what is kept. -/
import Derived.Test.YtlgclghddkamcaaDkO
import Derived.Test.YtlgclghddkamcaaActA
namespace Go.Proofs.Ytlgclghddkamcaa
open Go.RowKit

theorem newD_flush (n : Nat) (keep : Int) : (newD n).stepped.settled keep = newD n := by
  rw [(newD_quiet n).stepped]
  simp [Dsk.settled, newD, sec0_settled]

set_option linter.unusedSimpArgs false in
set_option maxRecDepth 100000 in
set_option maxHeartbeats 6400000 in
theorem topDisk_any (w : World) (vl vm : Value) (la ma : List (Int × ByteArray)) (keep : Int) (hl : ActsAt w vl la) (hm : ActsAt w vm ma) (hk0 : 0 ≤ keep) (hk1 : keep < 18446744073709551616) :
    Calls Try.prog 5 #[vl, vm, .int .u64 keep] w fun e w' => e = .returned (.bool true) ∧ Below w.heap.size w w' := by
  have HL := hide hl; have HMO := hide hm
  obtain ⟨lo, lcap, rfl, hln, -⟩ := hl
  obtain ⟨mo, mcap, rfl, hmn, -⟩ := hm
  go_enter Try.func5, Try.ntmps5
  go_wp2_with fail
  refine (new_ok w 4 (by decide) (by decide)).mono ?_
  rintro e w1 ⟨rfl, hd1, hb1⟩
  have HD1 := hide hd1; have HB1 := hide hb1
  have hlt1 : w.heap.size < w1.heap.size := by obtain ⟨sv, ls, h⟩ := hd1; exact h.lt
  clear hd1 hb1
  go_wp2_with fail
  refine (flush_ok w1 w.heap.size w.heap.size (newD 4) HD1.out (by simp [newD]) (newD_quiet 4).steps).mono ?_
  rintro e w2 ⟨rfl, hd2, hk2⟩
  rw [newD_flush] at hd2
  have HD2 := hide hd2; have HK2 := hide hk2
  clear hd2 hk2 HD1
  go_wp2_with fail
  refine (sectors_any w2 w.heap.size w.heap.size (newD 4) HD2.out).mono ?_
  rintro e w3 ⟨rfl, hb3⟩
  have HD3 : Hid (DiskO w3 w.heap.size w.heap.size (newD 4)) := by obtain ⟨sv, ls, h⟩ := HD2.out; exact ⟨sv, ls, h.later hb3⟩
  have HB3 := hide (HB1.out.trans ((HK2.out.below (Nat.le_of_lt hlt1)).trans (hb3.mono (by have := HK2.out.size; omega))))
  have hlt3 : w.heap.size < w3.heap.size := by have := HK2.out.size; have := hb3.size; omega
  have e4 : ((newD 4).secs.length : Int) = 4 := by simp [newD]
  rw [e4]
  clear hb3 HD2 HK2 HB1 hlt1 e4
  go_wp2_with fail
  refine (lightActs_any w3 _ la 40 (HL.out.below HB3.out (Nat.le_refl _)) (by decide)).mono ?_
  rintro e w4 ⟨b1, rfl, hb1, hbl4⟩
  have HB4 := hide (HB3.out.trans (hbl4.mono HB3.out.size))
  have HD4 : Hid (DiskO w4 w.heap.size w.heap.size (newD 4)) := by obtain ⟨sv, ls, h⟩ := HD3.out; exact ⟨sv, ls, h.later hbl4⟩
  have hlt4 : w.heap.size < w4.heap.size := Nat.lt_of_lt_of_le hlt3 hbl4.size
  clear hbl4 HD3 HB3 hlt3
  cases b1 with
  | false =>
    go_wp2
    go_ret
    exact ⟨rfl, HB4.out⟩
  | true =>
    obtain ⟨hl40, hl100⟩ := hb1 rfl
    have HL100 := hide hl100
    clear hb1 hl100
    go_wp2_with fail
    refine (lightActs_any w4 _ ma 60 (HMO.out.below HB4.out (Nat.le_refl _)) (by decide)).mono ?_
    rintro e w5 ⟨b2, rfl, hb2, hbl5⟩
    have HB5 := hide (HB4.out.trans (hbl5.mono HB4.out.size))
    have HD5 : Hid (DiskO w5 w.heap.size w.heap.size (newD 4)) := by obtain ⟨sv, ls, h⟩ := HD4.out; exact ⟨sv, ls, h.later hbl5⟩
    have hlt5 : w.heap.size < w5.heap.size := Nat.lt_of_lt_of_le hlt4 hbl5.size
    clear hbl5 HD4 HB4 hlt4
    cases b2 with
    | false =>
      go_wp2
      go_ret
      exact ⟨rfl, HB5.out⟩
    | true =>
      obtain ⟨hm60, hm100⟩ := hb2 rfl
      have HM100 := hide hm100
      clear hb2 hm100
      go_wp2
      go_loopw [9] (fun x wr => ∃ (k : Nat) (D : Dsk), k ≤ la.length ∧ x = .int .i64 k ∧ Hid (DiskO wr w.heap.size w.heap.size D) ∧ Hid (Quiet D 4 k) ∧ Hid (Kept w.heap.size w5 wr)) (fun x _ => la.length - (intOf x).toNat)
      case atStart => exact ⟨0, newD 4, Nat.zero_le _, rfl, HD5, hide (newD_quiet 4), hide (Kept.refl _ _)⟩
      case round =>
        obtain ⟨k, D, hk, rfl, HD, HQ, HK⟩ := hrel
        have HBW := hide (HB5.out.trans (HK.out.below (Nat.le_of_lt hlt5)))
        have HBS : Hid (w.heap.size ≤ wr.drew.heap.size) := by have := HK.out.size; show _ ≤ wr.heap.size; omega
        by_cases hkl : k < la.length
        · obtain ⟨ao, acap, e, -, hc⟩ := HL.out.below HBW.out (Nat.le_refl _)
          simp only [Value.slice.injEq, true_and] at e
          obtain ⟨rfl, rfl⟩ := e
          obtain ⟨ab, aoff, rfl, hablt, hc⟩ := hc (by omega)
          obtain ⟨c1, c2, -, -⟩ := hc k la[k] (List.getElem?_eq_getElem hkl)
          have hsz := HL100.out la[k] (List.getElem_mem hkl)
          generalize la[k] = p at *
          obtain ⟨pa, ps⟩ := p
          simp only at c1 c2 hsz
          clear hc
          go_wp2_with fail
          refine upto_start (S := (fun w' => w'.cell? ⟨ab, aoff + k * 9 + 1, none⟩ = some (.int .i64 pa) ∧ w'.cell? ⟨ab, aoff + k * 9 + 2, none⟩ = some (.string ps))) (k := 11) (by kernel_rfl) (by exact ⟨c1, c2⟩) (fun hHeld => ?_)
          refine upto_run (v := ?_) 0 55 [11] rfl rfl (by kernel_rfl) (by kernel_rfl) (by kernel_rfl) (by kernel_rfl) (by kernel_rfl) (fun _ _ _ h => h) (by rfl) ?_ (by assumption) ?_
          rotate_left
          · (intro w hSw; (try dsimp only at hSw); obtain ⟨hS1, hS2⟩ := hSw; go_simp; with_reducible rfl)
          simp only [Act.put, List.setIfInBounds_toArray, List.set_cons_zero, List.set_cons_succ]
          refine upto_run (v := ?_) 1 56 [3, 4, 5, 11] rfl rfl (by kernel_rfl) (by kernel_rfl) (by kernel_rfl) (by kernel_rfl) (by kernel_rfl) (fun _ _ _ h => h) (by rfl) ?_ (by assumption) ?_
          rotate_left
          · (intro w hSw; (try dsimp only at hSw); obtain ⟨hS1, hS2⟩ := hSw; go_simp; with_reducible rfl)
          simp only [Act.put, List.setIfInBounds_toArray, List.set_cons_zero, List.set_cons_succ]
          refine upto_run (v := ?_) 2 57 [3, 4, 5, 11] rfl rfl (by kernel_rfl) (by kernel_rfl) (by kernel_rfl) (by kernel_rfl) (by kernel_rfl) (fun _ _ _ h => h) (by rfl) ?_ (by assumption) ?_
          rotate_left
          · (intro w hSw; (try dsimp only at hSw); obtain ⟨hS1, hS2⟩ := hSw; go_simp; with_reducible rfl)
          simp only [Act.put, List.setIfInBounds_toArray, List.set_cons_zero, List.set_cons_succ]
          refine upto_run (v := ?_) 3 58 [4, 5, 11] rfl rfl (by kernel_rfl) (by kernel_rfl) (by kernel_rfl) (by kernel_rfl) (by kernel_rfl) (fun _ _ _ h => h) (by rfl) ?_ (by assumption) ?_
          rotate_left
          · (intro w hSw; (try dsimp only at hSw); obtain ⟨hS1, hS2⟩ := hSw; go_simp; with_reducible rfl)
          simp only [Act.put, List.setIfInBounds_toArray, List.set_cons_zero, List.set_cons_succ]
          refine upto_run (v := ?_) 4 59 [5, 11] rfl rfl (by kernel_rfl) (by kernel_rfl) (by kernel_rfl) (by kernel_rfl) (by kernel_rfl) (fun _ _ _ h => h) (by rfl) ?_ (by assumption) ?_
          rotate_left
          · (intro w hSw; (try dsimp only at hSw); obtain ⟨hS1, hS2⟩ := hSw; go_simp; with_reducible rfl)
          simp only [Act.put, List.setIfInBounds_toArray, List.set_cons_zero, List.set_cons_succ]
          refine upto_run (v := ?_) 5 60 [11] rfl rfl (by kernel_rfl) (by kernel_rfl) (by kernel_rfl) (by kernel_rfl) (by kernel_rfl) (fun _ _ _ h => h) (by rfl) ?_ (by assumption) ?_
          rotate_left
          · (intro w hSw; (try dsimp only at hSw); obtain ⟨hS1, hS2⟩ := hSw; go_simp; with_reducible rfl)
          simp only [Act.put, List.setIfInBounds_toArray, List.set_cons_zero, List.set_cons_succ]
          refine upto_run (v := ?_) 6 61 [8, 9, 10, 11] rfl rfl (by kernel_rfl) (by kernel_rfl) (by kernel_rfl) (by kernel_rfl) (by kernel_rfl) (fun _ _ _ h => h) (by rfl) ?_ (by assumption) ?_
          rotate_left
          · (intro w hSw; (try dsimp only at hSw); obtain ⟨hS1, hS2⟩ := hSw; go_simp; with_reducible rfl)
          simp only [Act.put, List.setIfInBounds_toArray, List.set_cons_zero, List.set_cons_succ]
          refine upto_run (v := ?_) 7 62 [8, 9, 10, 11] rfl rfl (by kernel_rfl) (by kernel_rfl) (by kernel_rfl) (by kernel_rfl) (by kernel_rfl) (fun _ _ _ h => h) (by rfl) ?_ (by assumption) ?_
          rotate_left
          · (intro w hSw; (try dsimp only at hSw); obtain ⟨hS1, hS2⟩ := hSw; go_simp; with_reducible rfl)
          simp only [Act.put, List.setIfInBounds_toArray, List.set_cons_zero, List.set_cons_succ]
          refine upto_run (v := ?_) 8 63 [9, 10, 11] rfl rfl (by kernel_rfl) (by kernel_rfl) (by kernel_rfl) (by kernel_rfl) (by kernel_rfl) (fun _ _ _ h => h) (by rfl) ?_ (by assumption) ?_
          rotate_left
          · (intro w hSw; (try dsimp only at hSw); obtain ⟨hS1, hS2⟩ := hSw; go_simp; with_reducible rfl)
          simp only [Act.put, List.setIfInBounds_toArray, List.set_cons_zero, List.set_cons_succ]
          refine upto_run (v := ?_) 9 64 [10, 11] rfl rfl (by kernel_rfl) (by kernel_rfl) (by kernel_rfl) (by kernel_rfl) (by kernel_rfl) (fun _ _ _ h => h) (by rfl) ?_ (by assumption) ?_
          rotate_left
          · (intro w hSw; (try dsimp only at hSw); obtain ⟨hS1, hS2⟩ := hSw; go_simp; with_reducible rfl)
          simp only [Act.put, List.setIfInBounds_toArray, List.set_cons_zero, List.set_cons_succ]
          refine upto_run (v := ?_) 10 65 [11] rfl rfl (by kernel_rfl) (by kernel_rfl) (by kernel_rfl) (by kernel_rfl) (by kernel_rfl) (fun _ _ _ h => h) (by rfl) ?_ (by assumption) ?_
          rotate_left
          · (intro w hSw; (try dsimp only at hSw); obtain ⟨hS1, hS2⟩ := hSw; go_simp; with_reducible rfl)
          simp only [Act.put, List.setIfInBounds_toArray, List.set_cons_zero, List.set_cons_succ]
          refine upto_one 11 (by kernel_rfl) rfl (fun K hK => ?_)
          go_simp
          refine (write_any wr.drew w.heap.size w.heap.size D 4 k pa ps (by obtain ⟨sv, ls, h⟩ := HD.out; exact ⟨sv, ls, h.later (Below.refl _ _).drew⟩) HQ.out (by omega) (by decide) (by omega) HBS.out).mono ?_
          rintro e w2 ⟨rfl, hd2, hk2⟩
          have HD2 := hide hd2; have HK2 := hide (HK.out.trans ((Kept.of_below (Below.refl _ _).drew).trans hk2)); have HQ2 := hide (HQ.out.write (by omega) pa ps)
          go_wp2_with fail
          refine hK.out _ _ (fun h => absurd h (by decide)) ?_
          clear hK K
          try simp only [Act.put, List.setIfInBounds_toArray, List.set_cons_zero, List.set_cons_succ]
          refine upto_done (by kernel_rfl) ?_
          clear hd2 hk2 c1 c2 hHeld HD HQ HK HBS HBW
          go_wp2
          go_roundw
          case rel => exact ⟨k + 1, _, by omega, by go_num, HD2, HQ2, HK2⟩
          case measure => simp [intOf]; omega
        · obtain rfl : k = la.length := by omega
          go_wp2_with fail
          refine (flush_ok wr w.heap.size w.heap.size D HD.out (by rw [HQ.out.len]; decide) HQ.out.steps).mono ?_
          rintro e w6 ⟨rfl, hd6, hk6⟩
          rw [HQ.out.stepped] at hd6
          have HB6 := hide (HBW.out.trans (hk6.below (by have := HBS.out; exact this)))
          have HQ6 := hide (settled_quiet HQ.out 18446744073709551615)
          have HC6 := hide (settled_clean D 18446744073709551615)
          generalize D.settled 18446744073709551615 = E at *
          have hlt6 : w.heap.size < w6.heap.size := by obtain ⟨sv, ls, h⟩ := hd6; exact h.lt
          have HN6 := hide ((Below.refl w6.heap.size w6).alloc (Nat.le_refl _) (.cells #[.string ⟨#[]⟩, .string ⟨#[]⟩, .string ⟨#[]⟩, .string ⟨#[]⟩] 66))
          have HD6 := hide (hd6.later HN6.out)
          have HB7 := hide (HB6.out.trans (HN6.out.mono (Nat.le_of_lt hlt6)))
          have HW6 : Hid (WantB (w6.alloc (.cells #[.string ⟨#[]⟩, .string ⟨#[]⟩, .string ⟨#[]⟩, .string ⟨#[]⟩] 66)) w6.heap.size [⟨#[]⟩, ⟨#[]⟩, ⟨#[]⟩, ⟨#[]⟩]) := ⟨heap_alloc_new w6 _, rfl⟩
          clear hd6 hk6 HD HQ HK HBW HBS HB6 HN6 HD5 HB5 HL100
          go_wp2
          generalize w6.alloc (.cells #[.string ⟨#[]⟩, .string ⟨#[]⟩, .string ⟨#[]⟩, .string ⟨#[]⟩] 66) = w7 at *
          have HWB : Hid (w.heap.size ≤ w6.heap.size) := Nat.le_of_lt hlt6
          generalize w6.heap.size = WB at *
          go_loopw [11] (fun x wr => ∃ (k : Nat) (ws : List ByteArray), k ≤ 4 ∧ x = .int .i64 k ∧ Hid (DiskO wr w.heap.size w.heap.size E) ∧ Hid (WantB wr WB ws) ∧ Hid (∀ j s, j < k → E.secs[j]? = some s → ws[j]? = some (⟨s.seen.toArray⟩ : ByteArray)) ∧ Hid (Below w.heap.size w wr)) (fun x _ => 4 - (intOf x).toNat)
          case atStart => exact ⟨0, _, Nat.zero_le _, rfl, HD6, HW6, hide (fun j s h => absurd h (by omega)), HB7⟩
          case round =>
            clear HD6 HW6 HB7
            obtain ⟨k, ws, hk, rfl, HD, HW, HA, HB⟩ := hrel
            by_cases hkl : k < 4
            · have hge : E.secs[k]? = some (E.secs[k]'(by rw [HQ6.out.len]; exact hkl)) := List.getElem?_eq_getElem _
              generalize E.secs[k]'(by rw [HQ6.out.len]; exact hkl) = s at *
              have HGE := hide hge
              clear hge
              go_wp2_with fail
              refine (read_ok wr w.heap.size w.heap.size E k s HD.out HQ6.out.down HGE.out (by rw [HQ6.out.len]; decide)).mono ?_
              rintro e w8 ⟨rfl, hb8⟩
              have HD8 := hide (HD.out.later hb8)
              have HW8 := hide (HW.out.later hb8)
              have HB8 := hide (HB.out.trans (hb8.mono HB.out.size))
              clear hb8 HD HW HB
              obtain ⟨tk, hws⟩ : ∃ tk, ws[k]? = some tk := ⟨_, List.getElem?_eq_getElem (by rw [HW8.out.2]; exact hkl)⟩
              have cw := HW8.out.cell k _ hws
              have fw := HW8.out.thaw k
              have HD9 := hide (HW8.out.disk HD8.out k ⟨s.seen.toArray⟩)
              have HW9 := hide (HW8.out.set k ⟨s.seen.toArray⟩)
              have HB9 := hide (HB8.out.setCell (p := ⟨WB, k, none⟩) HWB.out (.string ⟨s.seen.toArray⟩))
              have HA9 : Hid (∀ j s', j < k + 1 → E.secs[j]? = some s' → (ws.set k ⟨s.seen.toArray⟩)[j]? = some (⟨s'.seen.toArray⟩ : ByteArray)) := fun j s' hj hs' => by
                rw [List.getElem?_set]
                by_cases e : k = j
                · subst e
                  rw [if_pos rfl, if_pos (by rw [HW8.out.2]; exact hkl)]
                  rw [HGE.out] at hs'
                  rw [← Option.some.inj hs']
                · rw [if_neg e]
                  exact HA.out j s' (by omega) hs'
              clear hws HD8 HW8 HB8 HA
              go_wp2
              go_roundw
              case rel => exact ⟨k + 1, _, by omega, by go_num, HD9, HW9, HA9, HB9⟩
              case measure => simp [intOf]; omega
            · obtain rfl : k = 4 := by omega
              rw [show ((4 : Nat) : Int) = 4 from rfl]
              have HWA : Hid (Wanted keep E ws) := fun j s hs => by
                have hj : j < 4 := by have := (List.getElem?_eq_some_iff.1 hs).1; rw [HQ6.out.len] at this; exact this
                rw [← clean_seen keep (HC6.out s (List.mem_of_getElem? hs))]
                exact HA.out j s hj hs
              clear HA HC6
              go_wp2
              go_loopw [14, 15] (fun y x wr => ∃ (k : Nat) (D : Dsk) (ws : List ByteArray), k ≤ ma.length ∧ x = .int .i64 k ∧ y = .int .i64 (D.number : Int) ∧ Hid (DiskO wr w.heap.size w.heap.size D) ∧ Hid (Quiet D 4 k) ∧ Hid (WantB wr WB ws) ∧ Hid (Wanted keep D ws) ∧ Hid (Below w.heap.size w wr)) (fun _ x _ => ma.length - (intOf x).toNat)
              case atStart => exact ⟨0, E, ws, Nat.zero_le _, rfl, by have := HQ6.out.num; rw [show E.number = 0 by omega]; rfl, HD, HQ6, HW, HWA, HB⟩
              case round =>
                clear HD HQ6 HW HWA HB
                clear ws
                obtain ⟨k, D, ws, hk, rfl, rfl, HD, HQ, HW, HWA, HB⟩ := hrel
                by_cases hkl : k < ma.length
                · obtain ⟨ao, acap, e, -, hc⟩ := HMO.out.below HB.out (Nat.le_refl _)
                  simp only [Value.slice.injEq, true_and] at e
                  obtain ⟨rfl, rfl⟩ := e
                  obtain ⟨ab, aoff, rfl, hablt, hc⟩ := hc (by omega)
                  obtain ⟨c1, c2, -, -⟩ := hc k ma[k] (List.getElem?_eq_getElem hkl)
                  have HAT : Hid (ab < w.heap.size ∧ w.cell? ⟨ab, aoff + k * 9 + 1, none⟩ = some (.int .i64 ma[k].1)) := by
                    obtain ⟨ao, acap, e, -, hc⟩ := HMO.out
                    simp only [Value.slice.injEq, true_and] at e
                    obtain ⟨rfl, rfl⟩ := e
                    obtain ⟨ab', aoff', e, hl', hc⟩ := hc (by omega)
                    simp only [Option.some.injEq, Addr.mk.injEq, and_true] at e
                    obtain ⟨rfl, rfl⟩ := e
                    exact ⟨hl', (hc k ma[k] (List.getElem?_eq_getElem hkl)).1⟩
                  have hsz := HM100.out ma[k] (List.getElem_mem hkl)
                  generalize ma[k] = p at *
                  obtain ⟨pa, ps⟩ := p
                  simp only at c1 c2 hsz HAT
                  clear hc
                  have HBS : Hid (w.heap.size ≤ wr.drew.heap.size) := HB.out.size
                  have hn60 : D.number ≤ 60 := by have := HQ.out.num; omega
                  by_cases hr : (0 ≤ pa ∧ pa < D.secs.length) ∧ ps.size ≤ 64
                  · obtain ⟨i, rfl⟩ := Int.eq_ofNat_of_zero_le hr.1.1
                    have hi : i < D.secs.length := by omega
                    have HER : Hid (writeErr D (i : Int) ps = .nilIface) := by show _ = _; unfold writeErr; rw [if_pos hr.1, if_pos hr.2]
                    have hge : D.secs[i]? = some D.secs[i] := List.getElem?_eq_getElem hi
                    have HWD : Hid (writeD D (i : Int) ps = D.wrote i D.secs[i] ps.data.toList) := by
                      show _ = _
                      unfold writeD
                      rw [if_pos hr, Int.toNat_natCast, List.getD_eq_getElem?_getD, hge]; rfl
                    generalize D.secs[i] = s at *
                    have HGE := hide hge
                    have hi4 : i < 4 := by rw [HQ.out.len] at hi; exact hi
                    clear hr hge
                    go_wp2_with fail
                    refine upto_start (S := (fun w' => w'.cell? ⟨ab, aoff + k * 9 + 1, none⟩ = some (.int .i64 (i : Int)) ∧ w'.cell? ⟨ab, aoff + k * 9 + 2, none⟩ = some (.string ps))) (k := 11) (by kernel_rfl) (by exact ⟨c1, c2⟩) (fun hHeld => ?_)
                    refine upto_run (v := ?_) 0 91 [11, 12] rfl rfl (by kernel_rfl) (by kernel_rfl) (by kernel_rfl) (by kernel_rfl) (by kernel_rfl) (fun _ _ _ h => h) (by rfl) ?_ (by assumption) ?_
                    rotate_left
                    · (intro w hSw; (try dsimp only at hSw); obtain ⟨hS1, hS2⟩ := hSw; go_simp; with_reducible rfl)
                    simp only [Act.put, List.setIfInBounds_toArray, List.set_cons_zero, List.set_cons_succ]
                    refine upto_run (v := ?_) 1 92 [3, 4, 5, 11, 12] rfl rfl (by kernel_rfl) (by kernel_rfl) (by kernel_rfl) (by kernel_rfl) (by kernel_rfl) (fun _ _ _ h => h) (by rfl) ?_ (by assumption) ?_
                    rotate_left
                    · (intro w hSw; (try dsimp only at hSw); obtain ⟨hS1, hS2⟩ := hSw; go_simp; with_reducible rfl)
                    simp only [Act.put, List.setIfInBounds_toArray, List.set_cons_zero, List.set_cons_succ]
                    refine upto_run (v := ?_) 2 93 [3, 4, 5, 11, 12] rfl rfl (by kernel_rfl) (by kernel_rfl) (by kernel_rfl) (by kernel_rfl) (by kernel_rfl) (fun _ _ _ h => h) (by rfl) ?_ (by assumption) ?_
                    rotate_left
                    · (intro w hSw; (try dsimp only at hSw); obtain ⟨hS1, hS2⟩ := hSw; go_simp; with_reducible rfl)
                    simp only [Act.put, List.setIfInBounds_toArray, List.set_cons_zero, List.set_cons_succ]
                    refine upto_run (v := ?_) 3 94 [4, 5, 11, 12] rfl rfl (by kernel_rfl) (by kernel_rfl) (by kernel_rfl) (by kernel_rfl) (by kernel_rfl) (fun _ _ _ h => h) (by rfl) ?_ (by assumption) ?_
                    rotate_left
                    · (intro w hSw; (try dsimp only at hSw); obtain ⟨hS1, hS2⟩ := hSw; go_simp; with_reducible rfl)
                    simp only [Act.put, List.setIfInBounds_toArray, List.set_cons_zero, List.set_cons_succ]
                    refine upto_run (v := ?_) 4 95 [5, 11, 12] rfl rfl (by kernel_rfl) (by kernel_rfl) (by kernel_rfl) (by kernel_rfl) (by kernel_rfl) (fun _ _ _ h => h) (by rfl) ?_ (by assumption) ?_
                    rotate_left
                    · (intro w hSw; (try dsimp only at hSw); obtain ⟨hS1, hS2⟩ := hSw; go_simp; with_reducible rfl)
                    simp only [Act.put, List.setIfInBounds_toArray, List.set_cons_zero, List.set_cons_succ]
                    refine upto_run (v := ?_) 5 96 [11, 12] rfl rfl (by kernel_rfl) (by kernel_rfl) (by kernel_rfl) (by kernel_rfl) (by kernel_rfl) (fun _ _ _ h => h) (by rfl) ?_ (by assumption) ?_
                    rotate_left
                    · (intro w hSw; (try dsimp only at hSw); obtain ⟨hS1, hS2⟩ := hSw; go_simp; with_reducible rfl)
                    simp only [Act.put, List.setIfInBounds_toArray, List.set_cons_zero, List.set_cons_succ]
                    refine upto_run (v := ?_) 6 97 [8, 9, 10, 11, 12] rfl rfl (by kernel_rfl) (by kernel_rfl) (by kernel_rfl) (by kernel_rfl) (by kernel_rfl) (fun _ _ _ h => h) (by rfl) ?_ (by assumption) ?_
                    rotate_left
                    · (intro w hSw; (try dsimp only at hSw); obtain ⟨hS1, hS2⟩ := hSw; go_simp; with_reducible rfl)
                    simp only [Act.put, List.setIfInBounds_toArray, List.set_cons_zero, List.set_cons_succ]
                    refine upto_run (v := ?_) 7 98 [8, 9, 10, 11, 12] rfl rfl (by kernel_rfl) (by kernel_rfl) (by kernel_rfl) (by kernel_rfl) (by kernel_rfl) (fun _ _ _ h => h) (by rfl) ?_ (by assumption) ?_
                    rotate_left
                    · (intro w hSw; (try dsimp only at hSw); obtain ⟨hS1, hS2⟩ := hSw; go_simp; with_reducible rfl)
                    simp only [Act.put, List.setIfInBounds_toArray, List.set_cons_zero, List.set_cons_succ]
                    refine upto_run (v := ?_) 8 99 [9, 10, 11, 12] rfl rfl (by kernel_rfl) (by kernel_rfl) (by kernel_rfl) (by kernel_rfl) (by kernel_rfl) (fun _ _ _ h => h) (by rfl) ?_ (by assumption) ?_
                    rotate_left
                    · (intro w hSw; (try dsimp only at hSw); obtain ⟨hS1, hS2⟩ := hSw; go_simp; with_reducible rfl)
                    simp only [Act.put, List.setIfInBounds_toArray, List.set_cons_zero, List.set_cons_succ]
                    refine upto_run (v := ?_) 9 100 [10, 11, 12] rfl rfl (by kernel_rfl) (by kernel_rfl) (by kernel_rfl) (by kernel_rfl) (by kernel_rfl) (fun _ _ _ h => h) (by rfl) ?_ (by assumption) ?_
                    rotate_left
                    · (intro w hSw; (try dsimp only at hSw); obtain ⟨hS1, hS2⟩ := hSw; go_simp; with_reducible rfl)
                    simp only [Act.put, List.setIfInBounds_toArray, List.set_cons_zero, List.set_cons_succ]
                    refine upto_run (v := ?_) 10 101 [11, 12] rfl rfl (by kernel_rfl) (by kernel_rfl) (by kernel_rfl) (by kernel_rfl) (by kernel_rfl) (fun _ _ _ h => h) (by rfl) ?_ (by assumption) ?_
                    rotate_left
                    · (intro w hSw; (try dsimp only at hSw); obtain ⟨hS1, hS2⟩ := hSw; go_simp; with_reducible rfl)
                    simp only [Act.put, List.setIfInBounds_toArray, List.set_cons_zero, List.set_cons_succ]
                    refine upto_one 11 (by kernel_rfl) rfl (fun K hK => ?_)
                    go_simp
                    refine (write_any wr.drew w.heap.size w.heap.size D 4 k (i : Int) ps (HD.out.later (Below.refl _ _).drew) HQ.out (by omega) (by decide) (by omega) HBS.out).mono ?_
                    rintro e w2 ⟨rfl, hd2, hk2⟩
                    rw [HER.out]
                    rw [HWD.out] at hd2
                    have hq2 := HQ.out.write (by omega) (i : Int) ps
                    rw [HWD.out] at hq2
                    have HD2 := hide hd2; have HQ2 := hide hq2; have hk3 : Kept w.heap.size wr w2 := (Kept.of_below (Below.refl _ _).drew).trans hk2
                    have HW2 := hide (HW.out.kept hk3); have HB2 := hide (HB.out.trans (hk3.below HB.out.size))
                    have hbz := hk3.size
                    clear hd2 hq2 hk2 hk3
                    go_wp2_with fail
                    refine hK.out _ _ (fun h => absurd h (by decide)) ?_
                    clear hK K
                    try simp only [Act.put, List.setIfInBounds_toArray, List.set_cons_zero, List.set_cons_succ]
                    refine upto_one 12 (by kernel_rfl) rfl (fun K hK => ?_)
                    go_simp
                    refine hK.out _ _ (fun h => absurd h (by decide)) ?_
                    clear hK K
                    try simp only [Act.put, List.setIfInBounds_toArray, List.set_cons_zero, List.set_cons_succ]
                    refine upto_done (by kernel_rfl) ?_
                    clear c1 c2 hHeld HD HQ HB HW HBS HER HWD
                    have HBI := hide (bit_kept keep D.number hk0 hk1 (by omega))
                    have HNU : Hid (((D.wrote i s ps.data.toList).number : Int) = (D.number : Int) + 1) := by
                      show (((D.number + 1) % 64 : Nat) : Int) = _
                      omega
                    have HSI : Hid ((D.wrote i s ps.data.toList).secs[i]? = some { s with loose := s.loose ++ [(((2 ^ D.number : Nat) : Int), padded ps.data.toList)] }) := by
                      show (D.secs.set i _)[i]? = _
                      rw [List.getElem?_set_self hi]
                    have HWL : Hid (ws.length = D.secs.length) := by show _ = _; rw [HW2.out.2]; have := HQ2.out.len; simp only [Dsk.wrote, List.length_set] at this; omega
                    by_cases hbit : (bits .and .u64 (keep / 2 ^ D.number) 1 == 1) = true
                    · have HWP := hide (HWA.out.put HWL.out i s HGE.out ps.data.toList (HBI.out.1 hbit))
                      have d1 := (HB2.out.cell (p := ⟨ab, aoff + k * 9 + 1, none⟩) HAT.out.1).trans HAT.out.2
                      go_wp2_with fail
                      refine (read_ok w2 w.heap.size w.heap.size (D.wrote i s ps.data.toList) i _ HD2.out HQ2.out.down HSI.out (by rw [HQ2.out.len]; decide)).mono ?_
                      rintro e w3 ⟨rfl, hb3⟩
                      rw [wrote_seen D s ps.data.toList]
                      have HD3 := hide (HD2.out.later hb3)
                      have HW3 := hide (HW2.out.later hb3)
                      have HB3 := hide (HB2.out.trans (hb3.mono HB2.out.size))
                      clear d1 hb3
                      have d1 := (HB3.out.cell (p := ⟨ab, aoff + k * 9 + 1, none⟩) HAT.out.1).trans HAT.out.2
                      obtain ⟨tk, hws⟩ : ∃ tk, ws[i]? = some tk := ⟨_, List.getElem?_eq_getElem (by rw [HW3.out.2]; exact hi4)⟩
                      have cw := HW3.out.cell i _ hws
                      have fw := HW3.out.thaw i
                      have HD4 := hide (HW3.out.disk HD3.out i ⟨(padded ps.data.toList).toArray⟩)
                      have HW4 := hide (HW3.out.set i ⟨(padded ps.data.toList).toArray⟩)
                      have HB4 := hide (HB3.out.setCell (p := ⟨WB, i, none⟩) HWB.out (.string ⟨(padded ps.data.toList).toArray⟩))
                      clear hws HD3 HW3 HB3 HD2 HW2 HB2 HBI HSI HWL HWA
                      go_wp2
                      go_roundw
                      case rel => exact ⟨k + 1, _, _, by omega, by go_num, by rw [HNU.out], HD4, HQ2, HW4, HWP, HB4⟩
                      case measure => simp [intOf]; omega
                    · have hbf : (bits .and .u64 (keep / 2 ^ D.number) 1 == 1) = false := by simpa using hbit
                      have HWP := hide (HWA.out.skip i s HGE.out ps.data.toList (Classical.byContradiction fun h => hbit (HBI.out.2 h)))
                      clear HBI HSI HWL HWA hbit
                      go_wp2
                      go_roundw
                      case rel => exact ⟨k + 1, _, _, by omega, by go_num, by rw [HNU.out], HD2, HQ2, HW2, HWP, HB2⟩
                      case measure => simp [intOf]; omega
                  · obtain ⟨z, hz⟩ := writeErr_some D pa ps hr
                    have HER := hide hz
                    have HWD : Hid (writeD D pa ps = D) := by show _ = _; unfold writeD; rw [if_neg hr]
                    clear hr hz
                    go_wp2_with fail
                    refine upto_start (S := (fun w' => w'.cell? ⟨ab, aoff + k * 9 + 1, none⟩ = some (.int .i64 pa) ∧ w'.cell? ⟨ab, aoff + k * 9 + 2, none⟩ = some (.string ps))) (k := 11) (by kernel_rfl) (by exact ⟨c1, c2⟩) (fun hHeld => ?_)
                    refine upto_run (v := ?_) 0 91 [11, 12] rfl rfl (by kernel_rfl) (by kernel_rfl) (by kernel_rfl) (by kernel_rfl) (by kernel_rfl) (fun _ _ _ h => h) (by rfl) ?_ (by assumption) ?_
                    rotate_left
                    · (intro w hSw; (try dsimp only at hSw); obtain ⟨hS1, hS2⟩ := hSw; go_simp; with_reducible rfl)
                    simp only [Act.put, List.setIfInBounds_toArray, List.set_cons_zero, List.set_cons_succ]
                    refine upto_run (v := ?_) 1 92 [3, 4, 5, 11, 12] rfl rfl (by kernel_rfl) (by kernel_rfl) (by kernel_rfl) (by kernel_rfl) (by kernel_rfl) (fun _ _ _ h => h) (by rfl) ?_ (by assumption) ?_
                    rotate_left
                    · (intro w hSw; (try dsimp only at hSw); obtain ⟨hS1, hS2⟩ := hSw; go_simp; with_reducible rfl)
                    simp only [Act.put, List.setIfInBounds_toArray, List.set_cons_zero, List.set_cons_succ]
                    refine upto_run (v := ?_) 2 93 [3, 4, 5, 11, 12] rfl rfl (by kernel_rfl) (by kernel_rfl) (by kernel_rfl) (by kernel_rfl) (by kernel_rfl) (fun _ _ _ h => h) (by rfl) ?_ (by assumption) ?_
                    rotate_left
                    · (intro w hSw; (try dsimp only at hSw); obtain ⟨hS1, hS2⟩ := hSw; go_simp; with_reducible rfl)
                    simp only [Act.put, List.setIfInBounds_toArray, List.set_cons_zero, List.set_cons_succ]
                    refine upto_run (v := ?_) 3 94 [4, 5, 11, 12] rfl rfl (by kernel_rfl) (by kernel_rfl) (by kernel_rfl) (by kernel_rfl) (by kernel_rfl) (fun _ _ _ h => h) (by rfl) ?_ (by assumption) ?_
                    rotate_left
                    · (intro w hSw; (try dsimp only at hSw); obtain ⟨hS1, hS2⟩ := hSw; go_simp; with_reducible rfl)
                    simp only [Act.put, List.setIfInBounds_toArray, List.set_cons_zero, List.set_cons_succ]
                    refine upto_run (v := ?_) 4 95 [5, 11, 12] rfl rfl (by kernel_rfl) (by kernel_rfl) (by kernel_rfl) (by kernel_rfl) (by kernel_rfl) (fun _ _ _ h => h) (by rfl) ?_ (by assumption) ?_
                    rotate_left
                    · (intro w hSw; (try dsimp only at hSw); obtain ⟨hS1, hS2⟩ := hSw; go_simp; with_reducible rfl)
                    simp only [Act.put, List.setIfInBounds_toArray, List.set_cons_zero, List.set_cons_succ]
                    refine upto_run (v := ?_) 5 96 [11, 12] rfl rfl (by kernel_rfl) (by kernel_rfl) (by kernel_rfl) (by kernel_rfl) (by kernel_rfl) (fun _ _ _ h => h) (by rfl) ?_ (by assumption) ?_
                    rotate_left
                    · (intro w hSw; (try dsimp only at hSw); obtain ⟨hS1, hS2⟩ := hSw; go_simp; with_reducible rfl)
                    simp only [Act.put, List.setIfInBounds_toArray, List.set_cons_zero, List.set_cons_succ]
                    refine upto_run (v := ?_) 6 97 [8, 9, 10, 11, 12] rfl rfl (by kernel_rfl) (by kernel_rfl) (by kernel_rfl) (by kernel_rfl) (by kernel_rfl) (fun _ _ _ h => h) (by rfl) ?_ (by assumption) ?_
                    rotate_left
                    · (intro w hSw; (try dsimp only at hSw); obtain ⟨hS1, hS2⟩ := hSw; go_simp; with_reducible rfl)
                    simp only [Act.put, List.setIfInBounds_toArray, List.set_cons_zero, List.set_cons_succ]
                    refine upto_run (v := ?_) 7 98 [8, 9, 10, 11, 12] rfl rfl (by kernel_rfl) (by kernel_rfl) (by kernel_rfl) (by kernel_rfl) (by kernel_rfl) (fun _ _ _ h => h) (by rfl) ?_ (by assumption) ?_
                    rotate_left
                    · (intro w hSw; (try dsimp only at hSw); obtain ⟨hS1, hS2⟩ := hSw; go_simp; with_reducible rfl)
                    simp only [Act.put, List.setIfInBounds_toArray, List.set_cons_zero, List.set_cons_succ]
                    refine upto_run (v := ?_) 8 99 [9, 10, 11, 12] rfl rfl (by kernel_rfl) (by kernel_rfl) (by kernel_rfl) (by kernel_rfl) (by kernel_rfl) (fun _ _ _ h => h) (by rfl) ?_ (by assumption) ?_
                    rotate_left
                    · (intro w hSw; (try dsimp only at hSw); obtain ⟨hS1, hS2⟩ := hSw; go_simp; with_reducible rfl)
                    simp only [Act.put, List.setIfInBounds_toArray, List.set_cons_zero, List.set_cons_succ]
                    refine upto_run (v := ?_) 9 100 [10, 11, 12] rfl rfl (by kernel_rfl) (by kernel_rfl) (by kernel_rfl) (by kernel_rfl) (by kernel_rfl) (fun _ _ _ h => h) (by rfl) ?_ (by assumption) ?_
                    rotate_left
                    · (intro w hSw; (try dsimp only at hSw); obtain ⟨hS1, hS2⟩ := hSw; go_simp; with_reducible rfl)
                    simp only [Act.put, List.setIfInBounds_toArray, List.set_cons_zero, List.set_cons_succ]
                    refine upto_run (v := ?_) 10 101 [11, 12] rfl rfl (by kernel_rfl) (by kernel_rfl) (by kernel_rfl) (by kernel_rfl) (by kernel_rfl) (fun _ _ _ h => h) (by rfl) ?_ (by assumption) ?_
                    rotate_left
                    · (intro w hSw; (try dsimp only at hSw); obtain ⟨hS1, hS2⟩ := hSw; go_simp; with_reducible rfl)
                    simp only [Act.put, List.setIfInBounds_toArray, List.set_cons_zero, List.set_cons_succ]
                    refine upto_one 11 (by kernel_rfl) rfl (fun K hK => ?_)
                    go_simp
                    refine (write_any wr.drew w.heap.size w.heap.size D 4 k pa ps (HD.out.later (Below.refl _ _).drew) HQ.out (by omega) (by decide) (by omega) HBS.out).mono ?_
                    rintro e w2 ⟨rfl, hd2, hk2⟩
                    rw [HER.out]
                    rw [HWD.out] at hd2
                    have hq2 := HQ.out.write (by omega) pa ps
                    rw [HWD.out] at hq2
                    have HD2 := hide hd2; have HQ2 := hide hq2; have hk3 : Kept w.heap.size wr w2 := (Kept.of_below (Below.refl _ _).drew).trans hk2
                    have HW2 := hide (HW.out.kept hk3); have HB2 := hide (HB.out.trans (hk3.below HB.out.size))
                    have hbz := hk3.size
                    clear hd2 hq2 hk2 hk3
                    go_wp2_with fail
                    refine hK.out _ _ (fun h => absurd h (by decide)) ?_
                    clear hK K
                    try simp only [Act.put, List.setIfInBounds_toArray, List.set_cons_zero, List.set_cons_succ]
                    refine upto_one 12 (by kernel_rfl) rfl (fun K hK => ?_)
                    go_simp
                    refine hK.out _ _ (fun h => absurd h (by decide)) ?_
                    clear hK K
                    try simp only [Act.put, List.setIfInBounds_toArray, List.set_cons_zero, List.set_cons_succ]
                    refine upto_done (by kernel_rfl) ?_
                    clear c1 c2 hHeld HD HQ HB HW HBS HER HWD
                    go_wp2
                    go_roundw
                    case rel => exact ⟨k + 1, _, _, by omega, by go_num, rfl, HD2, HQ2, HW2, HWA, HB2⟩
                    case measure => simp [intOf]; omega
                · obtain rfl : k = ma.length := by omega
                  go_wp2_with fail
                  refine (restart_any wr w.heap.size w.heap.size D keep HD.out (by rw [HQ.out.len]; decide)).mono ?_
                  rintro e w2 ⟨rfl, hd2, hk2⟩
                  have HD2 := hide hd2
                  have HW2 := hide (HW.out.kept hk2)
                  have HB2 := hide (HB.out.trans (hk2.below HB.out.size))
                  have hDl := HQ.out.len
                  clear hd2 hk2 HD HW HB HQ
                  go_wp2
                  go_loopw [18] (fun x wr => ∃ k : Nat, k ≤ 4 ∧ x = .int .i64 k ∧ Hid (DiskO wr w.heap.size w.heap.size { D.settled keep with left := -1, down := false }) ∧ Hid (WantB wr WB ws) ∧ Hid (Below w.heap.size w wr)) (fun x _ => 4 - (intOf x).toNat)
                  case atStart => exact ⟨0, Nat.zero_le _, rfl, HD2, HW2, HB2⟩
                  case round =>
                    clear HD2 HW2 HB2
                    obtain ⟨k, hk, rfl, HD, HW, HB⟩ := hrel
                    by_cases hkl : k < 4
                    · have hge : D.secs[k]? = some (D.secs[k]'(by rw [hDl]; exact hkl)) := List.getElem?_eq_getElem _
                      have hws := HWA.out k _ hge
                      generalize D.secs[k]'(by rw [hDl]; exact hkl) = s at *
                      have HSI : Hid ((D.settled keep).secs[k]? = some (s.settled keep)) := by
                        show (D.secs.map _)[k]? = _
                        rw [List.getElem?_map, hge]; rfl
                      clear hge
                      go_wp2_with fail
                      refine (read_ok wr w.heap.size w.heap.size _ k (s.settled keep) HD.out rfl HSI.out (by show (D.secs.map _).length ≤ 200; rw [List.length_map, hDl]; decide)).mono ?_
                      rintro e w3 ⟨rfl, hb3⟩
                      rw [settled_seen]
                      have HD3 := hide (HD.out.later hb3)
                      have HW3 := hide (HW.out.later hb3)
                      have HB3 := hide (HB.out.trans (hb3.mono HB.out.size))
                      have cw := HW3.out.cell k _ hws
                      clear hb3 HD HW HB hws HSI
                      go_wp2
                      go_roundw
                      case rel => exact ⟨k + 1, by omega, by go_num, HD3, HW3, HB3⟩
                      case measure => simp [intOf]; omega
                    · obtain rfl : k = 4 := by omega
                      go_wp2
                      go_ret
                      exact ⟨rfl, HB.out⟩

end Go.Proofs.Ytlgclghddkamcaa
