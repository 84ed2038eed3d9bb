/- A disk: all settles; Flush, Restart. -/
import Derived.Test.YtjgodhfnnifchaaDkF
namespace Go.Proofs.Ytjgodhfnnifchaa
open Go.RowKit

def Dsk.settled (keep : Int) (D : Dsk) : Dsk := { D with secs := D.secs.map (Sec.settled keep), number := 0 }

/-- So far. -/
def upToS (keep : Int) (ss : List Sec) (j : Nat) : List Sec := (ss.take j).map (Sec.settled keep) ++ ss.drop j

theorem upToS_len (keep : Int) (ss : List Sec) (j : Nat) (hj : j ≤ ss.length) : (upToS keep ss j).length = ss.length := by
  unfold upToS
  rw [List.length_append, List.length_map, List.length_take, List.length_drop]; omega

theorem upToS_at (keep : Int) (ss : List Sec) (j : Nat) (hj : j < ss.length) : (upToS keep ss j)[j]? = some ss[j] := by
  unfold upToS
  rw [List.getElem?_append_right (by rw [List.length_map, List.length_take]; omega), List.length_map, List.length_take, Nat.min_eq_left (by omega), Nat.sub_self, List.getElem?_drop, Nat.add_zero, List.getElem?_eq_getElem hj]

theorem upToS_step (keep : Int) (ss : List Sec) (j : Nat) (hj : j < ss.length) : (upToS keep ss j).set j (ss[j].settled keep) = upToS keep ss (j + 1) := by
  unfold upToS
  have hl : ((ss.take j).map (Sec.settled keep)).length = j := by rw [List.length_map, List.length_take]; omega
  rw [List.set_append_right _ _ (by omega), hl, Nat.sub_self, List.drop_eq_getElem_cons hj, List.set_cons_zero, List.take_succ_eq_append_getElem hj, List.map_append, List.append_assoc]
  rfl

set_option linter.unusedSimpArgs false in
set_option maxRecDepth 100000 in
set_option maxHeartbeats 1600000 in
theorem settle_any (w : World) (base B : Nat) (D : Dsk) (keep : Int) (h : DiskO w base B D) (h2 : D.secs.length ≤ 200) :
    Calls Try.prog 38 #[.pointer (some ⟨B, 0, none⟩), .int .u64 keep] w fun e w' => e = .returned (.tuple #[]) ∧ DiskO w' base B (D.settled keep) ∧ Kept base w w' := by
  obtain ⟨sv, ls, h⟩ := h
  have HM := hide h
  obtain ⟨so, cap, rfl⟩ := h.shape
  obtain ⟨c0, -⟩ := h.cells
  clear h
  go_enter Try.func38, Try.ntmps38
  go_wp2
  clear c0
  go_loopw [10] (fun x wr => ∃ j : Nat, j ≤ D.secs.length ∧ x = .int .i64 j ∧ Hid (∃ ls, DiskM wr base B { D with secs := upToS keep D.secs j } (.slice so D.secs.length cap) ls) ∧ Hid (Kept base w wr)) (fun x _ => D.secs.length - (intOf x).toNat)
  case atStart => exact ⟨0, Nat.zero_le _, rfl, hide ⟨ls, HM.out⟩, hide (Kept.refl _ _)⟩
  case round =>
    clear HM
    obtain ⟨j, hj, rfl, HMR, HKR⟩ := hrel
    obtain ⟨ls', hmr⟩ := HMR.out
    have HM := hide hmr
    obtain ⟨c0, c1, -, -, hf⟩ := hmr.cells
    have hf1 := hf 1
    clear hf HMR
    by_cases hjl : j < D.secs.length
    · obtain ⟨g, cap', e, -, -, hcap⟩ := hmr.list (by show 0 < (upToS keep D.secs j).length; rw [upToS_len _ _ _ hj]; omega)
      simp only [Value.slice.injEq] at e
      obtain ⟨rfl, -, rfl⟩ := e
      have HAT := hide (upToS_at keep D.secs j hjl)
      have HST := hide (upToS_step keep D.secs j hjl)
      generalize D.secs[j] = s at *
      clear hmr c1 hcap
      go_wp2_with fail
      refine (settleS_any wr base B { D with secs := upToS keep D.secs j } g D.secs.length cap ls' j keep s HM.out HAT.out).mono ?_
      rintro e w1 ⟨rfl, hm1, hk1⟩
      have HM1 : Hid (∃ ls, DiskM w1 base B { D with secs := upToS keep D.secs (j + 1) } (.slice (some ⟨g, 0, none⟩) D.secs.length cap) ls) := by
        simp only [HST.out] at hm1
        exact ⟨_, hm1⟩
      have HK1 := hide (HKR.out.trans hk1)
      clear hm1 hk1 HM HKR c0
      go_wp2
      go_roundw
      case rel => exact ⟨j + 1, by omega, by go_num, HM1, HK1⟩
      case measure => simp [intOf]; omega
    · obtain rfl : j = D.secs.length := by omega
      have HD : Hid (DiskO (wr.setCell ⟨B, 1, none⟩ (.int .i64 0)) base B (D.settled keep)) := by
        refine ⟨_, _, hmr.field (D' := D.settled keep) 1 (.int .i64 0) ?_ (by show 0 < 64; omega) hmr.left rfl⟩
        show D.secs.map _ = upToS keep D.secs D.secs.length
        unfold upToS
        rw [List.take_length, List.drop_length, List.append_nil]
      have HK := hide (HKR.out.trans (Kept.set hmr.low hmr.head (.inl rfl) 1 (.int .i64 0)))
      clear hmr HM HKR
      go_wp2
      exact bodyPost_end (results_none rfl _ _ _) rfl ⟨rfl, HD.out, HK.out⟩

theorem stepped_secs (D : Dsk) : D.stepped.secs = D.secs := by
  unfold Dsk.stepped
  split
  · rfl
  · split <;> rfl

set_option maxRecDepth 100000 in
set_option maxHeartbeats 1600000 in
theorem flush_ok (w : World) (base B : Nat) (D : Dsk) (h : DiskO w base B D) (h2 : D.secs.length ≤ 200) (hs : D.steps = true) :
    Calls Try.prog 17 #[.pointer (some ⟨B, 0, none⟩)] w fun e w' => e = .returned .nilIface ∧ DiskO w' base B (D.stepped.settled 18446744073709551615) ∧ Kept base w w' := by
  have H := hide h
  clear h
  go_enter Try.func17, Try.ntmps17
  go_wp2_with fail
  refine (step_any w base B D H.out).mono ?_
  rintro e w1 ⟨rfl, hd1, hk1⟩
  have HD := hide hd1; have HK := hide hk1
  have e : stepErr D = .nilIface := by unfold stepErr; rw [if_pos hs]
  rw [e]
  clear hd1 hk1 e
  go_wp2_with fail
  refine (settle_any w1 base B D.stepped 18446744073709551615 HD.out (by rw [stepped_secs]; exact h2)).mono ?_
  rintro e w2 ⟨rfl, hd2, hk2⟩
  have HD2 := hide hd2; have HK2 := hide (HK.out.trans hk2)
  clear hd2 hk2 HD HK
  go_wp2
  go_ret
  exact ⟨rfl, HD2.out, HK2.out⟩

set_option maxRecDepth 100000 in
set_option maxHeartbeats 1600000 in
theorem restart_any (w : World) (base B : Nat) (D : Dsk) (keep : Int) (h : DiskO w base B D) (h2 : D.secs.length ≤ 200) :
    Calls Try.prog 20 #[.pointer (some ⟨B, 0, none⟩), .int .u64 keep] w fun e w' => e = .returned (.tuple #[]) ∧ DiskO w' base B { D.settled keep with left := -1, down := false } ∧ Kept base w w' := by
  have H := hide h
  clear h
  go_enter Try.func20, Try.ntmps20
  go_wp2_with fail
  refine (settle_any w base B D keep H.out h2).mono ?_
  rintro e w1 ⟨rfl, ⟨sv, ls, hd1⟩, hk1⟩
  have hd2 := hd1.field (D' := { D.settled keep with left := -1 }) 2 (.int .i64 (-1)) rfl hd1.num (show (-9223372036854775808 : Int) ≤ -1 ∧ (-1 : Int) ≤ 9223372036854775807 by decide) rfl
  have hd3 := hd2.field (D' := { D.settled keep with left := -1, down := false }) 3 (.bool false) rfl hd1.num (show (-9223372036854775808 : Int) ≤ -1 ∧ (-1 : Int) ≤ 9223372036854775807 by decide) rfl
  have HD : Hid (DiskO ((w1.setCell ⟨B, 2, none⟩ (.int .i64 (-1))).setCell ⟨B, 3, none⟩ (.bool false)) base B { D.settled keep with left := -1, down := false }) := ⟨sv, ls, hd3⟩
  have HK := hide ((hk1.trans (Kept.set hd1.low hd1.head (.inl rfl) 2 (.int .i64 (-1)))).trans (Kept.set hd2.low hd2.head (.inl rfl) 3 (.bool false)))
  obtain ⟨-, -, c2, c3, hf⟩ := hd1.cells
  obtain ⟨-, -, -, d3, hf'⟩ := hd2.cells
  have f2 := hf 2
  have f3 := hf 3
  have f3' := hf' 3
  clear hd1 hd2 hd3 hk1 hf hf'
  go_wp2
  exact bodyPost_end (results_none rfl _ _ _) rfl ⟨rfl, HD.out, HK.out⟩

end Go.Proofs.Ytjgodhfnnifchaa
