/- A disk that is armed, or down: what is refused. -/
import Derived.Test.YtjgodhfnnifchaaDkM
namespace Go.Proofs.Ytjgodhfnnifchaa
open Go.RowKit

set_option maxRecDepth 100000 in
theorem arm_any (w : World) (base B : Nat) (D : Dsk) (n : Int) (h : DiskO w base B D) (hn : -9223372036854775808 ≤ n ∧ n ≤ 9223372036854775807) :
    Calls Try.prog 19 #[.pointer (some ⟨B, 0, none⟩), .int .i64 n] w fun e w' => e = .returned (.tuple #[]) ∧ DiskO w' base B { D with left := n } ∧ Kept base w w' := by
  obtain ⟨sv, ls, h⟩ := h
  have HD : Hid (DiskO (w.setCell ⟨B, 2, none⟩ (.int .i64 n)) base B { D with left := n }) := ⟨sv, ls, h.field 2 _ rfl h.num hn rfl⟩
  have HK := hide (Kept.set h.low h.head (.inl rfl) 2 (.int .i64 n))
  obtain ⟨-, -, c2, -, hf⟩ := h.cells
  have f2 := hf 2
  clear h hf
  go_enter Try.func19, Try.ntmps19
  go_wp2
  exact bodyPost_end (results_none rfl _ _ _) rfl ⟨rfl, HD.out, HK.out⟩

set_option maxRecDepth 100000 in
set_option maxHeartbeats 1600000 in
theorem flush_down (w : World) (base B : Nat) (D : Dsk) (h : DiskO w base B D) (hs : D.steps = false) :
    Calls Try.prog 17 #[.pointer (some ⟨B, 0, none⟩)] w fun e w' => e = .returned (errno 9) ∧ DiskO w' base B D.stepped ∧ Kept base w w' := by
  have H := hide h
  clear h
  go_enter Try.func17, Try.ntmps17
  go_wp2_with fail
  refine (step_any w base B D H.out).mono ?_
  rintro e w1 ⟨rfl, hd1, hk1⟩
  have HD := hide hd1; have HK := hide hk1
  have e : stepErr D = errno 9 := by unfold stepErr; rw [hs]; rfl
  rw [e]
  clear hd1 hk1 e H
  go_wp2
  go_ret
  exact ⟨rfl, HD.out, HK.out⟩

set_option maxRecDepth 100000 in
set_option maxHeartbeats 1600000 in
theorem write_down (w : World) (base B : Nat) (D : Dsk) (at' : Int) (t : ByteArray) (h : DiskO w base B D) (hb : 0 ≤ at' ∧ at' < D.secs.length) (ht : t.size ≤ 64) (hs : D.steps = false) :
    Calls Try.prog 13 #[.pointer (some ⟨B, 0, none⟩), .int .i64 at', .string t] w fun e w' => e = .returned (errno 9) ∧ DiskO w' base B D.stepped ∧ Kept base w w' := by
  have H := hide h
  clear h
  go_enter Try.func13, Try.ntmps13
  go_wp2_with fail
  refine (has_any w base B D at' H.out).mono ?_
  rintro e w1 ⟨rfl, hb1⟩
  rw [decide_eq_true hb]
  have HB := hide hb1
  have H1 : Hid (DiskO w1 base B D) := by obtain ⟨sv, ls, h⟩ := H.out; exact ⟨sv, ls, h.later hb1⟩
  clear hb1 hb H
  have g1 : decide (64 < (t.size : Int)) = false := decide_eq_false (by omega)
  go_wp2_with fail
  refine (step_any w1 base B D H1.out).mono ?_
  rintro e w2 ⟨rfl, hd2, hk2⟩
  have e : stepErr D = errno 9 := by unfold stepErr; rw [hs]; rfl
  rw [e]
  have HD := hide hd2; have HK := hide ((Kept.of_below (base := base) HB.out).trans hk2)
  clear hd2 hk2 e HB H1
  go_wp2
  go_ret
  exact ⟨rfl, HD.out, HK.out⟩

set_option maxRecDepth 100000 in
set_option maxHeartbeats 1600000 in
theorem read_down (w : World) (base B : Nat) (D : Dsk) (at' : Int) (h : DiskO w base B D) (hd : D.down = true) :
    Calls Try.prog 15 #[.pointer (some ⟨B, 0, none⟩), .int .i64 at'] w fun e w' => e = .returned (.tuple #[.string ⟨#[]⟩, errno 9]) ∧ Below w.heap.size w w' := by
  obtain ⟨sv, ls, h⟩ := h
  obtain ⟨-, -, -, c3, -⟩ := h.cells
  rw [hd] at c3
  clear h
  go_enter Try.func15, Try.ntmps15
  go_wp2
  exact bodyPost_ret (v := .tuple #[.string ⟨#[]⟩, errno 9]) (by simp [results, Try.results15, go_sem]) rfl ⟨rfl, Below.refl _ _⟩

set_option maxRecDepth 100000 in
set_option maxHeartbeats 1600000 in
theorem read_bound (w : World) (base B : Nat) (D : Dsk) (at' : Int) (h : DiskO w base B D) (hd : D.down = false) (hb : ¬ (0 ≤ at' ∧ at' < D.secs.length)) :
    Calls Try.prog 15 #[.pointer (some ⟨B, 0, none⟩), .int .i64 at'] w fun e w' => e = .returned (.tuple #[.string ⟨#[]⟩, errno 1]) ∧ Below w.heap.size w w' := by
  have H := hide h
  obtain ⟨sv, ls, h⟩ := h
  obtain ⟨-, -, -, c3, -⟩ := h.cells
  rw [hd] at c3
  clear h
  go_enter Try.func15, Try.ntmps15
  go_wp2_with fail
  refine (has_any w base B D at' H.out).mono ?_
  rintro e w1 ⟨rfl, hb1⟩
  rw [decide_eq_false hb]
  have HB := hide hb1
  clear hb1 hb H c3
  go_wp2
  exact bodyPost_ret (v := .tuple #[.string ⟨#[]⟩, errno 1]) (by simp [results, Try.results15, go_sem]) rfl ⟨rfl, HB.out⟩

end Go.Proofs.Ytjgodhfnnifchaa
