/- The other disk: what is refused; a write, whatever is asked. -/
import Derived.Test.YtjgodhfnnifchaaDlB
namespace Go.Proofs.Ytjgodhfnnifchaa
open Go.RowKit

set_option linter.unusedSimpArgs false in
set_option maxRecDepth 100000 in
set_option maxHeartbeats 1600000 in
theorem writeR_down (w : World) (base B : Nat) (R : RD) (i : Nat) (t : ByteArray) (h : RefO w base B R) (hi : i < R.now.length) (ht : t.size ≤ 64) (hst : R.steps = false) :
    Calls Try.prog 14 #[.pointer (some ⟨B, 0, none⟩), .int .i64 (i : Int), .string t] w fun e w' => e = .returned (.int .i64 9) ∧ RefO w' base B R.stepped ∧ KeptR base w w' := by
  have H := hide h
  obtain ⟨kv, nv, wv, h⟩ := h
  obtain ⟨so, cap, rfl, hcap, -⟩ := h.shapeN
  obtain ⟨-, c1, -, -, c4, -⟩ := h.cells
  clear h
  have g0 : decide ((i : Int) < 0) = false := decide_eq_false (by omega)
  have g1 : decide ((R.now.length : Int) ≤ (i : Int)) = false := decide_eq_false (by omega)
  have g2 : decide (64 < (t.size : Int)) = false := decide_eq_false (by omega)
  go_enter Try.func14, Try.ntmps14
  go_wp2_with fail
  refine (step_ref w base B R H.out).mono ?_
  rintro e w1 ⟨rfl, h1, hk1⟩
  have e : stepF R = 9 := by unfold stepF; rw [hst]; rfl
  rw [e]
  have HD := hide h1; have HK := hide hk1
  clear e c1 c4 H g0 g1 g2 h1 hk1
  go_wp2
  go_ret
  exact ⟨rfl, HD.out, HK.out⟩

set_option linter.unusedSimpArgs false in
set_option maxRecDepth 100000 in
set_option maxHeartbeats 1600000 in
theorem writeR_size (w : World) (base B : Nat) (R : RD) (i : Nat) (t : ByteArray) (h : RefO w base B R) (hi : i < R.now.length) (ht : 64 < t.size) :
    Calls Try.prog 14 #[.pointer (some ⟨B, 0, none⟩), .int .i64 (i : Int), .string t] w fun e w' => e = .returned (.int .i64 6) ∧ w' = w := by
  obtain ⟨kv, nv, wv, h⟩ := h
  obtain ⟨so, cap, rfl, hcap, -⟩ := h.shapeN
  obtain ⟨-, c1, -, -, c4, -⟩ := h.cells
  clear h
  have g0 : decide ((i : Int) < 0) = false := decide_eq_false (by omega)
  have g1 : decide ((R.now.length : Int) ≤ (i : Int)) = false := decide_eq_false (by omega)
  have g2 : decide (64 < (t.size : Int)) = true := decide_eq_true (by omega)
  go_enter Try.func14, Try.ntmps14
  go_wp2
  go_ret
  exact ⟨rfl, rfl⟩

set_option linter.unusedSimpArgs false in
set_option maxRecDepth 100000 in
set_option maxHeartbeats 1600000 in
theorem writeR_bound (w : World) (base B : Nat) (R : RD) (at' : Int) (t : ByteArray) (h : RefO w base B R) (hb : ¬ (0 ≤ at' ∧ at' < R.now.length)) :
    Calls Try.prog 14 #[.pointer (some ⟨B, 0, none⟩), .int .i64 at', .string t] w fun e w' => e = .returned (.int .i64 1) ∧ w' = w := by
  obtain ⟨kv, nv, wv, h⟩ := h
  obtain ⟨so, cap, rfl, hcap, -⟩ := h.shapeN
  obtain ⟨-, c1, -, -, c4, -⟩ := h.cells
  clear h
  by_cases h0 : 0 ≤ at'
  · have g0 : decide (at' < 0) = false := decide_eq_false (by omega)
    have g1 : decide ((R.now.length : Int) ≤ at') = true := decide_eq_true (by omega)
    go_enter Try.func14, Try.ntmps14
    go_wp2
    go_ret
    exact ⟨rfl, rfl⟩
  · have g0 : decide (at' < 0) = true := decide_eq_true (by omega)
    go_enter Try.func14, Try.ntmps14
    go_wp2
    go_ret
    exact ⟨rfl, rfl⟩

theorem put_ref (w : World) (base B : Nat) (R : RD) (at' : Int) (t : ByteArray) (h : RefO w base B R) (hw : R.wait.length ≤ 1000000) (hbase : base ≤ w.heap.size) :
    Calls Try.prog 14 #[.pointer (some ⟨B, 0, none⟩), .int .i64 at', .string t] w fun e w' => e = .returned (.int .i64 (R.putF at' t)) ∧ RefO w' base B (R.put at' t) ∧ KeptR base w w' := by
  unfold RD.putF RD.put
  by_cases hb : 0 ≤ at' ∧ at' < R.now.length
  · obtain ⟨i, rfl⟩ := Int.eq_ofNat_of_zero_le hb.1
    have hi : i < R.now.length := by omega
    rw [if_pos hb]
    by_cases ht : t.size ≤ 64
    · rw [if_pos ht, if_pos ⟨hb, ht⟩]
      by_cases hs : R.steps = true
      · rw [if_pos hs, show stepF R = 0 by unfold stepF; rw [if_pos hs]]
        exact writeR_ok w base B R i t h hi ht hs hw hbase
      · rw [if_neg hs, show stepF R = 9 by unfold stepF; rw [if_neg hs]]
        exact writeR_down w base B R i t h hi ht (by simpa using hs)
    · rw [if_neg ht, if_neg (fun h => ht h.2)]
      exact (writeR_size w base B R i t h hi (by omega)).mono fun e w' ⟨he, hw'⟩ => ⟨he, by rw [hw']; exact h, by rw [hw']; exact KeptR.refl _ _⟩
  · rw [if_neg hb, if_neg (fun h => hb h.1)]
    exact (writeR_bound w base B R at' t h hb).mono fun e w' ⟨he, hw'⟩ => ⟨he, by rw [hw']; exact h, by rw [hw']; exact KeptR.refl _ _⟩

end Go.Proofs.Ytjgodhfnnifchaa
