/- A disk: a write, whatever was written before. -/
import Derived.Test.YtjgodhfnnifchaaDkS
import Derived.Test.YtjgodhfnnifchaaDkP
namespace Go.Proofs.Ytjgodhfnnifchaa
open Go.RowKit

/-- What is there behind a write. -/
def Dsk.over (D : Dsk) (i : Nat) (s : Sec) (l : List UInt8) : Dsk := { D with secs := D.secs.set i { s with loose := without ((2 ^ D.number : Nat) : Int) s.loose ++ [(((2 ^ D.number : Nat) : Int), padded l)] }, number := (D.number + 1) % 64 }

set_option linter.unusedSimpArgs false in
set_option maxRecDepth 100000 in
set_option maxHeartbeats 1600000 in
theorem write_all (w : World) (base B : Nat) (D : Dsk) (i : Nat) (s : Sec) (t : ByteArray) (h : DiskO w base B D) (hs : D.secs[i]? = some s) (h2 : D.secs.length ≤ 200) (ht : t.size ≤ 64) (hst : D.steps = true) (hno : s.loose.Pairwise fun p q => p.1 ≠ q.1) (hsm : s.loose.length ≤ 1000000) (hbase : base ≤ w.heap.size) :
    Calls Try.prog 13 #[.pointer (some ⟨B, 0, none⟩), .int .i64 (i : Int), .string t] w fun e w' => e = .returned .nilIface ∧ DiskO w' base B (D.stepped.over i s t.data.toList) ∧ Kept base w w' := by
  have H := hide h; have HS := hide hs; have HNO := hide hno
  have hi := (List.getElem?_eq_some_iff.1 hs).1
  clear h hs hno
  have hh : decide (0 ≤ (i : Int) ∧ (i : Int) < D.secs.length) = true := decide_eq_true ⟨by omega, by omega⟩
  go_enter Try.func13, Try.ntmps13
  go_wp2_with fail
  refine (has_any w base B D i H.out).mono ?_
  rintro e w1 ⟨rfl, hb1⟩
  rw [hh]
  have HB := hide hb1
  have H1 : Hid (DiskO w1 base B D) := by obtain ⟨sv, ls, h⟩ := H.out; exact ⟨sv, ls, h.later hb1⟩
  clear hb1 hh H
  have g1 : decide (64 < (t.size : Int)) = false := decide_eq_false (by omega)
  go_wp2_with fail
  refine (step_any w1 base B D H1.out).mono ?_
  rintro e w2 ⟨rfl, hd2, hk2⟩
  have e : stepErr D = .nilIface := by unfold stepErr; rw [if_pos hst]
  rw [e]
  have HK := hide ((Kept.of_below (base := base) HB.out).trans hk2)
  obtain ⟨sv, ls, hm⟩ := hd2
  have HM := hide hm
  have hlen : D.stepped.secs.length = D.secs.length := by rw [stepped_secs]
  obtain ⟨g, cap, rfl, -, -, hcap⟩ := hm.list (by omega)
  obtain ⟨c0, c1, -, -, hf⟩ := hm.cells
  have hnum : D.stepped.number = D.number := by unfold Dsk.stepped; split; rfl; split <;> rfl
  have hn64 := hm.num
  have hbs : base ≤ w2.heap.size := Nat.le_trans hbase HK.out.size
  rw [hlen] at c0 hcap
  clear hk2 hm HB H1 e
  go_wp2_with fail
  refine upto_start (S := (fun w' => w'.cell? ⟨B, 0, none⟩ = some (.slice (some ⟨g, 0, none⟩) D.secs.length cap) ∧ w'.cell? ⟨B, 1, none⟩ = some (.int .i64 (D.stepped.number : Int)))) (k := 12) (by kernel_rfl) (by exact ⟨c0, c1⟩) (fun hHeld => ?_)
  refine upto_run (v := ?_) 0 22 [1, 2, 3, 5, 12] rfl rfl (by kernel_rfl) (by kernel_rfl) (by kernel_rfl) (by kernel_rfl) (by kernel_rfl) (fun _ _ _ h => h) (by rfl) ?_ (by assumption) ?_
  rotate_left
  · (intro w hSw; (try dsimp only at hSw); obtain ⟨hS1, hS2⟩ := hSw; go_simp; with_reducible rfl)
  simp only [Act.put, List.setIfInBounds_toArray, List.set_cons_zero, List.set_cons_succ]
  refine upto_run (v := ?_) 1 23 [2, 3, 5, 12] rfl rfl (by kernel_rfl) (by kernel_rfl) (by kernel_rfl) (by kernel_rfl) (by kernel_rfl) (fun _ _ _ h => h) (by rfl) ?_ (by assumption) ?_
  rotate_left
  · (intro w hSw; (try dsimp only at hSw); obtain ⟨hS1, hS2⟩ := hSw; go_simp; with_reducible rfl)
  simp only [Act.put, List.setIfInBounds_toArray, List.set_cons_zero, List.set_cons_succ]
  refine upto_run (v := ?_) 2 24 [3, 5, 12] rfl rfl (by kernel_rfl) (by kernel_rfl) (by kernel_rfl) (by kernel_rfl) (by kernel_rfl) (fun _ _ _ h => h) (by rfl) ?_ (by assumption) ?_
  rotate_left
  · (intro w hSw; (try dsimp only at hSw); obtain ⟨hS1, hS2⟩ := hSw; go_simp; with_reducible rfl)
  simp only [Act.put, List.setIfInBounds_toArray, List.set_cons_zero, List.set_cons_succ]
  refine upto_run (v := ?_) 3 25 [5, 12] rfl rfl (by kernel_rfl) (by kernel_rfl) (by kernel_rfl) (by kernel_rfl) (by kernel_rfl) (fun _ _ _ h => h) (by rfl) ?_ (by assumption) ?_
  rotate_left
  · (intro w hSw; (try dsimp only at hSw); obtain ⟨hS1, hS2⟩ := hSw; go_simp; with_reducible rfl)
  simp only [Act.put, List.setIfInBounds_toArray, List.set_cons_zero, List.set_cons_succ]
  refine upto_run (v := ?_) 4 26 [5, 12] rfl rfl (by kernel_rfl) (by kernel_rfl) (by kernel_rfl) (by kernel_rfl) (by kernel_rfl) (fun _ _ _ h => h) (by rfl) ?_ (by assumption) ?_
  rotate_left
  · (intro w hSw; (try dsimp only at hSw); obtain ⟨hS1, hS2⟩ := hSw; go_simp; with_reducible rfl)
  simp only [Act.put, List.setIfInBounds_toArray, List.set_cons_zero, List.set_cons_succ]
  refine upto_run (v := ?_) 5 27 [12] rfl rfl (by kernel_rfl) (by kernel_rfl) (by kernel_rfl) (by kernel_rfl) (by kernel_rfl) (fun _ _ _ h => h) (by rfl) ?_ (by assumption) ?_
  rotate_left
  · (intro w hSw; (try dsimp only at hSw); obtain ⟨hS1, hS2⟩ := hSw; go_simp; with_reducible rfl)
  simp only [Act.put, List.setIfInBounds_toArray, List.set_cons_zero, List.set_cons_succ]
  refine upto_run (v := ?_) 6 28 [7, 8, 9, 10, 12] rfl rfl (by kernel_rfl) (by kernel_rfl) (by kernel_rfl) (by kernel_rfl) (by kernel_rfl) (fun _ _ _ h => h) (by rfl) ?_ (by assumption) ?_
  rotate_left
  · (intro w hSw; (try dsimp only at hSw); obtain ⟨hS1, hS2⟩ := hSw; go_simp; with_reducible rfl)
  simp only [Act.put, List.setIfInBounds_toArray, List.set_cons_zero, List.set_cons_succ]
  refine upto_run (v := ?_) 7 29 [8, 9, 10, 12] rfl rfl (by kernel_rfl) (by kernel_rfl) (by kernel_rfl) (by kernel_rfl) (by kernel_rfl) (fun _ _ _ h => h) (by rfl) ?_ (by assumption) ?_
  rotate_left
  · (intro w hSw; (try dsimp only at hSw); obtain ⟨hS1, hS2⟩ := hSw; go_simp; with_reducible rfl)
  simp only [Act.put, List.setIfInBounds_toArray, List.set_cons_zero, List.set_cons_succ]
  refine upto_run (v := ?_) 8 30 [9, 10, 12] rfl rfl (by kernel_rfl) (by kernel_rfl) (by kernel_rfl) (by kernel_rfl) (by kernel_rfl) (fun _ _ _ h => h) (by rfl) ?_ (by assumption) ?_
  rotate_left
  · (intro w hSw; (try dsimp only at hSw); obtain ⟨hS1, hS2⟩ := hSw; go_simp; with_reducible rfl)
  simp only [Act.put, List.setIfInBounds_toArray, List.set_cons_zero, List.set_cons_succ]
  refine upto_run (v := ?_) 9 31 [10, 12] rfl rfl (by kernel_rfl) (by kernel_rfl) (by kernel_rfl) (by kernel_rfl) (by kernel_rfl) (fun _ _ _ h => h) (by rfl) ?_ (by assumption) ?_
  rotate_left
  · (intro w hSw; (try dsimp only at hSw); obtain ⟨hS1, hS2⟩ := hSw; go_simp; with_reducible rfl)
  simp only [Act.put, List.setIfInBounds_toArray, List.set_cons_zero, List.set_cons_succ]
  refine upto_run (v := ?_) 10 32 [12] rfl rfl (by kernel_rfl) (by kernel_rfl) (by kernel_rfl) (by kernel_rfl) (by kernel_rfl) (fun _ _ _ h => h) (by rfl) ?_ (by assumption) ?_
  rotate_left
  · (intro w hSw; (try dsimp only at hSw); obtain ⟨hS1, hS2⟩ := hSw; go_simp; with_reducible rfl)
  simp only [Act.put, List.setIfInBounds_toArray, List.set_cons_zero, List.set_cons_succ]
  refine upto_run (v := ?_) 11 33 [12] rfl rfl (by kernel_rfl) (by kernel_rfl) (by kernel_rfl) (by kernel_rfl) (by kernel_rfl) (fun _ _ _ h => h) (by rfl) ?_ (by assumption) ?_
  rotate_left
  · (intro w hSw; (try dsimp only at hSw); obtain ⟨hS1, hS2⟩ := hSw; go_simp; with_reducible rfl)
  simp only [Act.put, List.setIfInBounds_toArray, List.set_cons_zero, List.set_cons_succ]
  refine upto_one 12 (by kernel_rfl) rfl (fun K hK => ?_)
  go_simp
  rw [bit_val D.number (by omega)]
  refine (add_any w2.drew base B D.stepped g D.secs.length cap ls i ((2 ^ D.number : Nat) : Int) t s (by have := HM.out; rw [hlen] at this; exact this.later (Below.refl _ _).drew) (by rw [stepped_secs]; exact HS.out) ht (Int.natCast_nonneg _) (bit_lt D.number (by omega)) HNO.out hsm hbs).mono ?_
  rintro e w3 ⟨rfl, ⟨sv3, ls3, hm3⟩, hk3⟩
  have HM3 := hide hm3
  have HK3 := hide (HK.out.trans ((Kept.of_below (Below.refl _ _).drew).trans hk3))
  go_wp2_with fail
  refine hK.out _ _ (fun h => absurd h (by decide)) ?_
  clear hK K
  try simp only [Act.put, List.setIfInBounds_toArray, List.set_cons_zero, List.set_cons_succ]
  refine upto_done (by kernel_rfl) ?_
  clear c0 c1 hHeld
  obtain ⟨-, c1, -, -, hf3⟩ := hm3.cells
  have f1 := hf3 1
  simp only [hnum] at c1
  have HF := hide (hm3.field (D' := D.stepped.over i s t.data.toList) 1 (.int .i64 (((D.number + 1) % 64 : Nat) : Int)) (by simp [Dsk.over, hnum]) (by show (D.stepped.number + 1) % 64 < 64; omega) hm3.left (by simp [Dsk.over, hnum]))
  have HKF := hide (HK3.out.trans (Kept.set hm3.low hm3.head (.inl rfl) 1 (.int .i64 (((D.number + 1) % 64 : Nat) : Int))))
  rw [hnum] at hn64
  clear hm3 hk3 HM3 HK3 HK HM hf3 hf
  go_wp2
  rw [show ((D.number : Int) + 1) % 64 = (((D.number + 1) % 64 : Nat) : Int) by omega]
  go_ret
  exact ⟨rfl, ⟨_, _, HF.out⟩, HKF.out⟩

end Go.Proofs.Ytjgodhfnnifchaa
