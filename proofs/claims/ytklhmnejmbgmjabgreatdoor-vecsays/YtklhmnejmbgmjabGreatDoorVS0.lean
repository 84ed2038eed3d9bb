/- VecSays: what its parts share. -/
import Derived.Test.YtklhmnejmbgmjabGreatDoorVecRd
import Derived.Test.YtklhmnejmbgmjabGreatDoorVecF
import Derived.Test.YtklhmnejmbgmjabGreatDoorMatO
import Derived.Test.YtklhmnejmbgmjabGreatDoorRowO
import Derived.Test.YtklhmnejmbgmjabGreatDoorCombine
import Derived.Test.YtklhmnejmbgmjabGreatDoorRefS
import Derived.Test.YtklhmnejmbgmjabGreatDoorLightM
import Derived.Deep.Cut
namespace Go.Proofs.YtklhmnejmbgmjabGreatDoor
open Go.RowKit Limbs Digs

theorem Tryz.asErrno (v : Value) (w : World) : (Instr.typeAssert (.iface 76 v) 35 76 true).run Tryz.prog w = .ok (.tuple #[v, .bool true]) w := by kernel_rfl

set_option maxRecDepth 100000 in
theorem same_errno (n f : Int) (w : World) :
    Calls Tryz.prog 12 #[.iface 76 (.int .i64 n), .int .i64 f] w fun e w' => e = .returned (.bool (decide (0 < f) && n == f)) ∧ w' = w := by
  have has := Tryz.asErrno
  by_cases h1 : 0 < f
  · have e1 : decide (0 < f) = true := decide_eq_true h1
    go_enter Tryz.func12, Tryz.ntmps12
    go_wp2
    go_ret
    exact ⟨ret_bool (by simp [e1]), rfl⟩
  · have e1 : decide (0 < f) = false := decide_eq_false h1
    go_enter Tryz.func12, Tryz.ntmps12
    go_wp2
    go_ret
    exact ⟨ret_bool (by simp), rfl⟩

set_option maxRecDepth 100000 in
theorem same_nil (f : Int) (w : World) :
    Calls Tryz.prog 12 #[.nilIface, .int .i64 f] w fun e w' => e = .returned (.bool (f == 0)) ∧ w' = w := by
  go_enter Tryz.func12, Tryz.ntmps12
  go_wp2
  go_ret
  exact ⟨rfl, rfl⟩

theorem same_of (n : Int) (hn : 0 < n) (w : World) : Calls Tryz.prog 12 #[.iface 76 (.int .i64 n), .int .i64 n] w fun e w' => e = .returned (.bool true) ∧ w' = w := by
  refine (same_errno n n w).mono ?_
  rintro e w' ⟨rfl, rfl⟩
  refine ⟨?_, rfl⟩
  rw [decide_eq_true hn, beq_self_eq_true]; rfl

theorem same_zero (w : World) : Calls Tryz.prog 12 #[.nilIface, .int .i64 0] w fun e w' => e = .returned (.bool true) ∧ w' = w := same_nil 0 w

/-- A text without its first statement. -/
def Code.tl : Code → Code
  | .seq _ b => b
  | c => c

/-- In each place, of the first rows. -/
def tot (xs : List Int) (zss : List (List Int)) (N r : Nat) : List Int := (List.range N).map fun j => psum xs zss j r

theorem tot_len (xs : List Int) (zss : List (List Int)) (N r : Nat) : (tot xs zss N r).length = N := by simp [tot]

theorem tot_zero (xs : List Int) (zss : List (List Int)) (N : Nat) : tot xs zss N 0 = List.replicate N 0 := by
  unfold tot
  apply List.ext_getElem
  · simp
  · intro i h1 h2; simp [psum]

theorem tot_all (xs : List Int) (zss : List (List Int)) (N : Nat) : tot xs zss N zss.length = combo xs zss N := rfl

theorem tot_at (xs : List Int) (zss : List (List Int)) (N r j : Nat) (hj : j < N) : (tot xs zss N r).getD j 0 = psum xs zss j r := by
  simp [tot, List.getD_eq_getElem?_getD, hj]

/-- Up to that place the next row is in it, too. -/
def mid (xs : List Int) (zss : List (List Int)) (N r j : Nat) : List Int := (tot xs zss N (r + 1)).take j ++ (tot xs zss N r).drop j

theorem mid_len (xs : List Int) (zss : List (List Int)) (N r j : Nat) (hj : j ≤ N) : (mid xs zss N r j).length = N := by
  unfold mid
  rw [List.length_append, List.length_take, List.length_drop, tot_len, tot_len]; omega

theorem mid_zero (xs : List Int) (zss : List (List Int)) (N r : Nat) : mid xs zss N r 0 = tot xs zss N r := by simp [mid]

theorem mid_all (xs : List Int) (zss : List (List Int)) (N r : Nat) : mid xs zss N r N = tot xs zss N (r + 1) := by
  unfold mid
  rw [List.take_of_length_le (by rw [tot_len]; exact Nat.le_refl _), List.drop_of_length_le (by rw [tot_len]; exact Nat.le_refl _), List.append_nil]

theorem mid_at (xs : List Int) (zss : List (List Int)) (N r j : Nat) (hj : j < N) : (mid xs zss N r j).getD j 0 = psum xs zss j r := by
  have hl : ((tot xs zss N (r + 1)).take j).length = j := by rw [List.length_take, tot_len]; omega
  unfold mid
  rw [List.getD_eq_getElem?_getD, List.getElem?_append_right (by omega), hl, Nat.sub_self, List.getElem?_drop, Nat.add_zero, ← List.getD_eq_getElem?_getD]
  exact tot_at xs zss N r j hj

theorem mid_step (xs : List Int) (zss : List (List Int)) (N r j : Nat) (hj : j < N) : (mid xs zss N r j).set j (psum xs zss j (r + 1)) = mid xs zss N r (j + 1) := by
  have hl : ((tot xs zss N (r + 1)).take j).length = j := by rw [List.length_take, tot_len]; omega
  have hd : (tot xs zss N r).drop j = (tot xs zss N r).getD j 0 :: (tot xs zss N r).drop (j + 1) := drop_cons_getD _ j (by rw [tot_len]; exact hj)
  have ht : (tot xs zss N (r + 1)).take (j + 1) = (tot xs zss N (r + 1)).take j ++ [psum xs zss j (r + 1)] := by
    rw [List.take_succ_eq_append_getElem (by rw [tot_len]; exact hj)]
    congr 2
    simp [tot]
  unfold mid
  rw [hd, List.set_append_right _ _ (by omega), hl, Nat.sub_self, List.set_cons_zero, ht, List.append_assoc]
  rfl

theorem psum_step (xs : List Int) (zss : List (List Int)) (j r : Nat) (hr : r < zss.length) : psum xs zss j (r + 1) = psum xs zss j r + xs.getD r 0 * zss[r].getD j 0 := by
  show psum xs zss j r + xs.getD r 0 * (zss.getD r []).getD j 0 = _
  rw [show zss.getD r [] = zss[r] by rw [List.getD_eq_getElem?_getD, List.getElem?_eq_getElem hr]; rfl]

theorem MatR.at {W : World} {v : Value} {zss : List (List Int)} {n : Nat} (h : MatR W v zss n) (i : Nat) (hi : i < zss.length) : ∃ b cap, v = .slice (some ⟨b, 0, none⟩) zss.length cap ∧ b < W.heap.size ∧ ∃ u, W.cell? ⟨b, i, none⟩ = some u ∧ RowR W u zss[i] n := by
  obtain ⟨ao, cap, rfl, -, h2⟩ := h
  obtain ⟨b, rfl, hlt, hc⟩ := h2 (by omega)
  obtain ⟨u, h3, h4⟩ := hc i zss[i] (by simp [hi])
  exact ⟨b, cap, rfl, hlt, u, h3, h4⟩

theorem MatN.at {W : World} {v : Value} {zss : List (List Int)} {n : Nat} (h : MatN W v zss n) (i : Nat) (hi : i < zss.length) : ∃ b off cap, v = .slice (some ⟨b, off, none⟩) zss.length cap ∧ b < W.heap.size ∧ ∃ u, W.cell? ⟨b, off + i, none⟩ = some u ∧ VecN W u zss[i] n := by
  obtain ⟨ao, cap, rfl, -, h2⟩ := h
  obtain ⟨b, off, rfl, hlt, hc⟩ := h2 (by omega)
  obtain ⟨u, h3, h4⟩ := hc i zss[i] (by simp [hi])
  exact ⟨b, off, cap, rfl, hlt, u, h3, h4⟩

end Go.Proofs.YtklhmnejmbgmjabGreatDoor
