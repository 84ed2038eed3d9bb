/- lattice.beside: rows twice as wide. -/
import Derived.Test.YtajcdhaaldhlaaaGreatDoorLatB
import Derived.Test.YtajcdhaaldhlaaaGreatDoorLatS
import Derived.Test.YtajcdhaaldhlaaaGreatDoorGKA

namespace Go.Proofs.YtajcdhaaldhlaaaGreatDoor
open Go.RowKit Limbs

set_option linter.unusedSimpArgs false in
set_option maxRecDepth 100000 in
set_option maxHeartbeats 4000000 in
theorem beside_any (w : World) (va vo : Value) (n nv : Nat) (hs os : List (List Int)) (ha : MatN w va hs nv) (ho : MatN w vo os nv) (hl : ∀ r ∈ hs, r.length = n) (hol : ∀ r ∈ os, r.length ≤ n) (hlen : os.length = hs.length) (h1 : 1 ≤ n) (h4 : n ≤ 4) (hm : hs.length ≤ 100) :
  Calls Tryz.prog 34 #[va, vo] w fun e w' => ∃ u, e = .returned u ∧ MatN w' u (besL n hs os) nv ∧ Below w.heap.size w w' := by
 have HA := hide ha; have HO := hide ho; have HL := hide hl; have HOL := hide hol; have HLN := hide hlen
 have HBL := hide (besL_len n hs os hlen)
 obtain ⟨ao, acap, rfl, -, -⟩ := ha
 obtain ⟨oo, ocap, rfl, -, -⟩ := ho
 clear hl hol hlen
 have hmk := run_mkM hs.length (by omega)
 have HS : Hid (RowsI w (w.alloc (.cells (madeCells #[.slice none 0 0] hs.length) 39)) w.heap.size hs.length (besL n hs os) 0 nv) := RowsI.start (Below.refl _ _) _ _ _
 go_enter Tryz.func34, Tryz.ntmps34
 go_wp2
 clear hmk
 go_loopw [13] (fun i wr => ∃ k : Nat, k ≤ hs.length ∧ i = .int .i64 k ∧ Hid (RowsI w wr w.heap.size hs.length (besL n hs os) k nv)) (fun i _ => hs.length - (intOf i).toNat)
 case atStart => exact ⟨0, Nat.zero_le _, rfl, HS⟩
 case round =>
  clear HS
  obtain ⟨k, hk, rfl, HI⟩ := hrel
  by_cases hkl : k < hs.length
  ·have hko : k < os.length := by have := HLN.out; omega
   obtain ⟨rb, roff, _, e, lr, ru, cu, hru⟩ := HA.out.at k hkl
   simp only [Value.slice.injEq, true_and] at e
   obtain ⟨rfl, rfl⟩ := e
   obtain ⟨ob, ooff, _, e, lo, ou, co, hou⟩ := HO.out.at k hko
   simp only [Value.slice.injEq, true_and] at e
   obtain ⟨rfl, rfl⟩ := e
   have HU := hide hru; have HZ := hide hou
   have HUL : Hid (hs[k].length = n) := HL.out _ (List.getElem_mem hkl)
   have HZL : Hid (os[k].length ≤ n) := HOL.out _ (List.getElem_mem hko)
   have HGD := hide (besL_at n hs os k hkl hko)
   generalize hs[k] = us at *
   generalize os[k] = zs at *
   obtain ⟨ruo, rucap, rfl, -, -⟩ := hru
   obtain ⟨zo, zcap, rfl, -, -⟩ := hou
   rw [HUL.out] at cu HU
   have c1 := (HI.out.low.cell (p := ⟨rb, roff + k, none⟩) lr).trans cu
   have HBA := hide ((Below.refl wr.heap.size wr).alloc (Nat.le_refl _) (.cells (madeCells #[.bool false, .slice none 0 0] (2 * n * 2)) 51))
   have c2 := (HBA.out.cell (p := ⟨w.heap.size, k, none⟩) HI.out.lt).trans (HI.out.nil k (Nat.le_refl _) hkl)
   have c3 : (wr.alloc (.cells (madeCells #[.bool false, .slice none 0 0] (2 * n * 2)) 51)).frozen? ⟨w.heap.size, k, none⟩ = false := (HI.out.later HBA.out).thaw k
   have hmk : ∀ W : World, (Instr.makeSlice 39 (.int .i64 (2 * (n : Int))) (.int .i64 (2 * (n : Int)))).run Tryz.prog W = .ok (.slice (some ⟨W.heap.size, 0, none⟩) (2 * n) (2 * n)) (W.alloc (.cells (madeCells #[.bool false, .slice none 0 0] (2 * n * 2)) 51)) := fun W => by
    have := run_mkV (2 * n) (by omega) W
    rwa [show ((2 * n : Nat) : Int) = 2 * (n : Int) by omega] at this
   have HV0 := hide (VecO.made w wr HI.out.low (2 * n) nv)
   have HV1 := hide (HV0.out.other (k := k) (x := .slice (some ⟨wr.heap.size, 0, none⟩) (2 * n) (2 * n)) (by have := HI.out.lt; omega) (Nat.le_refl _) c2 (fun z e => by cases e))
   have HX1 := hide (made_then wr (.cells (madeCells #[.bool false, .slice none 0 0] (2 * n * 2)) 51) w.heap.size k HI.out.lt (.slice (some ⟨wr.heap.size, 0, none⟩) (2 * n) (2 * n)))
   have d1 := World.cell?_setCell_same (w := wr.alloc (.cells (madeCells #[.bool false, .slice none 0 0] (2 * n * 2)) 51)) (v := .slice (some ⟨wr.heap.size, 0, none⟩) (2 * n) (2 * n)) (h := c2)
   clear HV0 HBA
   go_wp2_with fail
   clear hmk c1 c2 c3
   generalize hW2 : (wr.alloc (.cells (madeCells #[.bool false, .slice none 0 0] (2 * n * 2)) 51)).setCell ⟨w.heap.size, k, none⟩ (.slice (some ⟨wr.heap.size, 0, none⟩) (2 * n) (2 * n)) = W2 at *
   have hlt2 : wr.heap.size < W2.heap.size := HV1.out.lt
   clear hW2
   generalize hP : wr.heap.size = P at *
   have d2 := (HV1.out.below.cell (p := ⟨rb, roff + k, none⟩) lr).trans cu
   have HDB : Hid (∀ W', Below P W2 W' → W'.cell? ⟨w.heap.size, k, none⟩ = some (.slice (some ⟨P, 0, none⟩) (2 * n) (2 * n))) := fun W' hb => (hb.cell (p := ⟨w.heap.size, k, none⟩) (by show w.heap.size < P; have := HI.out.lt; omega)).trans d1
   refine upto_start (S := (fun w' => w'.cell? ⟨w.heap.size, k, none⟩ = some (.slice (some ⟨P, 0, none⟩) (2 * n) (2 * n)) ∧ w'.cell? ⟨rb, roff + k, none⟩ = some (.slice ruo n rucap))) (k := 8) (by kernel_rfl) (by (try dsimp only); go_keep) (fun hHeld => ?_)
   refine upto_run (v := ?_) 0 27 [2, 3, 8] rfl rfl (by kernel_rfl) (by kernel_rfl) (by kernel_rfl) (by kernel_rfl) (by kernel_rfl) (fun _ _ _ h => h) (by rfl) ?_ (by assumption) ?_
   rotate_left
   ·(intro w hSw; (try dsimp only at hSw); go_simp; with_reducible rfl)
   simp only [Act.put, List.setIfInBounds_toArray, List.set_cons_zero, List.set_cons_succ]
   refine upto_run (v := ?_) 1 28 [2, 3, 8] rfl rfl (by kernel_rfl) (by kernel_rfl) (by kernel_rfl) (by kernel_rfl) (by kernel_rfl) (fun _ _ _ h => h) (by rfl) ?_ (by assumption) ?_
   rotate_left
   ·(intro w hSw; (try dsimp only at hSw); go_simp; with_reducible rfl)
   simp only [Act.put, List.setIfInBounds_toArray, List.set_cons_zero, List.set_cons_succ]
   refine upto_run (v := ?_) 2 29 [3, 8] rfl rfl (by kernel_rfl) (by kernel_rfl) (by kernel_rfl) (by kernel_rfl) (by kernel_rfl) (fun _ _ _ h => h) (by rfl) ?_ (by assumption) ?_
   rotate_left
   ·(intro w hSw; (try dsimp only at hSw); go_simp; with_reducible rfl)
   simp only [Act.put, List.setIfInBounds_toArray, List.set_cons_zero, List.set_cons_succ]
   refine upto_run (v := ?_) 3 30 [8] rfl rfl (by kernel_rfl) (by kernel_rfl) (by kernel_rfl) (by kernel_rfl) (by kernel_rfl) (fun _ _ _ h => h) (by rfl) ?_ (by assumption) ?_
   rotate_left
   ·(intro w hSw; (try dsimp only at hSw); go_simp; with_reducible rfl)
   simp only [Act.put, List.setIfInBounds_toArray, List.set_cons_zero, List.set_cons_succ]
   refine upto_run (v := ?_) 4 31 [6, 7, 8] rfl rfl (by kernel_rfl) (by kernel_rfl) (by kernel_rfl) (by kernel_rfl) (by kernel_rfl) (fun _ _ _ h => h) (by rfl) ?_ (by assumption) ?_
   rotate_left
   ·(intro w hSw; (try dsimp only at hSw); go_simp; with_reducible rfl)
   simp only [Act.put, List.setIfInBounds_toArray, List.set_cons_zero, List.set_cons_succ]
   refine upto_run (v := ?_) 5 32 [6, 7, 8] rfl rfl (by kernel_rfl) (by kernel_rfl) (by kernel_rfl) (by kernel_rfl) (by kernel_rfl) (fun _ _ _ h => h) (by rfl) ?_ (by assumption) ?_
   rotate_left
   ·(intro w hSw; (try dsimp only at hSw); go_simp; with_reducible rfl)
   simp only [Act.put, List.setIfInBounds_toArray, List.set_cons_zero, List.set_cons_succ]
   refine upto_run (v := ?_) 6 33 [7, 8] rfl rfl (by kernel_rfl) (by kernel_rfl) (by kernel_rfl) (by kernel_rfl) (by kernel_rfl) (fun _ _ _ h => h) (by rfl) ?_ (by assumption) ?_
   rotate_left
   ·(intro w hSw; (try dsimp only at hSw); go_simp; with_reducible rfl)
   simp only [Act.put, List.setIfInBounds_toArray, List.set_cons_zero, List.set_cons_succ]
   refine upto_run (v := ?_) 7 34 [8] rfl rfl (by kernel_rfl) (by kernel_rfl) (by kernel_rfl) (by kernel_rfl) (by kernel_rfl) (fun _ _ _ h => h) (by rfl) ?_ (by assumption) ?_
   rotate_left
   ·(intro w hSw; (try dsimp only at hSw); go_simp; with_reducible rfl)
   simp only [Act.put, List.setIfInBounds_toArray, List.set_cons_zero, List.set_cons_succ]
   obtain ⟨W3, hcp, hv3, hs3, hb3⟩ := copy_vec_at HV1.out.drew 0 0 (2 * n) (2 * n) rfl (.slice ruo n rucap) us (by have := HU.out.below HV1.out.drew.below (Nat.le_refl _); exact this) (by rw [List.length_replicate, HUL.out]; omega) (by have := HUL.out; omega)
   have HCP := hide hcp
   clear hcp
   refine upto_one 8 (by kernel_rfl) rfl (fun K hK => ?_)
   refine step_copy rfl 35 rfl (.tmp 30) (.tmp 34) 39 39 rfl (.slice (some ⟨P, 0, none⟩) (2 * n) (2 * n)) (.slice ruo n rucap) _ W3 rfl rfl HCP.out ?_
   refine hK.out _ _ (fun h => absurd h (by decide)) ?_
   clear hK K
   try simp only [Act.put, List.setIfInBounds_toArray, List.set_cons_zero, List.set_cons_succ]
   refine upto_done (by kernel_rfl) ?_
   clear HCP
   rw [splice_first HUL.out] at hv3
   have HV3 := hide hv3; have HB3 := hide (show Below P W2 W3 from (Below.refl _ _).drew.trans hb3)
   have hlt3 : P < W3.heap.size := hv3.lt
   clear hv3 hb3 hs3 d1 d2 HV1
   go_wp2_with fail
   have d1 := HDB.out W3 HB3.out
   have g1 : (n : Int) ≤ 2 * (n : Int) := by omega
   have g2 : ¬ (2 * n = n) := by omega
   have g3 : 2 * n - n = n := by omega
   have d2 := (HV3.out.below.cell (p := ⟨ob, ooff + k, none⟩) lo).trans co
   refine upto_start (S := (fun w' => w'.cell? ⟨w.heap.size, k, none⟩ = some (.slice (some ⟨P, 0, none⟩) (2 * n) (2 * n)) ∧ w'.cell? ⟨ob, ooff + k, none⟩ = some (.slice zo zs.length zcap))) (k := 10) (by kernel_rfl) (by (try dsimp only); go_keep) (fun hHeld => ?_)
   refine upto_run (v := ?_) 0 36 [2, 3, 5, 10] rfl rfl (by kernel_rfl) (by kernel_rfl) (by kernel_rfl) (by kernel_rfl) (by kernel_rfl) (fun _ _ _ h => h) (by rfl) ?_ (by assumption) ?_
   rotate_left
   ·(intro w hSw; (try dsimp only at hSw); go_simp; with_reducible rfl)
   simp only [Act.put, List.setIfInBounds_toArray, List.set_cons_zero, List.set_cons_succ]
   refine upto_run (v := ?_) 1 37 [2, 3, 5, 10] rfl rfl (by kernel_rfl) (by kernel_rfl) (by kernel_rfl) (by kernel_rfl) (by kernel_rfl) (fun _ _ _ h => h) (by rfl) ?_ (by assumption) ?_
   rotate_left
   ·(intro w hSw; (try dsimp only at hSw); go_simp; with_reducible rfl)
   simp only [Act.put, List.setIfInBounds_toArray, List.set_cons_zero, List.set_cons_succ]
   refine upto_run (v := ?_) 2 38 [3, 5, 10] rfl rfl (by kernel_rfl) (by kernel_rfl) (by kernel_rfl) (by kernel_rfl) (by kernel_rfl) (fun _ _ _ h => h) (by rfl) ?_ (by assumption) ?_
   rotate_left
   ·(intro w hSw; (try dsimp only at hSw); go_simp; with_reducible rfl)
   simp only [Act.put, List.setIfInBounds_toArray, List.set_cons_zero, List.set_cons_succ]
   refine upto_run (v := ?_) 3 39 [5, 10] rfl rfl (by kernel_rfl) (by kernel_rfl) (by kernel_rfl) (by kernel_rfl) (by kernel_rfl) (fun _ _ _ h => h) (by rfl) ?_ (by assumption) ?_
   rotate_left
   ·(intro w hSw; (try dsimp only at hSw); go_simp; with_reducible rfl)
   simp only [Act.put, List.setIfInBounds_toArray, List.set_cons_zero, List.set_cons_succ]
   refine upto_run (v := ?_) 4 40 [5, 10] rfl rfl (by kernel_rfl) (by kernel_rfl) (by kernel_rfl) (by kernel_rfl) (by kernel_rfl) (fun _ _ _ h => h) (by rfl) ?_ (by assumption) ?_
   rotate_left
   ·(intro w hSw; (try dsimp only at hSw); go_simp; with_reducible rfl)
   simp only [Act.put, List.setIfInBounds_toArray, List.set_cons_zero, List.set_cons_succ]
   refine upto_run (v := ?_) 5 41 [10] rfl rfl (by kernel_rfl) (by kernel_rfl) (by kernel_rfl) (by kernel_rfl) (by kernel_rfl) (fun _ _ _ h => h) (by rfl) ?_ (by assumption) ?_
   rotate_left
   ·(intro w hSw; (try dsimp only at hSw); go_simp; with_reducible rfl)
   simp only [Act.put, List.setIfInBounds_toArray, List.set_cons_zero, List.set_cons_succ]
   refine upto_run (v := ?_) 6 42 [8, 9, 10] rfl rfl (by kernel_rfl) (by kernel_rfl) (by kernel_rfl) (by kernel_rfl) (by kernel_rfl) (fun _ _ _ h => h) (by rfl) ?_ (by assumption) ?_
   rotate_left
   ·(intro w hSw; (try dsimp only at hSw); go_simp; with_reducible rfl)
   simp only [Act.put, List.setIfInBounds_toArray, List.set_cons_zero, List.set_cons_succ]
   refine upto_run (v := ?_) 7 43 [8, 9, 10] rfl rfl (by kernel_rfl) (by kernel_rfl) (by kernel_rfl) (by kernel_rfl) (by kernel_rfl) (fun _ _ _ h => h) (by rfl) ?_ (by assumption) ?_
   rotate_left
   ·(intro w hSw; (try dsimp only at hSw); go_simp; with_reducible rfl)
   simp only [Act.put, List.setIfInBounds_toArray, List.set_cons_zero, List.set_cons_succ]
   refine upto_run (v := ?_) 8 44 [9, 10] rfl rfl (by kernel_rfl) (by kernel_rfl) (by kernel_rfl) (by kernel_rfl) (by kernel_rfl) (fun _ _ _ h => h) (by rfl) ?_ (by assumption) ?_
   rotate_left
   ·(intro w hSw; (try dsimp only at hSw); go_simp; with_reducible rfl)
   simp only [Act.put, List.setIfInBounds_toArray, List.set_cons_zero, List.set_cons_succ]
   refine upto_run (v := ?_) 9 45 [10] rfl rfl (by kernel_rfl) (by kernel_rfl) (by kernel_rfl) (by kernel_rfl) (by kernel_rfl) (fun _ _ _ h => h) (by rfl) ?_ (by assumption) ?_
   rotate_left
   ·(intro w hSw; (try dsimp only at hSw); go_simp; with_reducible rfl)
   simp only [Act.put, List.setIfInBounds_toArray, List.set_cons_zero, List.set_cons_succ]
   obtain ⟨W4, hcp, hv4, hs4, hb4⟩ := copy_vec_at HV3.out.drew n (n * 2) n n rfl (.slice zo zs.length zcap) zs (by exact HZ.out.below HV3.out.drew.below (Nat.le_refl _)) (by rw [List.length_append, List.length_replicate, HUL.out]; have := HZL.out; omega) HZL.out
   have HCP := hide hcp
   clear hcp
   refine upto_one 10 (by kernel_rfl) rfl (fun K hK => ?_)
   refine step_copy rfl 46 rfl (.tmp 41) (.tmp 45) 39 39 rfl (.slice (some ⟨P, n * 2, none⟩) n n) (.slice zo zs.length zcap) _ W4 rfl rfl HCP.out ?_
   refine hK.out _ _ (fun h => absurd h (by decide)) ?_
   clear hK K
   try simp only [Act.put, List.setIfInBounds_toArray, List.set_cons_zero, List.set_cons_succ]
   refine upto_done (by kernel_rfl) ?_
   clear HCP d1 d2 g1 g2 g3
   rw [splice_second HUL.out HZL.out] at hv4
   have HE : Hid (RowsI w W4 w.heap.size hs.length (besL n hs os) (k + 1) nv) := by
    refine HI.out.step_at hkl HGD.out (L := 2 * n) (by rw [List.length_append, List.length_append, List.length_replicate, HUL.out]; have := HZL.out; omega) ?_ (by rw [hP]; exact hv4.lt) (by rw [hP]; exact hv4.vec)
    rw [hP]
    exact (HX1.out.trans HB3.out).trans ((Below.refl _ _).drew.trans hb4)
   clear hv4 hs4 hb4 HI HX1 HB3 HV3
   go_wp2
   go_roundw
   case rel => exact ⟨k + 1, by omega, by go_num, HE⟩
   case measure => simp [intOf]; omega
  ·obtain rfl : k = hs.length := by omega
   have HM := hide (HI.out.mat HBL.out)
   have HBE := hide HI.out.low
   clear HI
   go_wp2
   go_ret
   exact ⟨_, rfl, HM.out, HBE.out⟩

end Go.Proofs.YtajcdhaaldhlaaaGreatDoor

/- Of rows in the one form those that are nought in the first half. -/
namespace Go.Proofs.YtajcdhaaldhlaaaGreatDoor
open Go.RowKit Limbs

def behindL (n : Nat) (ts : List (List Int)) : List (List Int) := (ts.filter fun r => decide ((n : Int) ≤ first r)).map (·.drop n)

theorem pivot_cut (n : Nat) (p : Nat → Nat) (r : Nat) (inc : ∀ i k, i < k → k < r → p i < p k) : ∀ m, m ≤ r → ∃ c, c ≤ m ∧ (∀ k, k < c → p k < n) ∧ ∀ k, c ≤ k → k < m → n ≤ p k
 | 0, _ => ⟨0, Nat.le_refl _, fun k hk => absurd hk (by omega), fun k _ hk => absurd hk (by omega)⟩
 | m + 1, hm => by
  obtain ⟨c, hc, h1, h2⟩ := pivot_cut n p r inc m (by omega)
  by_cases h : p m < n
  ·refine ⟨m + 1, Nat.le_refl _, fun k hk => ?_, fun k h1 h2 => absurd h1 (by omega)⟩
   by_cases hkm : k = m
   ·rw [hkm]; exact h
   ·exact Nat.lt_trans (inc k m (by omega) (by omega)) h
  ·refine ⟨c, by omega, h1, fun k hk hkm => ?_⟩
   by_cases e : k = m
   ·rw [e]; omega
   ·exact h2 k hk (by omega)

theorem getD_drop' (r : List Int) (n j : Nat) : (r.drop n).getD j 0 = r.getD (n + j) 0 := by
 rw [List.getD_eq_getElem?_getD, List.getElem?_drop, List.getD_eq_getElem?_getD]

theorem filter_cut {n m : Nat} {ts : List (List Int)} {p : Nat → Nat} (F : FormL m ts p) : ∃ c, c ≤ ts.length ∧ (∀ k, k < c → p k < n) ∧ (∀ k, c ≤ k → k < ts.length → n ≤ p k) ∧ (ts.filter fun r => decide ((n : Int) ≤ first r)) = ts.drop c := by
 obtain ⟨c, hc, h1, h2⟩ := pivot_cut n p ts.length F.form.inc ts.length (Nat.le_refl _)
 refine ⟨c, hc, h1, h2, ?_⟩
 have e : ts = ts.take c ++ ts.drop c := (List.take_append_drop c ts).symm
 conv => lhs; rw [e]
 rw [List.filter_append]
 have e1 : ((ts.take c).filter fun r => decide ((n : Int) ≤ first r)) = [] := by
  rw [List.filter_eq_nil_iff]
  intro r hr
  obtain ⟨k, hk, e⟩ := List.getElem_of_mem hr
  rw [List.length_take] at hk
  rw [List.getElem_take] at e
  have hf := (F.first (show k < ts.length by omega)).1
  have := h1 k (by omega)
  rw [← e, hf]
  simp only [decide_eq_true_eq]
  omega
 have e2 : ((ts.drop c).filter fun r => decide ((n : Int) ≤ first r)) = ts.drop c := by
  rw [List.filter_eq_self]
  intro r hr
  obtain ⟨k, hk, e⟩ := List.getElem_of_mem hr
  rw [List.length_drop] at hk
  rw [List.getElem_drop] at e
  have hf := (F.first (show c + k < ts.length by omega)).1
  have := h2 (c + k) (by omega) (by omega)
  rw [← e, hf]
  simp only [decide_eq_true_eq]
  omega
 rw [e1, e2, List.nil_append]

theorem behind_get {n c : Nat} {ts : List (List Int)} (k j : Nat) (hk : c + k < ts.length) : (((ts.drop c).map (·.drop n)).getD k []).getD j 0 = (ts.getD (c + k) []).getD (n + j) 0 := by
 have hl : k < ((ts.drop c).map (·.drop n)).length := by rw [List.length_map, List.length_drop]; omega
 rw [getD_row hl, List.getElem_map, List.getElem_drop, getD_drop', getD_row hk]

theorem behind_form {n : Nat} {ts : List (List Int)} {p : Nat → Nat} (F : FormL (n + n) ts p) : ∃ q, FormL n (behindL n ts) q := by
 obtain ⟨c, hc, -, h2, e⟩ := filter_cut (n := n) F
 refine ⟨fun k => p (c + k) - n, ?_⟩
 unfold behindL
 rw [e]
 have hl : ((ts.drop c).map (·.drop n)).length = ts.length - c := by rw [List.length_map, List.length_drop]
 refine ⟨fun r hr => ?_, ?_⟩
 ·obtain ⟨s, hs, rfl⟩ := List.mem_map.1 hr
  rw [List.length_drop, F.len s (List.mem_of_mem_drop hs)]
  omega
 ·rw [hl]
  refine ⟨fun i k hik hk => ?_, fun i hi => ?_, fun i b hi hb => ?_, fun i hi => ?_, fun i k hik hk => ?_⟩
  ·have := F.form.inc (c + i) (c + k) (by omega) (by omega)
   have := h2 (c + i) (by omega) (by omega)
   omega
  ·have := F.form.lt (c + i) (by omega)
   have := h2 (c + i) (by omega) (by omega)
   omega
  ·rw [behind_get i b (by omega)]
   exact F.form.zero (c + i) (n + b) (by omega) (by omega)
  ·have h3 := h2 (c + i) (by omega) (by omega)
   rw [behind_get i _ (by omega), show n + (p (c + i) - n) = p (c + i) by omega]
   exact F.form.pos (c + i) (by omega)
  ·have h3 := h2 (c + k) (by omega) (by omega)
   rw [behind_get i _ (by omega), behind_get k _ (by omega), show n + (p (c + k) - n) = p (c + k) by omega]
   exact F.form.red (c + i) (c + k) (by omega) (by omega)

theorem behind_gens {n : Nat} {ts : List (List Int)} {p : Nat → Nat} (F : FormL (n + n) ts p) {v : List Int} (hv : v.length = n) : Gens n (InL (behindL n ts)) v ↔ Gens (n + n) (InL ts) (List.replicate n 0 ++ v) := by
 obtain ⟨c, hc, h1, h2, e⟩ := filter_cut (n := n) F
 unfold behindL
 rw [e]
 constructor
 ·intro h
  clear hv
  induction h with
  | base hv hl =>
   obtain ⟨s, hs, rfl⟩ := List.mem_map.1 hv
   have hst := List.mem_of_mem_drop hs
   have hsl := F.len s hst
   obtain ⟨k, hk, es⟩ := List.getElem_of_mem hs
   rw [List.length_drop] at hk
   rw [List.getElem_drop] at es
   have es' : List.replicate n 0 ++ s.drop n = s := by
    apply list_ext (by rw [List.length_append, List.length_replicate, List.length_drop, hsl]; omega)
    intro j hj
    rw [List.length_append, List.length_replicate, List.length_drop, hsl] at hj
    by_cases hjn : j < n
    ·rw [getD_left _ _ _ (by simpa using hjn), getD_zeros]
     have := F.form.zero (c + k) j (by omega) (by have := h2 (c + k) (by omega) (by omega); omega)
     rw [getD_row (by omega), es] at this
     exact this.symm
    ·have hr := getD_right (List.replicate n 0) (s.drop n) (j - n)
     rw [List.length_replicate, show n + (j - n) = j by omega, getD_drop', show n + (j - n) = j by omega] at hr
     exact hr
   rw [es']
   exact .base hst hsl
  | zero =>
   rw [List.replicate_append_replicate]
   exact .zero
  | comb x y hu hv g1 g2 =>
   have := Gens.comb x y g1 g2
   rw [comb_app x y _ _ _ _ rfl, comb_zeros] at this
   exact this
 ·intro h
  obtain ⟨d, hd⟩ := lat_inL h
  have hz : ∀ k, k < c → d k = 0 := by
   intro k
   induction k using Nat.strongRecOn with
   | _ k ih =>
    intro hk
    have hp := h1 k hk
    have ha := F.form.at_pivot d k (by omega) (fun j hj => ih j hj (by omega))
    have hb : (List.replicate n 0 ++ v).getD (p k) 0 = sumN ts.length (fun j => d j * (ts.getD j []).getD (p k) 0) := hd (p k) (by omega)
    rw [getD_left _ _ _ (by simpa using hp), getD_zeros] at hb
    have hpos := F.form.pos k (by omega)
    have h0 : d k * (ts.getD k []).getD (p k) 0 = 0 := ha.symm.trans hb.symm
    rcases Int.mul_eq_zero.1 h0 with h | h
    ·exact h
    ·omega
  apply gens_of_lat (fun r hr => ?_) hv
  ·refine ⟨fun k => d (c + k), fun b hb => ?_⟩
   have hb' : (List.replicate n 0 ++ v).getD (n + b) 0 = sumN ts.length (fun j => d j * (ts.getD j []).getD (n + b) 0) := hd (n + b) (by omega)
   show v.getD b 0 = sumN ((ts.drop c).map (·.drop n)).length (fun k => d (c + k) * (((ts.drop c).map (·.drop n)).getD k []).getD b 0)
   have hr := getD_right (List.replicate n 0) v b
   rw [List.length_replicate] at hr
   rw [hr] at hb'
   rw [hb']
   have hl : ((ts.drop c).map (·.drop n)).length = ts.length - c := by rw [List.length_map, List.length_drop]
   rw [hl]
   have hs : ∀ m, c + m ≤ ts.length → sumN (c + m) (fun k => d k * (ts.getD k []).getD (n + b) 0) = sumN m (fun k => d (c + k) * (((ts.drop c).map (·.drop n)).getD k []).getD b 0) := by
    intro m
    induction m with
    | zero =>
     intro _
     refine (sumN_congr (g := fun _ => 0) fun k hk => ?_).trans (sumN_zero _)
     rw [hz k hk, Int.zero_mul]
    | succ m ih =>
     intro hm
     have e1 : sumN (c + (m + 1)) (fun k => d k * (ts.getD k []).getD (n + b) 0) = sumN (c + m) (fun k => d k * (ts.getD k []).getD (n + b) 0) + d (c + m) * (ts.getD (c + m) []).getD (n + b) 0 := rfl
     have e2 : sumN (m + 1) (fun k => d (c + k) * (((ts.drop c).map (·.drop n)).getD k []).getD b 0) = sumN m (fun k => d (c + k) * (((ts.drop c).map (·.drop n)).getD k []).getD b 0) + d (c + m) * (((ts.drop c).map (·.drop n)).getD m []).getD b 0 := rfl
     rw [e1, e2, ih (by omega), behind_get m b (by omega)]
   have := hs (ts.length - c) (by omega)
   rw [show c + (ts.length - c) = ts.length by omega] at this
   exact this
  ·obtain ⟨s, hs, rfl⟩ := List.mem_map.1 hr
   rw [List.length_drop, F.len s (List.mem_of_mem_drop hs)]
   omega

theorem meet_gens {n : Nat} {hs ks ts : List (List Int)} {p : Nat → Nat} (hl : ∀ r ∈ hs, r.length = n) (kl : ∀ r ∈ ks, r.length = n) (F : FormL (n + n) ts p) (a : Alikes (n + n) (InL ts) (InL (wideL n hs ks))) {v : List Int} (hv : v.length = n) : Gens n (InL (behindL n ts)) v ↔ Gens n (InL hs) v ∧ Gens n (InL ks) v :=
 (behind_gens F hv).trans ((a _).trans (meet_wide hl kl hv))

end Go.Proofs.YtajcdhaaldhlaaaGreatDoor

/- lattice.behind: of rows those that are nought in the first places, without these. -/
namespace Go.Proofs.YtajcdhaaldhlaaaGreatDoor
open Go.RowKit Limbs

theorem VecN.drop {W : World} {b off cap : Nat} {us : List Int} {nv n m : Nat} (h : VecN W (.slice (some ⟨b, off, none⟩) us.length cap) us nv) (hn : n + m = us.length) (hm : 0 < m) : VecN W (.slice (some ⟨b, off + n * 2, none⟩) m (cap - n)) (us.drop n) nv := by
 have hc : us.length ≤ cap := by
  obtain ⟨_, _, e, h1, -⟩ := h
  simp only [Value.slice.injEq, true_and] at e
  rw [e.2]; exact h1
 have hl : (us.drop n).length = m := by rw [List.length_drop]; omega
 refine ⟨_, _, by rw [hl], by rw [hl]; omega, fun _ => ⟨b, off + n * 2, rfl, (h.at 0 (by omega)).1, fun i hi => ?_⟩⟩
 rw [hl] at hi
 obtain ⟨-, neg, o, l, c, h1, h2, h3⟩ := h.at (n + i) (by omega)
 refine ⟨neg, o, l, c, ?_, ?_, ?_⟩
 ·rw [show off + n * 2 + i * 2 = off + (n + i) * 2 by omega]; exact h1
 ·rw [show off + n * 2 + i * 2 + 1 = off + (n + i) * 2 + 1 by omega]; exact h2
 ·rw [getD_drop']; exact h3

theorem behindL_succ (n : Nat) (ts : List (List Int)) (k : Nat) (hk : k < ts.length) : behindL n (ts.take (k + 1)) = behindL n (ts.take k) ++ (if (n : Int) ≤ first ts[k] then [ts[k].drop n] else []) := by
 unfold behindL
 rw [List.take_succ_eq_append_getElem hk, List.filter_append, List.map_append]
 by_cases h : (n : Int) ≤ first ts[k]
 ·rw [if_pos h, List.filter_cons_of_pos (by simpa using h)]; rfl
 ·rw [if_neg h, List.filter_cons_of_neg (by simpa using h)]; rfl

theorem behindL_short (n : Nat) (ts : List (List Int)) (k : Nat) : (behindL n (ts.take k)).length ≤ k := by
 unfold behindL
 rw [List.length_map]
 exact Nat.le_trans (List.length_filter_le _ _) (by rw [List.length_take]; omega)

set_option linter.unusedSimpArgs false in
set_option maxRecDepth 100000 in
set_option maxHeartbeats 4000000 in
theorem behind_any (w : World) (va : Value) (n nv : Nat) (ts : List (List Int)) (ha : MatN w va ts nv) (hl : ∀ r ∈ ts, r.length = n + n) (h1 : 1 ≤ n) (h4 : n ≤ 4) (hm : ts.length ≤ 100) :
  Calls Tryz.prog 35 #[va, .int .i64 (n : Int)] w fun e w' => ∃ u, e = .returned u ∧ MatN w' u (behindL n ts) nv ∧ Below w.heap.size w w' := by
 obtain ⟨j0, hj, hy0, hy1, hy2⟩ := info_parts Tryz.infoVec
 have HA := hide ha; have HL := hide hl
 obtain ⟨ao, acap, rfl, -, -⟩ := ha
 clear hl
 go_enter Tryz.func35, Tryz.ntmps35
 go_wp2
 go_loopw [5, 9] (fun out i wr => ∃ (k : Nat) (qs : List (Value × List Int)), k ≤ ts.length ∧ i = .int .i64 k ∧ Hid (GrowV wr w.heap.size out qs nv) ∧ Hid (qs.map (·.2) = behindL n (ts.take k)) ∧ Hid (Below w.heap.size w wr)) (fun _ i _ => ts.length - (intOf i).toNat)
 case atStart => exact ⟨0, [], Nat.zero_le _, rfl, hide (GrowV.nil _ _ _), hide (by simp [behindL]), hide (Below.refl _ _)⟩
 case round =>
  obtain ⟨k, qs, hk, rfl, HGV, HQ, HBE⟩ := hrel
  have HQL : Hid (qs.length ≤ 100) := by
   have h1 := congrArg List.length HQ.out
   have h2 := behindL_short n ts k
   rw [List.length_map] at h1
   show qs.length ≤ 100
   omega
  by_cases hkl : k < ts.length
  ·obtain ⟨rb, roff, _, e, lr, ru, cu, hru⟩ := HA.out.at k hkl
   simp only [Value.slice.injEq, true_and] at e
   obtain ⟨rfl, rfl⟩ := e
   have HLU : Hid (ts[k].length = n + n) := HL.out _ (List.getElem_mem hkl)
   have HSU := hide (behindL_succ n ts k hkl)
   generalize ts[k] = us at *
   obtain ⟨vb, voff, vcap, rfl⟩ := hru.form (by have := HLU.out; omega)
   have hcap : n + n ≤ vcap := by
    obtain ⟨_, _, e, h1, -⟩ := hru
    simp only [Value.slice.injEq, true_and] at e
    have := HLU.out
    omega
   have HU := hide (hru.below HBE.out (Nat.le_refl _))
   have HD := hide (HU.out.drop (n := n) (m := n) HLU.out.symm (by omega))
   rw [HLU.out] at cu
   have c1 := (HBE.out.cell (p := ⟨rb, roff + k, none⟩) lr).trans cu
   clear hru cu
   go_wp2_with fail
   refine (firstV_any wr _ us nv (by have := HU.out; rw [HLU.out] at this; exact this) (by have := HLU.out; omega)).mono ?_
   rintro e w1 ⟨rfl, hb1⟩
   have HB1 := hide (HBE.out.trans (hb1.mono HBE.out.size))
   have HG1 := hide (HGV.out.later hb1)
   have HD1 := hide (HD.out.below hb1 (Nat.le_refl _))
   have c2 := (hb1.cell (p := ⟨rb, roff + k, none⟩) (Nat.lt_of_lt_of_le lr HBE.out.size)).trans c1
   clear hb1 HGV HD HU c1
   by_cases hf : (n : Int) ≤ first us
   ·have g1 : decide ((n : Int) ≤ first us) = true := decide_eq_true hf
    have HQ' : Hid ((qs ++ [((.slice (some ⟨vb, voff + n * 2, none⟩) n (vcap - n) : Value), us.drop n)]).map (·.2) = behindL n (ts.take (k + 1))) := by
     show _ = _
     rw [List.map_append, HQ.out, HSU.out, if_pos hf]; rfl
    have hown := HG1.out.own
    have hall := HG1.out.all.later ((Below.refl _ _).alloc (Nat.le_refl _) (.cells #[.slice (some ⟨vb, voff + n * 2, none⟩) n (vcap - n)] 39))
    have hbs := HB1.out.size
    have g2 : ¬ (n : Int) < 0 := by omega
    clear hf
    go_wp2_with (at_builtin; refine wpList_append_sl rfl _ _ 28 rfl w.heap.size 39 j0 24 (by kernel_rfl) hj hy0 hy1 hy2 u5 qs.length (qs.map (·.1)) rfl (hown.alloc _) hall ⟨w1.heap.size, 0, none⟩ 1 (some ⟨vb, voff + n * 2, none⟩) n (vcap - n) rfl (World.news_of_block (heap_alloc_new w1 _)) (by unfold maxLen; have := HQL.out; omega) (by have := HQL.out; omega) (by simp; omega) ?_)
    intro g cap' w5 hown5 hgrow5 hall5
    have HG5 := hide (growV_snoc (HG1.out.later ((Below.refl _ _).alloc (Nat.le_refl _) _)) (HD1.out.below ((Below.refl _ _).alloc (Nat.le_refl _) _) (Nat.le_refl _)) hown5 hgrow5 hall5)
    have HB5 := hide ((HB1.out.alloc HB1.out.size _).trans (grownV_below (HG1.out.later ((Below.refl _ _).alloc (Nat.le_refl _) _)) (by simp; omega) hgrow5))
    clear hown hall hown5 hgrow5 hall5 HG1 HD1 HB1 c2
    go_wp2
    go_roundw
    case rel => exact ⟨k + 1, _, by omega, by go_num, HG5, HQ', HB5⟩
    case measure => simp [intOf]; omega
   ·have g1 : decide ((n : Int) ≤ first us) = false := decide_eq_false hf
    have HQ' : Hid (qs.map (·.2) = behindL n (ts.take (k + 1))) := by
     show _ = _
     rw [HQ.out, HSU.out, if_neg hf, List.append_nil]
    clear hf
    go_wp2
    go_roundw
    case rel => exact ⟨k + 1, _, by omega, by go_num, HG1, HQ', HB1⟩
    case measure => simp [intOf]; omega
  ·obtain rfl : k = ts.length := by omega
   have HF : Hid (MatN wr u5 (behindL n ts) nv) := by
    have := HGV.out.mat
    rw [HQ.out, List.take_length] at this
    exact this
   clear HGV HQ
   go_wp2
   go_ret
   exact ⟨_, rfl, HF.out, HBE.out⟩

end Go.Proofs.YtajcdhaaldhlaaaGreatDoor

/- Regions that draw their order, and make, and call: what each operation answered stands while others come up; the last one may write. -/
namespace Go.Proofs.YtajcdhaaldhlaaaGreatDoor
open Go.RowKit Limbs

structure FS (deps : Nat → List Nat) (kv : Nat → Option Value) (Sp : Nat → (Nat → Value) → World → Prop) (w : World) (L : Array Bool) (c : Nat → Value) (W : World) : Prop where
 below : Below w.heap.size w W
 plain : ∀ i v, L.getD i false = true → kv i = some v → c i = v
 spec : ∀ i, L.getD i false = true → Sp i c W
 closed : ∀ i, L.getD i false = true → ∀ j ∈ deps i, L.getD j false = true

structure Stays (deps : Nat → List Nat) (Sp : Nat → (Nat → Value) → World → Prop) : Prop where
 later : ∀ i c W W', Below W.heap.size W W' → Sp i c W → Sp i c W'
 other : ∀ i j c v W, j ≠ i → i ∉ deps j → Sp j c W → Sp j (upd c i v) W

variable {deps : Nat → List Nat} {kv : Nat → Option Value} {Sp : Nat → (Nat → Value) → World → Prop} {Fin : (Nat → Value) → World → Prop} {w W W' : World} {L : Array Bool} {c : Nat → Value}

theorem FS.start (w : World) (n : Nat) (c : Nat → Value) : FS deps kv Sp w (Array.replicate n false) c w.drew where
 below := (Below.refl _ _).drew
 plain := fun i _ h => by simp [Array.getD] at h
 spec := fun i h => by simp [Array.getD] at h
 closed := fun i h => by simp [Array.getD] at h

theorem FS.made (h : FS deps kv Sp w L c W) (hst : Stays deps Sp) {i : Nat} (hn : L.getD i true = false) (hd : ∀ j ∈ deps i, L.getD j false = true) (hb : Below W.heap.size W W') {v : Value} (hk : ∀ u, kv i = some u → v = u) (hnew : Sp i (upd c i v) W') :
  FS deps kv Sp w (L.setIfInBounds i true) (upd c i v) W' where
 below := h.below.trans (hb.mono h.below.size)
 plain := fun j u hj hu => by
  by_cases e : j = i
  ·subst e; rw [upd_self]; exact hk u hu
  ·rw [upd_ne _ _ e]; exact h.plain j u (listed_old (fun e' => e e'.symm) hj) hu
 spec := fun j hj => by
  by_cases e : j = i
  ·subst e; exact hnew
  ·have hj' := listed_old (fun e' => e e'.symm) hj
   exact hst.other _ _ _ _ _ e (fun hm => listed_not hn (h.closed j hj' i hm)) (hst.later _ _ _ _ hb (h.spec j hj'))
 closed := fun j hj k hjk => by
  by_cases ek : i = k
  ·subst ek; exact listed_new hn
  ·rw [getD_set_ne false ek]
   by_cases e : j = i
   ·subst e; exact hd k hjk
   ·exact h.closed j (listed_old (fun e' => e e'.symm) hj) k hjk

def FSx (deps : Nat → List Nat) (kv : Nat → Option Value) (Sp : Nat → (Nat → Value) → World → Prop) (Fin : (Nat → Value) → World → Prop) (w : World) (m : Nat) (L : Array Bool) (c : Nat → Value) (W : World) : Prop :=
 (L.getD m false = false ∧ FS deps kv Sp w L c W) ∨ ((∀ i, i ≤ m → L.getD i false = true) ∧ Fin c W)

theorem FSx.start (w : World) (n m : Nat) (c : Nat → Value) : FSx deps kv Sp Fin w m (Array.replicate n false) c w.drew :=
 .inl ⟨by simp [Array.getD], FS.start w n c⟩

theorem FSx.pre {m : Nat} (h : FSx deps kv Sp Fin w m L c W) {i : Nat} (hi : i ≤ m) (hn : L.getD i true = false) : L.getD m false = false ∧ FS deps kv Sp w L c W := by
 rcases h with h | ⟨h, -⟩
 ·exact h
 ·exact absurd (h i hi) (listed_not hn)

theorem FS.next {m i : Nat} (h : FS deps kv Sp w (L.setIfInBounds i true) c W) (hne : i ≠ m) (hm : L.getD m false = false) : FSx deps kv Sp Fin w m (L.setIfInBounds i true) c W :=
 .inl ⟨by rw [getD_set_ne false hne]; exact hm, h⟩

theorem FSx.last {m : Nat} (hall : ∀ j, j < m → L.getD j false = true) (hn : L.getD m true = false) (hf : Fin c W) : FSx deps kv Sp Fin w m (L.setIfInBounds m true) c W :=
 .inr ⟨fun j hj => by
  by_cases e : m = j
  ·subst e; exact listed_new hn
  ·rw [getD_set_ne false e]; exact hall j (by omega), hf⟩

theorem FSx.fin {m : Nat} (h : FSx deps kv Sp Fin w m L c W) (hall : L.getD m false = true) : Fin c W := by
 rcases h with ⟨h, -⟩ | ⟨-, h⟩
 ·rw [hall] at h; cases h
 ·exact h

end Go.Proofs.YtajcdhaaldhlaaaGreatDoor
