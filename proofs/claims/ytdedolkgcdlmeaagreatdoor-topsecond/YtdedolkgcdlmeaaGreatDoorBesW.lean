/- lattice.beside: rows twice as wide. -/
import Derived.Test.YtdedolkgcdlmeaaGreatDoorBeside
import Derived.Test.YtdedolkgcdlmeaaGreatDoorLatS
namespace Go.Proofs.YtdedolkgcdlmeaaGreatDoor
open Go.RowKit Limbs

set_option linter.unusedSimpArgs false in
set_option maxRecDepth 100000 in
set_option maxHeartbeats 4000000 in
theorem beside_any (w : World) (va vo : Value) (n nv : Nat) (hs os : List (List Int)) (ha : MatN w va hs nv) (ho : MatN w vo os nv) (hl : ∀ r ∈ hs, r.length = n) (hol : ∀ r ∈ os, r.length ≤ n) (hlen : os.length = hs.length) (h1 : 1 ≤ n) (h4 : n ≤ 4) (hm : hs.length ≤ 100) :
    Calls Tryz.prog 82 #[va, vo] w fun e w' => ∃ u, e = .returned u ∧ MatN w' u (besL n hs os) nv ∧ Below w.heap.size w w' := by
  have HA := hide ha; have HO := hide ho; have HL := hide hl; have HOL := hide hol; have HLN := hide hlen
  have HBL := hide (besL_len n hs os hlen)
  obtain ⟨ao, acap, rfl, -, -⟩ := ha
  obtain ⟨oo, ocap, rfl, -, -⟩ := ho
  clear hl hol hlen
  have hmk := run_mkM hs.length (by omega)
  have HS : Hid (RowsI w (w.alloc (.cells (madeCells #[.slice none 0 0] hs.length) 72)) w.heap.size hs.length (besL n hs os) 0 nv) := RowsI.start (Below.refl _ _) _ _ _
  go_enter Tryz.func82, Tryz.ntmps82
  go_wp2
  clear hmk
  go_loopw [13] (fun i wr => ∃ k : Nat, k ≤ hs.length ∧ i = .int .i64 k ∧ Hid (RowsI w wr w.heap.size hs.length (besL n hs os) k nv)) (fun i _ => hs.length - (intOf i).toNat)
  case atStart => exact ⟨0, Nat.zero_le _, rfl, HS⟩
  case round =>
    clear HS
    obtain ⟨k, hk, rfl, HI⟩ := hrel
    by_cases hkl : k < hs.length
    · have hko : k < os.length := by have := HLN.out; omega
      obtain ⟨rb, roff, _, e, lr, ru, cu, hru⟩ := HA.out.at k hkl
      simp only [Value.slice.injEq, true_and] at e
      obtain ⟨rfl, rfl⟩ := e
      obtain ⟨ob, ooff, _, e, lo, ou, co, hou⟩ := HO.out.at k hko
      simp only [Value.slice.injEq, true_and] at e
      obtain ⟨rfl, rfl⟩ := e
      have HU := hide hru; have HZ := hide hou
      have HUL : Hid (hs[k].length = n) := HL.out _ (List.getElem_mem hkl)
      have HZL : Hid (os[k].length ≤ n) := HOL.out _ (List.getElem_mem hko)
      have HGD := hide (besL_at n hs os k hkl hko)
      generalize hs[k] = us at *
      generalize os[k] = zs at *
      obtain ⟨ruo, rucap, rfl, -, -⟩ := hru
      obtain ⟨zo, zcap, rfl, -, -⟩ := hou
      rw [HUL.out] at cu HU
      have c1 := (HI.out.low.cell (p := ⟨rb, roff + k, none⟩) lr).trans cu
      have HBA := hide ((Below.refl wr.heap.size wr).alloc (Nat.le_refl _) (.cells (madeCells #[.bool false, .slice none 0 0] (2 * n * 2)) 29))
      have c2 := (HBA.out.cell (p := ⟨w.heap.size, k, none⟩) HI.out.lt).trans (HI.out.nil k (Nat.le_refl _) hkl)
      have c3 : (wr.alloc (.cells (madeCells #[.bool false, .slice none 0 0] (2 * n * 2)) 29)).frozen? ⟨w.heap.size, k, none⟩ = false := (HI.out.later HBA.out).thaw k
      have hmk : ∀ W : World, (Instr.makeSlice 72 (.int .i64 (2 * (n : Int))) (.int .i64 (2 * (n : Int)))).run Tryz.prog W = .ok (.slice (some ⟨W.heap.size, 0, none⟩) (2 * n) (2 * n)) (W.alloc (.cells (madeCells #[.bool false, .slice none 0 0] (2 * n * 2)) 29)) := fun W => by
        have := run_mkV (2 * n) (by omega) W
        rwa [show ((2 * n : Nat) : Int) = 2 * (n : Int) by omega] at this
      have HV0 := hide (VecO.made w wr HI.out.low (2 * n) nv)
      have HV1 := hide (HV0.out.other (k := k) (x := .slice (some ⟨wr.heap.size, 0, none⟩) (2 * n) (2 * n)) (by have := HI.out.lt; omega) (Nat.le_refl _) c2 (fun z e => by cases e))
      have HX1 := hide (made_then wr (.cells (madeCells #[.bool false, .slice none 0 0] (2 * n * 2)) 29) w.heap.size k HI.out.lt (.slice (some ⟨wr.heap.size, 0, none⟩) (2 * n) (2 * n)))
      have d1 := World.cell?_setCell_same (w := wr.alloc (.cells (madeCells #[.bool false, .slice none 0 0] (2 * n * 2)) 29)) (v := .slice (some ⟨wr.heap.size, 0, none⟩) (2 * n) (2 * n)) (h := c2)
      clear HV0 HBA
      go_wp2_with fail
      clear hmk c1 c2 c3
      generalize hW2 : (wr.alloc (.cells (madeCells #[.bool false, .slice none 0 0] (2 * n * 2)) 29)).setCell ⟨w.heap.size, k, none⟩ (.slice (some ⟨wr.heap.size, 0, none⟩) (2 * n) (2 * n)) = W2 at *
      have hlt2 : wr.heap.size < W2.heap.size := HV1.out.lt
      clear hW2
      generalize hP : wr.heap.size = P at *
      have d2 := (HV1.out.below.cell (p := ⟨rb, roff + k, none⟩) lr).trans cu
      have HDB : Hid (∀ W', Below P W2 W' → W'.cell? ⟨w.heap.size, k, none⟩ = some (.slice (some ⟨P, 0, none⟩) (2 * n) (2 * n))) := fun W' hb => (hb.cell (p := ⟨w.heap.size, k, none⟩) (by show w.heap.size < P; have := HI.out.lt; omega)).trans d1
      refine upto_start (S := (fun w' => w'.cell? ⟨w.heap.size, k, none⟩ = some (.slice (some ⟨P, 0, none⟩) (2 * n) (2 * n)) ∧ w'.cell? ⟨rb, roff + k, none⟩ = some (.slice ruo n rucap))) (k := 8) (by kernel_rfl) (by (try dsimp only); go_keep) (fun hHeld => ?_)
      refine upto_run (v := ?_) 0 27 [2, 3, 8] rfl rfl (by kernel_rfl) (by kernel_rfl) (by kernel_rfl) (by kernel_rfl) (by kernel_rfl) (fun _ _ _ h => h) (by rfl) ?_ (by assumption) ?_
      rotate_left
      · (intro w hSw; (try dsimp only at hSw); go_simp; with_reducible rfl)
      simp only [Act.put, List.setIfInBounds_toArray, List.set_cons_zero, List.set_cons_succ]
      refine upto_run (v := ?_) 1 28 [2, 3, 8] rfl rfl (by kernel_rfl) (by kernel_rfl) (by kernel_rfl) (by kernel_rfl) (by kernel_rfl) (fun _ _ _ h => h) (by rfl) ?_ (by assumption) ?_
      rotate_left
      · (intro w hSw; (try dsimp only at hSw); go_simp; with_reducible rfl)
      simp only [Act.put, List.setIfInBounds_toArray, List.set_cons_zero, List.set_cons_succ]
      refine upto_run (v := ?_) 2 29 [3, 8] rfl rfl (by kernel_rfl) (by kernel_rfl) (by kernel_rfl) (by kernel_rfl) (by kernel_rfl) (fun _ _ _ h => h) (by rfl) ?_ (by assumption) ?_
      rotate_left
      · (intro w hSw; (try dsimp only at hSw); go_simp; with_reducible rfl)
      simp only [Act.put, List.setIfInBounds_toArray, List.set_cons_zero, List.set_cons_succ]
      refine upto_run (v := ?_) 3 30 [8] rfl rfl (by kernel_rfl) (by kernel_rfl) (by kernel_rfl) (by kernel_rfl) (by kernel_rfl) (fun _ _ _ h => h) (by rfl) ?_ (by assumption) ?_
      rotate_left
      · (intro w hSw; (try dsimp only at hSw); go_simp; with_reducible rfl)
      simp only [Act.put, List.setIfInBounds_toArray, List.set_cons_zero, List.set_cons_succ]
      refine upto_run (v := ?_) 4 31 [6, 7, 8] rfl rfl (by kernel_rfl) (by kernel_rfl) (by kernel_rfl) (by kernel_rfl) (by kernel_rfl) (fun _ _ _ h => h) (by rfl) ?_ (by assumption) ?_
      rotate_left
      · (intro w hSw; (try dsimp only at hSw); go_simp; with_reducible rfl)
      simp only [Act.put, List.setIfInBounds_toArray, List.set_cons_zero, List.set_cons_succ]
      refine upto_run (v := ?_) 5 32 [6, 7, 8] rfl rfl (by kernel_rfl) (by kernel_rfl) (by kernel_rfl) (by kernel_rfl) (by kernel_rfl) (fun _ _ _ h => h) (by rfl) ?_ (by assumption) ?_
      rotate_left
      · (intro w hSw; (try dsimp only at hSw); go_simp; with_reducible rfl)
      simp only [Act.put, List.setIfInBounds_toArray, List.set_cons_zero, List.set_cons_succ]
      refine upto_run (v := ?_) 6 33 [7, 8] rfl rfl (by kernel_rfl) (by kernel_rfl) (by kernel_rfl) (by kernel_rfl) (by kernel_rfl) (fun _ _ _ h => h) (by rfl) ?_ (by assumption) ?_
      rotate_left
      · (intro w hSw; (try dsimp only at hSw); go_simp; with_reducible rfl)
      simp only [Act.put, List.setIfInBounds_toArray, List.set_cons_zero, List.set_cons_succ]
      refine upto_run (v := ?_) 7 34 [8] rfl rfl (by kernel_rfl) (by kernel_rfl) (by kernel_rfl) (by kernel_rfl) (by kernel_rfl) (fun _ _ _ h => h) (by rfl) ?_ (by assumption) ?_
      rotate_left
      · (intro w hSw; (try dsimp only at hSw); go_simp; with_reducible rfl)
      simp only [Act.put, List.setIfInBounds_toArray, List.set_cons_zero, List.set_cons_succ]
      obtain ⟨W3, hcp, hv3, hs3, hb3⟩ := copy_vec_at HV1.out.drew 0 0 (2 * n) (2 * n) rfl (.slice ruo n rucap) us (by have := HU.out.below HV1.out.drew.below (Nat.le_refl _); exact this) (by rw [List.length_replicate, HUL.out]; omega) (by have := HUL.out; omega)
      have HCP := hide hcp
      clear hcp
      refine upto_one 8 (by kernel_rfl) rfl (fun K hK => ?_)
      refine step_copy rfl 35 rfl (.tmp 30) (.tmp 34) 72 72 rfl (.slice (some ⟨P, 0, none⟩) (2 * n) (2 * n)) (.slice ruo n rucap) _ W3 rfl rfl HCP.out ?_
      refine hK.out _ _ (fun h => absurd h (by decide)) ?_
      clear hK K
      try simp only [Act.put, List.setIfInBounds_toArray, List.set_cons_zero, List.set_cons_succ]
      refine upto_done (by kernel_rfl) ?_
      clear HCP
      rw [splice_first HUL.out] at hv3
      have HV3 := hide hv3; have HB3 := hide (show Below P W2 W3 from (Below.refl _ _).drew.trans hb3)
      have hlt3 : P < W3.heap.size := hv3.lt
      clear hv3 hb3 hs3 d1 d2 HV1
      go_wp2_with fail
      have d1 := HDB.out W3 HB3.out
      have g1 : (n : Int) ≤ 2 * (n : Int) := by omega
      have g2 : ¬ (2 * n = n) := by omega
      have g3 : 2 * n - n = n := by omega
      have d2 := (HV3.out.below.cell (p := ⟨ob, ooff + k, none⟩) lo).trans co
      refine upto_start (S := (fun w' => w'.cell? ⟨w.heap.size, k, none⟩ = some (.slice (some ⟨P, 0, none⟩) (2 * n) (2 * n)) ∧ w'.cell? ⟨ob, ooff + k, none⟩ = some (.slice zo zs.length zcap))) (k := 10) (by kernel_rfl) (by (try dsimp only); go_keep) (fun hHeld => ?_)
      refine upto_run (v := ?_) 0 36 [2, 3, 5, 10] rfl rfl (by kernel_rfl) (by kernel_rfl) (by kernel_rfl) (by kernel_rfl) (by kernel_rfl) (fun _ _ _ h => h) (by rfl) ?_ (by assumption) ?_
      rotate_left
      · (intro w hSw; (try dsimp only at hSw); go_simp; with_reducible rfl)
      simp only [Act.put, List.setIfInBounds_toArray, List.set_cons_zero, List.set_cons_succ]
      refine upto_run (v := ?_) 1 37 [2, 3, 5, 10] rfl rfl (by kernel_rfl) (by kernel_rfl) (by kernel_rfl) (by kernel_rfl) (by kernel_rfl) (fun _ _ _ h => h) (by rfl) ?_ (by assumption) ?_
      rotate_left
      · (intro w hSw; (try dsimp only at hSw); go_simp; with_reducible rfl)
      simp only [Act.put, List.setIfInBounds_toArray, List.set_cons_zero, List.set_cons_succ]
      refine upto_run (v := ?_) 2 38 [3, 5, 10] rfl rfl (by kernel_rfl) (by kernel_rfl) (by kernel_rfl) (by kernel_rfl) (by kernel_rfl) (fun _ _ _ h => h) (by rfl) ?_ (by assumption) ?_
      rotate_left
      · (intro w hSw; (try dsimp only at hSw); go_simp; with_reducible rfl)
      simp only [Act.put, List.setIfInBounds_toArray, List.set_cons_zero, List.set_cons_succ]
      refine upto_run (v := ?_) 3 39 [5, 10] rfl rfl (by kernel_rfl) (by kernel_rfl) (by kernel_rfl) (by kernel_rfl) (by kernel_rfl) (fun _ _ _ h => h) (by rfl) ?_ (by assumption) ?_
      rotate_left
      · (intro w hSw; (try dsimp only at hSw); go_simp; with_reducible rfl)
      simp only [Act.put, List.setIfInBounds_toArray, List.set_cons_zero, List.set_cons_succ]
      refine upto_run (v := ?_) 4 40 [5, 10] rfl rfl (by kernel_rfl) (by kernel_rfl) (by kernel_rfl) (by kernel_rfl) (by kernel_rfl) (fun _ _ _ h => h) (by rfl) ?_ (by assumption) ?_
      rotate_left
      · (intro w hSw; (try dsimp only at hSw); go_simp; with_reducible rfl)
      simp only [Act.put, List.setIfInBounds_toArray, List.set_cons_zero, List.set_cons_succ]
      refine upto_run (v := ?_) 5 41 [10] rfl rfl (by kernel_rfl) (by kernel_rfl) (by kernel_rfl) (by kernel_rfl) (by kernel_rfl) (fun _ _ _ h => h) (by rfl) ?_ (by assumption) ?_
      rotate_left
      · (intro w hSw; (try dsimp only at hSw); go_simp; with_reducible rfl)
      simp only [Act.put, List.setIfInBounds_toArray, List.set_cons_zero, List.set_cons_succ]
      refine upto_run (v := ?_) 6 42 [8, 9, 10] rfl rfl (by kernel_rfl) (by kernel_rfl) (by kernel_rfl) (by kernel_rfl) (by kernel_rfl) (fun _ _ _ h => h) (by rfl) ?_ (by assumption) ?_
      rotate_left
      · (intro w hSw; (try dsimp only at hSw); go_simp; with_reducible rfl)
      simp only [Act.put, List.setIfInBounds_toArray, List.set_cons_zero, List.set_cons_succ]
      refine upto_run (v := ?_) 7 43 [8, 9, 10] rfl rfl (by kernel_rfl) (by kernel_rfl) (by kernel_rfl) (by kernel_rfl) (by kernel_rfl) (fun _ _ _ h => h) (by rfl) ?_ (by assumption) ?_
      rotate_left
      · (intro w hSw; (try dsimp only at hSw); go_simp; with_reducible rfl)
      simp only [Act.put, List.setIfInBounds_toArray, List.set_cons_zero, List.set_cons_succ]
      refine upto_run (v := ?_) 8 44 [9, 10] rfl rfl (by kernel_rfl) (by kernel_rfl) (by kernel_rfl) (by kernel_rfl) (by kernel_rfl) (fun _ _ _ h => h) (by rfl) ?_ (by assumption) ?_
      rotate_left
      · (intro w hSw; (try dsimp only at hSw); go_simp; with_reducible rfl)
      simp only [Act.put, List.setIfInBounds_toArray, List.set_cons_zero, List.set_cons_succ]
      refine upto_run (v := ?_) 9 45 [10] rfl rfl (by kernel_rfl) (by kernel_rfl) (by kernel_rfl) (by kernel_rfl) (by kernel_rfl) (fun _ _ _ h => h) (by rfl) ?_ (by assumption) ?_
      rotate_left
      · (intro w hSw; (try dsimp only at hSw); go_simp; with_reducible rfl)
      simp only [Act.put, List.setIfInBounds_toArray, List.set_cons_zero, List.set_cons_succ]
      obtain ⟨W4, hcp, hv4, hs4, hb4⟩ := copy_vec_at HV3.out.drew n (n * 2) n n rfl (.slice zo zs.length zcap) zs (by exact HZ.out.below HV3.out.drew.below (Nat.le_refl _)) (by rw [List.length_append, List.length_replicate, HUL.out]; have := HZL.out; omega) HZL.out
      have HCP := hide hcp
      clear hcp
      refine upto_one 10 (by kernel_rfl) rfl (fun K hK => ?_)
      refine step_copy rfl 46 rfl (.tmp 41) (.tmp 45) 72 72 rfl (.slice (some ⟨P, n * 2, none⟩) n n) (.slice zo zs.length zcap) _ W4 rfl rfl HCP.out ?_
      refine hK.out _ _ (fun h => absurd h (by decide)) ?_
      clear hK K
      try simp only [Act.put, List.setIfInBounds_toArray, List.set_cons_zero, List.set_cons_succ]
      refine upto_done (by kernel_rfl) ?_
      clear HCP d1 d2 g1 g2 g3
      rw [splice_second HUL.out HZL.out] at hv4
      have HE : Hid (RowsI w W4 w.heap.size hs.length (besL n hs os) (k + 1) nv) := by
        refine HI.out.step_at hkl HGD.out (L := 2 * n) (by rw [List.length_append, List.length_append, List.length_replicate, HUL.out]; have := HZL.out; omega) ?_ (by rw [hP]; exact hv4.lt) (by rw [hP]; exact hv4.vec)
        rw [hP]
        exact (HX1.out.trans HB3.out).trans ((Below.refl _ _).drew.trans hb4)
      clear hv4 hs4 hb4 HI HX1 HB3 HV3
      go_wp2
      go_roundw
      case rel => exact ⟨k + 1, by omega, by go_num, HE⟩
      case measure => simp [intOf]; omega
    · obtain rfl : k = hs.length := by omega
      have HM := hide (HI.out.mat HBL.out)
      have HBE := hide HI.out.low
      clear HI
      go_wp2
      go_ret
      exact ⟨_, rfl, HM.out, HBE.out⟩

end Go.Proofs.YtdedolkgcdlmeaaGreatDoor
