/- bag: the first generator that is this one is taken. -/
import Derived.Test.YtjdnhdcaifogmaaGreatDoorBgJ

namespace Go.Proofs.YtjdnhdcaifogmaaGreatDoor
open Go.RowKit

theorem erase_take (gs : List (List Int)) (v : List Int) (h : v ∈ gs) : gs.erase v = gs.take (gs.idxOf v) ++ gs.drop (gs.idxOf v + 1) := by
 induction gs with
 | nil => cases h
 | cons g gs ih =>
  by_cases e : g = v
  ·subst e; simp
  ·have h' : v ∈ gs := by
    rcases List.mem_cons.1 h with h | h
    ·exact absurd h.symm e
    ·exact h
   have hb : (g == v) = false := beq_eq_false_iff_ne.2 e
   rw [List.erase_cons, hb, List.idxOf_cons, hb]
   simp [ih h']

theorem three_new (w : World) (u v x : Value) (s t y : TypeId) : One (((w.alloc (.cells #[u] s)).alloc (.cells #[v] t)).alloc (.cells #[x] y)) w.heap.size u ∧ One (((w.alloc (.cells #[u] s)).alloc (.cells #[v] t)).alloc (.cells #[x] y)) (w.heap.size + 1) v ∧ One (((w.alloc (.cells #[u] s)).alloc (.cells #[v] t)).alloc (.cells #[x] y)) (w.heap.size + 1 + 1) x ∧ Below w.heap.size w (((w.alloc (.cells #[u] s)).alloc (.cells #[v] t)).alloc (.cells #[x] y)) := by
 obtain ⟨h1, h2, hb, hs⟩ := two_new w u v s t
 have hb2 := alloc_below ((w.alloc (.cells #[u] s)).alloc (.cells #[v] t)) (.cells #[x] y)
 have h3 := One.new ((w.alloc (.cells #[u] s)).alloc (.cells #[v] t)) x y
 rw [hs] at h3
 exact ⟨h1.later hb2, h2.later hb2, h3, hb.trans (hb2.mono hb.size)⟩

set_option linter.unusedSimpArgs false in
set_option maxRecDepth 100000 in
set_option maxHeartbeats 1600000 in
theorem take_any (w : World) (v x : Value) (qs : List Nc) (k : Nat) (vs : List Int) (h : CatV w v qs) (hk : k < qs.length) (hq : qs.length ≤ 100) (hg10 : qs[k].x.gens.length ≤ 10) (hg6 : ∀ g ∈ qs[k].x.gens, g.length ≤ 1000000) (hx : RowS w x vs) (hne : NonE qs) (r : Nat × List Nmd) (hr : r = if qs[k].x.gens.contains vs then (0, (qs.map (·.x)).set k ⟨qs[k].x.name, qs[k].x.n, qs[k].x.gens.erase vs⟩) else (7, [])) :
  Calls Tryz.prog 43 #[v, .int .i64 (k : Int), x] w fun e w' => CatRes w r e w' := by
 obtain ⟨u, rfl, hu⟩ := h
 obtain ⟨ao, cap, rfl, hcap, -⟩ := id hu
 obtain ⟨vo, vc, rfl⟩ := hx.form
 obtain ⟨x2, x3, x4, hbn⟩ := three_new w (.slice ao qs.length cap) (.slice vo vs.length vc) (.slice none 0 0) 27 44 27
 have hcat := hu.below hbn
 obtain ⟨b, off, cap', e⟩ := hcat.form (by omega)
 simp only [Value.slice.injEq, true_and] at e
 obtain ⟨rfl, rfl⟩ := e
 obtain ⟨hbl, -, -, d2, hin⟩ := hcat.at k hk
 obtain ⟨ps, hps, hsq, hgi⟩ := rowsS_seq hin
 have hgl : qs[k].l = qs[k].x.gens.length := by
  obtain ⟨_, _, e, -⟩ := id hin
  simp only [Value.slice.injEq] at e
  exact e.2.1
 have hpl : ps.length = qs[k].l := by rw [hgl, ← hps, List.length_map]
 have hcq : qs[k].l ≤ qs[k].c := by
  obtain ⟨_, _, e, h, -⟩ := id hin
  simp only [Value.slice.injEq] at e
  rw [e.2.2, e.2.1]; exact h
 rw [hpl] at hsq
 have HC0 := hide hcat; have HIN : Hid (RowsS _ (.slice qs[k].o qs[k].l qs[k].c) qs[k].x.gens) := hin; have HB0 := hide hbn; have X20 := hide x2; have X30 := hide x3; have X40 := hide x4; have HV := hide (hx.below hbn (Nat.le_refl _)); have HSQ0 := hide hsq; have HGI0 := hide hgi; have HPS := hide hps; have HPL := hide hpl; have HGL := hide hgl; have HG6 := hide hg6
 have HNG : Hid (∀ g ∈ qs[k].x.gens, g ≠ []) := fun g hg => hne _ (List.getElem_mem hk) g hg
 have HWI : Hid (∀ (w3 : World) (go : Option Addr) (gl gc : Nat) (gs : List (List Int)) (_ : CatN w3 (.slice (some ⟨b, off, none⟩) qs.length cap) qs) (_ : RowsS w3 (.slice go gl gc) gs), Calls Tryz.prog 59 #[.agg #[.slice (some ⟨b, off, none⟩) qs.length cap], .int .i64 (k : Int), .slice go gl gc] w3 fun e w' => ∃ u, e = .returned u ∧ CatV w' u (qs.set k ⟨⟨qs[k].x.name, qs[k].x.n, gs⟩, go, gl, gc⟩) ∧ Below w3.heap.size w3 w') := fun w3 go gl gc gs h1 h2 => with_any w3 _ qs k go gl gc gs ⟨_, rfl, h1⟩ hk hq h2
 obtain ⟨p2, -, -⟩ := x2
 obtain ⟨p3, -, p3l⟩ := x3
 obtain ⟨p4, p5, -⟩ := x4
 have P3 := hide p3; have P3L := hide p3l
 clear hu hbn hcat hin hx hsq hgi hps hpl hg6 hgl p3l
 generalize qs[k].x.gens = gens at *
 generalize qs[k].x.name = nm at *
 generalize qs[k].x.n = nn at *
 generalize qs[k].l = gl at *
 generalize qs[k].o = qo at *
 generalize qs[k].c = qc at *
 have HRR := hide hr
 clear hr
 have HGF := hide HGL.out
 go_enter Tryz.func43, Tryz.ntmps43
 go_wp2_with fail
 generalize (((w.alloc (.cells #[.slice (some ⟨b, off, none⟩) qs.length cap] 27)).alloc (.cells #[.slice vo vs.length vc] 44)).alloc (.cells #[.slice none 0 0] 27)) = W0 at *
 refine (indexG_any W0 (w.heap.size + 1) vo vc vs gens _ P3.out P3L.out HV.out HIN.out (by omega) HG6.out).mono ?_
 rintro e w1 ⟨rfl, hb1⟩
 have HC := hide (HC0.out.below hb1); have HB1 := hide (HB0.out.trans (hb1.mono HB0.out.size)); have X2 := hide (X20.out.later hb1); have X4 := hide (X40.out.later hb1); have HSQ := hide (HSQ0.out.below hb1 (Nat.le_refl _)); have HGI : Hid (∀ g ∈ ps, GcIn w1 g) := fun g hg => (HGI0.out g hg).below hb1 (Nat.le_refl _)
 clear hb1 HC0 HB0 X20 X30 X40 HSQ0 HGI0 HIN HV p2 p3 p4 p5 d2 P3 P3L HG6
 obtain ⟨p2, -, -⟩ := X2.out
 obtain ⟨p4, p5, -⟩ := X4.out
 by_cases hm : gens.contains vs = true
 ·have hi : gens.idxOf vs < gens.length := List.idxOf_lt_length_of_mem (by simpa using hm)
  have HER := hide (erase_take gens vs (by simpa using hm))
  have e0 : idxG gens vs = (gens.idxOf vs : Int) := by unfold idxG; rw [if_pos hm]
  rw [e0]
  have hr0 := HRR.out
  rw [if_pos hm] at hr0
  have HR := hide hr0
  clear hr0
  have hgl := HGF.out
  clear e0 hm HRR
  generalize gens.idxOf vs = i at *
  have hil : i < gl := by omega
  have hi1 : i + 1 ≤ gl := by omega
  have hic : i ≤ qc := by omega
  have hg0 : gl ≤ 10 := by omega
  have hw1 : IntKind.i64.wrap ((i : Int) + 1) = ((i + 1 : Nat) : Int) := by rw [IntKind.wrap_i64]; omega
  have hk3 : 0 ≤ (i : Int) + 1 ∧ (i : Int) + 1 ≤ (gl : Int) := by omega
  obtain ⟨so, hso⟩ : ∃ so, (if qc = i + 1 then qo else Option.map (fun x => ({ block := x.block, off := x.off + (i + 1) } : Addr)) qo) = so := ⟨_, rfl⟩
  clear hgl hi
  go_wp2_with fail
  refine up_start (A := fun j => decide (j < 12)) (S := (fun w' => w'.cell? ⟨w.heap.size, 0, none⟩ = some (.slice (some ⟨b, off, none⟩) qs.length cap) ∧ w'.cell? ⟨w.heap.size + 1 + 1, 0, none⟩ = some (.slice none 0 0))) (by kernel_rfl) (by exact ⟨p2, p4⟩) (fun hHeld => ?_)
  refine up_run (v := ?_) 0 23 [12, 13] rfl rfl (by kernel_rfl) (by kernel_rfl) (by kernel_rfl) (by kernel_rfl) (fun _ _ _ h => h) (by rfl) ?_ (by assumption) ?_
  rotate_left
  ·(intro w hSw; (try dsimp only at hSw); go_simp; with_reducible rfl)
  simp only [Act.put, List.setIfInBounds_toArray, List.set_cons_zero, List.set_cons_succ]
  refine up_run (v := ?_) 1 24 [12, 13] rfl rfl (by kernel_rfl) (by kernel_rfl) (by kernel_rfl) (by kernel_rfl) (fun _ _ _ h => h) (by rfl) ?_ (by assumption) ?_
  rotate_left
  ·(intro w hSw; (try dsimp only at hSw); go_simp; with_reducible rfl)
  simp only [Act.put, List.setIfInBounds_toArray, List.set_cons_zero, List.set_cons_succ]
  refine up_run (v := ?_) 2 25 [12, 13] rfl rfl (by kernel_rfl) (by kernel_rfl) (by kernel_rfl) (by kernel_rfl) (fun _ _ _ h => h) (by rfl) ?_ (by assumption) ?_
  rotate_left
  ·(intro w hSw; (try dsimp only at hSw); go_simp; with_reducible rfl)
  simp only [Act.put, List.setIfInBounds_toArray, List.set_cons_zero, List.set_cons_succ]
  refine up_run (v := ?_) 3 26 [12, 13] rfl rfl (by kernel_rfl) (by kernel_rfl) (by kernel_rfl) (by kernel_rfl) (fun _ _ _ h => h) (by rfl) ?_ (by assumption) ?_
  rotate_left
  ·(intro w hSw; (try dsimp only at hSw); go_simp; with_reducible rfl)
  simp only [Act.put, List.setIfInBounds_toArray, List.set_cons_zero, List.set_cons_succ]
  refine up_run (v := ?_) 4 27 [12, 13] rfl rfl (by kernel_rfl) (by kernel_rfl) (by kernel_rfl) (by kernel_rfl) (fun _ _ _ h => h) (by rfl) ?_ (by assumption) ?_
  rotate_left
  ·(intro w hSw; (try dsimp only at hSw); go_simp; with_reducible rfl)
  simp only [Act.put, List.setIfInBounds_toArray, List.set_cons_zero, List.set_cons_succ]
  refine up_run (v := ?_) 5 28 [12, 13] rfl rfl (by kernel_rfl) (by kernel_rfl) (by kernel_rfl) (by kernel_rfl) (fun _ _ _ h => h) (by rfl) ?_ (by assumption) ?_
  rotate_left
  ·(intro w hSw; (try dsimp only at hSw); go_simp; with_reducible rfl)
  simp only [Act.put, List.setIfInBounds_toArray, List.set_cons_zero, List.set_cons_succ]
  refine up_run (v := ?_) 6 29 [12, 13] rfl rfl (by kernel_rfl) (by kernel_rfl) (by kernel_rfl) (by kernel_rfl) (fun _ _ _ h => h) (by rfl) ?_ (by assumption) ?_
  rotate_left
  ·(intro w hSw; (try dsimp only at hSw); go_simp; with_reducible rfl)
  simp only [Act.put, List.setIfInBounds_toArray, List.set_cons_zero, List.set_cons_succ]
  refine up_run (v := ?_) 7 30 [12, 13] rfl rfl (by kernel_rfl) (by kernel_rfl) (by kernel_rfl) (by kernel_rfl) (fun _ _ _ h => h) (by rfl) ?_ (by assumption) ?_
  rotate_left
  ·(intro w hSw; (try dsimp only at hSw); go_simp; with_reducible rfl)
  simp only [Act.put, List.setIfInBounds_toArray, List.set_cons_zero, List.set_cons_succ]
  refine up_run (v := ?_) 8 31 [12, 13] rfl rfl (by kernel_rfl) (by kernel_rfl) (by kernel_rfl) (by kernel_rfl) (fun _ _ _ h => h) (by rfl) ?_ (by assumption) ?_
  rotate_left
  ·(intro w hSw; (try dsimp only at hSw); go_simp; with_reducible rfl)
  simp only [Act.put, List.setIfInBounds_toArray, List.set_cons_zero, List.set_cons_succ]
  obtain ⟨hL1, hbL⟩ := lists_two w1 64 (.slice qo i qc) (.slice so (gl - (i + 1)) (qc - (i + 1))) i (gl - (i + 1)) _ _ (HSQ.out.take (sz := 1) i (by omega)) (HSQ.out.drop (sz := 1) (i + 1) hi1 so (fun h b off e => by rw [← hso, if_neg (by omega), e]; simp))
  have Y2 := hide (X2.out.later hbL); have Y4 := hide (X4.out.later hbL)
  obtain ⟨q2, -, -⟩ := Y2.out
  obtain ⟨q4, -, -⟩ := Y4.out
  have HL1 := hide hL1; have HBL := hide hbL
  clear hL1 hbL
  refine up_one 9 (by kernel_rfl) rfl (fun K hK => ?_)
  go_simp
  clear p2 p4
  generalize (w1.alloc (.cells #[.slice qo i qc, .slice so (gl - (i + 1)) (qc - (i + 1))] 64)).drew = wB at *
  refine hK.out _ _ (fun _ => ⟨q2, q4⟩) ?_
  clear hK K hHeld
  try simp only [Act.put, List.setIfInBounds_toArray, List.set_cons_zero, List.set_cons_succ]
  have hHeld : (fun w' => w'.cell? ⟨w.heap.size, 0, none⟩ = some (.slice (some ⟨b, off, none⟩) qs.length cap) ∧ w'.cell? ⟨w.heap.size + 1 + 1, 0, none⟩ = some (.slice none 0 0)) wB := ⟨q2, q4⟩
  refine up_one 10 (by kernel_rfl) rfl (fun K hK => ?_)
  go_simp
  refine (concatG wB _ 2 _ _ _ HL1.out (by simp) (by simp) (by simp; omega) (fun cs hcs y hy => gcells_one HGI.out y (by
   simp only [List.mem_cons, List.not_mem_nil, or_false] at hcs
   rcases hcs with rfl | rfl
   ·exact List.mem_of_mem_take hy
   ·exact List.mem_of_mem_drop hy)) (two_lens (by rw [List.length_take, List.length_map]; have := HPL.out; omega) (by rw [List.length_drop, List.length_map]; have := HPL.out; omega))).mono ?_
  rintro e w3 ⟨u3, rfl, hown, hb3⟩
  have hb03 := HBL.out.trans (hb3.mono HBL.out.size)
  have hrows : RowsS w3 u3 (gens.erase vs) := by
   have hsq := owns_seq hown
   have e1 : [(ps.map (·.1)).take (i * 1), (ps.map (·.1)).drop ((i + 1) * 1)].flatten = (ps.take i ++ ps.drop (i + 1)).map (·.1) := by simp [List.map_take, List.map_drop]
   have e2 : [i, gl - (i + 1)].sum = (ps.take i ++ ps.drop (i + 1)).length := by rw [List.length_append, List.length_take, List.length_drop, HPL.out]; simp; omega
   rw [e1, e2] at hsq
   have := rowsS_of_seq hsq (fun g hg => (HGI.out g (by
    rcases List.mem_append.1 hg with h | h
    ·exact List.mem_of_mem_take h
    ·exact List.mem_of_mem_drop h)).below hb03 (Nat.le_refl _))
   rw [List.map_append, List.map_take, List.map_drop, HPS.out] at this
   rw [HER.out]; exact this
  obtain ⟨uo, uc, rfl, -⟩ := owns_form hown
  have HRW := hide hrows; have HCC := hide (HC.out.below hb03); have Y7 := hide (X2.out.later hb03); have Y8 := hide (X4.out.later hb03); have HB3 := hide (HB1.out.trans (hb03.mono HB1.out.size))
  obtain ⟨v2, -, -⟩ := Y7.out
  obtain ⟨v4, -, -⟩ := Y8.out
  clear hown hrows hb3 hb03 q2 q4 HL1
  go_wp2_with fail
  refine hK.out _ _ (fun _ => ⟨v2, v4⟩) ?_
  clear hK K hHeld
  try simp only [Act.put, List.setIfInBounds_toArray, List.set_cons_zero, List.set_cons_succ]
  have hHeld : (fun w' => w'.cell? ⟨w.heap.size, 0, none⟩ = some (.slice (some ⟨b, off, none⟩) qs.length cap) ∧ w'.cell? ⟨w.heap.size + 1 + 1, 0, none⟩ = some (.slice none 0 0)) w3 := ⟨v2, v4⟩
  refine up_one 11 (by kernel_rfl) rfl (fun K hK => ?_)
  go_simp
  refine (HWI.out w3 _ _ _ (gens.erase vs) HCC.out (by exact HRW.out)).mono ?_
  rintro e w4 ⟨u4, rfl, hcat, hb4⟩
  obtain ⟨u5, rfl, hcat⟩ := hcat
  obtain ⟨ao6, cap6, e6, -⟩ := id hcat
  subst e6
  have Y10 := hide (Y8.out.later hb4); have HCAT := hide hcat; have HB4 := hide (HB3.out.trans (hb4.mono HB3.out.size))
  obtain ⟨x2, -, -⟩ := Y7.out.later hb4
  obtain ⟨x4, x5, -⟩ := Y10.out
  clear hcat hb4 v2 v4 HRW HCC
  go_wp2_with fail
  refine hK.out _ _ (fun _ => ⟨x2, x4⟩) ?_
  clear hK K hHeld
  try simp only [Act.put, List.setIfInBounds_toArray, List.set_cons_zero, List.set_cons_succ]
  have hHeld : (fun w' => w'.cell? ⟨w.heap.size, 0, none⟩ = some (.slice (some ⟨b, off, none⟩) qs.length cap) ∧ w'.cell? ⟨w.heap.size + 1 + 1, 0, none⟩ = some (.slice none 0 0)) w4 := ⟨x2, x4⟩
  refine up_one 12 (by kernel_rfl) rfl (fun K hK => ?_)
  go_simp
  refine hK.out _ _ (fun h => absurd h (by decide)) ?_
  clear hK K hHeld
  try simp only [Act.put, List.setIfInBounds_toArray, List.set_cons_zero, List.set_cons_succ]
  refine up_one 13 (by kernel_rfl) rfl (fun K hK => ?_)
  go_simp
  refine hK.out _ _ (fun h => absurd h (by decide)) ?_
  clear hK K
  try simp only [Act.put, List.setIfInBounds_toArray, List.set_cons_zero, List.set_cons_succ]
  refine up_done (by kernel_rfl) ?_
  have HNE : Hid (NonE (qs.set k (⟨⟨nm, nn, gens.erase vs⟩, uo, i + (gl - (i + 1)), uc⟩ : Nc))) := fun q hq g hg => by
   rcases List.mem_or_eq_of_mem_set hq with h | rfl
   ·exact hne q h g hg
   ·exact HNG.out g (List.mem_of_mem_erase hg)
  have HCB := hide (HCAT.out.setOne HNE.out x4 (.slice ao6 qs.length cap6))
  have HB5 := hide (HB4.out.setCell (p := ⟨w.heap.size + 1 + 1, 0, none⟩) (by show w.heap.size ≤ w.heap.size + 1 + 1; omega) (.slice ao6 qs.length cap6))
  have HQ : Hid ((qs.set k (⟨⟨nm, nn, gens.erase vs⟩, uo, i + (gl - (i + 1)), uc⟩ : Nc)).map (·.x) = (qs.map (·.x)).set k ⟨nm, nn, gens.erase vs⟩) := List.map_set
  have hl : (qs.set k (⟨⟨nm, nn, gens.erase vs⟩, uo, i + (gl - (i + 1)), uc⟩ : Nc)).length = qs.length := List.length_set
  rw [hl] at HCB
  generalize (qs.set k (⟨⟨nm, nn, gens.erase vs⟩, uo, i + (gl - (i + 1)), uc⟩ : Nc)) = rs at *
  clear HCAT HNE hl HC HPS HSQ
  go_wp2
  exact bodyPost_ret (v := .tuple #[.agg #[.slice ao6 qs.length cap6], .nilIface]) (by simp [results, Tryz.results43, go_sem, World.cell?_setCell_same _ _ _ x4]) rfl ⟨.inr ⟨by rw [HR.out], _, rs, rfl, by rw [HR.out]; exact HQ.out, _, rfl, HCB.out⟩, HB5.out⟩
 ·have e0 : idxG gens vs = -1 := by unfold idxG; rw [if_neg hm]
  rw [e0]
  have hr0 := HRR.out
  rw [if_neg hm] at hr0
  have HR := hide hr0
  clear hr0
  clear e0 hm HRR
  go_wp2
  exact bodyPost_ret (v := .tuple #[.agg #[.slice none 0 0], .iface 71 (.int .i64 7)]) (by simp [results, Tryz.results43, go_sem, p4]) rfl (catRes_err 7 [] HR.out (by decide) (HB1.out.setCell (p := ⟨w.heap.size + 1 + 1, 0, none⟩) (by show w.heap.size ≤ w.heap.size + 1 + 1; omega) (.slice none 0 0)))

end Go.Proofs.YtjdnhdcaifogmaaGreatDoor

/- bag: a lattice is created. -/
namespace Go.Proofs.YtjdnhdcaifogmaaGreatDoor
open Go.RowKit

theorem seq_three (W : World) (u v x : Value) (t : TypeId) : SeqV ((W.alloc (.cells #[u, v, x] t)).drew) (.slice (some ⟨W.heap.size, 0, none⟩) 1 1) 1 [u, v, x] := by
 refine ⟨_, 1, rfl, Nat.le_refl _, fun _ => ⟨W.heap.size, 0, rfl, by simp, fun j y hy => ?_⟩⟩
 have : (W.alloc (.cells #[u, v, x] t)).cell? ⟨W.heap.size, 0 + j, none⟩ = some y := by
  rw [World.cell?_alloc_new, Nat.zero_add]
  have e : #[u, v, x][j]? = [u, v, x][j]? := by simp
  rw [e]; exact hy
 exact this

theorem three_lens {a b c : List Value} {n m l sz : Nat} (h1 : a.length = n * sz) (h2 : b.length = m * sz) (h3 : c.length = l * sz) : ∀ k (_ : k < [a, b, c].length) (_ : k < [n, m, l].length), [a, b, c][k].length = [n, m, l][k] * sz
 | 0, _, _ => h1
 | 1, _, _ => h2
 | 2, _, _ => h3

theorem lists_threeP (W : World) (t : TypeId) (a b c : Value) (n m l : Nat) (ca cb cc : List Value) (ha : SeqV W a n ca) (hb : SeqV W b m cb) (hc : SeqV W c l cc) : Lists (W.alloc (.cells #[a, b, c] t)) W.heap.size [a, b, c] [n, m, l] [ca, cb, cc] ∧ Below W.heap.size W (W.alloc (.cells #[a, b, c] t)) := by
 have hbl : Below W.heap.size W (W.alloc (.cells #[a, b, c] t)) := alloc_below W _
 refine ⟨⟨by simp, rfl, rfl, fun k hk => ?_⟩, hbl⟩
 match k, hk with
 | 0, _ => exact ⟨World.cell?_alloc_new _ _ _ _, ha.below hbl (Nat.le_refl _)⟩
 | 1, _ => exact ⟨World.cell?_alloc_new _ _ _ _, hb.below hbl (Nat.le_refl _)⟩
 | 2, _ => exact ⟨World.cell?_alloc_new _ _ _ _, hc.below hbl (Nat.le_refl _)⟩

def ThreeV (W : World) (B : Nat) (u0 u1 u2 : Value) : Prop := W.cell? ⟨B, 0, none⟩ = some u0 ∧ W.cell? ⟨B, 1, none⟩ = some u1 ∧ W.cell? ⟨B, 2, none⟩ = some u2 ∧ B < W.heap.size

theorem ThreeV.later {W W' : World} {B : Nat} {u0 u1 u2 : Value} (h : ThreeV W B u0 u1 u2) (hb : Below W.heap.size W W') : ThreeV W' B u0 u1 u2 :=
 ⟨(hb.cell (p := ⟨B, 0, none⟩) h.2.2.2).trans h.1, (hb.cell (p := ⟨B, 1, none⟩) h.2.2.2).trans h.2.1, (hb.cell (p := ⟨B, 2, none⟩) h.2.2.2).trans h.2.2.1, Nat.lt_of_lt_of_le h.2.2.2 hb.size⟩

theorem ThreeV.new (W : World) (u0 u1 u2 : Value) (t : TypeId) : ThreeV (W.alloc (.cells #[u0, u1, u2] t)) W.heap.size u0 u1 u2 :=
 ⟨by rw [World.cell?_alloc_new]; rfl, by rw [World.cell?_alloc_new]; rfl, by rw [World.cell?_alloc_new]; rfl, by simp⟩

set_option linter.unusedSimpArgs false in
set_option maxRecDepth 100000 in
set_option maxHeartbeats 1600000 in
theorem create_any (w : World) (v : Value) (qs : List Nc) (nm : ByteArray) (n : Int) (h : CatV w v qs) (hq : qs.length ≤ 100) (hs : (qs.map (·.x)).Pairwise (fun x y => nlt x.name y.name = true)) (r : Nat × List Nmd)
  (hr : r = if ¬ (1 ≤ n ∧ n ≤ 4) then (1, []) else if hasL (qs.map (·.x)) nm then (8, []) else if 8 ≤ (qs.map (·.x)).length then (2, []) else (0, (qs.map (·.x)).take (placeL (qs.map (·.x)) nm) ++ (⟨nm, n, []⟩ :: (qs.map (·.x)).drop (placeL (qs.map (·.x)) nm)))) :
  Calls Tryz.prog 38 #[v, .string nm, .int .i64 n] w fun e w' => CatRes w r e w' := by
 obtain ⟨u, rfl, hu⟩ := h
 obtain ⟨ao, cap, rfl, hcap, -⟩ := id hu
 obtain ⟨x2, x4, hbn, hsz⟩ := two_new w (.slice ao qs.length cap) (.slice none 0 0) 27 27
 have HC0 := hide (hu.below hbn); have HIN := hide hu.ins; have HB0 := hide hbn; have X20 := hide x2; have X40 := hide x4; have HS := hide hs
 obtain ⟨p2, -, -⟩ := x2
 obtain ⟨p4, p5, -⟩ := x4
 have hPl := placeL_le (qs.map (·.x)) nm
 rw [List.length_map] at hPl hr
 clear hu hbn hs
 by_cases h14 : ¬ (1 ≤ n ∧ n ≤ 4)
 ·rw [if_pos h14] at hr
  have HR := hide hr
  have hz : sizeOk n = false := decide_eq_false h14
  clear hr h14
  go_enter Tryz.func38, Tryz.ntmps38
  go_wp2_with fail
  generalize (w.alloc (.cells #[.slice ao qs.length cap] 27)).alloc (.cells #[.slice none 0 0] 27) = W0 at *
  refine (bsize_any n W0).mono ?_
  rintro e w' ⟨rfl, rfl⟩
  rw [hz]
  go_wp2
  exact bodyPost_ret (v := .tuple #[.agg #[.slice none 0 0], .iface 71 (.int .i64 1)]) (by simp [results, Tryz.results38, go_sem, p4]) rfl (catRes_err 1 [] HR.out (by decide) (by first | exact HB0.out | exact HB0.out.setCell (p := ⟨w.heap.size + 1, 0, none⟩) (by show w.heap.size ≤ w.heap.size + 1; omega) (.slice none 0 0)))
 rw [if_neg h14] at hr
 have hz : sizeOk n = true := decide_eq_true (Decidable.not_not.1 h14)
 have HPL := hide (fun (W0 : World) (hc : CatN W0 (.slice ao qs.length cap) qs) => place_any W0 _ qs nm ⟨_, rfl, hc⟩ (by omega) HS.out)
 clear h14 HS
 generalize hPP : placeL (qs.map (·.x)) nm = P at *
 generalize hHH : hasL (qs.map (·.x)) nm = hb at *
 have HRR := hide hr
 clear hr hPP hHH
 go_enter Tryz.func38, Tryz.ntmps38
 go_wp2_with fail
 generalize (w.alloc (.cells #[.slice ao qs.length cap] 27)).alloc (.cells #[.slice none 0 0] 27) = W0 at *
 refine (bsize_any n W0).mono ?_
 rintro e w' ⟨rfl, rfl⟩
 rw [hz]
 clear hz
 go_wp2_with fail
 refine (HPL.out _ HC0.out).mono ?_
 rintro e w0 ⟨rfl, hb0⟩
 have HCa := hide (HC0.out.below hb0); have HBa := hide (HB0.out.trans (hb0.mono HB0.out.size)); have X2a := hide (X20.out.later hb0); have X4a := hide (X40.out.later hb0)
 clear hb0 HC0 HB0 X20 X40 p2 p4 p5 HPL
 obtain ⟨p2, -, -⟩ := X2a.out
 obtain ⟨p4, p5, -⟩ := X4a.out
 cases hb with
 | true =>
  have hr0 := HRR.out
  rw [if_pos rfl] at hr0
  have HR := hide hr0
  clear hr0 HRR
  go_wp2
  exact bodyPost_ret (v := .tuple #[.agg #[.slice none 0 0], .iface 71 (.int .i64 8)]) (by simp [results, Tryz.results38, go_sem, p4]) rfl (catRes_err 8 [] HR.out (by decide) (by first | exact HBa.out | exact HBa.out.setCell (p := ⟨w.heap.size + 1, 0, none⟩) (by show w.heap.size ≤ w.heap.size + 1; omega) (.slice none 0 0)))
 | false =>
 have hr0 := HRR.out
 rw [if_neg (by decide)] at hr0
 by_cases h8 : 8 ≤ qs.length
 ·rw [if_pos h8] at hr0
  have HR := hide hr0
  have g0 : decide (8 ≤ (qs.length : Int)) = true := decide_eq_true (by omega)
  clear hr0 HRR h8
  go_wp2
  exact bodyPost_ret (v := .tuple #[.agg #[.slice none 0 0], .iface 71 (.int .i64 2)]) (by simp [results, Tryz.results38, go_sem, p4]) rfl (catRes_err 2 [] HR.out (by decide) (by first | exact HBa.out | exact HBa.out.setCell (p := ⟨w.heap.size + 1, 0, none⟩) (by show w.heap.size ≤ w.heap.size + 1; omega) (.slice none 0 0)))
 rw [if_neg h8] at hr0
 have HR := hide hr0
 have g0 : decide (8 ≤ (qs.length : Int)) = false := decide_eq_false (by omega)
 clear hr0 HRR
 have hbN := alloc_below w0 (.cells #[.string nm, .int .i64 n, .slice none 0 0] 66)
 have X2 := hide (X2a.out.later hbN); have X4 := hide (X4a.out.later hbN); have XN := hide (ThreeV.new w0 (.string nm) (.int .i64 n) (.slice none 0 0) 66); have HSEQ := hide (catN_seq (HCa.out.below hbN)); have HB1 := hide (HBa.out.trans (hbN.mono HBa.out.size))
 clear hbN X2a X4a HCa HBa
 have hPc : P ≤ cap := by omega
 have hk3 : 0 ≤ (P : Int) ∧ (P : Int) ≤ (qs.length : Int) := by omega
 obtain ⟨so, hso⟩ : ∃ so, (if cap = P then ao else Option.map (fun x => x.add (P * 3)) ao) = so := ⟨_, rfl⟩
 go_wp2_with fail
 generalize (w0.alloc (.cells #[.string nm, .int .i64 n, .slice none 0 0] 66)) = w1 at *
 generalize w0.heap.size = B at *
 clear p2 p4 p5
 obtain ⟨p2, -, -⟩ := X2.out
 obtain ⟨p4, p5, -⟩ := X4.out
 obtain ⟨n0, n1, n2, -⟩ := XN.out
 refine up_start (A := fun j => decide (j < 13)) (S := (fun w' => w'.cell? ⟨w.heap.size, 0, none⟩ = some (.slice ao qs.length cap) ∧ w'.cell? ⟨w.heap.size + 1, 0, none⟩ = some (.slice none 0 0) ∧ w'.cell? ⟨B, 0, none⟩ = some (.string nm) ∧ w'.cell? ⟨B, 1, none⟩ = some (.int .i64 n) ∧ w'.cell? ⟨B, 2, none⟩ = some (.slice none 0 0))) (by kernel_rfl) (by exact ⟨p2, p4, n0, n1, n2⟩) (fun hHeld => ?_)
 refine up_run (v := ?_) 0 34 [13, 14] rfl rfl (by kernel_rfl) (by kernel_rfl) (by kernel_rfl) (by kernel_rfl) (fun _ _ _ h => h) (by rfl) ?_ (by assumption) ?_
 rotate_left
 ·(intro w hSw; (try dsimp only at hSw); go_simp; with_reducible rfl)
 simp only [Act.put, List.setIfInBounds_toArray, List.set_cons_zero, List.set_cons_succ]
 refine up_run (v := ?_) 1 35 [13, 14] rfl rfl (by kernel_rfl) (by kernel_rfl) (by kernel_rfl) (by kernel_rfl) (fun _ _ _ h => h) (by rfl) ?_ (by assumption) ?_
 rotate_left
 ·(intro w hSw; (try dsimp only at hSw); go_simp; with_reducible rfl)
 simp only [Act.put, List.setIfInBounds_toArray, List.set_cons_zero, List.set_cons_succ]
 refine up_run (v := ?_) 2 36 [13, 14] rfl rfl (by kernel_rfl) (by kernel_rfl) (by kernel_rfl) (by kernel_rfl) (fun _ _ _ h => h) (by rfl) ?_ (by assumption) ?_
 rotate_left
 ·(intro w hSw; (try dsimp only at hSw); go_simp; with_reducible rfl)
 simp only [Act.put, List.setIfInBounds_toArray, List.set_cons_zero, List.set_cons_succ]
 refine up_run (v := ?_) 3 37 [13, 14] rfl rfl (by kernel_rfl) (by kernel_rfl) (by kernel_rfl) (by kernel_rfl) (fun _ _ _ h => h) (by rfl) ?_ (by assumption) ?_
 rotate_left
 ·(intro w hSw; (try dsimp only at hSw); go_simp; with_reducible rfl)
 simp only [Act.put, List.setIfInBounds_toArray, List.set_cons_zero, List.set_cons_succ]
 refine up_run (v := ?_) 4 38 [13, 14] rfl rfl (by kernel_rfl) (by kernel_rfl) (by kernel_rfl) (by kernel_rfl) (fun _ _ _ h => h) (by rfl) ?_ (by assumption) ?_
 rotate_left
 ·(intro w hSw; (try dsimp only at hSw); go_simp; with_reducible rfl)
 simp only [Act.put, List.setIfInBounds_toArray, List.set_cons_zero, List.set_cons_succ]
 refine up_run (v := ?_) 6 40 [13, 14] rfl rfl (by kernel_rfl) (by kernel_rfl) (by kernel_rfl) (by kernel_rfl) (fun _ _ _ h => h) (by rfl) ?_ (by assumption) ?_
 rotate_left
 ·(intro w hSw; (try dsimp only at hSw); go_simp; with_reducible rfl)
 simp only [Act.put, List.setIfInBounds_toArray, List.set_cons_zero, List.set_cons_succ]
 refine up_run (v := ?_) 7 41 [13, 14] rfl rfl (by kernel_rfl) (by kernel_rfl) (by kernel_rfl) (by kernel_rfl) (fun _ _ _ h => h) (by rfl) ?_ (by assumption) ?_
 rotate_left
 ·(intro w hSw; (try dsimp only at hSw); go_simp; with_reducible rfl)
 simp only [Act.put, List.setIfInBounds_toArray, List.set_cons_zero, List.set_cons_succ]
 refine up_run (v := ?_) 8 42 [13, 14] rfl rfl (by kernel_rfl) (by kernel_rfl) (by kernel_rfl) (by kernel_rfl) (fun _ _ _ h => h) (by rfl) ?_ (by assumption) ?_
 rotate_left
 ·(intro w hSw; (try dsimp only at hSw); go_simp; with_reducible rfl)
 simp only [Act.put, List.setIfInBounds_toArray, List.set_cons_zero, List.set_cons_succ]
 refine up_run (v := ?_) 9 43 [13, 14] rfl rfl (by kernel_rfl) (by kernel_rfl) (by kernel_rfl) (by kernel_rfl) (fun _ _ _ h => h) (by rfl) ?_ (by assumption) ?_
 rotate_left
 ·(intro w hSw; (try dsimp only at hSw); go_simp; with_reducible rfl)
 simp only [Act.put, List.setIfInBounds_toArray, List.set_cons_zero, List.set_cons_succ]
 have hbA : Below w1.heap.size w1 (w1.alloc (.cells #[.string nm, .int .i64 n, .slice none 0 0] 66)).drew := (alloc_below w1 _).drew
 have hsA : SeqV ((w1.alloc (.cells #[.string nm, .int .i64 n, .slice none 0 0] 66)).drew) (.slice (some ⟨w1.heap.size, 0, none⟩) 1 1) 1 [.string nm, .int .i64 n, .slice none 0 0] := seq_three w1 _ _ _ _
 have HZ := hide (HSEQ.out.below hbA (Nat.le_refl _)); have HA := hide hsA; have HBA := hide hbA
 have Y2 := hide (X2.out.later hbA); have Y4 := hide (X4.out.later hbA); have YN := hide (XN.out.later hbA)
 obtain ⟨t2, -, -⟩ := Y2.out
 obtain ⟨t4, -, -⟩ := Y4.out
 obtain ⟨u0, u1, u2, -⟩ := YN.out
 clear hbA hsA p2 p4 n0 n1 n2
 refine up_one 5 (by kernel_rfl) rfl (fun K hK => ?_)
 go_simp
 generalize (w1.alloc (.cells #[.string nm, .int .i64 n, .slice none 0 0] 66)).drew = wA at *
 refine hK.out _ _ (fun _ => ⟨t2, t4, u0, u1, u2⟩) ?_
 clear hK K hHeld
 try simp only [Act.put, List.setIfInBounds_toArray, List.set_cons_zero, List.set_cons_succ]
 have hHeld : (fun w' => w'.cell? ⟨w.heap.size, 0, none⟩ = some (.slice ao qs.length cap) ∧ w'.cell? ⟨w.heap.size + 1, 0, none⟩ = some (.slice none 0 0) ∧ w'.cell? ⟨B, 0, none⟩ = some (.string nm) ∧ w'.cell? ⟨B, 1, none⟩ = some (.int .i64 n) ∧ w'.cell? ⟨B, 2, none⟩ = some (.slice none 0 0)) wA := ⟨t2, t4, u0, u1, u2⟩
 obtain ⟨hL1, hbL⟩ := lists_threeP wA 25 (.slice ao P cap) (.slice (some ⟨w1.heap.size, 0, none⟩) 1 1) (.slice so (qs.length - P) (cap - P)) P 1 (qs.length - P) _ _ _ (HZ.out.take (sz := 3) P hPl) HA.out (HZ.out.drop (sz := 3) P hPl so (fun h b off e => by rw [← hso, if_neg (by omega), e, Option.map_some, add_none]))
 have Z2 := hide (Y2.out.later hbL); have Z4 := hide (Y4.out.later hbL); have ZN := hide (YN.out.later hbL)
 obtain ⟨s2, -, -⟩ := Z2.out
 obtain ⟨s4, -, -⟩ := Z4.out
 obtain ⟨v0, v1, v2, -⟩ := ZN.out
 have HL1 := hide hL1; have HBL := hide (HBA.out.trans (hbL.mono HBA.out.size))
 clear hL1 hbL t2 t4 u0 u1 u2 Y2 Y4 YN HA HZ
 refine up_one 10 (by kernel_rfl) rfl (fun K hK => ?_)
 go_simp
 refine hK.out _ _ (fun _ => ⟨s2, s4, v0, v1, v2⟩) ?_
 clear hK K hHeld
 try simp only [Act.put, List.setIfInBounds_toArray, List.set_cons_zero, List.set_cons_succ]
 generalize wA.alloc (.cells #[.slice ao P cap, .slice (some ⟨w1.heap.size, 0, none⟩) 1 1, .slice so (qs.length - P) (cap - P)] 25) = wB at *
 have hHeld : (fun w' => w'.cell? ⟨w.heap.size, 0, none⟩ = some (.slice ao qs.length cap) ∧ w'.cell? ⟨w.heap.size + 1, 0, none⟩ = some (.slice none 0 0) ∧ w'.cell? ⟨B, 0, none⟩ = some (.string nm) ∧ w'.cell? ⟨B, 1, none⟩ = some (.int .i64 n) ∧ w'.cell? ⟨B, 2, none⟩ = some (.slice none 0 0)) wB := ⟨s2, s4, v0, v1, v2⟩
 refine up_one 11 (by kernel_rfl) rfl (fun K hK => ?_)
 go_simp
 refine (concatN wB _ 3 _ _ _ HL1.out (by simp) (by simp) (by simp; omega) (fun cs hcs y hy => (by
  simp only [List.mem_cons, List.not_mem_nil, or_false] at hcs
  rcases hcs with rfl | rfl | rfl
  ·exact nccells_one qs y (List.mem_of_mem_take hy)
  ·simp only [List.mem_cons, List.not_mem_nil, or_false] at hy; rcases hy with rfl | rfl | rfl <;> rfl
  ·exact nccells_one qs y (List.mem_of_mem_drop hy))) (three_lens (by rw [List.length_take, nccells_len, Nat.min_eq_left (by omega)]) (by simp) (by rw [List.length_drop, nccells_len]; omega))).mono ?_
 rintro e w3 ⟨u3, rfl, hown, hb3⟩
 have hb03 := HBL.out.trans (hb3.mono HBL.out.size)
 have e1 : [(qs.flatMap Nc.cells).take (P * 3), [Value.string nm, .int .i64 n, .slice none 0 0], (qs.flatMap Nc.cells).drop (P * 3)].flatten = (qs.take P ++ (⟨⟨nm, n, []⟩, none, 0, 0⟩ : Nc) :: qs.drop P).flatMap Nc.cells := by
  rw [List.flatMap_append, List.flatMap_cons, nccells_take, nccells_drop]; simp [Nc.cells]
 have e2 : [P, 1, qs.length - P].sum = (qs.take P ++ (⟨⟨nm, n, []⟩, none, 0, 0⟩ : Nc) :: qs.drop P).length := by
  rw [List.length_append, List.length_take, List.length_cons, List.length_drop]; simp; omega
 rw [e1, e2] at hown
 obtain ⟨uo, uc, rfl, -⟩ := owns_form hown
 have HOW := hide hown; have HE2 := hide e2; have HBS : Hid (w.heap.size + 1 < wB.heap.size) := Z4.out.2.2; have Y8 := hide (X4.out.later hb03); have HB3 := hide (HB1.out.trans (hb03.mono HB1.out.size))
 obtain ⟨a2, -, -⟩ := X2.out.later hb03
 obtain ⟨a4, a5, -⟩ := Y8.out
 obtain ⟨b0, b1, b2, -⟩ := XN.out.later hb03
 clear hown e1 e2 hb3 hb03 s2 s4 v0 v1 v2 HL1
 go_wp2_with fail
 refine hK.out _ _ (fun _ => ⟨a2, a4, b0, b1, b2⟩) ?_
 clear hK K hHeld
 try simp only [Act.put, List.setIfInBounds_toArray, List.set_cons_zero, List.set_cons_succ]
 have hHeld : (fun w' => w'.cell? ⟨w.heap.size, 0, none⟩ = some (.slice ao qs.length cap) ∧ w'.cell? ⟨w.heap.size + 1, 0, none⟩ = some (.slice none 0 0) ∧ w'.cell? ⟨B, 0, none⟩ = some (.string nm) ∧ w'.cell? ⟨B, 1, none⟩ = some (.int .i64 n) ∧ w'.cell? ⟨B, 2, none⟩ = some (.slice none 0 0)) w3 := ⟨a2, a4, b0, b1, b2⟩
 refine up_run (v := ?_) 12 46 [13, 14] rfl rfl (by kernel_rfl) (by kernel_rfl) (by kernel_rfl) (by kernel_rfl) (fun _ _ _ h => h) (by rfl) ?_ (by assumption) ?_
 rotate_left
 ·(intro w hSw; (try dsimp only at hSw); go_simp; with_reducible rfl)
 simp only [Act.put, List.setIfInBounds_toArray, List.set_cons_zero, List.set_cons_succ]
 refine up_one 13 (by kernel_rfl) rfl (fun K hK => ?_)
 go_simp
 refine hK.out _ _ (fun h => absurd h (by decide)) ?_
 clear hK K hHeld
 try simp only [Act.put, List.setIfInBounds_toArray, List.set_cons_zero, List.set_cons_succ]
 refine up_one 14 (by kernel_rfl) rfl (fun K hK => ?_)
 go_simp
 refine hK.out _ _ (fun h => absurd h (by decide)) ?_
 clear hK K
 try simp only [Act.put, List.setIfInBounds_toArray, List.set_cons_zero, List.set_cons_succ]
 refine up_done (by kernel_rfl) ?_
 have HB5 := hide (HB3.out.setCell (p := ⟨w.heap.size + 1, 0, none⟩) (by show w.heap.size ≤ w.heap.size + 1; omega) (.slice uo (qs.take P ++ (⟨⟨nm, n, []⟩, none, 0, 0⟩ : Nc) :: qs.drop P).length uc))
 have HCB : Hid (CatN (w3.setCell ⟨w.heap.size + 1, 0, none⟩ (.slice uo (qs.take P ++ (⟨⟨nm, n, []⟩, none, 0, 0⟩ : Nc) :: qs.drop P).length uc)) (.slice uo (qs.take P ++ (⟨⟨nm, n, []⟩, none, 0, 0⟩ : Nc) :: qs.drop P).length uc) (qs.take P ++ (⟨⟨nm, n, []⟩, none, 0, 0⟩ : Nc) :: qs.drop P)) := by
  refine catN_of_owns (ownsRow_setCell_below (a := ⟨w.heap.size + 1, 0, none⟩) HOW.out HBS.out _) (fun q hq => ?_)
  rcases List.mem_append.1 hq with h | h
  ·exact (HIN.out q (List.mem_of_mem_take h)).below HB5.out
  ·rcases List.mem_cons.1 h with rfl | h
   ·exact ⟨none, 0, rfl, Nat.le_refl _, fun h => absurd h (by simp)⟩
   ·exact (HIN.out q (List.mem_of_mem_drop h)).below HB5.out
 have HQ : Hid ((qs.take P ++ (⟨⟨nm, n, []⟩, none, 0, 0⟩ : Nc) :: qs.drop P).map (·.x) = (qs.map (·.x)).take P ++ (⟨nm, n, []⟩ : Nmd) :: (qs.map (·.x)).drop P) := by
  show _ = _
  rw [List.map_append, List.map_cons, List.map_take, List.map_drop]
 obtain ⟨rs, hrs⟩ : ∃ rs, rs = (qs.take P ++ (⟨⟨nm, n, []⟩, none, 0, 0⟩ : Nc) :: qs.drop P) := ⟨_, rfl⟩
 rw [← hrs] at HCB HB5 HQ HE2
 try rw [← hrs]
 have hle : P + (qs.length - P + 1) = rs.length := by have h := HE2.out; simp at h; omega
 rw [hle]
 clear HOW hrs hle HSEQ HIN
 go_wp2
 exact bodyPost_ret (v := .tuple #[.agg #[.slice uo rs.length uc], .nilIface]) (by simp [results, Tryz.results38, go_sem, World.cell?_setCell_same _ _ _ a4]) rfl ⟨.inr ⟨by rw [HR.out], _, rs, rfl, by rw [HR.out]; exact HQ.out, _, rfl, HCB.out⟩, HB5.out⟩

end Go.Proofs.YtjdnhdcaifogmaaGreatDoor
