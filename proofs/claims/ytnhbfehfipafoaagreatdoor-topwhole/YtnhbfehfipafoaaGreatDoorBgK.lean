/- bag: a generator is put behind the others; the first one that is this one is taken. -/
import Derived.Test.YtnhbfehfipafoaaGreatDoorBgI

namespace Go.Proofs.YtnhbfehfipafoaaGreatDoor
open Go.RowKit

theorem seq_one (W : World) (u : Value) (t : TypeId) : SeqV (W.alloc (.cells #[u] t)) (.slice (some ⟨W.heap.size, 0, none⟩) 1 1) 1 [u] := by
 refine ⟨_, 1, rfl, Nat.le_refl _, fun _ => ⟨W.heap.size, 0, rfl, by simp, fun j x hx => ?_⟩⟩
 obtain rfl : j = 0 := by
  have := (List.getElem?_eq_some_iff.1 hx).1
  simp at this; exact this
 obtain rfl : u = x := by simpa using hx
 exact one_new W u t

theorem RowS.setOne {W : World} {v : Value} {ks : List Int} (h : RowS W v ks) {p : Addr} (hc : W.cell? p = some (.slice none 0 0)) (x : Value) : RowS (W.setCell p x) v ks := by
 obtain ⟨ao, cap, e, hn, h6, hh⟩ := h
 refine ⟨ao, cap, e, hn, h6, fun h0 => ?_⟩
 obtain ⟨b, off, e', hlt, hcell⟩ := hh h0
 refine ⟨b, off, e', by simpa using hlt, fun i hi => (World.cell?_setCell_other _ _ _ _ fun e => ?_).trans (hcell i hi)⟩
 have := hcell i hi
 rw [← e, hc] at this; cases this

theorem RowsS.setOne {W : World} {v : Value} {gs : List (List Int)} (h : RowsS W v gs) (hne : ∀ g ∈ gs, g ≠ []) {p : Addr} (hc : W.cell? p = some (.slice none 0 0)) (x : Value) : RowsS (W.setCell p x) v gs := by
 obtain ⟨ao, cap, e, hn, hh⟩ := h
 refine ⟨ao, cap, e, hn, fun h0 => ?_⟩
 obtain ⟨b, off, e', hlt, hcell⟩ := hh h0
 refine ⟨b, off, e', by simpa using hlt, fun i r hi => ?_⟩
 obtain ⟨u, hu, hr⟩ := hcell i r hi
 refine ⟨u, (World.cell?_setCell_other _ _ _ _ fun e => ?_).trans hu, hr.setOne hc x⟩
 rw [← e, hc] at hu
 obtain ⟨ao, cap, e2, -⟩ := hr
 rw [e2] at hu
 simp only [Option.some.injEq, Value.slice.injEq] at hu
 exact hne r (List.mem_of_getElem? hi) (List.eq_nil_of_length_eq_zero hu.2.1.symm)

theorem GcIn.setOne {W : World} {g : Gc} (h : GcIn W g) {p : Addr} (hc : W.cell? p = some (.slice none 0 0)) (x : Value) : GcIn (W.setCell p x) g := h.set (h.1.setOne hc x)

theorem GensIn.setOne {W : World} {v : Value} {gs : List (List Int)} (h : GensIn W v gs) (hne : ∀ g ∈ gs, g ≠ []) {p : Addr} (hc : W.cell? p = some (.slice none 0 0)) (x : Value) : GensIn (W.setCell p x) v gs :=
 h.set (h.1.setOne hne hc x) (fun r hr u hu hrow => by
  rw [hc] at hu
  obtain rfl := Option.some.inj hu
  obtain ⟨ao, cap, e2, -⟩ := hrow
  simp only [Value.slice.injEq] at e2
  exact hne r hr (List.eq_nil_of_length_eq_zero e2.2.1.symm))

def NonE (qs : List Nc) : Prop := ∀ q ∈ qs, ∀ g ∈ q.x.gens, g ≠ []

theorem CatN.setOne {W : World} {v : Value} {qs : List Nc} (h : CatN W v qs) (hne : NonE qs) {B : Nat} (hc : W.cell? ⟨B, 0, none⟩ = some (.slice none 0 0)) (x : Value) : CatN (W.setCell ⟨B, 0, none⟩ x) v qs := by
 obtain ⟨ao, cap, e, hn, hh⟩ := h
 refine ⟨ao, cap, e, hn, fun h0 => ?_⟩
 obtain ⟨b, off, e', hlt, hcell⟩ := hh h0
 refine ⟨b, off, e', hlt.set _ _, fun i q hi => ?_⟩
 obtain ⟨h1, h2, h3, h4⟩ := hcell i q hi
 refine ⟨(World.cell?_setCell_other _ _ _ _ fun e => ?_).trans h1, (World.cell?_setCell_other _ _ _ _ fun e => ?_).trans h2, (World.cell?_setCell_other _ _ _ _ fun e => ?_).trans h3, GensIn.setOne h4 (hne q (List.mem_of_getElem? hi)) hc x⟩
 ·rw [← e, hc] at h1; cases h1
 ·rw [← e, hc] at h2; cases h2
 ·have := congrArg Addr.off e
  simp at this

theorem lists_twoP (W : World) (t : TypeId) (a b : Value) (n m : Nat) (ca cb : List Value) (ha : SeqV W a n ca) (hb : SeqV W b m cb) : Lists (W.alloc (.cells #[a, b] t)) W.heap.size [a, b] [n, m] [ca, cb] ∧ Below W.heap.size W (W.alloc (.cells #[a, b] t)) := by
 have hbl : Below W.heap.size W (W.alloc (.cells #[a, b] t)) := alloc_below W _
 refine ⟨⟨by simp, rfl, rfl, fun k hk => ?_⟩, hbl⟩
 match k, hk with
 | 0, _ => exact ⟨World.cell?_alloc_new _ _ _ _, ha.below hbl (Nat.le_refl _)⟩
 | 1, _ => exact ⟨World.cell?_alloc_new _ _ _ _, hb.below hbl (Nat.le_refl _)⟩

def CatRes (w : World) (r : Nat × List Nmd) (e : Ending) (w' : World) : Prop :=
 ((r.1 ≠ 0 ∧ e = .returned (.tuple #[.agg #[.slice none 0 0], errV r.1])) ∨ (r.1 = 0 ∧ ∃ u qs, e = .returned (.tuple #[u, .nilIface]) ∧ qs.map (·.x) = r.2 ∧ CatV w' u qs)) ∧ Below w.heap.size w w'

theorem catRes_err {w w' : World} {r : Nat × List Nmd} (c : Nat) (l : List Nmd) (hr : r = (c, l)) (hc : c ≠ 0) (hb : Below w.heap.size w w') : CatRes w r (.returned (.tuple #[.agg #[.slice none 0 0], .iface 80 (.int .i64 (c : Int))])) w' := by
 subst hr
 exact ⟨.inl ⟨hc, by unfold errV; rw [if_neg hc]⟩, hb⟩

set_option linter.unusedSimpArgs false in
set_option maxRecDepth 100000 in
set_option maxHeartbeats 1600000 in
theorem bput_any (w : World) (v x : Value) (qs : List Nc) (k : Nat) (vs : List Int) (h : CatV w v qs) (hk : k < qs.length) (hq : qs.length ≤ 100) (hg10 : qs[k].x.gens.length ≤ 10) (hx : RowS w x vs) (hv : vs.length ≤ 100) (hne : NonE qs) (hvn : vs ≠ []) (r : Nat × List Nmd) (hr : r = if 10 ≤ qs[k].x.gens.length then (2, []) else (0, (qs.map (·.x)).set k ⟨qs[k].x.name, qs[k].x.n, qs[k].x.gens ++ [vs]⟩)) :
  Calls Tryz.prog 101 #[v, .int .i64 (k : Int), x] w fun e w' => CatRes w r e w' := by
 obtain ⟨u, rfl, hu⟩ := h
 obtain ⟨ao, cap, rfl, hcap, -⟩ := id hu
 obtain ⟨vo, vc, rfl⟩ := hx.form
 obtain ⟨x2, x4, hbn, hsz⟩ := two_new w (.slice ao qs.length cap) (.slice none 0 0) 53 53
 have hcat := hu.below hbn
 obtain ⟨b, off, cap', e⟩ := hcat.form (by omega)
 simp only [Value.slice.injEq, true_and] at e
 obtain ⟨rfl, rfl⟩ := e
 obtain ⟨hbl, -, -, d2, hin⟩ := hcat.at k hk
 obtain ⟨ps, hps, hsq, hgi⟩ := rowsS_seq hin
 have hgl : qs[k].l = qs[k].x.gens.length := by
  obtain ⟨_, _, e, -⟩ := id hin.1
  simp only [Value.slice.injEq] at e
  exact e.2.1
 have hpl : ps.length = qs[k].l := by rw [hgl, ← hps, List.length_map]
 rw [hpl] at hsq
 have HC := hide hcat; have HIN := hide hin; have HB0 := hide hbn; have X2 := hide x2; have X4 := hide x4; have HV := hide (hx.below hbn (Nat.le_refl _)); have HSQ := hide hsq; have HGI := hide hgi; have HPS := hide hps; have HPL := hide hpl
 obtain ⟨p2, -, -⟩ := x2
 obtain ⟨p4, p5, -⟩ := x4
 clear hu hbn hcat hin hx hsq hgi hps hpl
 by_cases h10 : 10 ≤ qs[k].x.gens.length
 ·rw [if_pos h10] at hr
  have HR := hide hr
  clear hr
  have g0 : decide (10 ≤ (qs[k].l : Int)) = true := decide_eq_true (by omega)
  clear hgl h10
  go_enter Tryz.func101, Tryz.ntmps101
  go_wp2_with fail
  generalize (w.alloc (.cells #[.slice (some ⟨b, off, none⟩) qs.length cap] 53)).alloc (.cells #[.slice none 0 0] 53) = W0 at *
  go_wp2
  exact bodyPost_ret (v := .tuple #[.agg #[.slice none 0 0], .iface 80 (.int .i64 2)]) (by simp [results, Tryz.results101, go_sem, p4]) rfl (catRes_err 2 [] HR.out (by decide) HB0.out)
 ·rw [if_neg h10] at hr
  have HR := hide hr
  clear hr
  have g0 : decide (10 ≤ (qs[k].l : Int)) = false := decide_eq_false (by omega)
  have HGL := hide hgl
  clear hgl h10
  go_enter Tryz.func101, Tryz.ntmps101
  go_wp2_with fail
  generalize (w.alloc (.cells #[.slice (some ⟨b, off, none⟩) qs.length cap] 53)).alloc (.cells #[.slice none 0 0] 53) = W0 at *
  refine up_start (A := fun j => decide (j < 9)) (S := (fun w' => w'.cell? ⟨w.heap.size, 0, none⟩ = some (.slice (some ⟨b, off, none⟩) qs.length cap) ∧ w'.cell? ⟨w.heap.size + 1, 0, none⟩ = some (.slice none 0 0))) (by kernel_rfl) (by exact ⟨p2, p4⟩) (fun hHeld => ?_)
  refine up_run (v := ?_) 0 20 [9, 10] rfl rfl (by kernel_rfl) (by kernel_rfl) (by kernel_rfl) (by kernel_rfl) (fun _ _ _ h => h) (by rfl) ?_ (by assumption) ?_
  rotate_left
  ·(intro w hSw; (try dsimp only at hSw); go_simp; with_reducible rfl)
  simp only [Act.put, List.setIfInBounds_toArray, List.set_cons_zero, List.set_cons_succ]
  refine up_run (v := ?_) 1 21 [9, 10] rfl rfl (by kernel_rfl) (by kernel_rfl) (by kernel_rfl) (by kernel_rfl) (fun _ _ _ h => h) (by rfl) ?_ (by assumption) ?_
  rotate_left
  ·(intro w hSw; (try dsimp only at hSw); go_simp; with_reducible rfl)
  simp only [Act.put, List.setIfInBounds_toArray, List.set_cons_zero, List.set_cons_succ]
  refine up_run (v := ?_) 2 22 [9, 10] rfl rfl (by kernel_rfl) (by kernel_rfl) (by kernel_rfl) (by kernel_rfl) (fun _ _ _ h => h) (by rfl) ?_ (by assumption) ?_
  rotate_left
  ·(intro w hSw; (try dsimp only at hSw); go_simp; with_reducible rfl)
  simp only [Act.put, List.setIfInBounds_toArray, List.set_cons_zero, List.set_cons_succ]
  refine up_run (v := ?_) 3 23 [9, 10] rfl rfl (by kernel_rfl) (by kernel_rfl) (by kernel_rfl) (by kernel_rfl) (fun _ _ _ h => h) (by rfl) ?_ (by assumption) ?_
  rotate_left
  ·(intro w hSw; (try dsimp only at hSw); go_simp; with_reducible rfl)
  simp only [Act.put, List.setIfInBounds_toArray, List.set_cons_zero, List.set_cons_succ]
  refine up_one 4 (by kernel_rfl) rfl (fun K hK => ?_)
  go_simp
  refine (cloneI_any _ _ vs (by exact HV.out.below (Below.refl W0.heap.size W0).drew (Nat.le_refl _)) (by omega)).mono ?_
  rintro e w1 ⟨vo1, vc1, rfl, hv1, hb1', -⟩
  have hb1 : Below W0.heap.size W0 w1 := (Below.refl _ _).drew.trans (hb1'.mono (by simp))
  have HV1 := hide hv1; have Y2 := hide (X2.out.later hb1); have Y4 := hide (X4.out.later hb1); have HB01 := hide hb1; have HSQ1 := hide (HSQ.out.below hb1 (Nat.le_refl _))
  obtain ⟨q2, -, -⟩ := Y2.out
  obtain ⟨q4, -, -⟩ := Y4.out
  clear hv1 hb1 hb1' p2 p4
  go_wp2_with fail
  refine hK.out _ _ (fun _ => ⟨q2, q4⟩) ?_
  clear hK K hHeld
  try simp only [Act.put, List.setIfInBounds_toArray, List.set_cons_zero, List.set_cons_succ]
  have hHeld : (fun w' => w'.cell? ⟨w.heap.size, 0, none⟩ = some (.slice (some ⟨b, off, none⟩) qs.length cap) ∧ w'.cell? ⟨w.heap.size + 1, 0, none⟩ = some (.slice none 0 0)) w1 := ⟨q2, q4⟩
  have hbA := alloc_below w1 (.cells #[.slice vo1 vs.length vc1] 41)
  have hsA : SeqV (w1.alloc (.cells #[.slice vo1 vs.length vc1] 41)) (.slice (some ⟨w1.heap.size, 0, none⟩) 1 1) 1 [.slice vo1 vs.length vc1] := seq_one w1 _ _
  have HZ := hide (HSQ1.out.below hbA (Nat.le_refl _)); have HA := hide hsA; have HBA := hide hbA
  obtain ⟨t2, -, -⟩ := Y2.out.later hbA
  obtain ⟨t4, -, -⟩ := Y4.out.later hbA
  clear hbA hsA q2 q4
  refine up_one 5 (by kernel_rfl) rfl (fun K hK => ?_)
  go_simp
  refine hK.out _ _ (fun _ => ⟨t2, t4⟩) ?_
  clear hK K hHeld
  try simp only [Act.put, List.setIfInBounds_toArray, List.set_cons_zero, List.set_cons_succ]
  generalize hwA : w1.alloc (.cells #[.slice vo1 vs.length vc1] 41) = wA at *
  have hHeld : (fun w' => w'.cell? ⟨w.heap.size, 0, none⟩ = some (.slice (some ⟨b, off, none⟩) qs.length cap) ∧ w'.cell? ⟨w.heap.size + 1, 0, none⟩ = some (.slice none 0 0)) wA := ⟨t2, t4⟩
  obtain ⟨hL1, hbL⟩ := lists_twoP wA 105 (.slice qs[k].o qs[k].l qs[k].c) (.slice (some ⟨w1.heap.size, 0, none⟩) 1 1) qs[k].l 1 _ _ HZ.out HA.out
  have hbA : Below W0.heap.size W0 wA := HB01.out.trans (HBA.out.mono HB01.out.size)
  have Z2 := hide (X2.out.later hbA); have Z4 := hide (X4.out.later hbA)
  have hbZ := hbA.trans (hbL.mono hbA.size)
  have Y5 := hide (X2.out.later hbZ); have Y6 := hide (X4.out.later hbZ)
  obtain ⟨s2, -, -⟩ := Y5.out
  obtain ⟨s4, -, -⟩ := Y6.out
  have HL1 := hide hL1; have HBZ := hide hbZ; have HV2 := hide (HV1.out.below (HBA.out.trans (hbL.mono HBA.out.size)) (Nat.le_refl _))
  clear hL1 hbL hbA hbZ t2 t4 Y2 Y4 Z2 Z4 HA HZ HSQ1
  refine up_one 6 (by kernel_rfl) rfl (fun K hK => ?_)
  go_simp
  refine hK.out _ _ (fun _ => ⟨s2, s4⟩) ?_
  clear hK K hHeld
  try simp only [Act.put, List.setIfInBounds_toArray, List.set_cons_zero, List.set_cons_succ]
  generalize wA.alloc (.cells #[.slice qs[k].o qs[k].l qs[k].c, .slice (some ⟨w1.heap.size, 0, none⟩) 1 1] 105) = wB at *
  have hHeld : (fun w' => w'.cell? ⟨w.heap.size, 0, none⟩ = some (.slice (some ⟨b, off, none⟩) qs.length cap) ∧ w'.cell? ⟨w.heap.size + 1, 0, none⟩ = some (.slice none 0 0)) wB := ⟨s2, s4⟩
  refine up_one 7 (by kernel_rfl) rfl (fun K hK => ?_)
  go_simp
  refine (concatG wB _ 2 _ _ _ HL1.out (by simp) (by simp) (by simp; have := HGL.out; omega) (fun cs hcs y hy => (by
   simp only [List.mem_cons, List.not_mem_nil, or_false] at hcs
   rcases hcs with rfl | rfl
   ·exact gcells_one HGI.out y hy
   ·rw [List.mem_singleton] at hy; rw [hy]; rfl)) (two_lens (by rw [List.length_map, HPL.out, Nat.mul_one]) (by simp))).mono ?_
  rintro e w3 ⟨u3, rfl, hown, hb3⟩
  have hb03 := HBZ.out.trans (hb3.mono HBZ.out.size)
  have hrows : GensIn w3 u3 (qs[k].x.gens ++ [vs]) := by
   have hsq := owns_seq hown
   have e1 : [ps.map (·.1), [Value.slice vo1 vs.length vc1]].flatten = (ps ++ [((Value.slice vo1 vs.length vc1 : Value), vs)]).map (·.1) := by simp
   have e2 : [qs[k].l, 1].sum = (ps ++ [((Value.slice vo1 vs.length vc1 : Value), vs)]).length := by rw [List.length_append, HPL.out]; simp
   rw [e1, e2] at hsq
   have := rowsS_of_seq hsq (fun g hg => by
    rcases List.mem_append.1 hg with h | h
    ·exact (HGI.out g h).below hb03 (Nat.le_refl _)
    ·rw [List.mem_singleton] at h; subst h; exact HV2.out.below hb3 (Nat.le_refl _)) (kinH_owns hown kinT_G)
   rwa [List.map_append, HPS.out] at this
  obtain ⟨uo, uc, rfl, -⟩ := owns_form hown
  have HRW := hide hrows; have HCC := hide (HC.out.below hb03); have Y7 := hide (X2.out.later hb03); have Y8 := hide (X4.out.later hb03); have HB3 := hide (HB0.out.trans (hb03.mono HB0.out.size))
  obtain ⟨v2, -, -⟩ := Y7.out
  obtain ⟨v4, -, -⟩ := Y8.out
  clear hown hrows hb3 hb03 s2 s4 HL1
  go_wp2_with fail
  refine hK.out _ _ (fun _ => ⟨v2, v4⟩) ?_
  clear hK K hHeld
  try simp only [Act.put, List.setIfInBounds_toArray, List.set_cons_zero, List.set_cons_succ]
  have hHeld : (fun w' => w'.cell? ⟨w.heap.size, 0, none⟩ = some (.slice (some ⟨b, off, none⟩) qs.length cap) ∧ w'.cell? ⟨w.heap.size + 1, 0, none⟩ = some (.slice none 0 0)) w3 := ⟨v2, v4⟩
  refine up_one 8 (by kernel_rfl) rfl (fun K hK => ?_)
  go_simp
  refine (with_any w3 _ qs k _ _ _ (qs[k].x.gens ++ [vs]) ⟨_, rfl, HCC.out⟩ hk hq (by exact HRW.out)).mono ?_
  rintro e w4 ⟨u4, rfl, hcat, hb4⟩
  obtain ⟨u5, rfl, hcat⟩ := hcat
  obtain ⟨ao6, cap6, e6, -⟩ := id hcat
  subst e6
  have Y10 := hide (Y8.out.later hb4); have HCAT := hide hcat; have HB4 := hide (HB3.out.trans (hb4.mono HB3.out.size))
  obtain ⟨x2, -, -⟩ := Y7.out.later hb4
  obtain ⟨x4, x5, -⟩ := Y10.out
  clear hcat hb4 v2 v4 HRW HCC
  go_wp2_with fail
  refine hK.out _ _ (fun _ => ⟨x2, x4⟩) ?_
  clear hK K hHeld
  try simp only [Act.put, List.setIfInBounds_toArray, List.set_cons_zero, List.set_cons_succ]
  have hHeld : (fun w' => w'.cell? ⟨w.heap.size, 0, none⟩ = some (.slice (some ⟨b, off, none⟩) qs.length cap) ∧ w'.cell? ⟨w.heap.size + 1, 0, none⟩ = some (.slice none 0 0)) w4 := ⟨x2, x4⟩
  refine up_one 9 (by kernel_rfl) rfl (fun K hK => ?_)
  go_simp
  refine hK.out _ _ (fun h => absurd h (by decide)) ?_
  clear hK K hHeld
  try simp only [Act.put, List.setIfInBounds_toArray, List.set_cons_zero, List.set_cons_succ]
  refine up_one 10 (by kernel_rfl) rfl (fun K hK => ?_)
  go_simp
  refine hK.out _ _ (fun h => absurd h (by decide)) ?_
  clear hK K
  try simp only [Act.put, List.setIfInBounds_toArray, List.set_cons_zero, List.set_cons_succ]
  refine up_done (by kernel_rfl) ?_
  have HNE : Hid (NonE (qs.set k ⟨⟨qs[k].x.name, qs[k].x.n, qs[k].x.gens ++ [vs]⟩, uo, qs[k].l + 1, uc⟩)) := fun q hq g hg => by
   rcases List.mem_or_eq_of_mem_set hq with h | rfl
   ·exact hne q h g hg
   ·rcases List.mem_append.1 hg with h | h
    ·exact hne _ (List.getElem_mem hk) g h
    ·rw [List.mem_singleton] at h; rw [h]; exact hvn
  have HCB := hide (HCAT.out.setOne HNE.out x4 (.slice ao6 qs.length cap6))
  have HB5 := hide (HB4.out.setCell (p := ⟨w.heap.size + 1, 0, none⟩) (by show w.heap.size ≤ w.heap.size + 1; omega) (.slice ao6 qs.length cap6))
  have HQ : Hid ((qs.set k (⟨⟨qs[k].x.name, qs[k].x.n, qs[k].x.gens ++ [vs]⟩, uo, qs[k].l + 1, uc⟩ : Nc)).map (·.x) = (qs.map (·.x)).set k ⟨qs[k].x.name, qs[k].x.n, qs[k].x.gens ++ [vs]⟩) := List.map_set
  have hl : (qs.set k (⟨⟨qs[k].x.name, qs[k].x.n, qs[k].x.gens ++ [vs]⟩, uo, qs[k].l + 1, uc⟩ : Nc)).length = qs.length := List.length_set
  rw [hl] at HCB
  generalize (qs.set k (⟨⟨qs[k].x.name, qs[k].x.n, qs[k].x.gens ++ [vs]⟩, uo, qs[k].l + 1, uc⟩ : Nc)) = rs at *
  clear HCAT HNE hl HIN HC HPS HSQ
  go_wp2
  exact bodyPost_ret (v := .tuple #[.agg #[.slice ao6 qs.length cap6], .nilIface]) (by simp [results, Tryz.results101, go_sem, World.cell?_setCell_same _ _ _ x4]) rfl ⟨.inr ⟨by rw [HR.out], _, rs, rfl, by rw [HR.out]; exact HQ.out, _, rfl, HCB.out⟩, HB5.out⟩

end Go.Proofs.YtnhbfehfipafoaaGreatDoor

/- bag: the first generator that is this one is taken. -/
namespace Go.Proofs.YtnhbfehfipafoaaGreatDoor
open Go.RowKit

theorem erase_take (gs : List (List Int)) (v : List Int) (h : v ∈ gs) : gs.erase v = gs.take (gs.idxOf v) ++ gs.drop (gs.idxOf v + 1) := by
 induction gs with
 | nil => cases h
 | cons g gs ih =>
  by_cases e : g = v
  ·subst e; simp
  ·have h' : v ∈ gs := by
    rcases List.mem_cons.1 h with h | h
    ·exact absurd h.symm e
    ·exact h
   have hb : (g == v) = false := beq_eq_false_iff_ne.2 e
   rw [List.erase_cons, hb, List.idxOf_cons, hb]
   simp [ih h']

theorem three_new (w : World) (u v x : Value) (s t y : TypeId) : One (((w.alloc (.cells #[u] s)).alloc (.cells #[v] t)).alloc (.cells #[x] y)) w.heap.size u ∧ One (((w.alloc (.cells #[u] s)).alloc (.cells #[v] t)).alloc (.cells #[x] y)) (w.heap.size + 1) v ∧ One (((w.alloc (.cells #[u] s)).alloc (.cells #[v] t)).alloc (.cells #[x] y)) (w.heap.size + 1 + 1) x ∧ Below w.heap.size w (((w.alloc (.cells #[u] s)).alloc (.cells #[v] t)).alloc (.cells #[x] y)) := by
 obtain ⟨h1, h2, hb, hs⟩ := two_new w u v s t
 have hb2 := alloc_below ((w.alloc (.cells #[u] s)).alloc (.cells #[v] t)) (.cells #[x] y)
 have h3 := One.new ((w.alloc (.cells #[u] s)).alloc (.cells #[v] t)) x y
 rw [hs] at h3
 exact ⟨h1.later hb2, h2.later hb2, h3, hb.trans (hb2.mono hb.size)⟩

set_option linter.unusedSimpArgs false in
set_option maxRecDepth 100000 in
set_option maxHeartbeats 1600000 in
theorem take_any (w : World) (v x : Value) (qs : List Nc) (k : Nat) (vs : List Int) (h : CatV w v qs) (hk : k < qs.length) (hq : qs.length ≤ 100) (hg10 : qs[k].x.gens.length ≤ 10) (hg6 : ∀ g ∈ qs[k].x.gens, g.length ≤ 1000000) (hx : RowS w x vs) (hne : NonE qs) (r : Nat × List Nmd) (hr : r = if qs[k].x.gens.contains vs then (0, (qs.map (·.x)).set k ⟨qs[k].x.name, qs[k].x.n, qs[k].x.gens.erase vs⟩) else (7, [])) :
  Calls Tryz.prog 102 #[v, .int .i64 (k : Int), x] w fun e w' => CatRes w r e w' := by
 obtain ⟨u, rfl, hu⟩ := h
 obtain ⟨ao, cap, rfl, hcap, -⟩ := id hu
 obtain ⟨vo, vc, rfl⟩ := hx.form
 obtain ⟨x2, x3, x4, hbn⟩ := three_new w (.slice ao qs.length cap) (.slice vo vs.length vc) (.slice none 0 0) 53 41 53
 have hcat := hu.below hbn
 obtain ⟨b, off, cap', e⟩ := hcat.form (by omega)
 simp only [Value.slice.injEq, true_and] at e
 obtain ⟨rfl, rfl⟩ := e
 obtain ⟨hbl, -, -, d2, hin⟩ := hcat.at k hk
 obtain ⟨ps, hps, hsq, hgi⟩ := rowsS_seq hin
 have hgl : qs[k].l = qs[k].x.gens.length := by
  obtain ⟨_, _, e, -⟩ := id hin.1
  simp only [Value.slice.injEq] at e
  exact e.2.1
 have hpl : ps.length = qs[k].l := by rw [hgl, ← hps, List.length_map]
 have hcq : qs[k].l ≤ qs[k].c := by
  obtain ⟨_, _, e, h, -⟩ := id hin.1
  simp only [Value.slice.injEq] at e
  rw [e.2.2, e.2.1]; exact h
 rw [hpl] at hsq
 have HC0 := hide hcat; have HIN : Hid (RowsS _ (.slice qs[k].o qs[k].l qs[k].c) qs[k].x.gens) := hin.1; have HB0 := hide hbn; have X20 := hide x2; have X30 := hide x3; have X40 := hide x4; have HV := hide (hx.below hbn (Nat.le_refl _)); have HSQ0 := hide hsq; have HGI0 := hide hgi; have HPS := hide hps; have HPL := hide hpl; have HGL := hide hgl; have HG6 := hide hg6
 have HNG : Hid (∀ g ∈ qs[k].x.gens, g ≠ []) := fun g hg => hne _ (List.getElem_mem hk) g hg
 have HWI : Hid (∀ (w3 : World) (go : Option Addr) (gl gc : Nat) (gs : List (List Int)) (_ : CatN w3 (.slice (some ⟨b, off, none⟩) qs.length cap) qs) (_ : GensIn w3 (.slice go gl gc) gs), Calls Tryz.prog 123 #[.agg #[.slice (some ⟨b, off, none⟩) qs.length cap], .int .i64 (k : Int), .slice go gl gc] w3 fun e w' => ∃ u, e = .returned u ∧ CatV w' u (qs.set k ⟨⟨qs[k].x.name, qs[k].x.n, gs⟩, go, gl, gc⟩) ∧ Below w3.heap.size w3 w') := fun w3 go gl gc gs h1 h2 => with_any w3 _ qs k go gl gc gs ⟨_, rfl, h1⟩ hk hq h2
 obtain ⟨p2, -, -⟩ := x2
 obtain ⟨p3, -, p3l⟩ := x3
 obtain ⟨p4, p5, -⟩ := x4
 have P3 := hide p3; have P3L := hide p3l
 clear hu hbn hcat hin hx hsq hgi hps hpl hg6 hgl p3l
 generalize qs[k].x.gens = gens at *
 generalize qs[k].x.name = nm at *
 generalize qs[k].x.n = nn at *
 generalize qs[k].l = gl at *
 generalize qs[k].o = qo at *
 generalize qs[k].c = qc at *
 have HRR := hide hr
 clear hr
 have HGF := hide HGL.out
 go_enter Tryz.func102, Tryz.ntmps102
 go_wp2_with fail
 generalize (((w.alloc (.cells #[.slice (some ⟨b, off, none⟩) qs.length cap] 53)).alloc (.cells #[.slice vo vs.length vc] 41)).alloc (.cells #[.slice none 0 0] 53)) = W0 at *
 refine (indexG_any W0 (w.heap.size + 1) vo vc vs gens _ P3.out P3L.out HV.out HIN.out (by omega) HG6.out).mono ?_
 rintro e w1 ⟨rfl, hb1⟩
 have HC := hide (HC0.out.below hb1); have HB1 := hide (HB0.out.trans (hb1.mono HB0.out.size)); have X2 := hide (X20.out.later hb1); have X4 := hide (X40.out.later hb1); have HSQ := hide (HSQ0.out.below hb1 (Nat.le_refl _)); have HGI : Hid (∀ g ∈ ps, GcIn w1 g) := fun g hg => (HGI0.out g hg).below hb1 (Nat.le_refl _)
 clear hb1 HC0 HB0 X20 X30 X40 HSQ0 HGI0 HIN HV p2 p3 p4 p5 d2 P3 P3L HG6
 obtain ⟨p2, -, -⟩ := X2.out
 obtain ⟨p4, p5, -⟩ := X4.out
 by_cases hm : gens.contains vs = true
 ·have hi : gens.idxOf vs < gens.length := List.idxOf_lt_length_of_mem (by simpa using hm)
  have HER := hide (erase_take gens vs (by simpa using hm))
  have e0 : idxG gens vs = (gens.idxOf vs : Int) := by unfold idxG; rw [if_pos hm]
  rw [e0]
  have hr0 := HRR.out
  rw [if_pos hm] at hr0
  have HR := hide hr0
  clear hr0
  have hgl := HGF.out
  clear e0 hm HRR
  generalize gens.idxOf vs = i at *
  have hil : i < gl := by omega
  have hi1 : i + 1 ≤ gl := by omega
  have hic : i ≤ qc := by omega
  have hg0 : gl ≤ 10 := by omega
  have hw1 : IntKind.i64.wrap ((i : Int) + 1) = ((i + 1 : Nat) : Int) := by rw [IntKind.wrap_i64]; omega
  have hk3 : 0 ≤ (i : Int) + 1 ∧ (i : Int) + 1 ≤ (gl : Int) := by omega
  obtain ⟨so, hso⟩ : ∃ so, (if qc = i + 1 then qo else Option.map (fun x => ({ block := x.block, off := x.off + (i + 1) } : Addr)) qo) = so := ⟨_, rfl⟩
  clear hgl hi
  go_wp2_with fail
  refine up_start (A := fun j => decide (j < 12)) (S := (fun w' => w'.cell? ⟨w.heap.size, 0, none⟩ = some (.slice (some ⟨b, off, none⟩) qs.length cap) ∧ w'.cell? ⟨w.heap.size + 1 + 1, 0, none⟩ = some (.slice none 0 0))) (by kernel_rfl) (by exact ⟨p2, p4⟩) (fun hHeld => ?_)
  refine up_run (v := ?_) 0 23 [12, 13] rfl rfl (by kernel_rfl) (by kernel_rfl) (by kernel_rfl) (by kernel_rfl) (fun _ _ _ h => h) (by rfl) ?_ (by assumption) ?_
  rotate_left
  ·(intro w hSw; (try dsimp only at hSw); go_simp; with_reducible rfl)
  simp only [Act.put, List.setIfInBounds_toArray, List.set_cons_zero, List.set_cons_succ]
  refine up_run (v := ?_) 1 24 [12, 13] rfl rfl (by kernel_rfl) (by kernel_rfl) (by kernel_rfl) (by kernel_rfl) (fun _ _ _ h => h) (by rfl) ?_ (by assumption) ?_
  rotate_left
  ·(intro w hSw; (try dsimp only at hSw); go_simp; with_reducible rfl)
  simp only [Act.put, List.setIfInBounds_toArray, List.set_cons_zero, List.set_cons_succ]
  refine up_run (v := ?_) 2 25 [12, 13] rfl rfl (by kernel_rfl) (by kernel_rfl) (by kernel_rfl) (by kernel_rfl) (fun _ _ _ h => h) (by rfl) ?_ (by assumption) ?_
  rotate_left
  ·(intro w hSw; (try dsimp only at hSw); go_simp; with_reducible rfl)
  simp only [Act.put, List.setIfInBounds_toArray, List.set_cons_zero, List.set_cons_succ]
  refine up_run (v := ?_) 3 26 [12, 13] rfl rfl (by kernel_rfl) (by kernel_rfl) (by kernel_rfl) (by kernel_rfl) (fun _ _ _ h => h) (by rfl) ?_ (by assumption) ?_
  rotate_left
  ·(intro w hSw; (try dsimp only at hSw); go_simp; with_reducible rfl)
  simp only [Act.put, List.setIfInBounds_toArray, List.set_cons_zero, List.set_cons_succ]
  refine up_run (v := ?_) 4 27 [12, 13] rfl rfl (by kernel_rfl) (by kernel_rfl) (by kernel_rfl) (by kernel_rfl) (fun _ _ _ h => h) (by rfl) ?_ (by assumption) ?_
  rotate_left
  ·(intro w hSw; (try dsimp only at hSw); go_simp; with_reducible rfl)
  simp only [Act.put, List.setIfInBounds_toArray, List.set_cons_zero, List.set_cons_succ]
  refine up_run (v := ?_) 5 28 [12, 13] rfl rfl (by kernel_rfl) (by kernel_rfl) (by kernel_rfl) (by kernel_rfl) (fun _ _ _ h => h) (by rfl) ?_ (by assumption) ?_
  rotate_left
  ·(intro w hSw; (try dsimp only at hSw); go_simp; with_reducible rfl)
  simp only [Act.put, List.setIfInBounds_toArray, List.set_cons_zero, List.set_cons_succ]
  refine up_run (v := ?_) 6 29 [12, 13] rfl rfl (by kernel_rfl) (by kernel_rfl) (by kernel_rfl) (by kernel_rfl) (fun _ _ _ h => h) (by rfl) ?_ (by assumption) ?_
  rotate_left
  ·(intro w hSw; (try dsimp only at hSw); go_simp; with_reducible rfl)
  simp only [Act.put, List.setIfInBounds_toArray, List.set_cons_zero, List.set_cons_succ]
  refine up_run (v := ?_) 7 30 [12, 13] rfl rfl (by kernel_rfl) (by kernel_rfl) (by kernel_rfl) (by kernel_rfl) (fun _ _ _ h => h) (by rfl) ?_ (by assumption) ?_
  rotate_left
  ·(intro w hSw; (try dsimp only at hSw); go_simp; with_reducible rfl)
  simp only [Act.put, List.setIfInBounds_toArray, List.set_cons_zero, List.set_cons_succ]
  refine up_run (v := ?_) 8 31 [12, 13] rfl rfl (by kernel_rfl) (by kernel_rfl) (by kernel_rfl) (by kernel_rfl) (fun _ _ _ h => h) (by rfl) ?_ (by assumption) ?_
  rotate_left
  ·(intro w hSw; (try dsimp only at hSw); go_simp; with_reducible rfl)
  simp only [Act.put, List.setIfInBounds_toArray, List.set_cons_zero, List.set_cons_succ]
  obtain ⟨hL1, hbL⟩ := lists_two w1 105 (.slice qo i qc) (.slice so (gl - (i + 1)) (qc - (i + 1))) i (gl - (i + 1)) _ _ (HSQ.out.take (sz := 1) i (by omega)) (HSQ.out.drop (sz := 1) (i + 1) hi1 so (fun h b off e => by rw [← hso, if_neg (by omega), e]; simp))
  have Y2 := hide (X2.out.later hbL); have Y4 := hide (X4.out.later hbL)
  obtain ⟨q2, -, -⟩ := Y2.out
  obtain ⟨q4, -, -⟩ := Y4.out
  have HL1 := hide hL1; have HBL := hide hbL
  clear hL1 hbL
  refine up_one 9 (by kernel_rfl) rfl (fun K hK => ?_)
  go_simp
  clear p2 p4
  generalize (w1.alloc (.cells #[.slice qo i qc, .slice so (gl - (i + 1)) (qc - (i + 1))] 105)).drew = wB at *
  refine hK.out _ _ (fun _ => ⟨q2, q4⟩) ?_
  clear hK K hHeld
  try simp only [Act.put, List.setIfInBounds_toArray, List.set_cons_zero, List.set_cons_succ]
  have hHeld : (fun w' => w'.cell? ⟨w.heap.size, 0, none⟩ = some (.slice (some ⟨b, off, none⟩) qs.length cap) ∧ w'.cell? ⟨w.heap.size + 1 + 1, 0, none⟩ = some (.slice none 0 0)) wB := ⟨q2, q4⟩
  refine up_one 10 (by kernel_rfl) rfl (fun K hK => ?_)
  go_simp
  refine (concatG wB _ 2 _ _ _ HL1.out (by simp) (by simp) (by simp; omega) (fun cs hcs y hy => gcells_one HGI.out y (by
   simp only [List.mem_cons, List.not_mem_nil, or_false] at hcs
   rcases hcs with rfl | rfl
   ·exact List.mem_of_mem_take hy
   ·exact List.mem_of_mem_drop hy)) (two_lens (by rw [List.length_take, List.length_map]; have := HPL.out; omega) (by rw [List.length_drop, List.length_map]; have := HPL.out; omega))).mono ?_
  rintro e w3 ⟨u3, rfl, hown, hb3⟩
  have hb03 := HBL.out.trans (hb3.mono HBL.out.size)
  have hrows : GensIn w3 u3 (gens.erase vs) := by
   have hsq := owns_seq hown
   have e1 : [(ps.map (·.1)).take (i * 1), (ps.map (·.1)).drop ((i + 1) * 1)].flatten = (ps.take i ++ ps.drop (i + 1)).map (·.1) := by simp [List.map_take, List.map_drop]
   have e2 : [i, gl - (i + 1)].sum = (ps.take i ++ ps.drop (i + 1)).length := by rw [List.length_append, List.length_take, List.length_drop, HPL.out]; simp; omega
   rw [e1, e2] at hsq
   have := rowsS_of_seq hsq (fun g hg => (HGI.out g (by
    rcases List.mem_append.1 hg with h | h
    ·exact List.mem_of_mem_take h
    ·exact List.mem_of_mem_drop h)).below hb03 (Nat.le_refl _)) (kinH_owns hown kinT_G)
   rw [List.map_append, List.map_take, List.map_drop, HPS.out] at this
   rw [HER.out]; exact this
  obtain ⟨uo, uc, rfl, -⟩ := owns_form hown
  have HRW := hide hrows; have HCC := hide (HC.out.below hb03); have Y7 := hide (X2.out.later hb03); have Y8 := hide (X4.out.later hb03); have HB3 := hide (HB1.out.trans (hb03.mono HB1.out.size))
  obtain ⟨v2, -, -⟩ := Y7.out
  obtain ⟨v4, -, -⟩ := Y8.out
  clear hown hrows hb3 hb03 q2 q4 HL1
  go_wp2_with fail
  refine hK.out _ _ (fun _ => ⟨v2, v4⟩) ?_
  clear hK K hHeld
  try simp only [Act.put, List.setIfInBounds_toArray, List.set_cons_zero, List.set_cons_succ]
  have hHeld : (fun w' => w'.cell? ⟨w.heap.size, 0, none⟩ = some (.slice (some ⟨b, off, none⟩) qs.length cap) ∧ w'.cell? ⟨w.heap.size + 1 + 1, 0, none⟩ = some (.slice none 0 0)) w3 := ⟨v2, v4⟩
  refine up_one 11 (by kernel_rfl) rfl (fun K hK => ?_)
  go_simp
  refine (HWI.out w3 _ _ _ (gens.erase vs) HCC.out (by exact HRW.out)).mono ?_
  rintro e w4 ⟨u4, rfl, hcat, hb4⟩
  obtain ⟨u5, rfl, hcat⟩ := hcat
  obtain ⟨ao6, cap6, e6, -⟩ := id hcat
  subst e6
  have Y10 := hide (Y8.out.later hb4); have HCAT := hide hcat; have HB4 := hide (HB3.out.trans (hb4.mono HB3.out.size))
  obtain ⟨x2, -, -⟩ := Y7.out.later hb4
  obtain ⟨x4, x5, -⟩ := Y10.out
  clear hcat hb4 v2 v4 HRW HCC
  go_wp2_with fail
  refine hK.out _ _ (fun _ => ⟨x2, x4⟩) ?_
  clear hK K hHeld
  try simp only [Act.put, List.setIfInBounds_toArray, List.set_cons_zero, List.set_cons_succ]
  have hHeld : (fun w' => w'.cell? ⟨w.heap.size, 0, none⟩ = some (.slice (some ⟨b, off, none⟩) qs.length cap) ∧ w'.cell? ⟨w.heap.size + 1 + 1, 0, none⟩ = some (.slice none 0 0)) w4 := ⟨x2, x4⟩
  refine up_one 12 (by kernel_rfl) rfl (fun K hK => ?_)
  go_simp
  refine hK.out _ _ (fun h => absurd h (by decide)) ?_
  clear hK K hHeld
  try simp only [Act.put, List.setIfInBounds_toArray, List.set_cons_zero, List.set_cons_succ]
  refine up_one 13 (by kernel_rfl) rfl (fun K hK => ?_)
  go_simp
  refine hK.out _ _ (fun h => absurd h (by decide)) ?_
  clear hK K
  try simp only [Act.put, List.setIfInBounds_toArray, List.set_cons_zero, List.set_cons_succ]
  refine up_done (by kernel_rfl) ?_
  have HNE : Hid (NonE (qs.set k (⟨⟨nm, nn, gens.erase vs⟩, uo, i + (gl - (i + 1)), uc⟩ : Nc))) := fun q hq g hg => by
   rcases List.mem_or_eq_of_mem_set hq with h | rfl
   ·exact hne q h g hg
   ·exact HNG.out g (List.mem_of_mem_erase hg)
  have HCB := hide (HCAT.out.setOne HNE.out x4 (.slice ao6 qs.length cap6))
  have HB5 := hide (HB4.out.setCell (p := ⟨w.heap.size + 1 + 1, 0, none⟩) (by show w.heap.size ≤ w.heap.size + 1 + 1; omega) (.slice ao6 qs.length cap6))
  have HQ : Hid ((qs.set k (⟨⟨nm, nn, gens.erase vs⟩, uo, i + (gl - (i + 1)), uc⟩ : Nc)).map (·.x) = (qs.map (·.x)).set k ⟨nm, nn, gens.erase vs⟩) := List.map_set
  have hl : (qs.set k (⟨⟨nm, nn, gens.erase vs⟩, uo, i + (gl - (i + 1)), uc⟩ : Nc)).length = qs.length := List.length_set
  rw [hl] at HCB
  generalize (qs.set k (⟨⟨nm, nn, gens.erase vs⟩, uo, i + (gl - (i + 1)), uc⟩ : Nc)) = rs at *
  clear HCAT HNE hl HC HPS HSQ
  go_wp2
  exact bodyPost_ret (v := .tuple #[.agg #[.slice ao6 qs.length cap6], .nilIface]) (by simp [results, Tryz.results102, go_sem, World.cell?_setCell_same _ _ _ x4]) rfl ⟨.inr ⟨by rw [HR.out], _, rs, rfl, by rw [HR.out]; exact HQ.out, _, rfl, HCB.out⟩, HB5.out⟩
 ·have e0 : idxG gens vs = -1 := by unfold idxG; rw [if_neg hm]
  rw [e0]
  have hr0 := HRR.out
  rw [if_neg hm] at hr0
  have HR := hide hr0
  clear hr0
  clear e0 hm HRR
  go_wp2
  exact bodyPost_ret (v := .tuple #[.agg #[.slice none 0 0], .iface 80 (.int .i64 7)]) (by simp [results, Tryz.results102, go_sem, p4]) rfl (catRes_err 7 [] HR.out (by decide) (HB1.out.setCell (p := ⟨w.heap.size + 1 + 1, 0, none⟩) (by show w.heap.size ≤ w.heap.size + 1 + 1; omega) (.slice none 0 0)))

end Go.Proofs.YtnhbfehfipafoaaGreatDoor
