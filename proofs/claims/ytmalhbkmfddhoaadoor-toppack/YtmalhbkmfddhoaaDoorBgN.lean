/- bag: a lattice is created. -/
import Derived.Test.YtmalhbkmfddhoaaDoorBgK

namespace Go.Proofs.YtmalhbkmfddhoaaDoor
open Go.RowKit

theorem seq_three (W : World) (u v x : Value) (t : TypeId) : SeqV ((W.alloc (.cells #[u, v, x] t)).drew) (.slice (some ⟨W.heap.size, 0, none⟩) 1 1) 1 [u, v, x] := by
 refine ⟨_, 1, rfl, Nat.le_refl _, fun _ => ⟨W.heap.size, 0, rfl, by simp, fun j y hy => ?_⟩⟩
 have : (W.alloc (.cells #[u, v, x] t)).cell? ⟨W.heap.size, 0 + j, none⟩ = some y := by
  rw [World.cell?_alloc_new, Nat.zero_add]
  have e : #[u, v, x][j]? = [u, v, x][j]? := by simp
  rw [e]; exact hy
 exact this

theorem three_lens {a b c : List Value} {n m l sz : Nat} (h1 : a.length = n * sz) (h2 : b.length = m * sz) (h3 : c.length = l * sz) : ∀ k (_ : k < [a, b, c].length) (_ : k < [n, m, l].length), [a, b, c][k].length = [n, m, l][k] * sz
 | 0, _, _ => h1
 | 1, _, _ => h2
 | 2, _, _ => h3

theorem lists_threeP (W : World) (t : TypeId) (a b c : Value) (n m l : Nat) (ca cb cc : List Value) (ha : SeqV W a n ca) (hb : SeqV W b m cb) (hc : SeqV W c l cc) : Lists (W.alloc (.cells #[a, b, c] t)) W.heap.size [a, b, c] [n, m, l] [ca, cb, cc] ∧ Below W.heap.size W (W.alloc (.cells #[a, b, c] t)) := by
 have hbl : Below W.heap.size W (W.alloc (.cells #[a, b, c] t)) := alloc_below W _
 refine ⟨⟨by simp, rfl, rfl, fun k hk => ?_⟩, hbl⟩
 match k, hk with
 | 0, _ => exact ⟨World.cell?_alloc_new _ _ _ _, ha.below hbl (Nat.le_refl _)⟩
 | 1, _ => exact ⟨World.cell?_alloc_new _ _ _ _, hb.below hbl (Nat.le_refl _)⟩
 | 2, _ => exact ⟨World.cell?_alloc_new _ _ _ _, hc.below hbl (Nat.le_refl _)⟩

def ThreeV (W : World) (B : Nat) (u0 u1 u2 : Value) : Prop := W.cell? ⟨B, 0, none⟩ = some u0 ∧ W.cell? ⟨B, 1, none⟩ = some u1 ∧ W.cell? ⟨B, 2, none⟩ = some u2 ∧ B < W.heap.size

theorem ThreeV.later {W W' : World} {B : Nat} {u0 u1 u2 : Value} (h : ThreeV W B u0 u1 u2) (hb : Below W.heap.size W W') : ThreeV W' B u0 u1 u2 :=
 ⟨(hb.cell (p := ⟨B, 0, none⟩) h.2.2.2).trans h.1, (hb.cell (p := ⟨B, 1, none⟩) h.2.2.2).trans h.2.1, (hb.cell (p := ⟨B, 2, none⟩) h.2.2.2).trans h.2.2.1, Nat.lt_of_lt_of_le h.2.2.2 hb.size⟩

theorem ThreeV.new (W : World) (u0 u1 u2 : Value) (t : TypeId) : ThreeV (W.alloc (.cells #[u0, u1, u2] t)) W.heap.size u0 u1 u2 :=
 ⟨by rw [World.cell?_alloc_new]; rfl, by rw [World.cell?_alloc_new]; rfl, by rw [World.cell?_alloc_new]; rfl, by simp⟩

set_option linter.unusedSimpArgs false in
set_option maxRecDepth 100000 in
set_option maxHeartbeats 1600000 in
theorem create_any (w : World) (v : Value) (qs : List Nc) (nm : ByteArray) (n : Int) (h : CatV w v qs) (hq : qs.length ≤ 100) (hs : (qs.map (·.x)).Pairwise (fun x y => nlt x.name y.name = true)) (r : Nat × List Nmd)
  (hr : r = if ¬ (1 ≤ n ∧ n ≤ 4) then (1, []) else if hasL (qs.map (·.x)) nm then (8, []) else if 8 ≤ (qs.map (·.x)).length then (2, []) else (0, (qs.map (·.x)).take (placeL (qs.map (·.x)) nm) ++ (⟨nm, n, []⟩ :: (qs.map (·.x)).drop (placeL (qs.map (·.x)) nm)))) :
  Calls Tryd.prog 20 #[v, .string nm, .int .i64 n] w fun e w' => CatRes w r e w' := by
 obtain ⟨u, rfl, hu⟩ := h
 obtain ⟨ao, cap, rfl, hcap, -⟩ := id hu
 obtain ⟨x2, x4, hbn, hsz⟩ := two_new w (.slice ao qs.length cap) (.slice none 0 0) 25 25
 have HC0 := hide (hu.below hbn); have HIN := hide hu.ins; have HB0 := hide hbn; have X20 := hide x2; have X40 := hide x4; have HS := hide hs
 obtain ⟨p2, -, -⟩ := x2
 obtain ⟨p4, p5, -⟩ := x4
 have hPl := placeL_le (qs.map (·.x)) nm
 rw [List.length_map] at hPl hr
 clear hu hbn hs
 by_cases h14 : ¬ (1 ≤ n ∧ n ≤ 4)
 ·rw [if_pos h14] at hr
  have HR := hide hr
  have hz : sizeOk n = false := decide_eq_false h14
  clear hr h14
  go_enter Tryd.func20, Tryd.ntmps20
  go_wp2_with fail
  generalize (w.alloc (.cells #[.slice ao qs.length cap] 25)).alloc (.cells #[.slice none 0 0] 25) = W0 at *
  refine (bsize_any n W0).mono ?_
  rintro e w' ⟨rfl, rfl⟩
  rw [hz]
  go_wp2
  exact bodyPost_ret (v := .tuple #[.agg #[.slice none 0 0], .iface 47 (.int .i64 1)]) (by simp [results, Tryd.results20, go_sem, p4]) rfl (catRes_err 1 [] HR.out (by decide) (by first | exact HB0.out | exact HB0.out.setCell (p := ⟨w.heap.size + 1, 0, none⟩) (by show w.heap.size ≤ w.heap.size + 1; omega) (.slice none 0 0)))
 rw [if_neg h14] at hr
 have hz : sizeOk n = true := decide_eq_true (Decidable.not_not.1 h14)
 have HPL := hide (fun (W0 : World) (hc : CatN W0 (.slice ao qs.length cap) qs) => place_any W0 _ qs nm ⟨_, rfl, hc⟩ (by omega) HS.out)
 clear h14 HS
 generalize hPP : placeL (qs.map (·.x)) nm = P at *
 generalize hHH : hasL (qs.map (·.x)) nm = hb at *
 have HRR := hide hr
 clear hr hPP hHH
 go_enter Tryd.func20, Tryd.ntmps20
 go_wp2_with fail
 generalize (w.alloc (.cells #[.slice ao qs.length cap] 25)).alloc (.cells #[.slice none 0 0] 25) = W0 at *
 refine (bsize_any n W0).mono ?_
 rintro e w' ⟨rfl, rfl⟩
 rw [hz]
 clear hz
 go_wp2_with fail
 refine (HPL.out _ HC0.out).mono ?_
 rintro e w0 ⟨rfl, hb0⟩
 have HCa := hide (HC0.out.below hb0); have HBa := hide (HB0.out.trans (hb0.mono HB0.out.size)); have X2a := hide (X20.out.later hb0); have X4a := hide (X40.out.later hb0)
 clear hb0 HC0 HB0 X20 X40 p2 p4 p5 HPL
 obtain ⟨p2, -, -⟩ := X2a.out
 obtain ⟨p4, p5, -⟩ := X4a.out
 cases hb with
 | true =>
  have hr0 := HRR.out
  rw [if_pos rfl] at hr0
  have HR := hide hr0
  clear hr0 HRR
  go_wp2
  exact bodyPost_ret (v := .tuple #[.agg #[.slice none 0 0], .iface 47 (.int .i64 8)]) (by simp [results, Tryd.results20, go_sem, p4]) rfl (catRes_err 8 [] HR.out (by decide) (by first | exact HBa.out | exact HBa.out.setCell (p := ⟨w.heap.size + 1, 0, none⟩) (by show w.heap.size ≤ w.heap.size + 1; omega) (.slice none 0 0)))
 | false =>
 have hr0 := HRR.out
 rw [if_neg (by decide)] at hr0
 by_cases h8 : 8 ≤ qs.length
 ·rw [if_pos h8] at hr0
  have HR := hide hr0
  have g0 : decide (8 ≤ (qs.length : Int)) = true := decide_eq_true (by omega)
  clear hr0 HRR h8
  go_wp2
  exact bodyPost_ret (v := .tuple #[.agg #[.slice none 0 0], .iface 47 (.int .i64 2)]) (by simp [results, Tryd.results20, go_sem, p4]) rfl (catRes_err 2 [] HR.out (by decide) (by first | exact HBa.out | exact HBa.out.setCell (p := ⟨w.heap.size + 1, 0, none⟩) (by show w.heap.size ≤ w.heap.size + 1; omega) (.slice none 0 0)))
 rw [if_neg h8] at hr0
 have HR := hide hr0
 have g0 : decide (8 ≤ (qs.length : Int)) = false := decide_eq_false (by omega)
 clear hr0 HRR
 have hbN := alloc_below w0 (.cells #[.string nm, .int .i64 n, .slice none 0 0] 50)
 have X2 := hide (X2a.out.later hbN); have X4 := hide (X4a.out.later hbN); have XN := hide (ThreeV.new w0 (.string nm) (.int .i64 n) (.slice none 0 0) 50); have HSEQ := hide (catN_seq (HCa.out.below hbN)); have HB1 := hide (HBa.out.trans (hbN.mono HBa.out.size))
 clear hbN X2a X4a HCa HBa
 have hPc : P ≤ cap := by omega
 have hk3 : 0 ≤ (P : Int) ∧ (P : Int) ≤ (qs.length : Int) := by omega
 obtain ⟨so, hso⟩ : ∃ so, (if cap = P then ao else Option.map (fun x => x.add (P * 3)) ao) = so := ⟨_, rfl⟩
 go_wp2_with fail
 generalize (w0.alloc (.cells #[.string nm, .int .i64 n, .slice none 0 0] 50)) = w1 at *
 generalize w0.heap.size = B at *
 clear p2 p4 p5
 obtain ⟨p2, -, -⟩ := X2.out
 obtain ⟨p4, p5, -⟩ := X4.out
 obtain ⟨n0, n1, n2, -⟩ := XN.out
 refine up_start (A := fun j => decide (j < 13)) (S := (fun w' => w'.cell? ⟨w.heap.size, 0, none⟩ = some (.slice ao qs.length cap) ∧ w'.cell? ⟨w.heap.size + 1, 0, none⟩ = some (.slice none 0 0) ∧ w'.cell? ⟨B, 0, none⟩ = some (.string nm) ∧ w'.cell? ⟨B, 1, none⟩ = some (.int .i64 n) ∧ w'.cell? ⟨B, 2, none⟩ = some (.slice none 0 0))) (by kernel_rfl) (by exact ⟨p2, p4, n0, n1, n2⟩) (fun hHeld => ?_)
 refine up_run (v := ?_) 0 34 [13, 14] rfl rfl (by kernel_rfl) (by kernel_rfl) (by kernel_rfl) (by kernel_rfl) (fun _ _ _ h => h) (by rfl) ?_ (by assumption) ?_
 rotate_left
 ·(intro w hSw; (try dsimp only at hSw); go_simp; with_reducible rfl)
 simp only [Act.put, List.setIfInBounds_toArray, List.set_cons_zero, List.set_cons_succ]
 refine up_run (v := ?_) 1 35 [13, 14] rfl rfl (by kernel_rfl) (by kernel_rfl) (by kernel_rfl) (by kernel_rfl) (fun _ _ _ h => h) (by rfl) ?_ (by assumption) ?_
 rotate_left
 ·(intro w hSw; (try dsimp only at hSw); go_simp; with_reducible rfl)
 simp only [Act.put, List.setIfInBounds_toArray, List.set_cons_zero, List.set_cons_succ]
 refine up_run (v := ?_) 2 36 [13, 14] rfl rfl (by kernel_rfl) (by kernel_rfl) (by kernel_rfl) (by kernel_rfl) (fun _ _ _ h => h) (by rfl) ?_ (by assumption) ?_
 rotate_left
 ·(intro w hSw; (try dsimp only at hSw); go_simp; with_reducible rfl)
 simp only [Act.put, List.setIfInBounds_toArray, List.set_cons_zero, List.set_cons_succ]
 refine up_run (v := ?_) 3 37 [13, 14] rfl rfl (by kernel_rfl) (by kernel_rfl) (by kernel_rfl) (by kernel_rfl) (fun _ _ _ h => h) (by rfl) ?_ (by assumption) ?_
 rotate_left
 ·(intro w hSw; (try dsimp only at hSw); go_simp; with_reducible rfl)
 simp only [Act.put, List.setIfInBounds_toArray, List.set_cons_zero, List.set_cons_succ]
 refine up_run (v := ?_) 4 38 [13, 14] rfl rfl (by kernel_rfl) (by kernel_rfl) (by kernel_rfl) (by kernel_rfl) (fun _ _ _ h => h) (by rfl) ?_ (by assumption) ?_
 rotate_left
 ·(intro w hSw; (try dsimp only at hSw); go_simp; with_reducible rfl)
 simp only [Act.put, List.setIfInBounds_toArray, List.set_cons_zero, List.set_cons_succ]
 refine up_run (v := ?_) 6 40 [13, 14] rfl rfl (by kernel_rfl) (by kernel_rfl) (by kernel_rfl) (by kernel_rfl) (fun _ _ _ h => h) (by rfl) ?_ (by assumption) ?_
 rotate_left
 ·(intro w hSw; (try dsimp only at hSw); go_simp; with_reducible rfl)
 simp only [Act.put, List.setIfInBounds_toArray, List.set_cons_zero, List.set_cons_succ]
 refine up_run (v := ?_) 7 41 [13, 14] rfl rfl (by kernel_rfl) (by kernel_rfl) (by kernel_rfl) (by kernel_rfl) (fun _ _ _ h => h) (by rfl) ?_ (by assumption) ?_
 rotate_left
 ·(intro w hSw; (try dsimp only at hSw); go_simp; with_reducible rfl)
 simp only [Act.put, List.setIfInBounds_toArray, List.set_cons_zero, List.set_cons_succ]
 refine up_run (v := ?_) 8 42 [13, 14] rfl rfl (by kernel_rfl) (by kernel_rfl) (by kernel_rfl) (by kernel_rfl) (fun _ _ _ h => h) (by rfl) ?_ (by assumption) ?_
 rotate_left
 ·(intro w hSw; (try dsimp only at hSw); go_simp; with_reducible rfl)
 simp only [Act.put, List.setIfInBounds_toArray, List.set_cons_zero, List.set_cons_succ]
 refine up_run (v := ?_) 9 43 [13, 14] rfl rfl (by kernel_rfl) (by kernel_rfl) (by kernel_rfl) (by kernel_rfl) (fun _ _ _ h => h) (by rfl) ?_ (by assumption) ?_
 rotate_left
 ·(intro w hSw; (try dsimp only at hSw); go_simp; with_reducible rfl)
 simp only [Act.put, List.setIfInBounds_toArray, List.set_cons_zero, List.set_cons_succ]
 have hbA : Below w1.heap.size w1 (w1.alloc (.cells #[.string nm, .int .i64 n, .slice none 0 0] 50)).drew := (alloc_below w1 _).drew
 have hsA : SeqV ((w1.alloc (.cells #[.string nm, .int .i64 n, .slice none 0 0] 50)).drew) (.slice (some ⟨w1.heap.size, 0, none⟩) 1 1) 1 [.string nm, .int .i64 n, .slice none 0 0] := seq_three w1 _ _ _ _
 have HZ := hide (HSEQ.out.below hbA (Nat.le_refl _)); have HA := hide hsA; have HBA := hide hbA
 have Y2 := hide (X2.out.later hbA); have Y4 := hide (X4.out.later hbA); have YN := hide (XN.out.later hbA)
 obtain ⟨t2, -, -⟩ := Y2.out
 obtain ⟨t4, -, -⟩ := Y4.out
 obtain ⟨u0, u1, u2, -⟩ := YN.out
 clear hbA hsA p2 p4 n0 n1 n2
 refine up_one 5 (by kernel_rfl) rfl (fun K hK => ?_)
 go_simp
 generalize (w1.alloc (.cells #[.string nm, .int .i64 n, .slice none 0 0] 50)).drew = wA at *
 refine hK.out _ _ (fun _ => ⟨t2, t4, u0, u1, u2⟩) ?_
 clear hK K hHeld
 try simp only [Act.put, List.setIfInBounds_toArray, List.set_cons_zero, List.set_cons_succ]
 have hHeld : (fun w' => w'.cell? ⟨w.heap.size, 0, none⟩ = some (.slice ao qs.length cap) ∧ w'.cell? ⟨w.heap.size + 1, 0, none⟩ = some (.slice none 0 0) ∧ w'.cell? ⟨B, 0, none⟩ = some (.string nm) ∧ w'.cell? ⟨B, 1, none⟩ = some (.int .i64 n) ∧ w'.cell? ⟨B, 2, none⟩ = some (.slice none 0 0)) wA := ⟨t2, t4, u0, u1, u2⟩
 obtain ⟨hL1, hbL⟩ := lists_threeP wA 23 (.slice ao P cap) (.slice (some ⟨w1.heap.size, 0, none⟩) 1 1) (.slice so (qs.length - P) (cap - P)) P 1 (qs.length - P) _ _ _ (HZ.out.take (sz := 3) P hPl) HA.out (HZ.out.drop (sz := 3) P hPl so (fun h b off e => by rw [← hso, if_neg (by omega), e, Option.map_some, add_none]))
 have Z2 := hide (Y2.out.later hbL); have Z4 := hide (Y4.out.later hbL); have ZN := hide (YN.out.later hbL)
 obtain ⟨s2, -, -⟩ := Z2.out
 obtain ⟨s4, -, -⟩ := Z4.out
 obtain ⟨v0, v1, v2, -⟩ := ZN.out
 have HL1 := hide hL1; have HBL := hide (HBA.out.trans (hbL.mono HBA.out.size))
 clear hL1 hbL t2 t4 u0 u1 u2 Y2 Y4 YN HA HZ
 refine up_one 10 (by kernel_rfl) rfl (fun K hK => ?_)
 go_simp
 refine hK.out _ _ (fun _ => ⟨s2, s4, v0, v1, v2⟩) ?_
 clear hK K hHeld
 try simp only [Act.put, List.setIfInBounds_toArray, List.set_cons_zero, List.set_cons_succ]
 generalize wA.alloc (.cells #[.slice ao P cap, .slice (some ⟨w1.heap.size, 0, none⟩) 1 1, .slice so (qs.length - P) (cap - P)] 23) = wB at *
 have hHeld : (fun w' => w'.cell? ⟨w.heap.size, 0, none⟩ = some (.slice ao qs.length cap) ∧ w'.cell? ⟨w.heap.size + 1, 0, none⟩ = some (.slice none 0 0) ∧ w'.cell? ⟨B, 0, none⟩ = some (.string nm) ∧ w'.cell? ⟨B, 1, none⟩ = some (.int .i64 n) ∧ w'.cell? ⟨B, 2, none⟩ = some (.slice none 0 0)) wB := ⟨s2, s4, v0, v1, v2⟩
 refine up_one 11 (by kernel_rfl) rfl (fun K hK => ?_)
 go_simp
 refine (concatN wB _ 3 _ _ _ HL1.out (by simp) (by simp) (by simp; omega) (fun cs hcs y hy => (by
  simp only [List.mem_cons, List.not_mem_nil, or_false] at hcs
  rcases hcs with rfl | rfl | rfl
  ·exact nccells_one qs y (List.mem_of_mem_take hy)
  ·simp only [List.mem_cons, List.not_mem_nil, or_false] at hy; rcases hy with rfl | rfl | rfl <;> rfl
  ·exact nccells_one qs y (List.mem_of_mem_drop hy))) (three_lens (by rw [List.length_take, nccells_len, Nat.min_eq_left (by omega)]) (by simp) (by rw [List.length_drop, nccells_len]; omega))).mono ?_
 rintro e w3 ⟨u3, rfl, hown, hb3⟩
 have hb03 := HBL.out.trans (hb3.mono HBL.out.size)
 have e1 : [(qs.flatMap Nc.cells).take (P * 3), [Value.string nm, .int .i64 n, .slice none 0 0], (qs.flatMap Nc.cells).drop (P * 3)].flatten = (qs.take P ++ (⟨⟨nm, n, []⟩, none, 0, 0⟩ : Nc) :: qs.drop P).flatMap Nc.cells := by
  rw [List.flatMap_append, List.flatMap_cons, nccells_take, nccells_drop]; simp [Nc.cells]
 have e2 : [P, 1, qs.length - P].sum = (qs.take P ++ (⟨⟨nm, n, []⟩, none, 0, 0⟩ : Nc) :: qs.drop P).length := by
  rw [List.length_append, List.length_take, List.length_cons, List.length_drop]; simp; omega
 rw [e1, e2] at hown
 obtain ⟨uo, uc, rfl, -⟩ := owns_form hown
 have HOW := hide hown; have HE2 := hide e2; have HBS : Hid (w.heap.size + 1 < wB.heap.size) := Z4.out.2.2; have Y8 := hide (X4.out.later hb03); have HB3 := hide (HB1.out.trans (hb03.mono HB1.out.size))
 obtain ⟨a2, -, -⟩ := X2.out.later hb03
 obtain ⟨a4, a5, -⟩ := Y8.out
 obtain ⟨b0, b1, b2, -⟩ := XN.out.later hb03
 clear hown e1 e2 hb3 hb03 s2 s4 v0 v1 v2 HL1
 go_wp2_with fail
 refine hK.out _ _ (fun _ => ⟨a2, a4, b0, b1, b2⟩) ?_
 clear hK K hHeld
 try simp only [Act.put, List.setIfInBounds_toArray, List.set_cons_zero, List.set_cons_succ]
 have hHeld : (fun w' => w'.cell? ⟨w.heap.size, 0, none⟩ = some (.slice ao qs.length cap) ∧ w'.cell? ⟨w.heap.size + 1, 0, none⟩ = some (.slice none 0 0) ∧ w'.cell? ⟨B, 0, none⟩ = some (.string nm) ∧ w'.cell? ⟨B, 1, none⟩ = some (.int .i64 n) ∧ w'.cell? ⟨B, 2, none⟩ = some (.slice none 0 0)) w3 := ⟨a2, a4, b0, b1, b2⟩
 refine up_run (v := ?_) 12 46 [13, 14] rfl rfl (by kernel_rfl) (by kernel_rfl) (by kernel_rfl) (by kernel_rfl) (fun _ _ _ h => h) (by rfl) ?_ (by assumption) ?_
 rotate_left
 ·(intro w hSw; (try dsimp only at hSw); go_simp; with_reducible rfl)
 simp only [Act.put, List.setIfInBounds_toArray, List.set_cons_zero, List.set_cons_succ]
 refine up_one 13 (by kernel_rfl) rfl (fun K hK => ?_)
 go_simp
 refine hK.out _ _ (fun h => absurd h (by decide)) ?_
 clear hK K hHeld
 try simp only [Act.put, List.setIfInBounds_toArray, List.set_cons_zero, List.set_cons_succ]
 refine up_one 14 (by kernel_rfl) rfl (fun K hK => ?_)
 go_simp
 refine hK.out _ _ (fun h => absurd h (by decide)) ?_
 clear hK K
 try simp only [Act.put, List.setIfInBounds_toArray, List.set_cons_zero, List.set_cons_succ]
 refine up_done (by kernel_rfl) ?_
 have HB5 := hide (HB3.out.setCell (p := ⟨w.heap.size + 1, 0, none⟩) (by show w.heap.size ≤ w.heap.size + 1; omega) (.slice uo (qs.take P ++ (⟨⟨nm, n, []⟩, none, 0, 0⟩ : Nc) :: qs.drop P).length uc))
 have HCB : Hid (CatN (w3.setCell ⟨w.heap.size + 1, 0, none⟩ (.slice uo (qs.take P ++ (⟨⟨nm, n, []⟩, none, 0, 0⟩ : Nc) :: qs.drop P).length uc)) (.slice uo (qs.take P ++ (⟨⟨nm, n, []⟩, none, 0, 0⟩ : Nc) :: qs.drop P).length uc) (qs.take P ++ (⟨⟨nm, n, []⟩, none, 0, 0⟩ : Nc) :: qs.drop P)) := by
  refine catN_of_owns (ownsRow_setCell_below (a := ⟨w.heap.size + 1, 0, none⟩) HOW.out HBS.out _) (fun q hq => ?_)
  rcases List.mem_append.1 hq with h | h
  ·exact (HIN.out q (List.mem_of_mem_take h)).below HB5.out
  ·rcases List.mem_cons.1 h with rfl | h
   ·exact ⟨none, 0, rfl, Nat.le_refl _, fun h => absurd h (by simp)⟩
   ·exact (HIN.out q (List.mem_of_mem_drop h)).below HB5.out
 have HQ : Hid ((qs.take P ++ (⟨⟨nm, n, []⟩, none, 0, 0⟩ : Nc) :: qs.drop P).map (·.x) = (qs.map (·.x)).take P ++ (⟨nm, n, []⟩ : Nmd) :: (qs.map (·.x)).drop P) := by
  show _ = _
  rw [List.map_append, List.map_cons, List.map_take, List.map_drop]
 obtain ⟨rs, hrs⟩ : ∃ rs, rs = (qs.take P ++ (⟨⟨nm, n, []⟩, none, 0, 0⟩ : Nc) :: qs.drop P) := ⟨_, rfl⟩
 rw [← hrs] at HCB HB5 HQ HE2
 try rw [← hrs]
 have hle : P + (qs.length - P + 1) = rs.length := by have h := HE2.out; simp at h; omega
 rw [hle]
 clear HOW hrs hle HSEQ HIN
 go_wp2
 exact bodyPost_ret (v := .tuple #[.agg #[.slice uo rs.length uc], .nilIface]) (by simp [results, Tryd.results20, go_sem, World.cell?_setCell_same _ _ _ a4]) rfl ⟨.inr ⟨by rw [HR.out], _, rs, rfl, by rw [HR.out]; exact HQ.out, _, rfl, HCB.out⟩, HB5.out⟩

end Go.Proofs.YtmalhbkmfddhoaaDoor

/- bag: has an operation what its kind has a use for, and nothing else? -/
namespace Go.Proofs.YtmalhbkmfddhoaaDoor
open Go.RowKit

def FourV (W : World) (B : Nat) (u0 u1 u2 u3 : Value) : Prop := W.cell? ⟨B, 0, none⟩ = some u0 ∧ W.cell? ⟨B, 1, none⟩ = some u1 ∧ W.cell? ⟨B, 2, none⟩ = some u2 ∧ W.cell? ⟨B, 3, none⟩ = some u3 ∧ B < W.heap.size

theorem FourV.later {W W' : World} {B : Nat} {u0 u1 u2 u3 : Value} (h : FourV W B u0 u1 u2 u3) (hb : Below W.heap.size W W') : FourV W' B u0 u1 u2 u3 :=
 ⟨(hb.cell (p := ⟨B, 0, none⟩) h.2.2.2.2).trans h.1, (hb.cell (p := ⟨B, 1, none⟩) h.2.2.2.2).trans h.2.1, (hb.cell (p := ⟨B, 2, none⟩) h.2.2.2.2).trans h.2.2.1, (hb.cell (p := ⟨B, 3, none⟩) h.2.2.2.2).trans h.2.2.2.1, Nat.lt_of_lt_of_le h.2.2.2.2 hb.size⟩

theorem FourV.new (W : World) (u0 u1 u2 u3 : Value) (t : TypeId) : FourV (W.alloc (.cells #[u0, u1, u2, u3] t)) W.heap.size u0 u1 u2 u3 :=
 ⟨by rw [World.cell?_alloc_new]; rfl, by rw [World.cell?_alloc_new]; rfl, by rw [World.cell?_alloc_new]; rfl, by rw [World.cell?_alloc_new]; rfl, by simp⟩

def useOk (k n : Int) (l : Nat) : Bool := decide (k = 1 ∧ l = 0) || decide (k = 2 ∧ n = 0 ∧ l = 0) || decide ((k = 3 ∨ k = 4) ∧ n = 0)

theorem opOk_use (o : OpV) : opOk o = (nmOk o.name && useOk o.kind o.n o.v.length) := rfl

set_option linter.unusedSimpArgs false in
set_option maxRecDepth 100000 in
set_option maxHeartbeats 1600000 in
theorem shaped_any (w : World) (o : OpV) (vo : Option Addr) (vc : Nat) :
  Calls Tryd.prog 19 #[.agg #[.int .i64 o.kind, .string o.name, .int .i64 o.n, .slice vo o.v.length vc]] w fun e w' => e = .returned (.bool (opOk o)) ∧ Below w.heap.size w w' := by
 have hf := FourV.new w (.int .i64 o.kind) (.string o.name) (.int .i64 o.n) (.slice vo o.v.length vc) 36
 have HB0 := hide (alloc_below w (.cells #[.int .i64 o.kind, .string o.name, .int .i64 o.n, .slice vo o.v.length vc] 36))
 obtain ⟨c0, c1, c2, c3, -⟩ := hf
 rw [opOk_use]
 cases hn : nmOk o.name with
 | false =>
  rw [Bool.false_and]
  go_enter Tryd.func19, Tryd.ntmps19
  go_wp2_with fail
  refine (name_any o.name _).mono ?_
  rintro e w1 ⟨rfl, rfl⟩
  rw [hn]
  go_wp2
  go_ret
  exact ⟨rfl, HB0.out⟩
 | true =>
  rw [Bool.true_and]
  generalize hk : o.kind = k at *
  generalize hN : o.n = n at *
  generalize hl : o.v.length = l at *
  clear hk hN hl
  have hn' : nmOk o.name = true := hn
  clear hn
  have hn := hn'
  clear hn'
  by_cases h1 : k = 1
  ·subst h1
   by_cases hl : l = 0
   ·subst hl
    have hu : useOk 1 n 0 = true := by simp [useOk]
    rw [hu]
    clear hu
    go_enter Tryd.func19, Tryd.ntmps19
    go_wp2_with fail
    refine (name_any o.name _).mono ?_
    rintro e w1 ⟨rfl, rfl⟩
    rw [hn]
    go_wp2
    go_ret
    exact ⟨rfl, HB0.out⟩
   ·have hu : useOk 1 n l = false := by simp [useOk, hl]
    have g0 : ((l : Int) == 0) = false := beq_eq_false_iff_ne.2 (by omega)
    rw [hu]
    clear hu hl
    go_enter Tryd.func19, Tryd.ntmps19
    go_wp2_with fail
    refine (name_any o.name _).mono ?_
    rintro e w1 ⟨rfl, rfl⟩
    rw [hn]
    go_wp2
    go_ret
    exact ⟨rfl, HB0.out⟩
  ·have e1 : (k == 1) = false := beq_eq_false_iff_ne.2 h1
   by_cases h2 : k = 2
   ·subst h2
    by_cases hz : n = 0
    ·subst hz
     by_cases hl : l = 0
     ·subst hl
      have hu : useOk 2 0 0 = true := by simp [useOk]
      rw [hu]
      clear hu
      go_enter Tryd.func19, Tryd.ntmps19
      go_wp2_with fail
      refine (name_any o.name _).mono ?_
      rintro e w1 ⟨rfl, rfl⟩
      rw [hn]
      go_wp2
      go_ret
      exact ⟨rfl, HB0.out⟩
     ·have hu : useOk 2 0 l = false := by simp [useOk, hl]
      have g0 : ((l : Int) == 0) = false := beq_eq_false_iff_ne.2 (by omega)
      rw [hu]
      clear hu hl
      go_enter Tryd.func19, Tryd.ntmps19
      go_wp2_with fail
      refine (name_any o.name _).mono ?_
      rintro e w1 ⟨rfl, rfl⟩
      rw [hn]
      go_wp2
      go_ret
      exact ⟨rfl, HB0.out⟩
    ·have hu : useOk 2 n l = false := by simp [useOk, hz]
     have g0 : (n == 0) = false := beq_eq_false_iff_ne.2 hz
     rw [hu]
     clear hu hz
     go_enter Tryd.func19, Tryd.ntmps19
     go_wp2_with fail
     refine (name_any o.name _).mono ?_
     rintro e w1 ⟨rfl, rfl⟩
     rw [hn]
     go_wp2
     go_ret
     exact ⟨rfl, HB0.out⟩
   ·have e2 : (k == 2) = false := beq_eq_false_iff_ne.2 h2
    by_cases h3 : k = 3
    ·subst h3
     by_cases hz : n = 0
     ·subst hz
      have hu : useOk 3 0 l = true := by simp [useOk]
      rw [hu]
      clear hu
      go_enter Tryd.func19, Tryd.ntmps19
      go_wp2_with fail
      refine (name_any o.name _).mono ?_
      rintro e w1 ⟨rfl, rfl⟩
      rw [hn]
      go_wp2
      go_ret
      exact ⟨rfl, HB0.out⟩
     ·have hu : useOk 3 n l = false := by simp [useOk, hz]
      have g0 : (n == 0) = false := beq_eq_false_iff_ne.2 hz
      rw [hu]
      clear hu hz
      go_enter Tryd.func19, Tryd.ntmps19
      go_wp2_with fail
      refine (name_any o.name _).mono ?_
      rintro e w1 ⟨rfl, rfl⟩
      rw [hn]
      go_wp2
      go_ret
      exact ⟨rfl, HB0.out⟩
    ·have e3 : (k == 3) = false := beq_eq_false_iff_ne.2 h3
     by_cases h4 : k = 4
     ·subst h4
      by_cases hz : n = 0
      ·subst hz
       have hu : useOk 4 0 l = true := by simp [useOk]
       rw [hu]
       clear hu
       go_enter Tryd.func19, Tryd.ntmps19
       go_wp2_with fail
       refine (name_any o.name _).mono ?_
       rintro e w1 ⟨rfl, rfl⟩
       rw [hn]
       go_wp2
       go_ret
       exact ⟨rfl, HB0.out⟩
      ·have hu : useOk 4 n l = false := by simp [useOk, hz]
       have g0 : (n == 0) = false := beq_eq_false_iff_ne.2 hz
       rw [hu]
       clear hu hz
       go_enter Tryd.func19, Tryd.ntmps19
       go_wp2_with fail
       refine (name_any o.name _).mono ?_
       rintro e w1 ⟨rfl, rfl⟩
       rw [hn]
       go_wp2
       go_ret
       exact ⟨rfl, HB0.out⟩
     ·have e4 : (k == 4) = false := beq_eq_false_iff_ne.2 h4
      have hu : useOk k n l = false := by simp [useOk, h1, h2, h3, h4]
      rw [hu]
      clear hu h1 h2 h3 h4
      go_enter Tryd.func19, Tryd.ntmps19
      go_wp2_with fail
      refine (name_any o.name _).mono ?_
      rintro e w1 ⟨rfl, rfl⟩
      rw [hn]
      go_wp2
      go_ret
      exact ⟨rfl, HB0.out⟩

end Go.Proofs.YtmalhbkmfddhoaaDoor
