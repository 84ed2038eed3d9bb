/- bag: a lattice is created. -/
import Derived.Test.YtnhbfehfipafoaaGreatDoorBgK

namespace Go.Proofs.YtnhbfehfipafoaaGreatDoor
open Go.RowKit

theorem seq_three (W : World) (u v x : Value) (t : TypeId) : SeqV ((W.alloc (.cells #[u, v, x] t)).drew) (.slice (some ⟨W.heap.size, 0, none⟩) 1 1) 1 [u, v, x] := by
 refine ⟨_, 1, rfl, Nat.le_refl _, fun _ => ⟨W.heap.size, 0, rfl, by simp, fun j y hy => ?_⟩⟩
 have : (W.alloc (.cells #[u, v, x] t)).cell? ⟨W.heap.size, 0 + j, none⟩ = some y := by
  rw [World.cell?_alloc_new, Nat.zero_add]
  have e : #[u, v, x][j]? = [u, v, x][j]? := by simp
  rw [e]; exact hy
 exact this

theorem three_lens {a b c : List Value} {n m l sz : Nat} (h1 : a.length = n * sz) (h2 : b.length = m * sz) (h3 : c.length = l * sz) : ∀ k (_ : k < [a, b, c].length) (_ : k < [n, m, l].length), [a, b, c][k].length = [n, m, l][k] * sz
 | 0, _, _ => h1
 | 1, _, _ => h2
 | 2, _, _ => h3

theorem lists_threeP (W : World) (t : TypeId) (a b c : Value) (n m l : Nat) (ca cb cc : List Value) (ha : SeqV W a n ca) (hb : SeqV W b m cb) (hc : SeqV W c l cc) : Lists (W.alloc (.cells #[a, b, c] t)) W.heap.size [a, b, c] [n, m, l] [ca, cb, cc] ∧ Below W.heap.size W (W.alloc (.cells #[a, b, c] t)) := by
 have hbl : Below W.heap.size W (W.alloc (.cells #[a, b, c] t)) := alloc_below W _
 refine ⟨⟨by simp, rfl, rfl, fun k hk => ?_⟩, hbl⟩
 match k, hk with
 | 0, _ => exact ⟨World.cell?_alloc_new _ _ _ _, ha.below hbl (Nat.le_refl _)⟩
 | 1, _ => exact ⟨World.cell?_alloc_new _ _ _ _, hb.below hbl (Nat.le_refl _)⟩
 | 2, _ => exact ⟨World.cell?_alloc_new _ _ _ _, hc.below hbl (Nat.le_refl _)⟩

def ThreeV (W : World) (B : Nat) (u0 u1 u2 : Value) : Prop := W.cell? ⟨B, 0, none⟩ = some u0 ∧ W.cell? ⟨B, 1, none⟩ = some u1 ∧ W.cell? ⟨B, 2, none⟩ = some u2 ∧ B < W.heap.size

theorem ThreeV.later {W W' : World} {B : Nat} {u0 u1 u2 : Value} (h : ThreeV W B u0 u1 u2) (hb : Below W.heap.size W W') : ThreeV W' B u0 u1 u2 :=
 ⟨(hb.cell (p := ⟨B, 0, none⟩) h.2.2.2).trans h.1, (hb.cell (p := ⟨B, 1, none⟩) h.2.2.2).trans h.2.1, (hb.cell (p := ⟨B, 2, none⟩) h.2.2.2).trans h.2.2.1, Nat.lt_of_lt_of_le h.2.2.2 hb.size⟩

theorem ThreeV.new (W : World) (u0 u1 u2 : Value) (t : TypeId) : ThreeV (W.alloc (.cells #[u0, u1, u2] t)) W.heap.size u0 u1 u2 :=
 ⟨by rw [World.cell?_alloc_new]; rfl, by rw [World.cell?_alloc_new]; rfl, by rw [World.cell?_alloc_new]; rfl, by simp⟩

set_option linter.unusedSimpArgs false in
set_option maxRecDepth 100000 in
set_option maxHeartbeats 1600000 in
theorem create_any (w : World) (v : Value) (qs : List Nc) (nm : ByteArray) (n : Int) (h : CatV w v qs) (hq : qs.length ≤ 100) (hs : (qs.map (·.x)).Pairwise (fun x y => nlt x.name y.name = true)) (r : Nat × List Nmd)
  (hr : r = if ¬ (1 ≤ n ∧ n ≤ 4) then (1, []) else if hasL (qs.map (·.x)) nm then (8, []) else if 8 ≤ (qs.map (·.x)).length then (2, []) else (0, (qs.map (·.x)).take (placeL (qs.map (·.x)) nm) ++ (⟨nm, n, []⟩ :: (qs.map (·.x)).drop (placeL (qs.map (·.x)) nm)))) :
  Calls Tryz.prog 97 #[v, .string nm, .int .i64 n] w fun e w' => CatRes w r e w' := by
 obtain ⟨u, rfl, hu⟩ := h
 obtain ⟨ao, cap, rfl, hcap, -⟩ := id hu
 obtain ⟨x2, x4, hbn, hsz⟩ := two_new w (.slice ao qs.length cap) (.slice none 0 0) 53 53
 have HC0 := hide (hu.below hbn); have HIN := hide hu.ins; have HB0 := hide hbn; have X20 := hide x2; have X40 := hide x4; have HS := hide hs
 obtain ⟨p2, -, -⟩ := x2
 obtain ⟨p4, p5, -⟩ := x4
 have hPl := placeL_le (qs.map (·.x)) nm
 rw [List.length_map] at hPl hr
 clear hu hbn hs
 by_cases h14 : ¬ (1 ≤ n ∧ n ≤ 4)
 ·rw [if_pos h14] at hr
  have HR := hide hr
  have hz : sizeOk n = false := decide_eq_false h14
  clear hr h14
  go_enter Tryz.func97, Tryz.ntmps97
  go_wp2_with fail
  generalize (w.alloc (.cells #[.slice ao qs.length cap] 53)).alloc (.cells #[.slice none 0 0] 53) = W0 at *
  refine (bsize_any n W0).mono ?_
  rintro e w' ⟨rfl, rfl⟩
  rw [hz]
  go_wp2
  exact bodyPost_ret (v := .tuple #[.agg #[.slice none 0 0], .iface 80 (.int .i64 1)]) (by simp [results, Tryz.results97, go_sem, p4]) rfl (catRes_err 1 [] HR.out (by decide) (by first | exact HB0.out | exact HB0.out.setCell (p := ⟨w.heap.size + 1, 0, none⟩) (by show w.heap.size ≤ w.heap.size + 1; omega) (.slice none 0 0)))
 rw [if_neg h14] at hr
 have hz : sizeOk n = true := decide_eq_true (Decidable.not_not.1 h14)
 have HPL := hide (fun (W0 : World) (hc : CatN W0 (.slice ao qs.length cap) qs) => place_any W0 _ qs nm ⟨_, rfl, hc⟩ (by omega) HS.out)
 clear h14 HS
 generalize hPP : placeL (qs.map (·.x)) nm = P at *
 generalize hHH : hasL (qs.map (·.x)) nm = hb at *
 have HRR := hide hr
 clear hr hPP hHH
 go_enter Tryz.func97, Tryz.ntmps97
 go_wp2_with fail
 generalize (w.alloc (.cells #[.slice ao qs.length cap] 53)).alloc (.cells #[.slice none 0 0] 53) = W0 at *
 refine (bsize_any n W0).mono ?_
 rintro e w' ⟨rfl, rfl⟩
 rw [hz]
 clear hz
 go_wp2_with fail
 refine (HPL.out _ HC0.out).mono ?_
 rintro e w0 ⟨rfl, hb0⟩
 have HCa := hide (HC0.out.below hb0); have HBa := hide (HB0.out.trans (hb0.mono HB0.out.size)); have X2a := hide (X20.out.later hb0); have X4a := hide (X40.out.later hb0)
 clear hb0 HC0 HB0 X20 X40 p2 p4 p5 HPL
 obtain ⟨p2, -, -⟩ := X2a.out
 obtain ⟨p4, p5, -⟩ := X4a.out
 cases hb with
 | true =>
  have hr0 := HRR.out
  rw [if_pos rfl] at hr0
  have HR := hide hr0
  clear hr0 HRR
  go_wp2
  exact bodyPost_ret (v := .tuple #[.agg #[.slice none 0 0], .iface 80 (.int .i64 8)]) (by simp [results, Tryz.results97, go_sem, p4]) rfl (catRes_err 8 [] HR.out (by decide) (by first | exact HBa.out | exact HBa.out.setCell (p := ⟨w.heap.size + 1, 0, none⟩) (by show w.heap.size ≤ w.heap.size + 1; omega) (.slice none 0 0)))
 | false =>
 have hr0 := HRR.out
 rw [if_neg (by decide)] at hr0
 by_cases h8 : 8 ≤ qs.length
 ·rw [if_pos h8] at hr0
  have HR := hide hr0
  have g0 : decide (8 ≤ (qs.length : Int)) = true := decide_eq_true (by omega)
  clear hr0 HRR h8
  go_wp2
  exact bodyPost_ret (v := .tuple #[.agg #[.slice none 0 0], .iface 80 (.int .i64 2)]) (by simp [results, Tryz.results97, go_sem, p4]) rfl (catRes_err 2 [] HR.out (by decide) (by first | exact HBa.out | exact HBa.out.setCell (p := ⟨w.heap.size + 1, 0, none⟩) (by show w.heap.size ≤ w.heap.size + 1; omega) (.slice none 0 0)))
 rw [if_neg h8] at hr0
 have HR := hide hr0
 have g0 : decide (8 ≤ (qs.length : Int)) = false := decide_eq_false (by omega)
 clear hr0 HRR
 have hbN := alloc_below w0 (.cells #[.string nm, .int .i64 n, .slice none 0 0] 107)
 have X2 := hide (X2a.out.later hbN); have X4 := hide (X4a.out.later hbN); have XN := hide (ThreeV.new w0 (.string nm) (.int .i64 n) (.slice none 0 0) 107); have HSEQ := hide (catN_seq (HCa.out.below hbN)); have HB1 := hide (HBa.out.trans (hbN.mono HBa.out.size))
 clear hbN X2a X4a HCa HBa
 have hPc : P ≤ cap := by omega
 have hk3 : 0 ≤ (P : Int) ∧ (P : Int) ≤ (qs.length : Int) := by omega
 obtain ⟨so, hso⟩ : ∃ so, (if cap = P then ao else Option.map (fun x => x.add (P * 3)) ao) = so := ⟨_, rfl⟩
 go_wp2_with fail
 generalize (w0.alloc (.cells #[.string nm, .int .i64 n, .slice none 0 0] 107)) = w1 at *
 generalize w0.heap.size = B at *
 clear p2 p4 p5
 obtain ⟨p2, -, -⟩ := X2.out
 obtain ⟨p4, p5, -⟩ := X4.out
 obtain ⟨n0, n1, n2, -⟩ := XN.out
 refine up_start (A := fun j => decide (j < 13)) (S := (fun w' => w'.cell? ⟨w.heap.size, 0, none⟩ = some (.slice ao qs.length cap) ∧ w'.cell? ⟨w.heap.size + 1, 0, none⟩ = some (.slice none 0 0) ∧ w'.cell? ⟨B, 0, none⟩ = some (.string nm) ∧ w'.cell? ⟨B, 1, none⟩ = some (.int .i64 n) ∧ w'.cell? ⟨B, 2, none⟩ = some (.slice none 0 0))) (by kernel_rfl) (by exact ⟨p2, p4, n0, n1, n2⟩) (fun hHeld => ?_)
 refine up_run (v := ?_) 0 34 [13, 14] rfl rfl (by kernel_rfl) (by kernel_rfl) (by kernel_rfl) (by kernel_rfl) (fun _ _ _ h => h) (by rfl) ?_ (by assumption) ?_
 rotate_left
 ·(intro w hSw; (try dsimp only at hSw); go_simp; with_reducible rfl)
 simp only [Act.put, List.setIfInBounds_toArray, List.set_cons_zero, List.set_cons_succ]
 refine up_run (v := ?_) 1 35 [13, 14] rfl rfl (by kernel_rfl) (by kernel_rfl) (by kernel_rfl) (by kernel_rfl) (fun _ _ _ h => h) (by rfl) ?_ (by assumption) ?_
 rotate_left
 ·(intro w hSw; (try dsimp only at hSw); go_simp; with_reducible rfl)
 simp only [Act.put, List.setIfInBounds_toArray, List.set_cons_zero, List.set_cons_succ]
 refine up_run (v := ?_) 2 36 [13, 14] rfl rfl (by kernel_rfl) (by kernel_rfl) (by kernel_rfl) (by kernel_rfl) (fun _ _ _ h => h) (by rfl) ?_ (by assumption) ?_
 rotate_left
 ·(intro w hSw; (try dsimp only at hSw); go_simp; with_reducible rfl)
 simp only [Act.put, List.setIfInBounds_toArray, List.set_cons_zero, List.set_cons_succ]
 refine up_run (v := ?_) 3 37 [13, 14] rfl rfl (by kernel_rfl) (by kernel_rfl) (by kernel_rfl) (by kernel_rfl) (fun _ _ _ h => h) (by rfl) ?_ (by assumption) ?_
 rotate_left
 ·(intro w hSw; (try dsimp only at hSw); go_simp; with_reducible rfl)
 simp only [Act.put, List.setIfInBounds_toArray, List.set_cons_zero, List.set_cons_succ]
 refine up_run (v := ?_) 4 38 [13, 14] rfl rfl (by kernel_rfl) (by kernel_rfl) (by kernel_rfl) (by kernel_rfl) (fun _ _ _ h => h) (by rfl) ?_ (by assumption) ?_
 rotate_left
 ·(intro w hSw; (try dsimp only at hSw); go_simp; with_reducible rfl)
 simp only [Act.put, List.setIfInBounds_toArray, List.set_cons_zero, List.set_cons_succ]
 refine up_run (v := ?_) 6 40 [13, 14] rfl rfl (by kernel_rfl) (by kernel_rfl) (by kernel_rfl) (by kernel_rfl) (fun _ _ _ h => h) (by rfl) ?_ (by assumption) ?_
 rotate_left
 ·(intro w hSw; (try dsimp only at hSw); go_simp; with_reducible rfl)
 simp only [Act.put, List.setIfInBounds_toArray, List.set_cons_zero, List.set_cons_succ]
 refine up_run (v := ?_) 7 41 [13, 14] rfl rfl (by kernel_rfl) (by kernel_rfl) (by kernel_rfl) (by kernel_rfl) (fun _ _ _ h => h) (by rfl) ?_ (by assumption) ?_
 rotate_left
 ·(intro w hSw; (try dsimp only at hSw); go_simp; with_reducible rfl)
 simp only [Act.put, List.setIfInBounds_toArray, List.set_cons_zero, List.set_cons_succ]
 refine up_run (v := ?_) 8 42 [13, 14] rfl rfl (by kernel_rfl) (by kernel_rfl) (by kernel_rfl) (by kernel_rfl) (fun _ _ _ h => h) (by rfl) ?_ (by assumption) ?_
 rotate_left
 ·(intro w hSw; (try dsimp only at hSw); go_simp; with_reducible rfl)
 simp only [Act.put, List.setIfInBounds_toArray, List.set_cons_zero, List.set_cons_succ]
 refine up_run (v := ?_) 9 43 [13, 14] rfl rfl (by kernel_rfl) (by kernel_rfl) (by kernel_rfl) (by kernel_rfl) (fun _ _ _ h => h) (by rfl) ?_ (by assumption) ?_
 rotate_left
 ·(intro w hSw; (try dsimp only at hSw); go_simp; with_reducible rfl)
 simp only [Act.put, List.setIfInBounds_toArray, List.set_cons_zero, List.set_cons_succ]
 have hbA : Below w1.heap.size w1 (w1.alloc (.cells #[.string nm, .int .i64 n, .slice none 0 0] 107)).drew := (alloc_below w1 _).drew
 have hsA : SeqV ((w1.alloc (.cells #[.string nm, .int .i64 n, .slice none 0 0] 107)).drew) (.slice (some ⟨w1.heap.size, 0, none⟩) 1 1) 1 [.string nm, .int .i64 n, .slice none 0 0] := seq_three w1 _ _ _ _
 have HZ := hide (HSEQ.out.below hbA (Nat.le_refl _)); have HA := hide hsA; have HBA := hide hbA
 have Y2 := hide (X2.out.later hbA); have Y4 := hide (X4.out.later hbA); have YN := hide (XN.out.later hbA)
 obtain ⟨t2, -, -⟩ := Y2.out
 obtain ⟨t4, -, -⟩ := Y4.out
 obtain ⟨u0, u1, u2, -⟩ := YN.out
 clear hbA hsA p2 p4 n0 n1 n2
 refine up_one 5 (by kernel_rfl) rfl (fun K hK => ?_)
 go_simp
 generalize (w1.alloc (.cells #[.string nm, .int .i64 n, .slice none 0 0] 107)).drew = wA at *
 refine hK.out _ _ (fun _ => ⟨t2, t4, u0, u1, u2⟩) ?_
 clear hK K hHeld
 try simp only [Act.put, List.setIfInBounds_toArray, List.set_cons_zero, List.set_cons_succ]
 have hHeld : (fun w' => w'.cell? ⟨w.heap.size, 0, none⟩ = some (.slice ao qs.length cap) ∧ w'.cell? ⟨w.heap.size + 1, 0, none⟩ = some (.slice none 0 0) ∧ w'.cell? ⟨B, 0, none⟩ = some (.string nm) ∧ w'.cell? ⟨B, 1, none⟩ = some (.int .i64 n) ∧ w'.cell? ⟨B, 2, none⟩ = some (.slice none 0 0)) wA := ⟨t2, t4, u0, u1, u2⟩
 obtain ⟨hL1, hbL⟩ := lists_threeP wA 36 (.slice ao P cap) (.slice (some ⟨w1.heap.size, 0, none⟩) 1 1) (.slice so (qs.length - P) (cap - P)) P 1 (qs.length - P) _ _ _ (HZ.out.take (sz := 3) P hPl) HA.out (HZ.out.drop (sz := 3) P hPl so (fun h b off e => by rw [← hso, if_neg (by omega), e, Option.map_some, add_none]))
 have Z2 := hide (Y2.out.later hbL); have Z4 := hide (Y4.out.later hbL); have ZN := hide (YN.out.later hbL)
 obtain ⟨s2, -, -⟩ := Z2.out
 obtain ⟨s4, -, -⟩ := Z4.out
 obtain ⟨v0, v1, v2, -⟩ := ZN.out
 have HL1 := hide hL1; have HBL := hide (HBA.out.trans (hbL.mono HBA.out.size))
 clear hL1 hbL t2 t4 u0 u1 u2 Y2 Y4 YN HA HZ
 refine up_one 10 (by kernel_rfl) rfl (fun K hK => ?_)
 go_simp
 refine hK.out _ _ (fun _ => ⟨s2, s4, v0, v1, v2⟩) ?_
 clear hK K hHeld
 try simp only [Act.put, List.setIfInBounds_toArray, List.set_cons_zero, List.set_cons_succ]
 generalize wA.alloc (.cells #[.slice ao P cap, .slice (some ⟨w1.heap.size, 0, none⟩) 1 1, .slice so (qs.length - P) (cap - P)] 36) = wB at *
 have hHeld : (fun w' => w'.cell? ⟨w.heap.size, 0, none⟩ = some (.slice ao qs.length cap) ∧ w'.cell? ⟨w.heap.size + 1, 0, none⟩ = some (.slice none 0 0) ∧ w'.cell? ⟨B, 0, none⟩ = some (.string nm) ∧ w'.cell? ⟨B, 1, none⟩ = some (.int .i64 n) ∧ w'.cell? ⟨B, 2, none⟩ = some (.slice none 0 0)) wB := ⟨s2, s4, v0, v1, v2⟩
 refine up_one 11 (by kernel_rfl) rfl (fun K hK => ?_)
 go_simp
 refine (concatN wB _ 3 _ _ _ HL1.out (by simp) (by simp) (by simp; omega) (fun cs hcs y hy => (by
  simp only [List.mem_cons, List.not_mem_nil, or_false] at hcs
  rcases hcs with rfl | rfl | rfl
  ·exact nccells_one qs y (List.mem_of_mem_take hy)
  ·simp only [List.mem_cons, List.not_mem_nil, or_false] at hy; rcases hy with rfl | rfl | rfl <;> rfl
  ·exact nccells_one qs y (List.mem_of_mem_drop hy))) (three_lens (by rw [List.length_take, nccells_len, Nat.min_eq_left (by omega)]) (by simp) (by rw [List.length_drop, nccells_len]; omega))).mono ?_
 rintro e w3 ⟨u3, rfl, hown, hb3⟩
 have hb03 := HBL.out.trans (hb3.mono HBL.out.size)
 have e1 : [(qs.flatMap Nc.cells).take (P * 3), [Value.string nm, .int .i64 n, .slice none 0 0], (qs.flatMap Nc.cells).drop (P * 3)].flatten = (qs.take P ++ (⟨⟨nm, n, []⟩, none, 0, 0⟩ : Nc) :: qs.drop P).flatMap Nc.cells := by
  rw [List.flatMap_append, List.flatMap_cons, nccells_take, nccells_drop]; simp [Nc.cells]
 have e2 : [P, 1, qs.length - P].sum = (qs.take P ++ (⟨⟨nm, n, []⟩, none, 0, 0⟩ : Nc) :: qs.drop P).length := by
  rw [List.length_append, List.length_take, List.length_cons, List.length_drop]; simp; omega
 rw [e1, e2] at hown
 obtain ⟨uo, uc, rfl, -⟩ := owns_form hown
 have HOW := hide hown; have HE2 := hide e2; have HBS : Hid (w.heap.size + 1 < wB.heap.size) := Z4.out.2.2; have Y8 := hide (X4.out.later hb03); have HB3 := hide (HB1.out.trans (hb03.mono HB1.out.size))
 obtain ⟨a2, -, -⟩ := X2.out.later hb03
 obtain ⟨a4, a5, -⟩ := Y8.out
 obtain ⟨b0, b1, b2, -⟩ := XN.out.later hb03
 clear hown e1 e2 hb3 hb03 s2 s4 v0 v1 v2 HL1
 go_wp2_with fail
 refine hK.out _ _ (fun _ => ⟨a2, a4, b0, b1, b2⟩) ?_
 clear hK K hHeld
 try simp only [Act.put, List.setIfInBounds_toArray, List.set_cons_zero, List.set_cons_succ]
 have hHeld : (fun w' => w'.cell? ⟨w.heap.size, 0, none⟩ = some (.slice ao qs.length cap) ∧ w'.cell? ⟨w.heap.size + 1, 0, none⟩ = some (.slice none 0 0) ∧ w'.cell? ⟨B, 0, none⟩ = some (.string nm) ∧ w'.cell? ⟨B, 1, none⟩ = some (.int .i64 n) ∧ w'.cell? ⟨B, 2, none⟩ = some (.slice none 0 0)) w3 := ⟨a2, a4, b0, b1, b2⟩
 refine up_run (v := ?_) 12 46 [13, 14] rfl rfl (by kernel_rfl) (by kernel_rfl) (by kernel_rfl) (by kernel_rfl) (fun _ _ _ h => h) (by rfl) ?_ (by assumption) ?_
 rotate_left
 ·(intro w hSw; (try dsimp only at hSw); go_simp; with_reducible rfl)
 simp only [Act.put, List.setIfInBounds_toArray, List.set_cons_zero, List.set_cons_succ]
 refine up_one 13 (by kernel_rfl) rfl (fun K hK => ?_)
 go_simp
 refine hK.out _ _ (fun h => absurd h (by decide)) ?_
 clear hK K hHeld
 try simp only [Act.put, List.setIfInBounds_toArray, List.set_cons_zero, List.set_cons_succ]
 refine up_one 14 (by kernel_rfl) rfl (fun K hK => ?_)
 go_simp
 refine hK.out _ _ (fun h => absurd h (by decide)) ?_
 clear hK K
 try simp only [Act.put, List.setIfInBounds_toArray, List.set_cons_zero, List.set_cons_succ]
 refine up_done (by kernel_rfl) ?_
 have HB5 := hide (HB3.out.setCell (p := ⟨w.heap.size + 1, 0, none⟩) (by show w.heap.size ≤ w.heap.size + 1; omega) (.slice uo (qs.take P ++ (⟨⟨nm, n, []⟩, none, 0, 0⟩ : Nc) :: qs.drop P).length uc))
 have HCB : Hid (CatN (w3.setCell ⟨w.heap.size + 1, 0, none⟩ (.slice uo (qs.take P ++ (⟨⟨nm, n, []⟩, none, 0, 0⟩ : Nc) :: qs.drop P).length uc)) (.slice uo (qs.take P ++ (⟨⟨nm, n, []⟩, none, 0, 0⟩ : Nc) :: qs.drop P).length uc) (qs.take P ++ (⟨⟨nm, n, []⟩, none, 0, 0⟩ : Nc) :: qs.drop P)) := by
  refine catN_of_owns (ownsRow_setCell_below (a := ⟨w.heap.size + 1, 0, none⟩) HOW.out HBS.out _) (fun q hq => ?_)
  rcases List.mem_append.1 hq with h | h
  ·exact (HIN.out q (List.mem_of_mem_take h)).below HB5.out
  ·rcases List.mem_cons.1 h with rfl | h
   ·exact ⟨⟨none, 0, rfl, Nat.le_refl _, fun h => absurd h (by simp)⟩, kinS_nil _ _ _⟩
   ·exact (HIN.out q (List.mem_of_mem_drop h)).below HB5.out
 have HQ : Hid ((qs.take P ++ (⟨⟨nm, n, []⟩, none, 0, 0⟩ : Nc) :: qs.drop P).map (·.x) = (qs.map (·.x)).take P ++ (⟨nm, n, []⟩ : Nmd) :: (qs.map (·.x)).drop P) := by
  show _ = _
  rw [List.map_append, List.map_cons, List.map_take, List.map_drop]
 obtain ⟨rs, hrs⟩ : ∃ rs, rs = (qs.take P ++ (⟨⟨nm, n, []⟩, none, 0, 0⟩ : Nc) :: qs.drop P) := ⟨_, rfl⟩
 rw [← hrs] at HCB HB5 HQ HE2
 try rw [← hrs]
 have hle : P + (qs.length - P + 1) = rs.length := by have h := HE2.out; simp at h; omega
 rw [hle]
 clear HOW hrs hle HSEQ HIN
 go_wp2
 exact bodyPost_ret (v := .tuple #[.agg #[.slice uo rs.length uc], .nilIface]) (by simp [results, Tryz.results97, go_sem, World.cell?_setCell_same _ _ _ a4]) rfl ⟨.inr ⟨by rw [HR.out], _, rs, rfl, by rw [HR.out]; exact HQ.out, _, rfl, HCB.out⟩, HB5.out⟩

end Go.Proofs.YtnhbfehfipafoaaGreatDoor

/- bag: has an operation what its kind has a use for, and nothing else? -/
namespace Go.Proofs.YtnhbfehfipafoaaGreatDoor
open Go.RowKit

def useOk (k n : Int) (l : Nat) : Bool := decide (k = 1 ∧ l = 0) || decide (k = 2 ∧ n = 0 ∧ l = 0) || decide ((k = 3 ∨ k = 4) ∧ n = 0)

theorem opOk_use (o : OpV) : opOk o = (nmOk o.name && useOk o.kind o.n o.v.length) := rfl

set_option linter.unusedSimpArgs false in
set_option maxRecDepth 100000 in
set_option maxHeartbeats 1600000 in
theorem shaped_any (w : World) (o : OpV) (vo : Option Addr) (vc : Nat) :
  Calls Tryz.prog 96 #[.agg #[.int .i64 o.kind, .string o.name, .int .i64 o.n, .slice vo o.v.length vc]] w fun e w' => e = .returned (.bool (opOk o)) ∧ Below w.heap.size w w' := by
 have hf := FourV.new w (.int .i64 o.kind) (.string o.name) (.int .i64 o.n) (.slice vo o.v.length vc) 43
 have HB0 := hide (alloc_below w (.cells #[.int .i64 o.kind, .string o.name, .int .i64 o.n, .slice vo o.v.length vc] 43))
 obtain ⟨c0, c1, c2, c3, -⟩ := hf
 rw [opOk_use]
 cases hn : nmOk o.name with
 | false =>
  rw [Bool.false_and]
  go_enter Tryz.func96, Tryz.ntmps96
  go_wp2_with fail
  refine (name_any o.name _).mono ?_
  rintro e w1 ⟨rfl, rfl⟩
  rw [hn]
  go_wp2
  go_ret
  exact ⟨rfl, HB0.out⟩
 | true =>
  rw [Bool.true_and]
  generalize hk : o.kind = k at *
  generalize hN : o.n = n at *
  generalize hl : o.v.length = l at *
  clear hk hN hl
  have hn' : nmOk o.name = true := hn
  clear hn
  have hn := hn'
  clear hn'
  by_cases h1 : k = 1
  ·subst h1
   by_cases hl : l = 0
   ·subst hl
    have hu : useOk 1 n 0 = true := by simp [useOk]
    rw [hu]
    clear hu
    go_enter Tryz.func96, Tryz.ntmps96
    go_wp2_with fail
    refine (name_any o.name _).mono ?_
    rintro e w1 ⟨rfl, rfl⟩
    rw [hn]
    go_wp2
    go_ret
    exact ⟨rfl, HB0.out⟩
   ·have hu : useOk 1 n l = false := by simp [useOk, hl]
    have g0 : ((l : Int) == 0) = false := beq_eq_false_iff_ne.2 (by omega)
    rw [hu]
    clear hu hl
    go_enter Tryz.func96, Tryz.ntmps96
    go_wp2_with fail
    refine (name_any o.name _).mono ?_
    rintro e w1 ⟨rfl, rfl⟩
    rw [hn]
    go_wp2
    go_ret
    exact ⟨rfl, HB0.out⟩
  ·have e1 : (k == 1) = false := beq_eq_false_iff_ne.2 h1
   by_cases h2 : k = 2
   ·subst h2
    by_cases hz : n = 0
    ·subst hz
     by_cases hl : l = 0
     ·subst hl
      have hu : useOk 2 0 0 = true := by simp [useOk]
      rw [hu]
      clear hu
      go_enter Tryz.func96, Tryz.ntmps96
      go_wp2_with fail
      refine (name_any o.name _).mono ?_
      rintro e w1 ⟨rfl, rfl⟩
      rw [hn]
      go_wp2
      go_ret
      exact ⟨rfl, HB0.out⟩
     ·have hu : useOk 2 0 l = false := by simp [useOk, hl]
      have g0 : ((l : Int) == 0) = false := beq_eq_false_iff_ne.2 (by omega)
      rw [hu]
      clear hu hl
      go_enter Tryz.func96, Tryz.ntmps96
      go_wp2_with fail
      refine (name_any o.name _).mono ?_
      rintro e w1 ⟨rfl, rfl⟩
      rw [hn]
      go_wp2
      go_ret
      exact ⟨rfl, HB0.out⟩
    ·have hu : useOk 2 n l = false := by simp [useOk, hz]
     have g0 : (n == 0) = false := beq_eq_false_iff_ne.2 hz
     rw [hu]
     clear hu hz
     go_enter Tryz.func96, Tryz.ntmps96
     go_wp2_with fail
     refine (name_any o.name _).mono ?_
     rintro e w1 ⟨rfl, rfl⟩
     rw [hn]
     go_wp2
     go_ret
     exact ⟨rfl, HB0.out⟩
   ·have e2 : (k == 2) = false := beq_eq_false_iff_ne.2 h2
    by_cases h3 : k = 3
    ·subst h3
     by_cases hz : n = 0
     ·subst hz
      have hu : useOk 3 0 l = true := by simp [useOk]
      rw [hu]
      clear hu
      go_enter Tryz.func96, Tryz.ntmps96
      go_wp2_with fail
      refine (name_any o.name _).mono ?_
      rintro e w1 ⟨rfl, rfl⟩
      rw [hn]
      go_wp2
      go_ret
      exact ⟨rfl, HB0.out⟩
     ·have hu : useOk 3 n l = false := by simp [useOk, hz]
      have g0 : (n == 0) = false := beq_eq_false_iff_ne.2 hz
      rw [hu]
      clear hu hz
      go_enter Tryz.func96, Tryz.ntmps96
      go_wp2_with fail
      refine (name_any o.name _).mono ?_
      rintro e w1 ⟨rfl, rfl⟩
      rw [hn]
      go_wp2
      go_ret
      exact ⟨rfl, HB0.out⟩
    ·have e3 : (k == 3) = false := beq_eq_false_iff_ne.2 h3
     by_cases h4 : k = 4
     ·subst h4
      by_cases hz : n = 0
      ·subst hz
       have hu : useOk 4 0 l = true := by simp [useOk]
       rw [hu]
       clear hu
       go_enter Tryz.func96, Tryz.ntmps96
       go_wp2_with fail
       refine (name_any o.name _).mono ?_
       rintro e w1 ⟨rfl, rfl⟩
       rw [hn]
       go_wp2
       go_ret
       exact ⟨rfl, HB0.out⟩
      ·have hu : useOk 4 n l = false := by simp [useOk, hz]
       have g0 : (n == 0) = false := beq_eq_false_iff_ne.2 hz
       rw [hu]
       clear hu hz
       go_enter Tryz.func96, Tryz.ntmps96
       go_wp2_with fail
       refine (name_any o.name _).mono ?_
       rintro e w1 ⟨rfl, rfl⟩
       rw [hn]
       go_wp2
       go_ret
       exact ⟨rfl, HB0.out⟩
     ·have e4 : (k == 4) = false := beq_eq_false_iff_ne.2 h4
      have hu : useOk k n l = false := by simp [useOk, h1, h2, h3, h4]
      rw [hu]
      clear hu h1 h2 h3 h4
      go_enter Tryz.func96, Tryz.ntmps96
      go_wp2_with fail
      refine (name_any o.name _).mono ?_
      rintro e w1 ⟨rfl, rfl⟩
      rw [hn]
      go_wp2
      go_ret
      exact ⟨rfl, HB0.out⟩

end Go.Proofs.YtnhbfehfipafoaaGreatDoor

/- bag: an operation is applied. -/
namespace Go.Proofs.YtnhbfehfipafoaaGreatDoor
open Go.RowKit

theorem nonE_of_ok {qs : List Nc} (h : ∀ x ∈ qs.map (·.x), NmOk x) : NonE qs := fun q hq g hg => by
 have hx := h q.x (List.mem_map.2 ⟨q, hq, rfl⟩)
 have := (genF_ok.1 (hx.gens g hg)).1
 intro e
 rw [e] at this
 have := hx.n.1
 simp at *
 omega

theorem CatRes.form {w w' : World} {r : Nat × List Nmd} {e : Ending} (h : CatRes w r e w') : ∃ so sl sc ev, e = .returned (.tuple #[.agg #[.slice so sl sc], ev]) := by
 rcases h.1 with ⟨-, rfl⟩ | ⟨-, u, qs, rfl, -, u', rfl, ao, cap, rfl, -⟩
 ·exact ⟨_, _, _, _, rfl⟩
 ·exact ⟨_, _, _, _, rfl⟩

theorem CatRes.fwd {w W w' w2 : World} {r : Nat × List Nmd} {u ev x : Value} {B : Nat} (h : CatRes W r (.returned (.tuple #[u, ev])) w') (hok : r.1 = 0 → CatOk r.2) (hc : w'.cell? ⟨B, 0, none⟩ = some (.slice none 0 0)) (hb : Below w.heap.size w (w'.setCell ⟨B, 0, none⟩ x)) (hw : w2 = w'.setCell ⟨B, 0, none⟩ x := by rfl) : CatRes w r (.returned (.tuple #[u, ev])) w2 := by
 subst hw
 refine ⟨?_, hb⟩
 rcases h.1 with ⟨h1, h2⟩ | ⟨h1, u', qs, h2, h3, v, h4, h5⟩
 ·exact .inl ⟨h1, h2⟩
 ·refine .inr ⟨h1, u', qs, h2, h3, v, h4, h5.setOne (nonE_of_ok fun x hx => ?_) hc x⟩
  rw [h3] at hx
  exact (hok h1).all x hx

theorem three_vars (w : World) (u x : Value) (a0 a1 a2 a3 : Value) (s t y : TypeId) : One (((w.alloc (.cells #[u] s)).alloc (.cells #[a0, a1, a2, a3] t)).alloc (.cells #[x] y)) w.heap.size u ∧ FourV (((w.alloc (.cells #[u] s)).alloc (.cells #[a0, a1, a2, a3] t)).alloc (.cells #[x] y)) (w.heap.size + 1) a0 a1 a2 a3 ∧ One (((w.alloc (.cells #[u] s)).alloc (.cells #[a0, a1, a2, a3] t)).alloc (.cells #[x] y)) (w.heap.size + 1 + 1) x ∧ Below w.heap.size w (((w.alloc (.cells #[u] s)).alloc (.cells #[a0, a1, a2, a3] t)).alloc (.cells #[x] y)) := by
 have hb1 := alloc_below w (.cells #[u] s)
 have hb2 := alloc_below (w.alloc (.cells #[u] s)) (.cells #[a0, a1, a2, a3] t)
 have hb3 := alloc_below ((w.alloc (.cells #[u] s)).alloc (.cells #[a0, a1, a2, a3] t)) (.cells #[x] y)
 have e1 : (w.alloc (.cells #[u] s)).heap.size = w.heap.size + 1 := by simp
 have e2 : ((w.alloc (.cells #[u] s)).alloc (.cells #[a0, a1, a2, a3] t)).heap.size = w.heap.size + 1 + 1 := by simp
 have h1 := (One.new w u s).later (hb2.trans (hb3.mono hb2.size))
 have h2 := (FourV.new (w.alloc (.cells #[u] s)) a0 a1 a2 a3 t).later hb3
 have h3 := One.new ((w.alloc (.cells #[u] s)).alloc (.cells #[a0, a1, a2, a3] t)) x y
 rw [e1] at h2
 rw [e2] at h3
 exact ⟨h1, h2, h3, hb1.trans ((hb2.trans (hb3.mono hb2.size)).mono hb1.size)⟩

theorem applyC_shape {cs : List Nmd} {o : OpV} (h : opOk o = false) : applyC cs o = (3, []) := by unfold applyC; rw [if_pos h]

set_option linter.unusedSimpArgs false in
set_option maxRecDepth 100000 in
set_option maxHeartbeats 1600000 in
theorem apply_any (w : World) (v : Value) (qs : List Nc) (o : OpV) (vo : Option Addr) (vc : Nat) (h : CatV w v qs) (hok : CatOk (qs.map (·.x))) (hv : RowS w (.slice vo o.v.length vc) o.v) (hv1 : o.v.length ≤ 100) :
  Calls Tryz.prog 68 #[v, .agg #[.int .i64 o.kind, .string o.name, .int .i64 o.n, .slice vo o.v.length vc]] w fun e w' => CatRes w (applyC (qs.map (·.x)) o) e w' := by
 have HOKR := hide (applyC_ok hok o)
 have HNE := hide (nonE_of_ok hok.all)
 have HOK := hide hok
 have hq : qs.length ≤ 100 := by have := hok.few; rw [List.length_map] at this; omega
 obtain ⟨u, rfl, hu⟩ := h
 obtain ⟨ao, cap, rfl, hcap, -⟩ := id hu
 obtain ⟨x2, x3, x4, hbn⟩ := three_vars w (.slice ao qs.length cap) (.slice none 0 0) (.int .i64 o.kind) (.string o.name) (.int .i64 o.n) (.slice vo o.v.length vc) 53 43 53
 have HC0 := hide (hu.below hbn); have HB0 := hide hbn; have X20 := hide x2; have X30 := hide x3; have X40 := hide x4; have HV0 := hide (hv.below hbn (Nat.le_refl _))
 obtain ⟨q2, -, -⟩ := x2
 obtain ⟨o0, o1, o2, o3, -⟩ := x3
 obtain ⟨q4, q5, -⟩ := x4
 generalize hr : applyC (qs.map (·.x)) o = r at *
 have HAP : Hid (applyC (qs.map (·.x)) o = r) := hr
 clear hu hbn hok hv hr
 go_enter Tryz.func68, Tryz.ntmps68
 go_wp2_with fail
 generalize (((w.alloc (.cells #[.slice ao qs.length cap] 53)).alloc (.cells #[.int .i64 o.kind, .string o.name, .int .i64 o.n, .slice vo o.v.length vc] 43)).alloc (.cells #[.slice none 0 0] 53)) = W0 at *
 refine (shaped_any W0 o vo vc).mono ?_
 rintro e w1 ⟨rfl, hb1⟩
 have HC := hide (HC0.out.below hb1); have HBw := hide (HB0.out.trans (hb1.mono HB0.out.size)); have X2 := hide (X20.out.later hb1); have X3 := hide (X30.out.later hb1); have X4 := hide (X40.out.later hb1); have HV := hide (HV0.out.below hb1 (Nat.le_refl _))
 clear hb1 HC0 HB0 X20 X30 X40 HV0 q2 q4 q5 o0 o1 o2 o3
 obtain ⟨q2, -, -⟩ := X2.out
 obtain ⟨o0, o1, o2, o3, -⟩ := X3.out
 obtain ⟨q4, q5, -⟩ := X4.out
 cases hsh : opOk o with
 | false =>
  have HR : Hid (r = (3, [])) := HAP.out.symm.trans (applyC_shape hsh)
  clear hsh
  go_wp2
  exact bodyPost_ret (v := .tuple #[.agg #[.slice none 0 0], .iface 80 (.int .i64 3)]) (by simp [results, Tryz.results68, go_sem, q4]) rfl (catRes_err 3 [] HR.out (by decide) (by first | exact HBw.out | exact HBw.out.setCell (p := ⟨w.heap.size + 1 + 1, 0, none⟩) (by show w.heap.size ≤ w.heap.size + 1 + 1; omega) (.slice none 0 0)))
 | true =>
  have HA0 := HAP.out
  unfold applyC at HA0
  rw [if_neg (by rw [hsh]; decide)] at HA0
  by_cases hk1 : o.kind = 1
  ·rw [if_pos hk1] at HA0
   have HA := hide HA0
   have g1 : (o.kind == 1) = true := by rw [beq_iff_eq]; exact hk1
   have HK := hide hk1
   clear HA0 hk1 hsh
   go_wp2_with fail
   refine (create_any w1 _ qs o.name o.n ⟨_, rfl, HC.out⟩ hq HOK.out.rise r HA.out.symm).mono ?_
   rintro e w3 hres
   obtain ⟨so, sl, sc, ev, rfl⟩ := hres.form
   have Y4 := hide (X4.out.later hres.2); have HRES := hide hres; have HB3 := hide (HBw.out.trans (hres.2.mono HBw.out.size))
   obtain ⟨y4, y5, -⟩ := Y4.out
   clear hres q2 q4 q5 o0 o1 o2 o3
   have HB4 := hide (HB3.out.setCell (p := ⟨w.heap.size + 1 + 1, 0, none⟩) (by show w.heap.size ≤ w.heap.size + 1 + 1; omega) (.slice so sl sc))
   go_wp2
   exact bodyPost_ret (v := .tuple #[.agg #[.slice so sl sc], ev]) (by simp [results, Tryz.results68, go_sem, World.cell?_setCell_same _ _ _ y4]) rfl (HRES.out.fwd HOKR.out y4 HB4.out)
  rw [if_neg hk1] at HA0
  have g1 : (o.kind == 1) = false := beq_eq_false_iff_ne.2 hk1
  have HSH := hide hsh
  clear hsh
  go_wp2_with fail
  refine (place_any w1 _ qs o.name ⟨_, rfl, HC.out⟩ (by omega) HOK.out.rise).mono ?_
  rintro e w2 ⟨rfl, hb2⟩
  have HC2 := hide (HC.out.below hb2); have HBw2 := hide (HBw.out.trans (hb2.mono HBw.out.size)); have X22 := hide (X2.out.later hb2); have X32 := hide (X3.out.later hb2); have X42 := hide (X4.out.later hb2); have HV2 := hide (HV.out.below hb2 (Nat.le_refl _))
  clear hb2 HC HBw X2 X3 X4 HV q2 q4 q5 o0 o1 o2 o3
  have HC := HC2; have HBw := HBw2; have X2 := X22; have X3 := X32; have X4 := X42; have HV := HV2
  clear HC2 HBw2 X22 X32 X42 HV2
  obtain ⟨q2, -, -⟩ := X2.out
  obtain ⟨o0, o1, o2, o3, -⟩ := X3.out
  obtain ⟨q4, q5, -⟩ := X4.out
  cases hhas : hasL (qs.map (·.x)) o.name with
  | false =>
   rw [if_pos hhas] at HA0
   have HR := hide HA0.symm
   clear HA0 hhas
   go_wp2
   exact bodyPost_ret (v := .tuple #[.agg #[.slice none 0 0], .iface 80 (.int .i64 7)]) (by simp [results, Tryz.results68, go_sem, q4]) rfl (catRes_err 7 [] HR.out (by decide) (by first | exact HBw.out | exact HBw.out.setCell (p := ⟨w.heap.size + 1 + 1, 0, none⟩) (by show w.heap.size ≤ w.heap.size + 1 + 1; omega) (.slice none 0 0)))
  | true =>
   rw [if_neg (by rw [hhas]; decide)] at HA0
   obtain ⟨hP0, -⟩ := (hasL_iff HOK.out.rise).1 hhas
   have hP : placeL (qs.map (·.x)) o.name < qs.length := by rwa [List.length_map] at hP0
   clear hhas
   by_cases hk2 : o.kind = 2
   ·rw [if_pos hk2] at HA0
    have HA := hide HA0
    have g2 : (o.kind == 2) = true := by rw [beq_iff_eq]; exact hk2
    clear HA0 hk2 hP0
    generalize placeL (qs.map (·.x)) o.name = P at *
    go_wp2_with fail
    refine (drop_any w2 _ qs P ⟨_, rfl, HC.out⟩ hP hq).mono ?_
    rintro e w3 ⟨u3, rfl, ⟨u4, rfl, hcat⟩, hb3⟩
    obtain ⟨so, sc, e, -⟩ := id hcat
    subst e
    have Y4 := hide (X4.out.later hb3); have HB3 := hide (HBw.out.trans (hb3.mono HBw.out.size)); have HCAT := hide hcat
    obtain ⟨y4, y5, -⟩ := Y4.out
    have HRES : Hid (CatRes w2 r (.returned (.tuple #[.agg #[.slice so (qs.take P ++ qs.drop (P + 1)).length sc], .nilIface])) w3) := ⟨.inr ⟨by rw [← HA.out], _, _, rfl, by rw [← HA.out, List.map_append, List.map_take, List.map_drop], _, rfl, HCAT.out⟩, hb3⟩
    clear hb3 hcat HCAT q2 q4 q5 o0 o1 o2 o3
    generalize (qs.take P ++ qs.drop (P + 1)).length = sl at *
    have HB4 := hide (HB3.out.setCell (p := ⟨w.heap.size + 1 + 1, 0, none⟩) (by show w.heap.size ≤ w.heap.size + 1 + 1; omega) (.slice so sl sc))
    go_wp2
    exact bodyPost_ret (v := .tuple #[.agg #[.slice so sl sc], .nilIface]) (by simp [results, Tryz.results68, go_sem, World.cell?_setCell_same _ _ _ y4]) rfl (HRES.out.fwd HOKR.out y4 HB4.out)
   rw [if_neg hk2] at HA0
   have g2 : (o.kind == 2) = false := beq_eq_false_iff_ne.2 hk2
   rw [List.getElem?_eq_getElem hP0] at HA0
   have hxe : (qs.map (·.x))[placeL (qs.map (·.x)) o.name] = qs[placeL (qs.map (·.x)) o.name].x := List.getElem_map ..
   rw [hxe] at HA0
   dsimp only at HA0
   have HXO := hide (HOK.out.all qs[placeL (qs.map (·.x)) o.name].x (List.mem_map.2 ⟨_, List.getElem_mem hP, rfl⟩))
   clear hxe hP0
   generalize placeL (qs.map (·.x)) o.name = P at *
   obtain ⟨b, off, cap', e⟩ := HC.out.form (by omega)
   simp only [Value.slice.injEq, true_and] at e
   obtain ⟨rfl, rfl⟩ := e
   obtain ⟨hbl, -, d1, -, -⟩ := HC.out.at P hP
   go_wp2_with fail
   have HAA := hide HA0
   clear HA0
   go_region_held3 (fun w' => w'.cell? ⟨w.heap.size, 0, none⟩ = some (.slice (some ⟨b, off, none⟩) qs.length cap) ∧ w'.cell? ⟨w.heap.size + 1, 3, none⟩ = some (.slice vo o.v.length vc) ∧ w'.cell? ⟨b, off + P * 3 + 1, none⟩ = some (.int .i64 qs[P].x.n)) (go_keep)
    (first
     | (go_at_call 100; refine (checkGen_any _ _ o.v qs[P].x.n (HV.out.below (Below.refl _ _).drew (Nat.le_refl _)) (by omega)).mono ?_; rintro e wx ⟨rfl, rfl⟩))
   have hbd : Below w2.heap.size w2 w2.drew := (Below.refl _ _).drew
   have HC2 := hide (HC.out.below hbd); have HBw2 := hide (HBw.out.trans (hbd.mono HBw.out.size)); have X22 := hide (X2.out.later hbd); have X32 := hide (X3.out.later hbd); have X42 := hide (X4.out.later hbd); have HV2 := hide (HV.out.below hbd (Nat.le_refl _))
   clear HC HBw X2 X3 X4 HV q2 q4 q5 o0 o1 o2 o3 d1 hbd
   have HC := HC2; have HBw := HBw2; have X2 := X22; have X3 := X32; have X4 := X42; have HV := HV2
   clear HC2 HBw2 X22 X32 X42 HV2
   generalize w2.drew = w5 at *
   obtain ⟨q2, -, -⟩ := X2.out
   obtain ⟨o0, o1, o2, o3, -⟩ := X3.out
   obtain ⟨q4, q5, -⟩ := X4.out
   have HA0 := HAA.out
   clear HAA
   by_cases hg : genF o.v qs[P].x.n = 0
   ·rw [if_neg (by rw [hg]; decide)] at HA0
    have e0 : errV (genF o.v qs[P].x.n) = .nilIface := by rw [hg]; rfl
    rw [e0]
    have HG := hide hg
    clear e0 hg
    by_cases hk3 : o.kind = 3
    ·rw [if_pos hk3] at HA0
     have HA := hide HA0.symm
     have g3 : (o.kind == 3) = true := by rw [beq_iff_eq]; exact hk3
     have HVN : Hid (o.v ≠ []) := fun e => by
      have h1 := (genF_ok.1 HG.out).1
      have h2 := HXO.out.n.1
      rw [e] at h1
      simp at h1
      omega
     clear HA0 hk3
     go_wp2_with fail
     refine (bput_any w5 _ _ qs P o.v ⟨_, rfl, HC.out⟩ hP hq HXO.out.few HV.out hv1 HNE.out HVN.out r HA.out).mono ?_
     rintro e w3 hres
     obtain ⟨so, sl, sc, ev, rfl⟩ := hres.form
     have Y4 := hide (X4.out.later hres.2); have HRES := hide hres; have HB3 := hide (HBw.out.trans (hres.2.mono HBw.out.size))
     obtain ⟨y4, y5, -⟩ := Y4.out
     clear hres q2 q4 q5 o0 o1 o2 o3
     have HB4 := hide (HB3.out.setCell (p := ⟨w.heap.size + 1 + 1, 0, none⟩) (by show w.heap.size ≤ w.heap.size + 1 + 1; omega) (.slice so sl sc))
     go_wp2
     exact bodyPost_ret (v := .tuple #[.agg #[.slice so sl sc], ev]) (by simp [results, Tryz.results68, go_sem, World.cell?_setCell_same _ _ _ y4]) rfl (HRES.out.fwd HOKR.out y4 HB4.out)
    ·rw [if_neg hk3] at HA0
     have HA := hide HA0.symm
     have g3 : (o.kind == 3) = false := beq_eq_false_iff_ne.2 hk3
     clear HA0 hk3
     go_wp2_with fail
     refine (take_any w5 _ _ qs P o.v ⟨_, rfl, HC.out⟩ hP hq HXO.out.few (fun g hg => by have h := (genF_ok.1 (HXO.out.gens g hg)).1; have h2 := HXO.out.n; omega) HV.out HNE.out r HA.out).mono ?_
     rintro e w3 hres
     obtain ⟨so, sl, sc, ev, rfl⟩ := hres.form
     have Y4 := hide (X4.out.later hres.2); have HRES := hide hres; have HB3 := hide (HBw.out.trans (hres.2.mono HBw.out.size))
     obtain ⟨y4, y5, -⟩ := Y4.out
     clear hres q2 q4 q5 o0 o1 o2 o3
     have HB4 := hide (HB3.out.setCell (p := ⟨w.heap.size + 1 + 1, 0, none⟩) (by show w.heap.size ≤ w.heap.size + 1 + 1; omega) (.slice so sl sc))
     go_wp2
     exact bodyPost_ret (v := .tuple #[.agg #[.slice so sl sc], ev]) (by simp [results, Tryz.results68, go_sem, World.cell?_setCell_same _ _ _ y4]) rfl (HRES.out.fwd HOKR.out y4 HB4.out)
   ·rw [if_pos hg] at HA0
    have e0 : errV (genF o.v qs[P].x.n) = .iface 80 (.int .i64 (genF o.v qs[P].x.n : Nat)) := by unfold errV; rw [if_neg hg]
    rw [e0]
    have HA := hide HA0.symm
    have HG := hide hg
    clear e0 HA0 hg
    generalize genF o.v qs[P].x.n = c at *
    go_wp2
    exact bodyPost_ret (v := .tuple #[.agg #[.slice none 0 0], .iface 80 (.int .i64 (c : Nat))]) (by simp [results, Tryz.results68, go_sem, q4]) rfl (catRes_err c [] HA.out HG.out (by first | exact HBw.out | exact HBw.out.setCell (p := ⟨w.heap.size + 1 + 1, 0, none⟩) (by show w.heap.size ≤ w.heap.size + 1 + 1; omega) (.slice none 0 0)))

end Go.Proofs.YtnhbfehfipafoaaGreatDoor
