/- bag: a lattice is dropped; generators of one are others. -/
import Derived.Test.YtnhbfehfipafoaaGreatDoorBgF
import Derived.Test.YtnhbfehfipafoaaGreatDoorUpP

namespace Go.Proofs.YtnhbfehfipafoaaGreatDoor
open Go.RowKit

def One (W : World) (B : Nat) (u : Value) : Prop := W.cell? ⟨B, 0, none⟩ = some u ∧ W.frozen? ⟨B, 0, none⟩ = false ∧ B < W.heap.size

theorem One.later {W W' : World} {B : Nat} {u : Value} (h : One W B u) (hb : Below W.heap.size W W') : One W' B u :=
 ⟨(hb.cell (p := ⟨B, 0, none⟩) h.2.2).trans h.1, (hb.frozen (p := ⟨B, 0, none⟩) h.2.2).trans h.2.1, Nat.lt_of_lt_of_le h.2.2 hb.size⟩

theorem One.new (W : World) (u : Value) (t : TypeId) : One (W.alloc (.cells #[u] t)) W.heap.size u := ⟨one_new W u t, by simp, by simp⟩

theorem two_new (w : World) (u v : Value) (s t : TypeId) : One ((w.alloc (.cells #[u] s)).alloc (.cells #[v] t)) w.heap.size u ∧ One ((w.alloc (.cells #[u] s)).alloc (.cells #[v] t)) (w.heap.size + 1) v ∧ Below w.heap.size w ((w.alloc (.cells #[u] s)).alloc (.cells #[v] t)) ∧ ((w.alloc (.cells #[u] s)).alloc (.cells #[v] t)).heap.size = w.heap.size + 2 := by
 have hb1 := alloc_below w (.cells #[u] s)
 have hb2 := alloc_below (w.alloc (.cells #[u] s)) (.cells #[v] t)
 have e : (w.alloc (.cells #[u] s)).heap.size = w.heap.size + 1 := by simp
 refine ⟨(One.new w u s).later hb2, ?_, hb1.trans (hb2.mono hb1.size), by simp⟩
 have := One.new (w.alloc (.cells #[u] s)) v t
 rwa [e] at this

theorem nccells_take (qs : List Nc) (k : Nat) : (qs.take k).flatMap Nc.cells = (qs.flatMap Nc.cells).take (k * 3) := by
 induction qs generalizing k with
 | nil => simp
 | cons q qs ih =>
  cases k with
  | zero => simp
  | succ k =>
   rw [List.take_succ_cons, List.flatMap_cons, List.flatMap_cons, ih, show (k + 1) * 3 = q.cells.length + k * 3 by simp [Nc.cells]; omega, List.take_length_add_append]

theorem nccells_drop (qs : List Nc) (k : Nat) : (qs.drop k).flatMap Nc.cells = (qs.flatMap Nc.cells).drop (k * 3) := by
 induction qs generalizing k with
 | nil => simp
 | cons q qs ih =>
  cases k with
  | zero => simp
  | succ k =>
   rw [List.drop_succ_cons, List.flatMap_cons, ih, show (k + 1) * 3 = q.cells.length + k * 3 by simp [Nc.cells]; omega, List.drop_length_add_append]

theorem two_lens {a b : List Value} {n m sz : Nat} (h1 : a.length = n * sz) (h2 : b.length = m * sz) : ∀ k (_ : k < [a, b].length) (_ : k < [n, m].length), [a, b][k].length = [n, m][k] * sz
 | 0, _, _ => h1
 | 1, _, _ => h2

theorem lists_two (W : World) (t : TypeId) (a b : Value) (n m : Nat) (ca cb : List Value) (ha : SeqV W a n ca) (hb : SeqV W b m cb) : Lists ((W.alloc (.cells #[a, b] t)).drew) W.heap.size [a, b] [n, m] [ca, cb] ∧ Below W.heap.size W ((W.alloc (.cells #[a, b] t)).drew) := by
 have hbl : Below W.heap.size W ((W.alloc (.cells #[a, b] t)).drew) := (alloc_below W _).drew
 refine ⟨⟨by simp, rfl, rfl, fun k hk => ?_⟩, hbl⟩
 match k, hk with
 | 0, _ => exact ⟨World.cell?_alloc_new _ _ _ _, ha.below hbl (Nat.le_refl _)⟩
 | 1, _ => exact ⟨World.cell?_alloc_new _ _ _ _, hb.below hbl (Nat.le_refl _)⟩

set_option linter.unusedSimpArgs false in
set_option maxRecDepth 100000 in
set_option maxHeartbeats 1600000 in
theorem drop_any (w : World) (v : Value) (qs : List Nc) (k : Nat) (h : CatV w v qs) (hk : k < qs.length) (hq : qs.length ≤ 100) :
  Calls Tryz.prog 99 #[v, .int .i64 (k : Int)] w fun e w' => ∃ u, e = .returned u ∧ CatV w' u (qs.take k ++ qs.drop (k + 1)) ∧ Below w.heap.size w w' := by
 obtain ⟨u, rfl, hu⟩ := h
 obtain ⟨ao, cap, rfl, hcap, -⟩ := id hu
 obtain ⟨x2, x4, hbn, hsz⟩ := two_new w (.slice ao qs.length cap) (.slice none 0 0) 53 53
 have HSEQ := hide (catN_seq (hu.below hbn)); have HIN := hide hu.ins; have HB0 := hide hbn; have X2 := hide x2; have X4 := hide x4
 obtain ⟨p2, -, -⟩ := x2
 obtain ⟨p4, -, -⟩ := x4
 have hkc : k ≤ cap := by omega
 have hk1 : k + 1 ≤ cap := by omega
 have hk2 : k + 1 ≤ qs.length := by omega
 have hw1 : IntKind.i64.wrap ((k : Int) + 1) = ((k + 1 : Nat) : Int) := by rw [IntKind.wrap_i64]; omega
 have hk3 : 0 ≤ (k : Int) + 1 ∧ (k : Int) + 1 ≤ (qs.length : Int) := by omega
 obtain ⟨so, hso⟩ : ∃ so, (if cap = k + 1 then ao else Option.map (fun x => x.add ((k + 1) * 3)) ao) = so := ⟨_, rfl⟩
 clear hu hbn
 go_enter Tryz.func99, Tryz.ntmps99
 go_wp2_with fail
 generalize (w.alloc (.cells #[.slice ao qs.length cap] 53)).alloc (.cells #[.slice none 0 0] 53) = W0 at *
 refine up_start (A := fun j => decide (j < 12)) (S := (fun w' => w'.cell? ⟨w.heap.size, 0, none⟩ = some (.slice ao qs.length cap) ∧ w'.cell? ⟨w.heap.size + 1, 0, none⟩ = some (.slice none 0 0))) (by kernel_rfl) (by exact ⟨p2, p4⟩) (fun hHeld => ?_)
 refine up_run (v := ?_) 0 5 [12] rfl rfl (by kernel_rfl) (by kernel_rfl) (by kernel_rfl) (by kernel_rfl) (fun _ _ _ h => h) (by rfl) ?_ (by assumption) ?_
 rotate_left
 ·(intro w hSw; (try dsimp only at hSw); go_simp; with_reducible rfl)
 simp only [Act.put, List.setIfInBounds_toArray, List.set_cons_zero, List.set_cons_succ]
 refine up_run (v := ?_) 1 6 [12] rfl rfl (by kernel_rfl) (by kernel_rfl) (by kernel_rfl) (by kernel_rfl) (fun _ _ _ h => h) (by rfl) ?_ (by assumption) ?_
 rotate_left
 ·(intro w hSw; (try dsimp only at hSw); go_simp; with_reducible rfl)
 simp only [Act.put, List.setIfInBounds_toArray, List.set_cons_zero, List.set_cons_succ]
 refine up_run (v := ?_) 2 7 [12] rfl rfl (by kernel_rfl) (by kernel_rfl) (by kernel_rfl) (by kernel_rfl) (fun _ _ _ h => h) (by rfl) ?_ (by assumption) ?_
 rotate_left
 ·(intro w hSw; (try dsimp only at hSw); go_simp; with_reducible rfl)
 simp only [Act.put, List.setIfInBounds_toArray, List.set_cons_zero, List.set_cons_succ]
 refine up_run (v := ?_) 3 8 [12] rfl rfl (by kernel_rfl) (by kernel_rfl) (by kernel_rfl) (by kernel_rfl) (fun _ _ _ h => h) (by rfl) ?_ (by assumption) ?_
 rotate_left
 ·(intro w hSw; (try dsimp only at hSw); go_simp; with_reducible rfl)
 simp only [Act.put, List.setIfInBounds_toArray, List.set_cons_zero, List.set_cons_succ]
 refine up_run (v := ?_) 4 9 [12] rfl rfl (by kernel_rfl) (by kernel_rfl) (by kernel_rfl) (by kernel_rfl) (fun _ _ _ h => h) (by rfl) ?_ (by assumption) ?_
 rotate_left
 ·(intro w hSw; (try dsimp only at hSw); go_simp; with_reducible rfl)
 simp only [Act.put, List.setIfInBounds_toArray, List.set_cons_zero, List.set_cons_succ]
 refine up_run (v := ?_) 5 10 [12] rfl rfl (by kernel_rfl) (by kernel_rfl) (by kernel_rfl) (by kernel_rfl) (fun _ _ _ h => h) (by rfl) ?_ (by assumption) ?_
 rotate_left
 ·(intro w hSw; (try dsimp only at hSw); go_simp; with_reducible rfl)
 simp only [Act.put, List.setIfInBounds_toArray, List.set_cons_zero, List.set_cons_succ]
 refine up_run (v := ?_) 6 11 [12] rfl rfl (by kernel_rfl) (by kernel_rfl) (by kernel_rfl) (by kernel_rfl) (fun _ _ _ h => h) (by rfl) ?_ (by assumption) ?_
 rotate_left
 ·(intro w hSw; (try dsimp only at hSw); go_simp; with_reducible rfl)
 simp only [Act.put, List.setIfInBounds_toArray, List.set_cons_zero, List.set_cons_succ]
 refine up_run (v := ?_) 7 12 [12] rfl rfl (by kernel_rfl) (by kernel_rfl) (by kernel_rfl) (by kernel_rfl) (fun _ _ _ h => h) (by rfl) ?_ (by assumption) ?_
 rotate_left
 ·(intro w hSw; (try dsimp only at hSw); go_simp; with_reducible rfl)
 simp only [Act.put, List.setIfInBounds_toArray, List.set_cons_zero, List.set_cons_succ]
 refine up_run (v := ?_) 8 13 [12] rfl rfl (by kernel_rfl) (by kernel_rfl) (by kernel_rfl) (by kernel_rfl) (fun _ _ _ h => h) (by rfl) ?_ (by assumption) ?_
 rotate_left
 ·(intro w hSw; (try dsimp only at hSw); go_simp; with_reducible rfl)
 simp only [Act.put, List.setIfInBounds_toArray, List.set_cons_zero, List.set_cons_succ]
 obtain ⟨hL1, hbW1⟩ := lists_two W0 36 (.slice ao k cap) (.slice so (qs.length - (k + 1)) (cap - (k + 1))) k (qs.length - (k + 1)) _ _ (HSEQ.out.take (sz := 3) k (by omega)) (HSEQ.out.drop (sz := 3) (k + 1) hk2 so (fun h b off e => by rw [← hso, if_neg (by omega), e, Option.map_some, add_none]))
 rw [hsz] at hL1
 have Y2 := hide (X2.out.later hbW1); have Y4 := hide (X4.out.later hbW1)
 obtain ⟨q2, -, -⟩ := Y2.out
 obtain ⟨q4, -, -⟩ := Y4.out
 have HL1 := hide hL1; have HB1 := hide (HB0.out.trans (hbW1.mono (by omega)))
 clear hL1 hbW1
 refine up_one 9 (by kernel_rfl) rfl (fun K hK => ?_)
 go_simp
 clear p2 p4
 generalize (W0.alloc (.cells #[.slice ao k cap, .slice so (qs.length - (k + 1)) (cap - (k + 1))] 36)).drew = W1 at *
 refine hK.out _ _ (fun _ => ⟨q2, q4⟩) ?_
 clear hK K hHeld
 try simp only [Act.put, List.setIfInBounds_toArray, List.set_cons_zero, List.set_cons_succ]
 have hHeld : (fun w' => w'.cell? ⟨w.heap.size, 0, none⟩ = some (.slice ao qs.length cap) ∧ w'.cell? ⟨w.heap.size + 1, 0, none⟩ = some (.slice none 0 0)) W1 := ⟨q2, q4⟩
 refine up_one 10 (by kernel_rfl) rfl (fun K hK => ?_)
 go_simp
 refine (concatN W1 _ 2 _ _ _ HL1.out (by simp) (by simp) (by simp; omega) (fun cs hcs y hy => nccells_one qs y (by
  simp only [List.mem_cons, List.not_mem_nil, or_false] at hcs
  rcases hcs with rfl | rfl
  ·exact List.mem_of_mem_take hy
  ·exact List.mem_of_mem_drop hy)) (two_lens (by rw [List.length_take, nccells_len, Nat.min_eq_left (by omega)]) (by rw [List.length_drop, nccells_len]; omega))).mono ?_
 rintro e w2 ⟨u2, rfl, hown, hb2⟩
 have Z4 := hide (Y4.out.later hb2)
 obtain ⟨r2, -, -⟩ := Y2.out.later hb2
 obtain ⟨r4, r5, -⟩ := Z4.out
 have HOW := hide hown; have HBS : Hid (w.heap.size + 2 < W1.heap.size) := HL1.out.lt; have HB2 := hide (HB1.out.trans (hb2.mono HB1.out.size))
 obtain ⟨o2, c2, rfl, -⟩ := owns_form hown
 clear hown hb2 HL1 HB1 q2 q4
 go_wp2_with fail
 refine hK.out _ _ (fun _ => ⟨r2, r4⟩) ?_
 clear hK K hHeld
 try simp only [Act.put, List.setIfInBounds_toArray, List.set_cons_zero, List.set_cons_succ]
 have hHeld : (fun w' => w'.cell? ⟨w.heap.size, 0, none⟩ = some (.slice ao qs.length cap) ∧ w'.cell? ⟨w.heap.size + 1, 0, none⟩ = some (.slice none 0 0)) w2 := ⟨r2, r4⟩
 refine up_run (v := ?_) 11 16 [12] rfl rfl (by kernel_rfl) (by kernel_rfl) (by kernel_rfl) (by kernel_rfl) (fun _ _ _ h => h) (by rfl) ?_ (by assumption) ?_
 rotate_left
 ·(intro w hSw; (try dsimp only at hSw); go_simp; with_reducible rfl)
 simp only [Act.put, List.setIfInBounds_toArray, List.set_cons_zero, List.set_cons_succ]
 refine up_one 12 (by kernel_rfl) rfl (fun K hK => ?_)
 go_simp
 refine hK.out _ _ (fun h => absurd h (by decide)) ?_
 clear hK K hHeld
 try simp only [Act.put, List.setIfInBounds_toArray, List.set_cons_zero, List.set_cons_succ]
 refine up_done (by kernel_rfl) ?_
 have hfl : [(qs.flatMap Nc.cells).take (k * 3), (qs.flatMap Nc.cells).drop ((k + 1) * 3)].flatten = (qs.take k ++ qs.drop (k + 1)).flatMap Nc.cells := by
  rw [List.flatMap_append, nccells_take, nccells_drop]; simp
 have hln : [k, qs.length - (k + 1)].sum = (qs.take k ++ qs.drop (k + 1)).length := by
  rw [List.length_append, List.length_take, List.length_drop]; simp; omega
 have HW := HOW.out
 rw [hfl, hln] at HW
 have e2 : k + (qs.length - (k + 1)) = (qs.take k ++ qs.drop (k + 1)).length := by rw [← hln]; simp
 rw [e2]
 have HB3 := hide (HB2.out.setCell (p := ⟨w.heap.size + 1, 0, none⟩) (by show w.heap.size ≤ w.heap.size + 1; omega) (.slice o2 (qs.take k ++ qs.drop (k + 1)).length c2))
 have HCB : Hid (CatN (w2.setCell ⟨w.heap.size + 1, 0, none⟩ (.slice o2 (qs.take k ++ qs.drop (k + 1)).length c2)) (.slice o2 (qs.take k ++ qs.drop (k + 1)).length c2) (qs.take k ++ qs.drop (k + 1))) := by
  refine catN_of_owns (ownsRow_setCell_below (a := ⟨w.heap.size + 1, 0, none⟩) HW (by show w.heap.size + 1 < W1.heap.size; have := HBS.out; omega) _) (fun q hq => ?_)
  have h := HIN.out q (by
   rcases List.mem_append.1 hq with h | h
   ·exact List.mem_of_mem_take h
   ·exact List.mem_of_mem_drop h)
  exact h.below HB3.out
 obtain ⟨rs, hrs⟩ : ∃ rs, rs = qs.take k ++ qs.drop (k + 1) := ⟨_, rfl⟩
 rw [← hrs] at HCB HB3
 rw [← hrs]
 have HRS := hide hrs
 clear HW HOW hfl hln e2 HB0 X2 X4 HSEQ hrs
 go_wp2
 exact bodyPost_ret (v := .agg #[.slice o2 rs.length c2]) (by simp [results, Tryz.results99, go_sem, r4]) rfl ⟨_, rfl, ⟨_, rfl, by rw [← HRS.out]; exact HCB.out⟩, HB3.out⟩

end Go.Proofs.YtnhbfehfipafoaaGreatDoor

/- bag: the lattice at a place has other generators. -/
namespace Go.Proofs.YtnhbfehfipafoaaGreatDoor
open Go.RowKit

theorem own_set {W : World} {base : Nat} {e : TypeId} {size : Nat} {g n cap : Nat} {xs : List Value} (h : W.ownsRow base e size (.slice (some ⟨g, 0, none⟩) n cap) n xs) (k : Nat) (u : Value) : (W.setCell ⟨g, k, none⟩ u).ownsRow base e size (.slice (some ⟨g, 0, none⟩) n cap) n (xs.set k u) := by
 refine ⟨by rw [List.length_set]; exact h.1, ?_⟩
 rcases h.2 with ⟨e, -⟩ | ⟨g', cap', cur, e, hb, hh, h1, h2, h3, h4⟩
 ·simp at e
 ·simp only [Value.slice.injEq, Option.some.injEq, Addr.mk.injEq, and_true, true_and] at e
  obtain ⟨rfl, rfl⟩ := e
  have hlt := heap_lt hh
  refine .inr ⟨g, cap, cur.setIfInBounds k u, rfl, hb, ?_, h1, h2, by rw [Array.size_setIfInBounds]; exact h3, ?_⟩
  ·rw [Array.getElem?_eq_getElem hlt, Option.some.injEq] at hh
   simp [World.setCell, hlt, Array.getElem_modify, hh]
  ·rw [Array.toList_setIfInBounds, List.take_set, h4]

theorem own_free {W : World} {base : Nat} {e : TypeId} {size : Nat} {g n cap : Nat} {xs : List Value} (h : W.ownsRow base e size (.slice (some ⟨g, 0, none⟩) n cap) n xs) (k : Nat) : W.frozen? ⟨g, k, none⟩ = false := by
 rcases h.2 with ⟨e, -⟩ | ⟨g', cap', cur, e, hb, hh, -⟩
 ·simp at e
 ·simp only [Value.slice.injEq, Option.some.injEq, Addr.mk.injEq, and_true, true_and] at e
  obtain ⟨rfl, rfl⟩ := e
  simp [World.frozen?, hh]

theorem own_at {W : World} {base : Nat} {e : TypeId} {size : Nat} {v : Value} {n : Nat} {xs : List Value} (h : W.ownsRow base e size v n xs) (h0 : 0 < n) : ∃ g cap, v = .slice (some ⟨g, 0, none⟩) n cap ∧ base ≤ g ∧ ∀ j u, xs[j]? = some u → W.cell? ⟨g, j, none⟩ = some u := by
 obtain ⟨ao, cap, e, -, hh⟩ := owns_seq h
 obtain ⟨b, off, rfl, -, hc⟩ := hh h0
 rcases h.2 with ⟨e', h00⟩ | ⟨g', cap', cur, e', hb, -⟩
 ·omega
 ·rw [e] at e'
  simp only [Value.slice.injEq, Option.some.injEq, Addr.mk.injEq, and_true, true_and] at e'
  obtain ⟨⟨rfl, rfl⟩, rfl⟩ := e'
  exact ⟨b, cap, e, hb, fun j u hu => by have := hc j u hu; rwa [Nat.zero_add] at this⟩

set_option linter.unusedSimpArgs false in
set_option maxRecDepth 100000 in
set_option maxHeartbeats 1600000 in
theorem with_any (w : World) (v : Value) (qs : List Nc) (k : Nat) (go : Option Addr) (gl gc : Nat) (gs : List (List Int)) (h : CatV w v qs) (hk : k < qs.length) (hq : qs.length ≤ 100) (hg : GensIn w (.slice go gl gc) gs) :
  Calls Tryz.prog 123 #[v, .int .i64 (k : Int), .slice go gl gc] w fun e w' => ∃ u, e = .returned u ∧ CatV w' u (qs.set k ⟨⟨qs[k].x.name, qs[k].x.n, gs⟩, go, gl, gc⟩) ∧ Below w.heap.size w w' := by
 obtain ⟨u, rfl, hu⟩ := h
 obtain ⟨ao, cap, rfl, hcap, -⟩ := id hu
 obtain ⟨x2, x4, hbn, hsz⟩ := two_new w (.slice ao qs.length cap) (.slice none 0 0) 53 53
 have HSEQ := hide (catN_seq (hu.below hbn)); have HIN := hide hu.ins; have HB0 := hide hbn; have X4 := hide x4; have HG := hide hg
 obtain ⟨p2, -, -⟩ := x2
 clear hu hbn x4 hg
 go_enter Tryz.func123, Tryz.ntmps123
 go_wp2_with fail
 generalize (w.alloc (.cells #[.slice ao qs.length cap] 53)).alloc (.cells #[.slice none 0 0] 53) = W0 at *
 refine (cloneN W0 _ qs.length (qs.flatMap Nc.cells) HSEQ.out (nccells_len qs) (by omega) (nccells_one qs)).mono ?_
 rintro e w1 ⟨v1, rfl, hown, hb1⟩
 obtain ⟨g, cp, rfl, hge, hcell⟩ := own_at hown (by omega)
 have c2 := hcell (k * 3 + 2) _ ((nccells_at qs k hk 2 (by omega)).trans rfl)
 have fz := own_free hown (k * 3 + 2)
 have HX4 := hide (X4.out.later hb1)
 obtain ⟨y4, z4, -⟩ := HX4.out
 have hne : g ≠ w.heap.size + 1 := by omega
 have HOW := hide (own_set hown (k * 3 + 2) (.slice go gl gc))
 have HB1 := hide ((HB0.out.trans (hb1.mono HB0.out.size)).setCell (p := ⟨g, k * 3 + 2, none⟩) (by show w.heap.size ≤ g; omega) (.slice go gl gc))
 have y4' : (w1.setCell ⟨g, k * 3 + 2, none⟩ (.slice go gl gc)).cell? ⟨w.heap.size + 1, 0, none⟩ = some (.slice none 0 0) := by
  refine (World.cell?_setCell_other _ _ _ _ fun h => ?_).trans y4
  exact hne (congrArg Addr.block h)
 rw [← nccells_set qs k hk ⟨⟨qs[k].x.name, qs[k].x.n, gs⟩, go, gl, gc⟩ rfl rfl] at HOW
 have HB2 := hide (HB1.out.setCell (p := ⟨w.heap.size + 1, 0, none⟩) (by show w.heap.size ≤ w.heap.size + 1; omega) (.slice (some ⟨g, 0, none⟩) qs.length cp))
 have HCB : Hid (CatN ((w1.setCell ⟨g, k * 3 + 2, none⟩ (.slice go gl gc)).setCell ⟨w.heap.size + 1, 0, none⟩ (.slice (some ⟨g, 0, none⟩) qs.length cp)) (.slice (some ⟨g, 0, none⟩) qs.length cp) (qs.set k ⟨⟨qs[k].x.name, qs[k].x.n, gs⟩, go, gl, gc⟩)) := by
  have h := ownsRow_setCell_below (a := ⟨w.heap.size + 1, 0, none⟩) HOW.out (by show w.heap.size + 1 < W0.heap.size; omega) (.slice (some ⟨g, 0, none⟩) qs.length cp)
  have hl : (qs.set k ⟨⟨qs[k].x.name, qs[k].x.n, gs⟩, go, gl, gc⟩).length = qs.length := List.length_set ..
  refine catN_of_seq (by rw [hl]; exact owns_seq h) (fun q hq => ?_) (kinH_owns h kinT_N)
  rcases List.mem_or_eq_of_mem_set hq with h | rfl
  ·exact (HIN.out q h).below HB2.out
  ·exact HG.out.below HB2.out
 have c2' : (w1.setCell ⟨g, k * 3 + 2, none⟩ (.slice go gl gc)).cell? ⟨g, k * 3 + 2, none⟩ = some (.slice go gl gc) := World.cell?_setCell_same _ _ _ c2
 clear hown hcell hb1 HOW HSEQ HX4 X4
 go_wp2
 exact bodyPost_ret (v := .agg #[.slice (some ⟨g, 0, none⟩) qs.length cp]) (by simp [results, Tryz.results123, go_sem, World.cell?_setCell_same _ _ _ y4']) rfl ⟨_, rfl, ⟨_, rfl, HCB.out⟩, HB2.out⟩

end Go.Proofs.YtnhbfehfipafoaaGreatDoor

/- A generator is copied; the first generator that is this one. -/
namespace Go.Proofs.YtnhbfehfipafoaaGreatDoor
open Go.RowKit

theorem Tryz.infoIntB : (Tryz.prog.info? 3).map (fun i => (i.zero, i.size, i.bytes)) = some (some (.int .i64 0), 1, 8) := by kernel_rfl

theorem rowS_seq {W : World} {v : Value} {ks : List Int} (h : RowS W v ks) : SeqV W v ks.length (ks.map (fun z => Value.int .i64 z)) := by
 obtain ⟨ao, cap, e, hn, -, hh⟩ := h
 refine ⟨ao, cap, e, hn, fun h0 => ?_⟩
 obtain ⟨b, off, e', hlt, hc⟩ := hh h0
 refine ⟨b, off, e', hlt, fun j u hu => ?_⟩
 rw [List.getElem?_map] at hu
 cases hj : ks[j]? with
 | none => rw [hj] at hu; cases hu
 | some z =>
  rw [hj] at hu
  obtain ⟨hj', e2⟩ := List.getElem?_eq_some_iff.1 hj
  have := hc j hj'
  rw [List.getD_eq_getElem?_getD, hj] at this
  rw [this]; simpa using hu

theorem rowS_of_seq {W : World} {v : Value} {ks : List Int} (h : SeqV W v ks.length (ks.map (fun z => Value.int .i64 z))) (h64 : ∀ i, -9223372036854775808 ≤ ks.getD i 0 ∧ ks.getD i 0 ≤ 9223372036854775807) : RowS W v ks := by
 obtain ⟨ao, cap, e, hn, hh⟩ := h
 refine ⟨ao, cap, e, hn, h64, fun h0 => ?_⟩
 obtain ⟨b, off, e', hlt, hc⟩ := hh h0
 refine ⟨b, off, e', hlt, fun i hi => hc i _ ?_⟩
 rw [List.getElem?_map, List.getD_eq_getElem?_getD, List.getElem?_eq_getElem hi]; rfl

theorem RowS.in64 {W : World} {v : Value} {ks : List Int} (h : RowS W v ks) : ∀ i, -9223372036854775808 ≤ ks.getD i 0 ∧ ks.getD i 0 ≤ 9223372036854775807 := by
 obtain ⟨_, _, _, _, h, _⟩ := h
 exact h

set_option linter.unusedSimpArgs false in
set_option maxRecDepth 100000 in
set_option maxHeartbeats 1600000 in
theorem cloneI_own (w : World) (u : Value) (m : Nat) (ys : List Value) (hu : SeqV w u m ys) (hl : ys.length = m * 1) (hm : m ≤ 1000) (h1 : ∀ y ∈ ys, y.oneCell' = true) :
  Calls Tryz.prog 75 #[u] w fun e w' => ∃ v, e = .returned v ∧ w'.ownsRow w.heap.size 3 1 v m ys ∧ Below w.heap.size w w' := by
 obtain ⟨j0, hj, hy0, hy1, hy2⟩ := info_got Tryz.infoIntB
 obtain ⟨ao, cap, rfl, -⟩ := id hu
 cases ao with
 | none =>
  obtain ⟨ao', cap', e, -, hh⟩ := hu
  simp only [Value.slice.injEq, true_and] at e
  have hm0 : m = 0 := by
   rcases Nat.eq_zero_or_pos m with h | h
   ·exact h
   ·obtain ⟨b, off, e', -⟩ := hh h
    rw [e'] at e
    cases e.1
  subst hm0
  obtain rfl : ys = [] := List.eq_nil_of_length_eq_zero (by simpa using hl)
  have g : Sem.run Tryz.prog (binOp .eql 41 (.slice none 0 cap) (.slice none 0 0)) w = .ok (.bool true) w := by kernel_rfl
  clear hj hy0 hy1 hy2 hh e
  go_enter Tryz.func75, Tryz.ntmps75
  go_wp2
  go_ret
  exact ⟨_, rfl, World.ownsRow_nil _ _ _ _, Below.refl _ _⟩
 | some ad =>
  have g : Sem.run Tryz.prog (binOp .eql 41 (.slice (some ad) m cap) (.slice none 0 0)) w = .ok (.bool false) w := by kernel_rfl
  have hb1 : Below w.heap.size w (w.alloc (.cells #[] 3)) := alloc_below w _
  obtain ⟨o, c, W', hr, hown, hbel⟩ := seq_more (P := Tryz.prog) w (w.alloc (.cells #[] 3)) w.heap.size (Nat.le_refl _) hb1 hb1.size 41 41 3 j0 (.int .i64 0) 1 8 (by kernel_rfl) hj hy0 hy1 hy2 rfl (by decide) (.slice (some ⟨w.heap.size, 0, none⟩) 0 0) 0 [] ⟨by simp, .inr ⟨w.heap.size, 0, #[], rfl, Nat.le_refl _, heap_alloc_new w _, Nat.le_refl _, Nat.zero_le _, by simp, by simp⟩⟩ _ m ys hl hu h1 (by unfold maxLen; omega) (by omega)
  rw [Nat.zero_add, List.nil_append] at hown
  rw [Nat.zero_add] at hr
  have HR := hide hr; have HW := hide hown; have HBL := hide hbel
  clear hj hy0 hy1 hy2 hu hr hown hbel hb1
  go_enter Tryz.func75, Tryz.ntmps75
  go_wp2_with (at_builtin; refine Lib.wpList_append_run _ rfl _ _ _ _ rfl _ _ rfl rfl _ _ HR.out ?_)
  go_wp2
  go_ret
  exact ⟨_, rfl, HW.out, HBL.out⟩

theorem cloneI_any (w : World) (u : Value) (ks : List Int) (hu : RowS w u ks) (hm : ks.length ≤ 1000) :
  Calls Tryz.prog 75 #[u] w fun e w' => ∃ o c, e = .returned (.slice o ks.length c) ∧ GcIn w' ((.slice o ks.length c : Value), ks) ∧ Below w.heap.size w w' ∧ ∀ a, o = some a → w.heap.size ≤ a.block := by
 refine (cloneI_own w u ks.length _ (rowS_seq hu) (by simp) hm (fun y hy => ?_)).mono ?_
 ·obtain ⟨z, -, rfl⟩ := List.mem_map.1 hy; rfl
 ·rintro e w' ⟨v, rfl, hown, hb⟩
  obtain ⟨o, c, rfl, -⟩ := owns_form hown
  exact ⟨o, c, rfl, ⟨rowS_of_seq (owns_seq hown) hu.in64, kinH_owns hown kinT_I⟩, hb, fun a e => (hown.lt a.block (by rw [e]; rfl)).1⟩

set_option linter.unusedSimpArgs false in
set_option maxRecDepth 100000 in
set_option maxHeartbeats 1600000 in
theorem take1_any (w : World) (b : Nat) (vo : Option Addr) (vc : Nat) (vs gs : List Int) (g : Value) (hb : w.cell? ⟨b, 0, none⟩ = some (.slice vo vs.length vc)) (hv : RowS w (.slice vo vs.length vc) vs) (hg : RowS w g gs) (h6 : gs.length ≤ 1000000) :
  Calls Tryz.prog 126 #[g, .pointer (some ⟨b, 0, none⟩)] w fun e w' => e = .returned (.bool (decide (gs = vs))) ∧ Below w.heap.size w w' := by
 have HV := hide hv; have HG := hide hg
 obtain ⟨go, gc, rfl⟩ := hg.form
 clear hv hg
 go_enter Tryz.func126, Tryz.ntmps126
 go_wp2_with fail
 refine (equalI_any w _ _ gs vs HG.out HV.out h6).mono ?_
 rintro e w1 ⟨rfl, hb1⟩
 go_wp2
 go_ret
 exact ⟨rfl, hb1⟩

def idxG (gs : List (List Int)) (v : List Int) : Int := if gs.contains v then (gs.idxOf v : Int) else -1

set_option linter.unusedSimpArgs false in
set_option maxRecDepth 100000 in
set_option maxHeartbeats 1600000 in
theorem indexG_any (w : World) (b : Nat) (vo : Option Addr) (vc : Nat) (vs : List Int) (gs : List (List Int)) (g : Value) (hb : w.cell? ⟨b, 0, none⟩ = some (.slice vo vs.length vc)) (hl : b < w.heap.size) (hv : RowS w (.slice vo vs.length vc) vs) (hg : RowsS w g gs) (hgl : gs.length ≤ 1000000) (h6 : ∀ r ∈ gs, r.length ≤ 1000000) :
  Calls Tryz.prog 125 #[g, .func (.func 126) #[] #[.pointer (some ⟨b, 0, none⟩)]] w fun e w' => e = .returned (.int .i64 (idxG gs vs)) ∧ Below w.heap.size w w' := by
 have HV := hide hv; have HG := hide hg; have H6 := hide h6; have HC := hide hb
 obtain ⟨go, gc, rfl, -⟩ := id hg
 clear hv hg h6 hb
 generalize hr : idxG gs vs = r
 have HR := hide hr
 clear hr
 go_enter Tryz.func125, Tryz.ntmps125
 go_wp2
 go_loopw [8] (fun i wr => ∃ k : Nat, k ≤ gs.length ∧ i = .int .i64 k ∧ Hid (∀ j (h : j < gs.length), j < k → gs[j] ≠ vs) ∧ Hid (Below w.heap.size w wr)) (fun i _ => gs.length - (intOf i).toNat)
 case atStart => exact ⟨0, Nat.zero_le _, rfl, hide (fun j _ hj => absurd hj (by omega)), hide (Below.refl _ _)⟩
 case round =>
  obtain ⟨k, hk, rfl, HN, HB⟩ := hrel
  by_cases hkl : k < gs.length
  ·obtain ⟨gb, goff, gcap, e, hlt, u, cu, hu⟩ := (HG.out.below HB.out).at k hkl
   simp only [Value.slice.injEq, true_and] at e
   obtain ⟨rfl, rfl⟩ := e
   have HU := hide hu
   obtain ⟨uo, uc, rfl⟩ := hu.form
   have HCA := hide (take1_any wr b vo vc vs gs[k] _ ((HB.out.cell (p := ⟨b, 0, none⟩) hl).trans HC.out) (HV.out.below HB.out (Nat.le_refl _)) HU.out (H6.out _ (List.getElem_mem hkl)))
   have HY : Hid (gs[k] = vs → r = (k : Int)) := fun h => by
    rw [← HR.out]
    unfold idxG
    have hm : vs ∈ gs := h ▸ List.getElem_mem hkl
    rw [if_pos (by simpa using hm)]
    have : gs.idxOf vs = k := by
     apply Nat.le_antisymm
     ·rcases Nat.lt_or_ge k (gs.idxOf vs) with h1 | h1
      ·exact absurd h (by have := List.not_of_lt_findIdx h1; simpa using this)
      ·exact h1
     ·rcases Nat.lt_or_ge (gs.idxOf vs) k with h1 | h1
      ·exact absurd (List.getElem_idxOf (List.idxOf_lt_length_of_mem hm)) (HN.out _ (List.idxOf_lt_length_of_mem hm) h1)
      ·exact h1
    rw [this]
   have HN' : Hid (gs[k] ≠ vs → ∀ j (h : j < gs.length), j < k + 1 → gs[j] ≠ vs) := fun h j hj hjk => by
    by_cases e : j < k
    ·exact HN.out j hj e
    ·obtain rfl : j = k := by omega
     exact h
   clear hu HU HN
   generalize gs[k] = gk at *
   go_wp2_with fail
   refine HCA.out.mono ?_
   rintro e w2 ⟨rfl, hb2⟩
   have HB2 := hide (HB.out.trans (hb2.mono HB.out.size))
   clear hb2 HCA HB cu
   by_cases he : gk = vs
   ·rw [decide_eq_true he]
    obtain rfl := HY.out he
    clear he
    go_wp2
    go_ret
    exact ⟨rfl, HB2.out⟩
   ·rw [decide_eq_false he]
    have HN2 := hide (HN'.out he)
    clear he
    go_wp2
    go_roundw
    case rel => exact ⟨k + 1, by omega, by go_num, HN2, HB2⟩
    case measure => simp [intOf]; omega
  ·obtain rfl : k = gs.length := by omega
   obtain rfl : -1 = r := by
    rw [← HR.out]
    unfold idxG
    rw [if_neg]
    intro h
    obtain ⟨i, hi, e⟩ := List.getElem_of_mem (show vs ∈ gs by simpa using h)
    exact HN.out i hi hi e
   go_wp2
   go_ret
   exact ⟨rfl, HB.out⟩

end Go.Proofs.YtnhbfehfipafoaaGreatDoor
