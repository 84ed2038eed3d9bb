/- A Builder whose bytes lie above a height: what lies below that, it alone aside, stays. -/
import Derived.Test.YtnhbfehfipafoaaGreatDoorBgD
import Derived.Test.YtnhbfehfipafoaaGreatDoorShelf
import Derived.Test.YtnhbfehfipafoaaGreatDoorUpP
import Derived.Lib.Split
import Derived.Lib.Join

namespace Go.Proofs.YtnhbfehfipafoaaGreatDoor
open Go.RowKit

structure ButB (C b : Nat) (W W' : World) : Prop where
 os : W'.os = W.os
 tape : W'.tape = W.tape
 output : W'.output = W.output
 size : W.heap.size ≤ W'.heap.size
 block : ∀ k, k < C → k ≠ b → W'.heap[k]? = W.heap[k]?

theorem ButB.of {C b : Nat} {W W' : World} (h : Below C W W') : ButB C b W W' := ⟨h.os, h.tape, h.output, h.size, fun k hk _ => h.block k hk⟩

theorem ButB.trans {C b : Nat} {W W' W'' : World} (h : ButB C b W W') (k : ButB C b W' W'') : ButB C b W W'' :=
 ⟨k.os.trans h.os, k.tape.trans h.tape, k.output.trans h.output, Nat.le_trans h.size k.size, fun i hi hb => (k.block i hi hb).trans (h.block i hi hb)⟩

theorem ButB.set {C b : Nat} {W W' : World} (h : ButB C b W W') (i : Nat) (v : Value) : ButB C b W (W'.setCell ⟨b, i, none⟩ v) :=
 ⟨h.os, h.tape, h.output, by simpa using h.size, fun k hk hb => (heap_setCell_other _ _ _ _ hb).trans (h.block k hk hb)⟩

theorem ButB.below {C b : Nat} {w W W' : World} {K : Nat} (h : ButB C b W W') (hw : Below K w W) (hK : K ≤ b) (hC : K ≤ C) : Below K w W' where
 os := h.os.trans hw.os
 tape := h.tape.trans hw.tape
 output := h.output.trans hw.output
 size := Nat.le_trans hw.size h.size
 block := fun k hk => (h.block k (by omega) (by omega)).trans (hw.block k hk)

def Bld (C b : Nat) (l : List UInt8) (W : World) : Prop :=
 b < C ∧ C ≤ W.heap.size ∧ ∃ p v, W.heap[b]? = some (.cells #[p, v] 149 (0, 0)) ∧ (p = .pointer none ∨ p = .pointer (some ⟨b, 0, none⟩)) ∧ BufB C W v l

theorem Bld.later {C b : Nat} {l : List UInt8} {W W' : World} (h : Bld C b l W) (hb : Below W.heap.size W W') : Bld C b l W' := by
 obtain ⟨h1, h2, p, v, h3, h4, h5⟩ := h
 exact ⟨h1, Nat.le_trans h2 hb.size, p, v, (hb.block _ (heap_lt h3)).trans h3, h4, h5.later hb⟩

theorem Bld.new (W W' : World) (hb : Below (W.alloc (.cells #[.pointer none, .slice none 0 0] 149)).heap.size (W.alloc (.cells #[.pointer none, .slice none 0 0] 149)) W') : Bld W'.heap.size W.heap.size [] W' := by
 have hs := hb.size
 simp at hs
 exact ⟨by omega, Nat.le_refl _, .pointer none, .slice none 0 0, (hb.block _ (by simp)).trans (heap_alloc_new W _), .inl rfl, World.ownsRow_nil _ _ _ _⟩

theorem Bld.isB {C b : Nat} {l : List UInt8} {W : World} (h : Bld C b l W) : Lib.IsBuilderF 149 5 b b (Lib.byteCells l) W := by
 obtain ⟨h1, h2, p, v, h3, h4, h5⟩ := h
 have ho : W.ownsRowF b 5 1 v (Lib.byteCells l).length (Lib.byteCells l) := by
  rw [Lib.byteCells_length]
  have h6 : W.ownsRow b 5 1 v l.length (Lib.byteCells l) := by
   refine ⟨h5.1, ?_⟩
   rcases h5.2 with hn | ⟨g, cap, cur, e, hbg, rest⟩
   ·exact .inl hn
   ·exact .inr ⟨g, cap, cur, e, by omega, rest⟩
  exact World.ownsRowF_of h6
 have hne : v.ownBlock ≠ some b := fun e => by
  rcases h5.2 with ⟨hn, -⟩ | ⟨g, cap, cur, e', hbg, -⟩
  ·rw [hn] at e; cases e
  ·rw [e'] at e
   simp only [Value.ownBlock, Option.some.injEq] at e
   omega
 rcases h4 with rfl | rfl
 ·exact .inl ⟨Nat.le_refl _, v, h3, ho, hne⟩
 ·exact .inr ⟨Nat.le_refl _, v, h3, ho, hne⟩

theorem cell_two {W : World} {b : Nat} {p v : Value} {t : TypeId} (h : W.heap[b]? = some (.cells #[p, v] t (0, 0))) : W.cell? ⟨b, 0, none⟩ = some p ∧ W.cell? ⟨b, 1, none⟩ = some v ∧ ∀ k, W.frozen? ⟨b, k, none⟩ = false := by
 refine ⟨by rw [Lib.cell_of_heap h]; rfl, by rw [Lib.cell_of_heap h]; rfl, fun k => ?_⟩
 simp [World.frozen?, h]

theorem heap_two {W : World} {b : Nat} {p v : Value} {t : TypeId} (h : W.heap[b]? = some (.cells #[p, v] t (0, 0))) (u : Value) : (W.setCell ⟨b, 0, none⟩ u).heap[b]? = some (.cells #[u, v] t (0, 0)) ∧ (W.setCell ⟨b, 1, none⟩ u).heap[b]? = some (.cells #[p, u] t (0, 0)) :=
 ⟨heap_setCell_same W b 0 _ _ u h, heap_setCell_same W b 1 _ _ u h⟩

theorem BufB.set {C : Nat} {W : World} {v : Value} {l : List UInt8} (h : BufB C W v l) {p : Addr} (hp : p.block < C) (u : Value) : BufB C (W.setCell p u) v l := ownsRow_setCell_below h hp u

set_option linter.unusedSimpArgs false in
set_option maxRecDepth 100000 in
set_option maxHeartbeats 1600000 in
theorem writeS_at (C b : Nat) (l : List UInt8) (s : ByteArray) (w : World) (p v : Value) (h1 : b < C) (h2 : C ≤ w.heap.size) (h3 : w.heap[b]? = some (.cells #[p, v] 149 (0, 0))) (h4 : p = .pointer none ∨ p = .pointer (some ⟨b, 0, none⟩)) (h5 : BufB C w v l) (hl : l.length + s.size ≤ 1000000) :
  Calls Tryz.prog 85 #[.pointer (some ⟨b, 0, none⟩), .string s] w fun e w' => e = .returned (.tuple #[.int .i64 s.size, .nilIface]) ∧ Bld C b (l ++ s.data.toList) w' ∧ ButB C b w w' := by
 obtain ⟨c0, c1, cf⟩ := cell_two h3
 have f0 := cf 0; have f1 := cf 1
 rcases h4 with rfl | rfl
 ·have hW := (heap_two h3 (.pointer (some ⟨b, 0, none⟩))).1
  have hB : BufB C (w.setCell ⟨b, 0, none⟩ (.pointer (some ⟨b, 0, none⟩))) v l := h5.set (p := ⟨b, 0, none⟩) h1 _
  have hBu := (ButB.of (b := b) (Below.refl C w)).set 0 (.pointer (some ⟨b, 0, none⟩))
  obtain ⟨d0, d1, df⟩ := cell_two hW
  have g1 := df 1
  obtain ⟨o, c, A, hr, hA, hbA⟩ := hB.str (by simpa using h2) s 142 hl
  obtain ⟨n, hn⟩ : ∃ n, (l ++ s.data.toList).length = n := ⟨_, rfl⟩
  rw [hn] at hr hA
  clear hn
  have hA2 := (hbA.block b h1).trans hW
  obtain ⟨e0, e1, ef⟩ := cell_two hA2
  have k1 := ef 1
  have HR := hide hr
  have HF : Hid (Bld C b (l ++ s.data.toList) (A.setCell ⟨b, 1, none⟩ (.slice o n c))) := ⟨h1, by have := hbA.size; simp at this ⊢; omega, _, _, (heap_two hA2 (.slice o n c)).2, .inr rfl, hA.set (p := ⟨b, 1, none⟩) h1 _⟩
  have HG := hide ((hBu.trans (ButB.of hbA)).set 1 (.slice o n c))
  have hshape : w.shape? b = some (149, 2) := by simp [World.shape?, h3]
  have HCH := hide (Any.Builder_copyCheck_fresh { Go.Proofs.Tryz.lays166 with } Go.Proofs.Tryz.Builder_Extra_166.toX72 b w c0 hshape f0)
  clear hr hA hbA hA2 hB hBu hW df ef cf h5 h3 hshape
  go_enter Tryz.func85, Tryz.ntmps85
  go_wp2_with fail
  refine HCH.out.mono ?_
  rintro e w1 ⟨rfl, rfl⟩
  go_wp2_with (at_builtin; refine Lib.wpList_append_run _ rfl _ _ _ _ rfl _ _ rfl rfl _ _ HR.out ?_)
  go_ret2
  exact ⟨rfl, HF.out, HG.out⟩
 ·obtain ⟨o, c, A, hr, hA, hbA⟩ := h5.str h2 s 142 hl
  obtain ⟨n, hn⟩ : ∃ n, (l ++ s.data.toList).length = n := ⟨_, rfl⟩
  rw [hn] at hr hA
  clear hn
  have hA2 := (hbA.block b h1).trans h3
  obtain ⟨e0, e1, ef⟩ := cell_two hA2
  have k1 := ef 1
  have HR := hide hr
  have HF : Hid (Bld C b (l ++ s.data.toList) (A.setCell ⟨b, 1, none⟩ (.slice o n c))) := ⟨h1, by have := hbA.size; simp; omega, _, _, (heap_two hA2 (.slice o n c)).2, .inr rfl, hA.set (p := ⟨b, 1, none⟩) h1 _⟩
  have HG := hide ((ButB.of (b := b) hbA).set 1 (.slice o n c))
  have HCH := hide (Any.Builder_copyCheck_used { Go.Proofs.Tryz.lays166 with } Go.Proofs.Tryz.Builder_Extra_166.toX72 b w c0)
  clear hr hA hbA hA2 ef cf h5 h3
  go_enter Tryz.func85, Tryz.ntmps85
  go_wp2_with fail
  refine HCH.out.mono ?_
  rintro e w1 ⟨rfl, rfl⟩
  go_wp2_with (at_builtin; refine Lib.wpList_append_run _ rfl _ _ _ _ rfl _ _ rfl rfl _ _ HR.out ?_)
  go_ret2
  exact ⟨rfl, HF.out, HG.out⟩

theorem writeS_any (C b : Nat) (l : List UInt8) (s : ByteArray) (w : World) (h : Bld C b l w) (hl : l.length + s.size ≤ 1000000) :
  Calls Tryz.prog 85 #[.pointer (some ⟨b, 0, none⟩), .string s] w fun e w' => e = .returned (.tuple #[.int .i64 s.size, .nilIface]) ∧ Bld C b (l ++ s.data.toList) w' ∧ ButB C b w w' := by
 obtain ⟨h1, h2, p, v, h3, h4, h5⟩ := h
 exact writeS_at C b l s w p v h1 h2 h3 h4 h5 hl

theorem stringS_any (C b : Nat) (l : List UInt8) (w : World) (h : Bld C b l w) :
  Calls Tryz.prog 86 #[.pointer (some ⟨b, 0, none⟩)] w fun e w' => e = .returned (.string ⟨l.toArray⟩) ∧ Below b w w' := by
 refine (Go.Proofs.Tryz.Builder_String_any_k b b l w h.isB (by have := h.1; have := h.2.1; omega)).mono ?_
 rintro e w' ⟨rfl, -, hb, -⟩
 exact ⟨rfl, hb⟩

end Go.Proofs.YtnhbfehfipafoaaGreatDoor

/- pack.line: a lattice's line. -/
namespace Go.Proofs.YtnhbfehfipafoaaGreatDoor
open Go.RowKit

def genT (g : List Int) : List UInt8 := [59, 32] ++ numT g
def headT (x : Nmd) : List UInt8 := x.name.data.toList ++ [32] ++ Lib.itoa x.n
def lineT (x : Nmd) : List UInt8 := headT x ++ x.gens.flatMap genT ++ [10]

theorem ButB.cell {C b : Nat} {W W' : World} (h : ButB C b W W') {k i : Nat} (hk : k < C) (hb : k ≠ b) : W'.cell? ⟨k, i, none⟩ = W.cell? ⟨k, i, none⟩ := by
 unfold World.cell?
 rw [h.block k hk hb]

theorem ThreeV.but {C b B : Nat} {W W' : World} {u0 u1 u2 : Value} (h : ThreeV W B u0 u1 u2) (hb : ButB C b W W') (hne : B ≠ b) (hC : B < C) : ThreeV W' B u0 u1 u2 :=
 ⟨(hb.cell hC hne).trans h.1, (hb.cell hC hne).trans h.2.1, (hb.cell hC hne).trans h.2.2.1, Nat.lt_of_lt_of_le h.2.2.2 hb.size⟩

theorem join_len : ∀ xs : List (List UInt8), (∀ x ∈ xs, x.length ≤ 4) → (Lib.join xs [32]).length ≤ 5 * xs.length
 | [], _ => by simp [Lib.join]
 | [x], h => by have := h x (by simp); simp [Lib.join]; omega
 | x :: y :: r, h => by
  have h1 := h x (by simp)
  have h2 := join_len (y :: r) (fun z hz => h z (List.mem_cons_of_mem _ hz))
  have e : Lib.join (x :: y :: r) [32] = x ++ [32] ++ Lib.join (y :: r) [32] := by simp [Lib.join]
  rw [e, List.length_append, List.length_append]
  simp only [List.length_cons, List.length_nil] at h2 ⊢
  omega

theorem numT_len {g : List Int} {n : Int} (h : genF g n = 0) (hn : n ≤ 4) : (numT g).length ≤ 20 ∧ 0 < g.length ∨ n < 1 := by
 obtain ⟨h1, h2⟩ := genF_ok.1 h
 by_cases h0 : n < 1
 ·exact .inr h0
 ·refine .inl ⟨?_, by omega⟩
  unfold numT
  have := join_len (g.map Lib.itoa) (fun x hx => by
   obtain ⟨z, hz, rfl⟩ := List.mem_map.1 hx
   have := h2 z hz
   exact (ito_len (by omega) (by omega)).2)
  rw [List.length_map] at this
  omega

theorem bapp (a b : ByteArray) : (a ++ b).data.toList = a.data.toList ++ b.data.toList := by simp

set_option linter.unusedSimpArgs false in
set_option maxRecDepth 100000 in
set_option maxHeartbeats 1600000 in
theorem line_any (w : World) (q : Nc) (hq : NcIn w q) (ht : TabP w) (hok : NmOk q.x) : Calls Tryz.prog 92 #[q.val] w fun e w' => e = .returned (.string ⟨(lineT q.x).toArray⟩) ∧ Below w.heap.size w w' := by
 have HOK := hide hok
 obtain ⟨⟨nm, n, gens⟩, go, gl, gc⟩ := q
 have hgl : gl = gens.length := by
  obtain ⟨_, _, e, -⟩ := id hq.1
  simp only [Value.slice.injEq] at e
  exact e.2.1
 have HQ := hide hq; have HT := hide ht; have HGL := hide hgl
 have HNR : Hid (-9223372036854775808 ≤ n ∧ n ≤ 9223372036854775807) := by have := hok.n; show _ ∧ _; dsimp only at this; omega
 have hn8 : nm.size ≤ 8 := (of_decide_eq_true hok.name).2.1
 have hit : (itoS n).size ≤ 4 := by
  have := hok.n
  dsimp only at this
  have := (ito_len (z := n) (by omega) (by omega)).2
  show (Lib.itoa n).toArray.size ≤ 4
  simpa using this
 have HSZ : Hid ((nm ++ ⟨#[32]⟩ ++ itoS n).size ≤ 13) := by show _ ≤ 13; rw [ByteArray.size_append, ByteArray.size_append]; show nm.size + 1 + _ ≤ 13; omega
 have HL0 : Hid (([] : List UInt8).length + (nm ++ ⟨#[32]⟩ ++ itoS n).size ≤ 1000000) := Nat.le_trans (by rw [List.length_nil, Nat.zero_add]; exact HSZ.out) (by decide)
 have hsz1 : (nm ++ ⟨#[32]⟩ : ByteArray).size ≤ 9 := by rw [ByteArray.size_append]; show nm.size + 1 ≤ 9; omega
 have hb1 := alloc_below w (.cells #[.string nm, .int .i64 n, .slice go gl gc] 107)
 have hb2 := alloc_below (w.alloc (.cells #[.string nm, .int .i64 n, .slice go gl gc] 107)) (.cells #[.pointer none, .slice none 0 0] 149)
 have X1 := hide ((ThreeV.new w (.string nm) (.int .i64 n) (.slice go gl gc) 107).later hb2)
 have HB := hide (hb1.trans (hb2.mono hb1.size))
 have HBL := hide (Bld.new (w.alloc (.cells #[.string nm, .int .i64 n, .slice go gl gc] 107)) ((w.alloc (.cells #[.string nm, .int .i64 n, .slice go gl gc] 107)).alloc (.cells #[.pointer none, .slice none 0 0] 149)) (Below.refl _ _))
 have HB1 : Hid (w.heap.size ≠ (w.alloc (.cells #[.string nm, .int .i64 n, .slice go gl gc] 107)).heap.size) := by show _ ≠ _; simp
 have HB2 : Hid (w.heap.size ≤ (w.alloc (.cells #[.string nm, .int .i64 n, .slice go gl gc] 107)).heap.size) := hb1.size
 have HC2 : Hid (w.heap.size ≤ ((w.alloc (.cells #[.string nm, .int .i64 n, .slice go gl gc] 107)).alloc (.cells #[.pointer none, .slice none 0 0] 149)).heap.size) := HB.out.size
 have hsz9 : (w.alloc (.cells #[.string nm, .int .i64 n, .slice go gl gc] 107)).heap.size = w.heap.size + 1 := by simp
 rw [hsz9] at HBL HB1 HB2
 clear hsz9
 have hq1 : ¬ 9223372036854775807 < nm.size + 1 := by omega
 have hq2 : ¬ 9223372036854775807 < nm.size + 1 + (itoS n).size := by omega
 clear hb1 hb2 hq ht hok hgl
 show Calls _ _ #[.agg #[.string nm, .int .i64 n, .slice go gl gc]] w _
 go_enter Tryz.func92, Tryz.ntmps92
 go_wp2_with fail
 generalize hW2 : (w.alloc (.cells #[.string nm, .int .i64 n, .slice go gl gc] 107)).alloc (.cells #[.pointer none, .slice none 0 0] 149) = W2 at *
 clear hW2
 generalize w.heap.size + 1 = b at *
 obtain ⟨c0, c1, c2, -⟩ := X1.out
 refine wp_region_held_drew (S := (fun w' => w'.cell? ⟨w.heap.size, 0, none⟩ = some (.string nm) ∧ w'.cell? ⟨w.heap.size, 1, none⟩ = some (.int .i64 n) ∧ w'.cell? ⟨w.heap.size, 2, none⟩ = some (.slice go gl gc))) (by kernel_rfl) (by (try dsimp only); go_keep) (fun hHeld => ?_)
 refine held_run (v := ?_) 0 5 rfl rfl (by kernel_rfl) (by kernel_rfl) (by kernel_rfl) (fun _ _ _ h => h) (by rfl) ?_ (by assumption) ?_
 rotate_left
 ·(intro w hSw; (try dsimp only at hSw); go_simp; with_reducible rfl)
 simp only [Act.put, List.setIfInBounds_toArray, List.set_cons_zero, List.set_cons_succ]
 refine held_run (v := ?_) 1 6 rfl rfl (by kernel_rfl) (by kernel_rfl) (by kernel_rfl) (fun _ _ _ h => h) (by rfl) ?_ (by assumption) ?_
 rotate_left
 ·(intro w hSw; (try dsimp only at hSw); go_simp; with_reducible rfl)
 simp only [Act.put, List.setIfInBounds_toArray, List.set_cons_zero, List.set_cons_succ]
 refine held_run (v := ?_) 2 7 rfl rfl (by kernel_rfl) (by kernel_rfl) (by kernel_rfl) (fun _ _ _ h => h) (by rfl) ?_ (by assumption) ?_
 rotate_left
 ·(intro w hSw; (try dsimp only at hSw); go_simp; with_reducible rfl)
 simp only [Act.put, List.setIfInBounds_toArray, List.set_cons_zero, List.set_cons_succ]
 refine held_run (v := ?_) 3 8 rfl rfl (by kernel_rfl) (by kernel_rfl) (by kernel_rfl) (fun _ _ _ h => h) (by rfl) ?_ (by assumption) ?_
 rotate_left
 ·(intro w hSw; (try dsimp only at hSw); go_simp; with_reducible rfl)
 simp only [Act.put, List.setIfInBounds_toArray, List.set_cons_zero, List.set_cons_succ]
 refine held_run (v := ?_) 4 9 rfl rfl (by kernel_rfl) (by kernel_rfl) (by kernel_rfl) (fun _ _ _ h => h) (by rfl) ?_ (by assumption) ?_
 rotate_left
 ·(intro w hSw; (try dsimp only at hSw); go_simp; with_reducible rfl)
 simp only [Act.put, List.setIfInBounds_toArray, List.set_cons_zero, List.set_cons_succ]
 refine wpAnyH_ready (rs := [5]) (by kernel_rfl) (by simp) (AllReadyH.cons (o := _) rfl (fun K hK => ?_) AllReadyH.nil)
 go_simp
 (refine (itoaP_any _ (HT.out.below (HB.out.trans ((Below.refl _ _).drew.mono HB.out.size))) n HNR.out.1 HNR.out.2).mono ?_; rintro e w5 ⟨rfl, hb5'⟩; have hb5 : Below W2.heap.size W2 w5 := (Below.refl _ _).drew.trans (hb5'.mono (by simp)); clear hb5'; obtain ⟨d0, d1, d2, -⟩ := X1.out.later hb5)
 go_wp2_with fail
 refine hK.out _ _ (by (try dsimp only); go_keep) (fun hHeld => ?_)
 clear hK K
 try simp only [Act.put, List.setIfInBounds_toArray, List.set_cons_zero, List.set_cons_succ]
 refine held_run (v := ?_) 6 11 rfl rfl (by kernel_rfl) (by kernel_rfl) (by kernel_rfl) (fun _ _ _ h => h) (by rfl) ?_ (by assumption) ?_
 rotate_left
 ·(intro w hSw; (try dsimp only at hSw); go_simp; with_reducible rfl)
 simp only [Act.put, List.setIfInBounds_toArray, List.set_cons_zero, List.set_cons_succ]
 refine wpAnyH_ready (rs := [7]) (by kernel_rfl) (by simp) (AllReadyH.cons (o := _) rfl (fun K hK => ?_) AllReadyH.nil)
 go_simp
 (obtain ⟨ST, hST⟩ : ∃ ST, nm ++ ⟨#[32]⟩ ++ itoS n = ST := ⟨_, rfl⟩; rw [hST] at HL0; rw [hST]; have HST := hide hST; clear hST; refine (writeS_any W2.heap.size b [] ST _ (HBL.out.later hb5) HL0.out).mono ?_; rintro e w7 ⟨rfl, hB7, hbut⟩; have hX7 := (X1.out.later hb5).but hbut HB1.out X1.out.2.2.2; obtain ⟨k0, k1, k2, -⟩ := id hX7)
 go_wp2_with fail
 refine hK.out _ _ (by (try dsimp only); go_keep) (fun hHeld => ?_)
 clear hK K
 try simp only [Act.put, List.setIfInBounds_toArray, List.set_cons_zero, List.set_cons_succ]
 refine wpAnyH_done (by kernel_rfl) ?_ _
 have X7 := hide hX7
 have HB5 := hide (HB.out.trans (hb5.mono HB.out.size))
 have HB7 := hide (hbut.below HB5.out HB2.out HC2.out)
 rw [List.nil_append, ← HST.out, bapp, bapp] at hB7
 have hhd : (nm.data.toList ++ (⟨#[32]⟩ : ByteArray).data.toList ++ (itoS n).data.toList) = headT ⟨nm, n, gens⟩ := by unfold headT itoS; simp
 rw [hhd] at hB7
 have HBK := hide hB7
 have HHL : Hid ((headT ⟨nm, n, gens⟩).length ≤ 13) := by
  have h := HSZ.out
  have e : (headT ⟨nm, n, gens⟩).length = (nm ++ ⟨#[32]⟩ ++ itoS n).size := by
   rw [← hhd, ← bapp, ← bapp]
   simp
   show _ = nm.size + 1 + (itoS n).size
   omega
  show _ ≤ _
  rw [e]
  exact h
 have HCC := hide X1.out.2.2.2
 clear hB7 hbut hX7 hHeld k0 k1 k2 d0 d1 d2 c0 c1 c2 hb5 HB HB5 X1 HBL HSZ hsz1 hit hhd hn8 hq1 hq2
 obtain ⟨k0, k1, k2, -⟩ := X7.out
 go_wp2_with fail
 clear k0 k1 k2
 go_loopw [16] (fun i wr => ∃ k : Nat, k ≤ gl ∧ i = .int .i64 k ∧ Hid (Bld W2.heap.size b (headT ⟨nm, n, gens⟩ ++ (gens.take k).flatMap genT) wr) ∧ Hid (ThreeV wr w.heap.size (.string nm) (.int .i64 n) (.slice go gl gc)) ∧ Hid (Below w.heap.size w wr) ∧ Hid ((headT ⟨nm, n, gens⟩ ++ (gens.take k).flatMap genT).length ≤ 13 + 22 * k)) (fun i _ => gl - (intOf i).toNat)
 case atStart => exact ⟨0, Nat.zero_le _, rfl, by simpa using HBK, X7, HB7, hide (by simpa using HHL.out)⟩
 case round =>
  clear HBK X7 HB7
  obtain ⟨k, hk, rfl, HBK, X1, HB, HLE⟩ := hrel
  have hg10 : gl ≤ 10 := by have h1 := HOK.out.few; have h2 := HGL.out; dsimp only at h1; omega
  by_cases hkl : k < gl
  ·have HKL : Hid (k < gens.length) := by show _ < _; have := HGL.out; omega
   obtain ⟨go', gc', e, -, hh⟩ := (NcIn.below HQ.out HB.out).1
   simp only [Value.slice.injEq] at e
   obtain ⟨rfl, -, rfl⟩ := e
   obtain ⟨vb, voff, rfl, hlt, hc⟩ := hh (by have := HKL.out; show 0 < gens.length; omega)
   obtain ⟨u, hu, hr⟩ := hc k gens[k] (List.getElem?_eq_getElem HKL.out)
   have hgk := HOK.out.gens gens[k] (List.getElem_mem HKL.out)
   have hnn := HOK.out.n
   dsimp only at hgk hnn
   have HNL : Hid ((numT gens[k]).length ≤ 20 ∧ 0 < gens[k].length) := by
    rcases numT_len hgk (by omega) with h | h
    ·exact h
    ·omega
   have HGLN : Hid (gens[k].length ≤ 4) := by have := (genF_ok.1 hgk).1; show _ ≤ _; omega
   have HTK : Hid ((gens.take (k + 1)).flatMap genT = (gens.take k).flatMap genT ++ genT gens[k]) := by
    show _ = _
    rw [List.take_succ_eq_append_getElem HKL.out, List.flatMap_append, List.flatMap_cons, List.flatMap_nil, List.append_nil]
    rfl
   have HR := hide hr
   obtain ⟨uo, uc, rfl⟩ := hr.form
   clear hh hc hr hgk hnn
   generalize gens[k] = g at *
   obtain ⟨k0, k1, k2, -⟩ := X1.out
   obtain ⟨gln, hgln⟩ : ∃ l, g.length = l := ⟨_, rfl⟩
   rw [hgln] at hu HR
   clear hgln
   go_wp2_with fail
   clear k0 k1 k2 hu
   refine (numbers_any wr _ g (HT.out.below HB.out) HR.out HNL.out.2 (by have := HGLN.out; omega) (by have := HNL.out.1; omega)).mono ?_
   rintro e w5 ⟨rfl, hb5⟩
   have hns : (⟨(numT g).toArray⟩ : ByteArray).size ≤ 20 := by have := HNL.out.1; show (numT g).toArray.size ≤ 20; simpa using this
   have hns2 : (⟨#[59, 32]⟩ ++ ⟨(numT g).toArray⟩ : ByteArray).size ≤ 22 := by rw [ByteArray.size_append]; show 2 + _ ≤ 22; omega
   have hq3 : ¬ 9223372036854775807 < 2 + (⟨(numT g).toArray⟩ : ByteArray).size := by omega
   have hq4 : ¬ 9223372036854775807 < 2 + (numT g).length := by have := HNL.out.1; omega
   have X5 := hide (X1.out.later hb5); have HB5 := hide (HB.out.trans (hb5.mono HB.out.size)); have HBK5 := hide (HBK.out.later hb5)
   clear X1 HB HBK hb5 HR
   go_wp2_with fail
   obtain ⟨ST, hST⟩ : ∃ ST, (⟨#[59, 32]⟩ ++ ⟨(numT g).toArray⟩ : ByteArray) = ST := ⟨_, rfl⟩
   rw [hST] at hns2
   rw [hST]
   have HN2 := hide hns2; have HST := hide hST
   clear hST
   refine (writeS_any W2.heap.size b _ ST _ HBK5.out (Nat.le_trans (Nat.add_le_add HLE.out HN2.out) (by omega))).mono ?_
   rintro e w7 ⟨rfl, hB7, hbut⟩
   have X7 := hide (X5.out.but hbut HB1.out HCC.out)
   have HB7 := hide (hbut.below HB5.out HB2.out HC2.out)
   have e2 : (⟨#[59, 32]⟩ ++ ⟨(numT g).toArray⟩ : ByteArray).data.toList = genT g := by unfold genT; simp
   rw [← HST.out, e2, List.append_assoc, ← HTK.out] at hB7
   have HB8 := hide hB7
   have HLE2 : Hid ((headT ⟨nm, n, gens⟩ ++ (gens.take (k + 1)).flatMap genT).length ≤ 13 + 22 * (k + 1)) := by
    have h1 := HLE.out; have h2 := HNL.out.1
    show _ ≤ _
    have hgt : (genT g).length = 2 + (numT g).length := by unfold genT; rw [List.length_append]; rfl
    rw [HTK.out, ← List.append_assoc, List.length_append, hgt]
    omega
   clear hB7 hbut hns hns2 HN2 e2 X5 HB5 HBK5 hq3 hq4
   go_wp2
   go_roundw
   case rel => exact ⟨k + 1, by omega, by go_num, HB8, X7, HB7, HLE2⟩
   case measure => simp [intOf]; omega
  ·obtain rfl : k = gl := by omega
   have hbk := HBK.out
   rw [HGL.out, List.take_length] at hbk
   have HBK2 := hide hbk
   have hle := HLE.out
   rw [HGL.out, List.take_length] at hle
   have HLE2 := hide hle
   clear hbk HBK HLE hle
   go_wp2_with fail
   refine (stringS_any W2.heap.size b _ wr HBK2.out).mono ?_
   rintro e w9 ⟨rfl, hb9⟩
   have HB9 := hide (HB.out.trans (hb9.mono HB2.out))
   have HLT : Hid (lineT ⟨nm, n, gens⟩ = headT ⟨nm, n, gens⟩ ++ gens.flatMap genT ++ [10]) := rfl
   generalize headT ⟨nm, n, gens⟩ ++ gens.flatMap genT = L at *
   have hLs : (⟨L.toArray⟩ : ByteArray).size ≤ 1000 := by
    have h := HLE2.out; have := HOK.out.few; have h3 := HGL.out
    show L.toArray.size ≤ 1000
    rw [List.size_toArray]
    dsimp only at this
    omega
   have hq5 : ¬ 9223372036854775807 < (⟨L.toArray⟩ : ByteArray).size + 1 := by omega
   have hq6 : ¬ 9223372036854775807 < L.length + 1 := by
    have h : L.toArray.size ≤ 1000 := hLs
    rw [List.size_toArray] at h
    omega
   go_wp2
   go_ret
   refine ⟨?_, HB9.out⟩
   rw [HLT.out]
   congr 2

end Go.Proofs.YtnhbfehfipafoaaGreatDoor

/- pack.Text: a catalog's text. -/
namespace Go.Proofs.YtnhbfehfipafoaaGreatDoor
open Go.RowKit

def textC (cs : List Nmd) : List UInt8 := cs.flatMap lineT

theorem flat_len : ∀ gs : List (List Int), (∀ g ∈ gs, (genT g).length ≤ 22) → (gs.flatMap genT).length ≤ 22 * gs.length
 | [], _ => by simp
 | g :: t, h => by
  have h1 := h g (by simp)
  have h2 := flat_len t (fun x hx => h x (List.mem_cons_of_mem _ hx))
  rw [List.flatMap_cons, List.length_append, List.length_cons]
  omega

theorem lineT_len {x : Nmd} (h : NmOk x) : (lineT x).length ≤ 234 := by
 have h1 := h.few
 have hn := h.n
 have h2 : (x.gens.flatMap genT).length ≤ 22 * x.gens.length := flat_len x.gens (fun g hg => by
  have hgt : (genT g).length = 2 + (numT g).length := by unfold genT; rw [List.length_append]; rfl
  rcases numT_len (h.gens g hg) (by omega) with h3 | h3
  ·omega
  ·omega)
 have h3 : x.name.size ≤ 8 := (of_decide_eq_true h.name).2.1
 have h4 := (ito_len (z := x.n) (by omega) (by omega)).2
 unfold lineT headT
 simp only [List.length_append, List.length_cons, List.length_nil]
 have h5 : x.name.data.toList.length = x.name.size := by simp
 omega

theorem RowS.but {b : Nat} {W W' : World} {v : Value} {ks : List Int} (h : RowS W v ks) (hb : ButB W.heap.size b W W') (hne : ∀ a l c, v = .slice (some a) l c → a.block ≠ b) : RowS W' v ks := by
 obtain ⟨ao, cap, e, h1, hk, h2⟩ := h
 refine ⟨ao, cap, e, h1, hk, fun h0 => ?_⟩
 obtain ⟨vb, off, e', hlt, hc⟩ := h2 h0
 subst e'
 exact ⟨vb, off, rfl, Nat.lt_of_lt_of_le hlt hb.size, fun i hi => (hb.cell hlt (hne _ _ _ e)).trans (hc i hi)⟩

theorem KinH.but {b : Nat} {W W' : World} {v : Value} (h : KinH W v) (hb : ButB W.heap.size b W W') (hne : ∀ a l c, v = .slice (some a) l c → a.block ≠ b) : KinH W' v := fun p n c e h0 => (h p n c e h0).same (hb.block _ (h p n c e h0).lt (hne _ _ _ e))

theorem NcFresh.but {base b : Nat} {W W' : World} {q : Nc} (h : NcFresh base W q) (hb : ButB W.heap.size b W W') (hlt : b < base) : NcIn W' q := by
 obtain ⟨ps, P, h1, h2, h3, h4, h5, h6⟩ := h
 have hs : SeqV W' (.slice q.o q.l q.c) q.l (ps.map (·.1)) := by
  obtain ⟨ao, cap, e, hn, hh⟩ := h5.1
  refine ⟨ao, cap, e, hn, fun h0 => ?_⟩
  obtain ⟨vb, off, e', hv, hc⟩ := hh h0
  have hne : vb ≠ b := by
   simp only [Value.slice.injEq] at e
   rw [e', h1] at e
   simp only [Option.some.injEq, Addr.mk.injEq, and_true] at e
   have := e.1.1
   omega
  exact ⟨vb, off, e', Nat.lt_of_lt_of_le hv hb.size, fun j u hu => (hb.cell hv hne).trans (hc j u hu)⟩
 have := rowsS_of_seq (v := .slice q.o q.l q.c) (by rw [h4]; exact hs) (fun g hg => ⟨RowS.but (h6 g hg).1.1 hb (fun a l c e => by have := (h6 g hg).2 a l c e; omega), KinH.but (h6 g hg).1.2 hb (fun a l c e => by have := (h6 g hg).2 a l c e; omega)⟩) (KinH.but h5.2 hb (fun a l c e => by simp only [Value.slice.injEq] at e; rw [h1] at e; simp only [Option.some.injEq] at e; rw [← e.1]; show P ≠ b; omega))
 rwa [h3] at this

set_option linter.unusedSimpArgs false in
set_option maxRecDepth 100000 in
set_option maxHeartbeats 1600000 in
theorem textP_any (w : World) (v : Value) (qs : List Nc) (h : CatV w v qs) (hok : CatOk (qs.map (·.x))) (ht : TabP w) : Calls Tryz.prog 65 #[v] w fun e w' => e = .returned (.string ⟨(textC (qs.map (·.x))).toArray⟩) ∧ Below w.heap.size w w' := by
 obtain ⟨u, rfl, hu⟩ := h
 obtain ⟨ao, cap, rfl, hcap, -⟩ := id hu
 have hq8 : qs.length ≤ 8 := by have := hok.few; rwa [List.length_map] at this
 have HU := hide hu; have HOK := hide hok; have HT := hide ht; have HQ8 := hide hq8
 have hb1 := alloc_below w (.cells #[.slice ao qs.length cap] 53)
 have hb2 := alloc_below (w.alloc (.cells #[.slice ao qs.length cap] 53)) (.cells #[.pointer none, .slice none 0 0] 149)
 have X1 := hide ((One.new w (.slice ao qs.length cap) 53).later hb2)
 have HB := hide (hb1.trans (hb2.mono hb1.size))
 have HNEW : Hid (∀ W', Below ((w.alloc (.cells #[.slice ao qs.length cap] 53)).alloc (.cells #[.pointer none, .slice none 0 0] 149)).heap.size ((w.alloc (.cells #[.slice ao qs.length cap] 53)).alloc (.cells #[.pointer none, .slice none 0 0] 149)) W' → Bld W'.heap.size (w.heap.size + 1) [] W') := fun W' hb => by
  have := Bld.new (w.alloc (.cells #[.slice ao qs.length cap] 53)) W' hb
  have e : (w.alloc (.cells #[.slice ao qs.length cap] 53)).heap.size = w.heap.size + 1 := by simp
  rwa [e] at this
 have HW2 : Hid (((w.alloc (.cells #[.slice ao qs.length cap] 53)).alloc (.cells #[.pointer none, .slice none 0 0] 149)).heap.size = w.heap.size + 2) := by show _ = _; simp
 obtain ⟨c0, -, -⟩ := X1.out
 clear hb1 hb2 hu hok ht hcap hq8
 go_enter Tryz.func65, Tryz.ntmps65
 go_wp2_with fail
 generalize (w.alloc (.cells #[.slice ao qs.length cap] 53)).alloc (.cells #[.pointer none, .slice none 0 0] 149) = W2 at *
 refine (lattices_any3 W2 _ qs ⟨_, rfl, HU.out.below HB.out⟩ (by have := HQ8.out; omega) HOK.out.all).mono ?_
 rintro e W3 ⟨P, n, rs, rfl, hP, hf, hx⟩
 have HBL := hide (HNEW.out W3 hf.below); have HB3 := hide (HB.out.trans (hf.below.mono HB.out.size))
 have hnl : rs.length = n := hf.len
 have hrq : n ≤ 8 := by have h1 := congrArg List.length hx; have h2 := HQ8.out; simp only [List.length_map] at h1; omega
 have HF := hide hf; have HX := hide hx; have HNL := hide hnl; have HN8 := hide hrq
 have HPB : Hid (w.heap.size + 1 < P) := by have h1 := HW2.out; show _ < _; omega
 obtain ⟨b, hbq⟩ : ∃ b, w.heap.size + 1 = b := ⟨_, rfl⟩
 have HBQ := hide hbq
 rw [hbq]
 rw [hbq] at HBL HPB
 clear c0 X1 HB HNEW HW2 hf hx hP hnl hrq hbq HU
 have HPC : Hid (P < W3.heap.size) := (HF.out.own.lt P rfl).2
 go_wp2_with fail
 go_loopw [10] (fun i wr => ∃ k : Nat, k ≤ n ∧ i = .int .i64 k ∧ Hid (Bld W3.heap.size b (((rs.map (·.x)).take k).flatMap lineT) wr) ∧ Hid (ButB W3.heap.size b W3 wr) ∧ Hid ((((rs.map (·.x)).take k).flatMap lineT).length ≤ 234 * k)) (fun i _ => n - (intOf i).toNat)
 case atStart => exact ⟨0, Nat.zero_le _, rfl, by simpa using HBL, hide (ButB.of (Below.refl _ _)), hide (by simp)⟩
 case round =>
  clear HBL
  obtain ⟨k, hk, rfl, HBK, HBU, HLE⟩ := hrel
  have hn8 := HN8.out
  by_cases hkl : k < n
  ·have HKL : Hid (k < rs.length) := by show _ < _; rw [HNL.out]; exact hkl
   have hcat := HF.out.cat
   rw [← HNL.out] at hcat
   obtain ⟨-, d0, d1, d2, -⟩ := hcat.at k HKL.out
   have hin := (HF.out.ins rs[k] (List.getElem_mem HKL.out)).but HBU.out (by have := HPB.out; omega)
   have hno : NmOk rs[k].x := HOK.out.all _ (by rw [← HX.out]; exact List.mem_map.2 ⟨rs[k], List.getElem_mem HKL.out, rfl⟩)
   have HTK : Hid (((rs.map (·.x)).take (k + 1)).flatMap lineT = ((rs.map (·.x)).take k).flatMap lineT ++ lineT rs[k].x) := by
    show _ = _
    rw [List.take_succ_eq_append_getElem (by rw [List.length_map]; exact HKL.out), List.flatMap_append, List.flatMap_cons, List.flatMap_nil, List.append_nil, List.getElem_map]
    rfl
   have hPb : P ≠ b := by have := HPB.out; omega
   have a0 := (HBU.out.cell HPC.out hPb).trans d0; have a1 := (HBU.out.cell HPC.out hPb).trans d1; have a2 := (HBU.out.cell HPC.out hPb).trans d2
   rw [Nat.zero_add] at a0 a1 a2
   have HIN := hide hin; have HNO := hide hno; have HLL := hide (lineT_len hno)
   clear hcat d0 d1 d2 hin hno hPb
   generalize rs[k] = q at *
   obtain ⟨⟨nm, nn, gens⟩, go, gl, gc⟩ := q
   dsimp only at a0 a1 a2
   have HBW := hide (HBU.out.below HB3.out (by have := HBQ.out; omega) HB3.out.size)
   go_wp2_with fail
   clear a0 a1 a2
   refine (line_any wr ⟨⟨nm, nn, gens⟩, go, gl, gc⟩ HIN.out (HT.out.below HBW.out) HNO.out).mono ?_
   rintro e w5 ⟨rfl, hb5⟩
   obtain ⟨ST, hST⟩ : ∃ ST, (⟨(lineT ⟨nm, nn, gens⟩).toArray⟩ : ByteArray) = ST := ⟨_, rfl⟩
   have HS : Hid (ST.size ≤ 234) := by have h1 := HLL.out; rw [← hST]; show (lineT _).toArray.size ≤ 234; rw [List.size_toArray]; exact h1
   have HSD : Hid (ST.data.toList = lineT ⟨nm, nn, gens⟩) := by show _ = _; rw [← hST]
   dsimp only
   rw [hST]
   have HBK5 := hide (HBK.out.later hb5); have HBU5 := hide (HBU.out.trans (ButB.of (hb5.mono HBK.out.2.1)))
   clear hST hb5 HBK HBU HIN HNO HBW
   go_wp2_with fail
   refine (writeS_any W3.heap.size b _ ST _ HBK5.out (Nat.le_trans (Nat.add_le_add HLE.out HS.out) (by omega))).mono ?_
   rintro e w7 ⟨rfl, hB7, hbut⟩
   have HBU7 := hide (HBU5.out.trans hbut)
   rw [HSD.out, ← HTK.out] at hB7
   have HB7 := hide hB7
   have HLE2 : Hid ((((rs.map (·.x)).take (k + 1)).flatMap lineT).length ≤ 234 * (k + 1)) := by
    have h1 := HLE.out; have h2 := HLL.out
    show _ ≤ _
    rw [HTK.out, List.length_append]
    omega
   clear hB7 hbut HBK5 HBU5 HS HSD HTK HLL
   go_wp2
   go_roundw
   case rel => exact ⟨k + 1, by omega, by go_num, HB7, HBU7, HLE2⟩
   case measure => simp [intOf]; omega
  ·obtain rfl : k = n := by omega
   have hbk := HBK.out
   rw [List.take_of_length_le (by rw [List.length_map, HNL.out]; exact Nat.le_refl _), HX.out] at hbk
   have HBK2 := hide hbk
   have HBW := hide (HBU.out.below HB3.out (by have := HBQ.out; omega) HB3.out.size)
   clear hbk HBK HBU HLE
   go_wp2_with fail
   refine (stringS_any W3.heap.size b _ wr HBK2.out).mono ?_
   rintro e w9 ⟨rfl, hb9⟩
   have HB9 := hide (HBW.out.trans (hb9.mono (by have := HBQ.out; omega)))
   go_wp2
   go_ret
   exact ⟨rfl, HB9.out⟩

end Go.Proofs.YtnhbfehfipafoaaGreatDoor

/- Plain arithmetic of limbs: numbers to the base 4294967296, the lowest first. No Go in it. -/
namespace Go.Proofs.YtnhbfehfipafoaaGreatDoor.Limbs

def lv : List Int → Int
 | [] => 0
 | x :: xs => x + 4294967296 * lv xs

def LB (zs : List Int) : Prop := ∀ i : Nat, 0 ≤ zs.getD i 0 ∧ zs.getD i 0 < 4294967296

def Nrm (zs : List Int) : Prop := zs.length = 0 ∨ zs.getD (zs.length - 1) 0 ≠ 0

def bp : Nat → Int
 | 0 => 1
 | n + 1 => 4294967296 * bp n

theorem LB_nil : LB [] := by intro i; simp
theorem LB_tail {x : Int} {xs : List Int} (h : LB (x :: xs)) : LB xs := fun i => by simpa using h (i + 1)
theorem LB_head {x : Int} {xs : List Int} (h : LB (x :: xs)) : 0 ≤ x ∧ x < 4294967296 := by simpa using h 0
theorem LB_cons {x : Int} {xs : List Int} (hx : 0 ≤ x ∧ x < 4294967296) (h : LB xs) : LB (x :: xs) := by
 intro i
 cases i with
 | zero => simpa using hx
 | succ i => simpa using h i

theorem getD_take (zs : List Int) (n i : Nat) (h : i < n) : (zs.take n).getD i 0 = zs.getD i 0 := by
 rw [List.getD_eq_getElem?_getD, List.getElem?_take, if_pos h, List.getD_eq_getElem?_getD]

end Go.Proofs.YtnhbfehfipafoaaGreatDoor.Limbs

/- Texts put together with one byte between, and cut at it again. No Go in it. -/
namespace Go.Proofs.YtnhbfehfipafoaaGreatDoor
open Go

theorem index_hit (c : UInt8) : ∀ (x r : List UInt8), c ∉ x → Lib.index (x ++ c :: r) [c] = x.length
 | [], r, _ => by simp [Lib.index, List.isPrefixOf]
 | b :: x, r, h => by
  have hb : (c == b) = false := by rw [beq_eq_false_iff_ne]; exact fun e => h (by rw [e]; exact List.mem_cons_self)
  have ih := index_hit c x r fun h' => h (List.mem_cons_of_mem _ h')
  rw [List.cons_append, Lib.index, ih]
  simp only [List.isPrefixOf, hb, Bool.false_and, Bool.false_eq_true, if_false]
  rw [if_neg (by rw [beq_iff_eq]; omega)]
  simp

theorem index_miss (c : UInt8) : ∀ x : List UInt8, c ∉ x → Lib.index x [c] = -1
 | [], _ => by simp [Lib.index]
 | b :: x, h => by
  have hb : (c == b) = false := by rw [beq_eq_false_iff_ne]; exact fun e => h (by rw [e]; exact List.mem_cons_self)
  have ih := index_miss c x fun h' => h (List.mem_cons_of_mem _ h')
  rw [Lib.index, ih]
  simp [List.isPrefixOf, hb]

theorem join_two (x y : List UInt8) (r : List (List UInt8)) (c : UInt8) : Lib.join (x :: y :: r) [c] = x ++ c :: Lib.join (y :: r) [c] := by
 rw [Lib.join_cons, Lib.join_cons]
 simp [Lib.joinTail]

end Go.Proofs.YtnhbfehfipafoaaGreatDoor
