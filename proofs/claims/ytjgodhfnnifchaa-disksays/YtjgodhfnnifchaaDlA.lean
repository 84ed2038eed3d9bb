/- The other disk: a new one. -/
import Derived.Test.YtjgodhfnnifchaaDkZ
namespace Go.Proofs.Ytjgodhfnnifchaa
open Go.RowKit

theorem Try.infoStr : (Try.prog.info? 9).map (fun i => (i.zero, i.size, i.bytes)) = some (some (.string ⟨#[]⟩), 1, 16) := by kernel_rfl

theorem run_buildStr (w : World) (l : List UInt8) : (Instr.buildSlice 50 1 #[(0, strC l)]).run Try.prog w = .ok (.slice (some ⟨w.heap.size, 0, none⟩) 1 1) (w.alloc (.cells [strC l].toArray 9)) := by
  obtain ⟨i0, hi, hz0, hz1, hz2⟩ := info_parts Try.infoStr
  have hu : Try.prog.underlying 50 = some (.slice 9) := by kernel_rfl
  simp only [Instr.buildSlice, run_underlying hu, sizeOf, typeInfo, zeroValue, Sem.run_bind, Sem.run_pure, Result.andThen_ok, Nat.one_mul]
  have hZ : ∀ (Z : Array Value) (v : Value), Z.size = 1 → Z.setIfInBounds 0 v = #[v] := fun Z v h => by
    apply Array.ext
    · simp [h]
    · intro i h1 h2
      have : i = 0 := by simp at h2; omega
      subst this
      simp
  simp [hi, hz0, hz1, Instr.fill, strC, Value.cells, newRow]
  rw [hZ _ _ (by simp)]

def strs0 (j : Nat) : List Value := (List.replicate j (noughtB 64)).map strC

theorem strs0_succ (j : Nat) : strs0 j ++ [strC (noughtB 64)] = strs0 (j + 1) := by
  unfold strs0
  rw [List.replicate_succ', List.map_append]; rfl

/-- While sectors are put to a new disk: so many to what is kept, so many to what is now. -/
structure NewRI (w W : World) (j k : Nat) (kv nv : Value) : Prop where
  head : W.heap[w.heap.size]? = some (.cells #[kv, nv, .slice none 0 0, .int .i64 (-1), .bool false] 53 (0, 0))
  ownK : W.ownsRow w.heap.size 9 1 kv j (strs0 j)
  ownN : W.ownsRow w.heap.size 9 1 nv k (strs0 k)
  apart : ∀ g, kv.ownBlock = some g → nv.ownBlock ≠ some g
  below : Below w.heap.size w W

theorem NewRI.disk {w W : World} {j : Nat} {kv nv : Value} (h : NewRI w W j j kv nv) : RefO W w.heap.size w.heap.size (newR j) :=
  ⟨kv, nv, _, Nat.le_refl _, h.head, by simp only [newR, List.length_replicate]; exact h.ownK, by simp only [newR, List.length_replicate]; exact h.ownN, World.ownsRow_nil _ _ _ _, h.apart, by simp [newR]⟩

theorem awayRow {W : World} {b base : Nat} {cs : Array Value} {t e : TypeId} (hb : W.heap[b]? = some (.cells cs t (0, 0))) (ht : t ≠ e) {size n : Nat} {v : Value} {xs : List Value} (h : W.ownsRow base e size v n xs) : some b ≠ v.ownBlock := fun he => by
  rcases h.2 with ⟨rfl, -⟩ | ⟨g, cap, cur, rfl, -, hh, -⟩
  · cases he
  · simp only [Value.ownBlock, Option.some.injEq] at he
    subst he
    rw [hb] at hh
    simp only [Option.some.injEq, Obj.cells.injEq] at hh
    exact ht hh.2.1

theorem NewRI.later {w W W' : World} {j k : Nat} {kv nv : Value} (h : NewRI w W j k kv nv) (hb : Below W.heap.size W W') : NewRI w W' j k kv nv :=
  ⟨(hb.block _ (heap_lt h.head)).trans h.head, ownsLater h.ownK hb, ownsLater h.ownN hb, h.apart, ⟨hb.os.trans h.below.os, hb.tape.trans h.below.tape, hb.output.trans h.below.output, Nat.le_trans h.below.size hb.size, fun b hlt => (hb.block b (Nat.lt_of_lt_of_le hlt h.below.size)).trans (h.below.block b hlt)⟩⟩

theorem ownsGrown {W W' : World} {ob : Option Nat} {base : Nat} {e : TypeId} {size : Nat} {v : Value} {n : Nat} {xs : List Value} (h : W.ownsRow base e size v n xs) (hg : W.grownBy W' ob) (hne : ∀ b, v.ownBlock = some b → some b ≠ ob) : W'.ownsRow base e size v n xs := by
  refine ⟨h.1, ?_⟩
  rcases h.2 with hn | ⟨g, cap, cur, rfl, hbg, hh, rest⟩
  · exact .inl hn
  · exact .inr ⟨g, cap, cur, rfl, hbg, (hg.block g (heap_lt hh) (hne g rfl)).trans hh, rest⟩

theorem NewRI.growK {w W W' : World} {j k : Nat} {kv nv : Value} (h : NewRI w W j k kv nv) (kv' : Value) (hg : W.grownBy W' kv.ownBlock) (ho : W'.ownsRow w.heap.size 9 1 kv' (j + 1) (strs0 (j + 1))) (ha : ∀ b, kv'.ownBlock = some b → kv.ownBlock = some b ∨ W.heap.size ≤ b) : NewRI w (W'.setCell ⟨w.heap.size, 0, none⟩ kv') (j + 1) k kv' nv := by
  have hh := (hg.block w.heap.size (heap_lt h.head) (awayRow h.head (by decide) h.ownK)).trans h.head
  have hn := ownsGrown h.ownN hg (fun b hb e => h.apart b e.symm hb)
  refine ⟨?_, ownsOther ho hh (by decide) _ _, ownsOther hn hh (by decide) _ _, fun b hb hb2 => ?_, ?_⟩
  · rw [heap_setCell_same W' _ 0 _ _ _ hh]; rfl
  · rcases ha b hb with e | e
    · exact h.apart b e hb2
    · have := (h.ownN.lt b hb2).2
      omega
  · exact (h.below.grown hg h.below.size (fun b hb => (h.ownK.lt b hb).1)).setCell (p := ⟨w.heap.size, 0, none⟩) (Nat.le_refl _) _

theorem NewRI.growN {w W W' : World} {j k : Nat} {kv nv : Value} (h : NewRI w W j k kv nv) (nv' : Value) (hg : W.grownBy W' nv.ownBlock) (ho : W'.ownsRow w.heap.size 9 1 nv' (k + 1) (strs0 (k + 1))) (ha : ∀ b, nv'.ownBlock = some b → nv.ownBlock = some b ∨ W.heap.size ≤ b) : NewRI w (W'.setCell ⟨w.heap.size, 1, none⟩ nv') j (k + 1) kv nv' := by
  have hh := (hg.block w.heap.size (heap_lt h.head) (awayRow h.head (by decide) h.ownN)).trans h.head
  have hn := ownsGrown h.ownK hg (fun b hb e => h.apart b hb e.symm)
  refine ⟨?_, ownsOther hn hh (by decide) _ _, ownsOther ho hh (by decide) _ _, fun b hb hb2 => ?_, ?_⟩
  · rw [heap_setCell_same W' _ 1 _ _ _ hh]; rfl
  · rcases ha b hb2 with e | e
    · exact h.apart b hb e
    · have := (h.ownK.lt b hb).2
      omega
  · exact (h.below.grown hg h.below.size (fun b hb => (h.ownN.lt b hb).1)).setCell (p := ⟨w.heap.size, 1, none⟩) (Nat.le_refl _) _

set_option linter.unusedSimpArgs false in
set_option maxRecDepth 100000 in
set_option maxHeartbeats 1600000 in
theorem newR_ok (w : World) (n : Nat) (h1 : 1 ≤ n) (h2 : n ≤ 200) :
    Calls Try.prog 10 #[.int .i64 (n : Int)] w fun e w' => e = .returned (.tuple #[.pointer (some ⟨w.heap.size, 0, none⟩), .int .i64 0]) ∧ RefO w' w.heap.size w.heap.size (newR n) ∧ Below w.heap.size w w' := by
  obtain ⟨i0, hi, hz0, hz1, hz2⟩ := info_parts Try.infoStr
  have g1 : decide ((n : Int) < 1) = false := decide_eq_false (by omega)
  have g2 : decide (200 < (n : Int)) = false := decide_eq_false (by omega)
  have HS : Hid (NewRI w (w.alloc (.cells #[.slice none 0 0, .slice none 0 0, .slice none 0 0, .int .i64 (-1), .bool false] 53)) 0 0 (.slice none 0 0) (.slice none 0 0)) := ⟨heap_alloc_new w _, World.ownsRow_nil _ _ _ _, World.ownsRow_nil _ _ _ _, fun _ h => (by cases h), (Below.refl _ _).alloc (Nat.le_refl _) _⟩
  go_enter Try.func10, Try.ntmps10
  go_wp2
  clear g1 g2
  go_loopw [5] (fun x wr => ∃ (j : Nat) (kv nv : Value), j ≤ n ∧ x = .int .i64 j ∧ Hid (NewRI w wr j j kv nv)) (fun x _ => n - (intOf x).toNat)
  case atStart => exact ⟨0, _, _, Nat.zero_le _, rfl, HS⟩
  case round =>
    clear HS
    obtain ⟨j, kv, nv, hj, rfl, HI⟩ := hrel
    by_cases hjl : j < n
    · have hlt : decide ((j : Int) < (n : Int)) = true := decide_eq_true (by omega)
--@round
      have ck : wr.drew.cell? ⟨w.heap.size, 0, none⟩ = some kv := by rw [cell_of_row wr.drew _ 0 _ _ _ HI.out.head]; rfl
      have HIk := hide HI.out
      clear HI
      go_wp2_with fail
      refine upto_start (S := (fun w' => w'.cell? ⟨w.heap.size, 0, none⟩ = some kv)) (k := 10) (by kernel_rfl) (by exact ck) (fun hHeld => ?_)
      refine upto_run (v := ?_) 0 19 [10] rfl rfl (by kernel_rfl) (by kernel_rfl) (by kernel_rfl) (by kernel_rfl) (by kernel_rfl) (fun _ _ _ h => h) (by rfl) ?_ (by assumption) ?_
      rotate_left
      · (intro w hSw; (try dsimp only at hSw); go_simp; with_reducible rfl)
      simp only [Act.put, List.setIfInBounds_toArray, List.set_cons_zero, List.set_cons_succ]
      refine upto_run (v := ?_) 1 20 [10] rfl rfl (by kernel_rfl) (by kernel_rfl) (by kernel_rfl) (by kernel_rfl) (by kernel_rfl) (fun _ _ _ h => h) (by rfl) ?_ (by assumption) ?_
      rotate_left
      · (intro w hSw; (try dsimp only at hSw); go_simp; with_reducible rfl)
      simp only [Act.put, List.setIfInBounds_toArray, List.set_cons_zero, List.set_cons_succ]
      refine upto_run (v := ?_) 2 21 [10] rfl rfl (by kernel_rfl) (by kernel_rfl) (by kernel_rfl) (by kernel_rfl) (by kernel_rfl) (fun _ _ _ h => h) (by rfl) ?_ (by assumption) ?_
      rotate_left
      · (intro w hSw; (try dsimp only at hSw); go_simp; with_reducible rfl)
      simp only [Act.put, List.setIfInBounds_toArray, List.set_cons_zero, List.set_cons_succ]
      refine upto_run (v := ?_) 3 22 [10] rfl rfl (by kernel_rfl) (by kernel_rfl) (by kernel_rfl) (by kernel_rfl) (by kernel_rfl) (fun _ _ _ h => h) (by rfl) ?_ (by assumption) ?_
      rotate_left
      · (intro w hSw; (try dsimp only at hSw); go_simp; with_reducible rfl)
      simp only [Act.put, List.setIfInBounds_toArray, List.set_cons_zero, List.set_cons_succ]
      refine upto_run (v := ?_) 4 23 [10] rfl rfl (by kernel_rfl) (by kernel_rfl) (by kernel_rfl) (by kernel_rfl) (by kernel_rfl) (fun _ _ _ h => h) (by rfl) ?_ (by assumption) ?_
      rotate_left
      · (intro w hSw; (try dsimp only at hSw); go_simp; with_reducible rfl)
      simp only [Act.put, List.setIfInBounds_toArray, List.set_cons_zero, List.set_cons_succ]
      refine upto_one 5 (by kernel_rfl) rfl (fun K hK => ?_)
      go_simp
      refine (noughts_ok _ 64 (by decide)).mono ?_
      rintro e xk ⟨rfl, hb⟩
      have HXk := hide (HIk.out.later ((Below.refl _ _).drew.trans hb))
      clear hb HIk
      have dk : xk.cell? ⟨w.heap.size, 0, none⟩ = some kv := by rw [cell_of_row xk _ 0 _ _ _ HXk.out.head]; rfl
      go_wp2_with fail
      refine hK.out _ _ (fun _ => dk) ?_
      clear hK K hHeld
      try simp only [Act.put, List.setIfInBounds_toArray, List.set_cons_zero, List.set_cons_succ]
      have HBS := hide (run_buildStr xk (noughtB 64))
      refine upto_one 6 (by kernel_rfl) rfl (fun K hK => ?_)
      refine step_val rfl 25 rfl (.slice (some ⟨xk.heap.size, 0, none⟩) 1 1) (xk.alloc (.cells [strC (noughtB 64)].toArray 9)) (by have hq := HBS.out; simp [execOp, Act.eval, hq]) ?_
      have HYk := hide (HXk.out.later ((Below.refl xk.heap.size xk).alloc (Nat.le_refl _) (.cells [strC (noughtB 64)].toArray 9)))
      have fk : (xk.alloc (.cells [strC (noughtB 64)].toArray 9)).cell? ⟨w.heap.size, 0, none⟩ = some kv := by rw [cell_of_row _ _ 0 _ _ _ HYk.out.head]; rfl
      refine hK.out _ _ (fun _ => fk) ?_
      clear hK K HBS
      simp only [Act.put, List.setIfInBounds_toArray, List.set_cons_zero, List.set_cons_succ]
      have HNEW : Hid (∀ k u, [strC (noughtB 64)][k]? = some u → (xk.alloc (.cells [strC (noughtB 64)].toArray 9)).cell? ((⟨xk.heap.size, 0, none⟩ : Addr).add k) = some u) := World.news_of_block (heap_alloc_new xk _)
      have hls : w.heap.size ≤ (xk.alloc (.cells [strC (noughtB 64)].toArray 9)).heap.size := HYk.out.below.size
      refine upto_one 7 (by kernel_rfl) rfl (fun K hK => ?_)
      refine step_append_lies _ rfl (.tmp 23) (.tmp 25) 50 rfl w.heap.size 9 i0 (.string ⟨#[]⟩) 1 16 (by kernel_rfl) hi hz0 hz1 hz2 rfl (by decide) kv j (strs0 j) rfl HYk.out.ownK ⟨xk.heap.size, 0, none⟩ 1 1 [strC (noughtB 64)] rfl rfl HNEW.out (by simp [strC, Value.oneCell']) (by decide) (by unfold maxLen; omega) (by omega) hls (xk.heap.size + 1) (by simp) ?_
      intro gk capk yk hown hgrow hat hlt
      rw [strs0_succ] at hown
      have HNk := hide (HYk.out.growK (.slice (some ⟨gk, 0, none⟩) (j + 1) capk) hgrow hown (fun b hb => by
        simp only [Value.ownBlock, Option.some.injEq] at hb
        subst hb
        rcases hat with h | h
        · exact .inl h
        · exact .inr (by rw [h]; simp)))
      have hh := (hgrow.block w.heap.size (heap_lt HYk.out.head) (awayRow HYk.out.head (by decide) HYk.out.ownK)).trans HYk.out.head
      have kk : yk.cell? ⟨w.heap.size, 0, none⟩ = some kv := by rw [cell_of_row _ _ 0 _ _ _ hh]; rfl
      have lk : yk.frozen? ⟨w.heap.size, 0, none⟩ = false := by simp [World.frozen?, hh]
      clear hown hgrow hat hlt hh HNEW hls
      clear HXk HYk
      refine hK.out _ _ (fun _ => kk) ?_
      clear hK K
      simp only [Act.put, List.setIfInBounds_toArray, List.set_cons_zero, List.set_cons_succ]
      have hHeld : (fun w' => w'.cell? ⟨w.heap.size, 0, none⟩ = some kv) yk := kk
      refine upto_run (v := ?_) 8 27 [9, 10] rfl rfl (by kernel_rfl) (by kernel_rfl) (by kernel_rfl) (by kernel_rfl) (by kernel_rfl) (fun _ _ _ h => h) (by rfl) ?_ (by assumption) ?_
      rotate_left
      · (intro w hSw; (try dsimp only at hSw); go_simp; with_reducible rfl)
      simp only [Act.put, List.setIfInBounds_toArray, List.set_cons_zero, List.set_cons_succ]
      refine upto_run (v := ?_) 9 28 [10] rfl rfl (by kernel_rfl) (by kernel_rfl) (by kernel_rfl) (by kernel_rfl) (by kernel_rfl) (fun _ _ _ h => h) (by rfl) ?_ (by assumption) ?_
      rotate_left
      · (intro w hSw; (try dsimp only at hSw); go_simp; with_reducible rfl)
      simp only [Act.put, List.setIfInBounds_toArray, List.set_cons_zero, List.set_cons_succ]
      refine upto_one 10 (by kernel_rfl) rfl (fun K hK => ?_)
      go_simp
      refine hK.out _ _ (fun h => absurd h (by decide)) ?_
      clear hK K
      try simp only [Act.put, List.setIfInBounds_toArray, List.set_cons_zero, List.set_cons_succ]
      refine upto_done (by kernel_rfl) ?_
      clear hHeld kk lk ck dk fk
      have HIn := hide HNk.out
      have cn : (yk.setCell ⟨w.heap.size, 0, none⟩ (.slice (some ⟨gk, 0, none⟩) (j + 1) capk)).drew.cell? ⟨w.heap.size, 1, none⟩ = some nv := by rw [cell_of_row (yk.setCell ⟨w.heap.size, 0, none⟩ (.slice (some ⟨gk, 0, none⟩) (j + 1) capk)).drew _ 1 _ _ _ HNk.out.head]; rfl
      clear HNk
      go_wp2_with fail
      refine upto_start (S := (fun w' => w'.cell? ⟨w.heap.size, 1, none⟩ = some nv)) (k := 10) (by kernel_rfl) (by exact cn) (fun hHeld => ?_)
      refine upto_run (v := ?_) 0 29 [10] rfl rfl (by kernel_rfl) (by kernel_rfl) (by kernel_rfl) (by kernel_rfl) (by kernel_rfl) (fun _ _ _ h => h) (by rfl) ?_ (by assumption) ?_
      rotate_left
      · (intro w hSw; (try dsimp only at hSw); go_simp; with_reducible rfl)
      simp only [Act.put, List.setIfInBounds_toArray, List.set_cons_zero, List.set_cons_succ]
      refine upto_run (v := ?_) 1 30 [10] rfl rfl (by kernel_rfl) (by kernel_rfl) (by kernel_rfl) (by kernel_rfl) (by kernel_rfl) (fun _ _ _ h => h) (by rfl) ?_ (by assumption) ?_
      rotate_left
      · (intro w hSw; (try dsimp only at hSw); go_simp; with_reducible rfl)
      simp only [Act.put, List.setIfInBounds_toArray, List.set_cons_zero, List.set_cons_succ]
      refine upto_run (v := ?_) 2 31 [10] rfl rfl (by kernel_rfl) (by kernel_rfl) (by kernel_rfl) (by kernel_rfl) (by kernel_rfl) (fun _ _ _ h => h) (by rfl) ?_ (by assumption) ?_
      rotate_left
      · (intro w hSw; (try dsimp only at hSw); go_simp; with_reducible rfl)
      simp only [Act.put, List.setIfInBounds_toArray, List.set_cons_zero, List.set_cons_succ]
      refine upto_run (v := ?_) 3 32 [10] rfl rfl (by kernel_rfl) (by kernel_rfl) (by kernel_rfl) (by kernel_rfl) (by kernel_rfl) (fun _ _ _ h => h) (by rfl) ?_ (by assumption) ?_
      rotate_left
      · (intro w hSw; (try dsimp only at hSw); go_simp; with_reducible rfl)
      simp only [Act.put, List.setIfInBounds_toArray, List.set_cons_zero, List.set_cons_succ]
      refine upto_run (v := ?_) 4 33 [10] rfl rfl (by kernel_rfl) (by kernel_rfl) (by kernel_rfl) (by kernel_rfl) (by kernel_rfl) (fun _ _ _ h => h) (by rfl) ?_ (by assumption) ?_
      rotate_left
      · (intro w hSw; (try dsimp only at hSw); go_simp; with_reducible rfl)
      simp only [Act.put, List.setIfInBounds_toArray, List.set_cons_zero, List.set_cons_succ]
      refine upto_one 5 (by kernel_rfl) rfl (fun K hK => ?_)
      go_simp
      refine (noughts_ok _ 64 (by decide)).mono ?_
      rintro e xn ⟨rfl, hb⟩
      have HXn := hide (HIn.out.later ((Below.refl _ _).drew.trans hb))
      clear hb HIn
      have dn : xn.cell? ⟨w.heap.size, 1, none⟩ = some nv := by rw [cell_of_row xn _ 1 _ _ _ HXn.out.head]; rfl
      go_wp2_with fail
      refine hK.out _ _ (fun _ => dn) ?_
      clear hK K hHeld
      try simp only [Act.put, List.setIfInBounds_toArray, List.set_cons_zero, List.set_cons_succ]
      have HBS := hide (run_buildStr xn (noughtB 64))
      refine upto_one 6 (by kernel_rfl) rfl (fun K hK => ?_)
      refine step_val rfl 35 rfl (.slice (some ⟨xn.heap.size, 0, none⟩) 1 1) (xn.alloc (.cells [strC (noughtB 64)].toArray 9)) (by have hq := HBS.out; simp [execOp, Act.eval, hq]) ?_
      have HYn := hide (HXn.out.later ((Below.refl xn.heap.size xn).alloc (Nat.le_refl _) (.cells [strC (noughtB 64)].toArray 9)))
      have fn : (xn.alloc (.cells [strC (noughtB 64)].toArray 9)).cell? ⟨w.heap.size, 1, none⟩ = some nv := by rw [cell_of_row _ _ 1 _ _ _ HYn.out.head]; rfl
      refine hK.out _ _ (fun _ => fn) ?_
      clear hK K HBS
      simp only [Act.put, List.setIfInBounds_toArray, List.set_cons_zero, List.set_cons_succ]
      have HNEW : Hid (∀ k u, [strC (noughtB 64)][k]? = some u → (xn.alloc (.cells [strC (noughtB 64)].toArray 9)).cell? ((⟨xn.heap.size, 0, none⟩ : Addr).add k) = some u) := World.news_of_block (heap_alloc_new xn _)
      have hls : w.heap.size ≤ (xn.alloc (.cells [strC (noughtB 64)].toArray 9)).heap.size := HYn.out.below.size
      refine upto_one 7 (by kernel_rfl) rfl (fun K hK => ?_)
      refine step_append_lies _ rfl (.tmp 33) (.tmp 35) 50 rfl w.heap.size 9 i0 (.string ⟨#[]⟩) 1 16 (by kernel_rfl) hi hz0 hz1 hz2 rfl (by decide) nv j (strs0 j) rfl HYn.out.ownN ⟨xn.heap.size, 0, none⟩ 1 1 [strC (noughtB 64)] rfl rfl HNEW.out (by simp [strC, Value.oneCell']) (by decide) (by unfold maxLen; omega) (by omega) hls (xn.heap.size + 1) (by simp) ?_
      intro gn capn yn hown hgrow hat hlt
      rw [strs0_succ] at hown
      have HNn := hide (HYn.out.growN (.slice (some ⟨gn, 0, none⟩) (j + 1) capn) hgrow hown (fun b hb => by
        simp only [Value.ownBlock, Option.some.injEq] at hb
        subst hb
        rcases hat with h | h
        · exact .inl h
        · exact .inr (by rw [h]; simp)))
      have hh := (hgrow.block w.heap.size (heap_lt HYn.out.head) (awayRow HYn.out.head (by decide) HYn.out.ownN)).trans HYn.out.head
      have kn : yn.cell? ⟨w.heap.size, 1, none⟩ = some nv := by rw [cell_of_row _ _ 1 _ _ _ hh]; rfl
      have ln : yn.frozen? ⟨w.heap.size, 1, none⟩ = false := by simp [World.frozen?, hh]
      clear hown hgrow hat hlt hh HNEW hls
      clear HXn HYn
      refine hK.out _ _ (fun _ => kn) ?_
      clear hK K
      simp only [Act.put, List.setIfInBounds_toArray, List.set_cons_zero, List.set_cons_succ]
      have hHeld : (fun w' => w'.cell? ⟨w.heap.size, 1, none⟩ = some nv) yn := kn
      refine upto_run (v := ?_) 8 37 [9, 10] rfl rfl (by kernel_rfl) (by kernel_rfl) (by kernel_rfl) (by kernel_rfl) (by kernel_rfl) (fun _ _ _ h => h) (by rfl) ?_ (by assumption) ?_
      rotate_left
      · (intro w hSw; (try dsimp only at hSw); go_simp; with_reducible rfl)
      simp only [Act.put, List.setIfInBounds_toArray, List.set_cons_zero, List.set_cons_succ]
      refine upto_run (v := ?_) 9 38 [10] rfl rfl (by kernel_rfl) (by kernel_rfl) (by kernel_rfl) (by kernel_rfl) (by kernel_rfl) (fun _ _ _ h => h) (by rfl) ?_ (by assumption) ?_
      rotate_left
      · (intro w hSw; (try dsimp only at hSw); go_simp; with_reducible rfl)
      simp only [Act.put, List.setIfInBounds_toArray, List.set_cons_zero, List.set_cons_succ]
      refine upto_one 10 (by kernel_rfl) rfl (fun K hK => ?_)
      go_simp
      refine hK.out _ _ (fun h => absurd h (by decide)) ?_
      clear hK K
      try simp only [Act.put, List.setIfInBounds_toArray, List.set_cons_zero, List.set_cons_succ]
      refine upto_done (by kernel_rfl) ?_
      clear hHeld kn ln cn dn fn
      go_wp2
      go_roundw
      case rel => exact ⟨j + 1, _, _, by omega, by go_num, HNn⟩
      case measure => simp [intOf]; omega
--@endround
    · obtain rfl : j = n := by omega
      have HD := hide HI.out.disk
      have HB := hide HI.out.below
      clear HI
      have hlt : decide ((j : Int) < (j : Int)) = false := decide_eq_false (by omega)
      go_wp2
      exact bodyPost_ret (v := .tuple #[.pointer (some ⟨w.heap.size, 0, none⟩), .int .i64 0]) (by simp [results, Try.results10, go_sem]) rfl ⟨rfl, HD.out, HB.out⟩

end Go.Proofs.Ytjgodhfnnifchaa
