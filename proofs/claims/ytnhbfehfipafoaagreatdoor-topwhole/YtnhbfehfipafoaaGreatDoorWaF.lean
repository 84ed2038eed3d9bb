/- A log: one of its sectors is read. -/
import Derived.Test.YtnhbfehfipafoaaGreatDoorWaD
import Derived.Deep.Cut
import Derived.Deep.CutRange

namespace Go.Proofs.YtnhbfehfipafoaaGreatDoor
open Go.RowKit

set_option linter.unusedSimpArgs false in
set_option maxRecDepth 100000 in
set_option maxHeartbeats 1600000 in
theorem logRead_any (w : World) (base : Own) (B L : Nat) (D : Dsk) (fr i : Nat) (many first en : Int) (hd : DiskO w base B D) (hl : LogM w L B fr many first en) (hin : fr + i < D.secs.length) (h2 : D.secs.length ≤ 200) (hf : 0 ≤ first ∧ first ≤ 8589934592) :
  Calls Tryz.prog 104 #[.pointer (some ⟨L, 0, none⟩), .int .i64 (i : Int)] w fun e w' => e = .returned (.tuple #[.int .u8 ((rdR D first fr i).1 : Int), .string (secB (rdR D first fr i).2), downE D]) ∧ Below w.heap.size w w' := by
 have HD := hide hd; have HL := hide hl
 obtain ⟨c0, c1, c2, c3, c4, -⟩ := hl.cells
 have hra : ∀ w1, Below w.heap.size w w1 → Calls Tryz.prog 60 #[.pointer (some ⟨B, 0, none⟩), .int .i64 ((fr + i : Nat) : Int)] w1 fun e w' => e = .returned (.tuple #[.string ⟨(readS D ((fr + i : Nat) : Int)).toArray⟩, D.readErr ((fr + i : Nat) : Int)]) ∧ Below w.heap.size w w' := fun w1 hb1 => (read_any w1 base B D ((fr + i : Nat) : Int) (hd.later hb1) h2).mono fun e w' ⟨he, hb⟩ => ⟨he, hb1.trans (hb.mono hb1.size)⟩
 have hlen := cont_len hd hin
 have hRS : readS D ((fr + i : Nat) : Int) = if D.down = true then [] else cont D (fr + i) := by
  unfold readS cont
  cases hdn : D.down with
  | true => rw [if_neg (fun h => by cases h.1), if_pos rfl]
  | false => rw [if_pos ⟨rfl, by omega, by omega⟩, if_neg (by decide), Int.toNat_natCast]
 have hRE : D.readErr ((fr + i : Nat) : Int) = downE D := by
  unfold Dsk.readErr downE
  cases hdn : D.down with
  | true => rfl
  | false =>
   rw [if_neg Bool.false_ne_true, if_neg Bool.false_ne_true, if_pos (And.intro (by omega) (by omega))]
 have hcast : (fr : Int) + (i : Int) = ((fr + i : Nat) : Int) := by omega
 have hbound : ((fr + i : Nat) : Int) ≤ 200 := by omega
 rw [hRS, hRE] at hra
 have hi1000 : i ≤ 1000 := by omega
 have gW3 : IntKind.i64.wrap ((fr + i : Nat) : Int) = ((fr + i : Nat) : Int) := wrap_small (by omega) (by omega)
 have gW : IntKind.i64.wrap ((fr : Int) + (i : Int)) = ((fr + i : Nat) : Int) := by rw [hcast]; exact wrap_small (by omega) (by omega)
 generalize ((fr + i : Nat) : Int) = AT at *
 have HRA := hide hra
 clear hd hl hRS hRE hra hin h2
 cases hdn : D.down with
 | true =>
  have hE : downE D = errno 9 := by unfold downE; rw [if_pos hdn]
  have hR : rdR D first fr i = (0, []) := by unfold rdR; rw [if_pos hdn]
  have hra := HRA.out
  rw [hE, if_pos hdn] at hra
  rw [hE, hR]
  have HRB := hide hra
  clear hE hR hra HRA hdn hlen
  go_enter Tryz.func104, Tryz.ntmps104
  go_wp2_with fail
  refine wp_region_held_drew (S := (fun w' => w'.cell? ⟨L, 0, none⟩ = some (.pointer (some ⟨B, 0, none⟩)) ∧ w'.cell? ⟨L, 1, none⟩ = some (.int .i64 fr))) (by kernel_rfl) (by (try dsimp only); go_keep) (fun hHeld => ?_)
  refine held_run (v := ?_) 0 12 rfl rfl (by kernel_rfl) (by kernel_rfl) (by kernel_rfl) (fun _ _ _ h => h) (by rfl) ?_ (by assumption) ?_
  rotate_left
  ·(intro w hSw; (try dsimp only at hSw); go_simp; with_reducible rfl)
  simp only [Act.put, List.setIfInBounds_toArray, List.set_cons_zero, List.set_cons_succ]
  refine held_run (v := ?_) 1 13 rfl rfl (by kernel_rfl) (by kernel_rfl) (by kernel_rfl) (fun _ _ _ h => h) (by rfl) ?_ (by assumption) ?_
  rotate_left
  ·(intro w hSw; (try dsimp only at hSw); go_simp; with_reducible rfl)
  simp only [Act.put, List.setIfInBounds_toArray, List.set_cons_zero, List.set_cons_succ]
  refine held_run (v := ?_) 2 14 rfl rfl (by kernel_rfl) (by kernel_rfl) (by kernel_rfl) (fun _ _ _ h => h) (by rfl) ?_ (by assumption) ?_
  rotate_left
  ·(intro w hSw; (try dsimp only at hSw); go_simp; with_reducible rfl)
  simp only [Act.put, List.setIfInBounds_toArray, List.set_cons_zero, List.set_cons_succ]
  refine held_run (v := ?_) 3 15 rfl rfl (by kernel_rfl) (by kernel_rfl) (by kernel_rfl) (fun _ _ _ h => h) (by rfl) ?_ (by assumption) ?_
  rotate_left
  ·(intro w hSw; (try dsimp only at hSw); go_simp; with_reducible rfl)
  simp only [Act.put, List.setIfInBounds_toArray, List.set_cons_zero, List.set_cons_succ]
  refine held_run (v := ?_) 4 16 rfl rfl (by kernel_rfl) (by kernel_rfl) (by kernel_rfl) (fun _ _ _ h => h) (by rfl) ?_ (by assumption) ?_
  rotate_left
  ·(intro w hSw; (try dsimp only at hSw); go_simp; with_reducible rfl)
  simp only [Act.put, List.setIfInBounds_toArray, List.set_cons_zero, List.set_cons_succ]
  refine held_run (v := ?_) 5 17 rfl rfl (by kernel_rfl) (by kernel_rfl) (by kernel_rfl) (fun _ _ _ h => h) (by rfl) ?_ (by assumption) ?_
  rotate_left
  ·(intro w hSw; (try dsimp only at hSw); go_simp; with_reducible rfl)
  simp only [Act.put, List.setIfInBounds_toArray, List.set_cons_zero, List.set_cons_succ]
  refine held_run (v := ?_) 6 18 rfl rfl (by kernel_rfl) (by kernel_rfl) (by kernel_rfl) (fun _ _ _ h => h) (by rfl) ?_ (by assumption) ?_
  rotate_left
  ·(intro w hSw; (try dsimp only at hSw); go_simp; with_reducible rfl)
  simp only [Act.put, List.setIfInBounds_toArray, List.set_cons_zero, List.set_cons_succ]
  refine held_run (v := ?_) 7 19 rfl rfl (by kernel_rfl) (by kernel_rfl) (by kernel_rfl) (fun _ _ _ h => h) (by rfl) ?_ (by assumption) ?_
  rotate_left
  ·(intro w hSw; (try dsimp only at hSw); go_simp; with_reducible rfl)
  simp only [Act.put, List.setIfInBounds_toArray, List.set_cons_zero, List.set_cons_succ]
  refine held_run (v := ?_) 8 20 rfl rfl (by kernel_rfl) (by kernel_rfl) (by kernel_rfl) (fun _ _ _ h => h) (by rfl) ?_ (by assumption) ?_
  rotate_left
  ·(intro w hSw; (try dsimp only at hSw); go_simp; with_reducible rfl)
  simp only [Act.put, List.setIfInBounds_toArray, List.set_cons_zero, List.set_cons_succ]
  refine held_run (v := ?_) 9 21 rfl rfl (by kernel_rfl) (by kernel_rfl) (by kernel_rfl) (fun _ _ _ h => h) (by rfl) ?_ (by assumption) ?_
  rotate_left
  ·(intro w hSw; (try dsimp only at hSw); go_simp; with_reducible rfl)
  simp only [Act.put, List.setIfInBounds_toArray, List.set_cons_zero, List.set_cons_succ]
  refine wpAnyH_ready (rs := [10]) (by kernel_rfl) (by simp) (AllReadyH.cons (o := _) rfl (fun K hK => ?_) AllReadyH.nil)
  go_simp
  (refine (HRB.out _ (Below.refl _ _).drew).mono ?_; rintro e w5 ⟨rfl, hb5⟩; obtain ⟨d0, d1, -, d3, -, -⟩ := (HL.out.later hb5).cells)
  go_wp2_with fail
  refine hK.out _ _ (by (try dsimp only); go_keep) (fun hHeld => ?_)
  clear hK K
  try simp only [Act.put, List.setIfInBounds_toArray, List.set_cons_zero, List.set_cons_succ]
  refine held_run (v := ?_) 11 11 rfl rfl (by kernel_rfl) (by kernel_rfl) (by kernel_rfl) (fun _ _ _ h => h) (by rfl) ?_ (by assumption) ?_
  rotate_left
  ·(intro w hSw; (try dsimp only at hSw); go_simp; with_reducible rfl)
  simp only [Act.put, List.setIfInBounds_toArray, List.set_cons_zero, List.set_cons_succ]
  refine held_run (v := ?_) 12 23 rfl rfl (by kernel_rfl) (by kernel_rfl) (by kernel_rfl) (fun _ _ _ h => h) (by rfl) ?_ (by assumption) ?_
  rotate_left
  ·(intro w hSw; (try dsimp only at hSw); go_simp; with_reducible rfl)
  simp only [Act.put, List.setIfInBounds_toArray, List.set_cons_zero, List.set_cons_succ]
  refine held_run (v := ?_) 13 24 rfl rfl (by kernel_rfl) (by kernel_rfl) (by kernel_rfl) (fun _ _ _ h => h) (by rfl) ?_ (by assumption) ?_
  rotate_left
  ·(intro w hSw; (try dsimp only at hSw); go_simp; with_reducible rfl)
  simp only [Act.put, List.setIfInBounds_toArray, List.set_cons_zero, List.set_cons_succ]
  refine held_run (v := ?_) 14 7 rfl rfl (by kernel_rfl) (by kernel_rfl) (by kernel_rfl) (fun _ _ _ h => h) (by rfl) ?_ (by assumption) ?_
  rotate_left
  ·(intro w hSw; (try dsimp only at hSw); go_simp; with_reducible rfl)
  simp only [Act.put, List.setIfInBounds_toArray, List.set_cons_zero, List.set_cons_succ]
  refine held_run (v := ?_) 15 8 rfl rfl (by kernel_rfl) (by kernel_rfl) (by kernel_rfl) (fun _ _ _ h => h) (by rfl) ?_ (by assumption) ?_
  rotate_left
  ·(intro w hSw; (try dsimp only at hSw); go_simp; with_reducible rfl)
  simp only [Act.put, List.setIfInBounds_toArray, List.set_cons_zero, List.set_cons_succ]
  refine wpAnyH_done (by kernel_rfl) ?_ _
  have HB := hide hb5
  go_wp2
  exact bodyPost_ret (v := .tuple #[.int .u8 0, .string ⟨#[]⟩, .iface 80 (.int .i64 9)]) (by simp [results, Tryz.results104, go_sem]) rfl ⟨rfl, HB.out⟩
 | false =>
  have hE : downE D = .nilIface := by unfold downE; rw [if_neg (by rw [hdn]; decide)]
  have hR : rdR D first fr i = rdSec (first + i) (cont D (fr + i)) := by unfold rdR; rw [if_neg (by rw [hdn]; decide)]
  have hra := HRA.out
  rw [hE] at hra
  rw [hE, hR]
  have hra' : ∀ w1, Below w.heap.size w w1 → Calls Tryz.prog 60 #[.pointer (some ⟨B, 0, none⟩), .int .i64 AT] w1 fun e w' => e = .returned (.tuple #[.string (secB (cont D (fr + i))), .nilIface]) ∧ Below w.heap.size w w' := fun w1 hb1 => by
   have := hra w1 hb1
   rw [if_neg (by rw [hdn]; decide)] at this
   exact this
  have HRB := hide hra'
  clear hE hR hra hra' HRA hdn
  generalize cont D (fr + i) = l at *
  have HLN := hide hlen
  clear hlen
  go_enter Tryz.func104, Tryz.ntmps104
  go_wp2_with fail
  refine wp_region_held_drew (S := (fun w' => w'.cell? ⟨L, 0, none⟩ = some (.pointer (some ⟨B, 0, none⟩)) ∧ w'.cell? ⟨L, 1, none⟩ = some (.int .i64 fr))) (by kernel_rfl) (by (try dsimp only); go_keep) (fun hHeld => ?_)
  refine held_run (v := ?_) 0 12 rfl rfl (by kernel_rfl) (by kernel_rfl) (by kernel_rfl) (fun _ _ _ h => h) (by rfl) ?_ (by assumption) ?_
  rotate_left
  ·(intro w hSw; (try dsimp only at hSw); go_simp; with_reducible rfl)
  simp only [Act.put, List.setIfInBounds_toArray, List.set_cons_zero, List.set_cons_succ]
  refine held_run (v := ?_) 1 13 rfl rfl (by kernel_rfl) (by kernel_rfl) (by kernel_rfl) (fun _ _ _ h => h) (by rfl) ?_ (by assumption) ?_
  rotate_left
  ·(intro w hSw; (try dsimp only at hSw); go_simp; with_reducible rfl)
  simp only [Act.put, List.setIfInBounds_toArray, List.set_cons_zero, List.set_cons_succ]
  refine held_run (v := ?_) 2 14 rfl rfl (by kernel_rfl) (by kernel_rfl) (by kernel_rfl) (fun _ _ _ h => h) (by rfl) ?_ (by assumption) ?_
  rotate_left
  ·(intro w hSw; (try dsimp only at hSw); go_simp; with_reducible rfl)
  simp only [Act.put, List.setIfInBounds_toArray, List.set_cons_zero, List.set_cons_succ]
  refine held_run (v := ?_) 3 15 rfl rfl (by kernel_rfl) (by kernel_rfl) (by kernel_rfl) (fun _ _ _ h => h) (by rfl) ?_ (by assumption) ?_
  rotate_left
  ·(intro w hSw; (try dsimp only at hSw); go_simp; with_reducible rfl)
  simp only [Act.put, List.setIfInBounds_toArray, List.set_cons_zero, List.set_cons_succ]
  refine held_run (v := ?_) 4 16 rfl rfl (by kernel_rfl) (by kernel_rfl) (by kernel_rfl) (fun _ _ _ h => h) (by rfl) ?_ (by assumption) ?_
  rotate_left
  ·(intro w hSw; (try dsimp only at hSw); go_simp; with_reducible rfl)
  simp only [Act.put, List.setIfInBounds_toArray, List.set_cons_zero, List.set_cons_succ]
  refine held_run (v := ?_) 5 17 rfl rfl (by kernel_rfl) (by kernel_rfl) (by kernel_rfl) (fun _ _ _ h => h) (by rfl) ?_ (by assumption) ?_
  rotate_left
  ·(intro w hSw; (try dsimp only at hSw); go_simp; with_reducible rfl)
  simp only [Act.put, List.setIfInBounds_toArray, List.set_cons_zero, List.set_cons_succ]
  refine held_run (v := ?_) 6 18 rfl rfl (by kernel_rfl) (by kernel_rfl) (by kernel_rfl) (fun _ _ _ h => h) (by rfl) ?_ (by assumption) ?_
  rotate_left
  ·(intro w hSw; (try dsimp only at hSw); go_simp; with_reducible rfl)
  simp only [Act.put, List.setIfInBounds_toArray, List.set_cons_zero, List.set_cons_succ]
  refine held_run (v := ?_) 7 19 rfl rfl (by kernel_rfl) (by kernel_rfl) (by kernel_rfl) (fun _ _ _ h => h) (by rfl) ?_ (by assumption) ?_
  rotate_left
  ·(intro w hSw; (try dsimp only at hSw); go_simp; with_reducible rfl)
  simp only [Act.put, List.setIfInBounds_toArray, List.set_cons_zero, List.set_cons_succ]
  refine held_run (v := ?_) 8 20 rfl rfl (by kernel_rfl) (by kernel_rfl) (by kernel_rfl) (fun _ _ _ h => h) (by rfl) ?_ (by assumption) ?_
  rotate_left
  ·(intro w hSw; (try dsimp only at hSw); go_simp; with_reducible rfl)
  simp only [Act.put, List.setIfInBounds_toArray, List.set_cons_zero, List.set_cons_succ]
  refine held_run (v := ?_) 9 21 rfl rfl (by kernel_rfl) (by kernel_rfl) (by kernel_rfl) (fun _ _ _ h => h) (by rfl) ?_ (by assumption) ?_
  rotate_left
  ·(intro w hSw; (try dsimp only at hSw); go_simp; with_reducible rfl)
  simp only [Act.put, List.setIfInBounds_toArray, List.set_cons_zero, List.set_cons_succ]
  refine wpAnyH_ready (rs := [10]) (by kernel_rfl) (by simp) (AllReadyH.cons (o := _) rfl (fun K hK => ?_) AllReadyH.nil)
  go_simp
  (refine (HRB.out _ (Below.refl _ _).drew).mono ?_; rintro e w5 ⟨rfl, hb5⟩; obtain ⟨d0, d1, -, d3, -, -⟩ := (HL.out.later hb5).cells)
  go_wp2_with fail
  refine hK.out _ _ (by (try dsimp only); go_keep) (fun hHeld => ?_)
  clear hK K
  try simp only [Act.put, List.setIfInBounds_toArray, List.set_cons_zero, List.set_cons_succ]
  refine held_run (v := ?_) 11 11 rfl rfl (by kernel_rfl) (by kernel_rfl) (by kernel_rfl) (fun _ _ _ h => h) (by rfl) ?_ (by assumption) ?_
  rotate_left
  ·(intro w hSw; (try dsimp only at hSw); go_simp; with_reducible rfl)
  simp only [Act.put, List.setIfInBounds_toArray, List.set_cons_zero, List.set_cons_succ]
  refine held_run (v := ?_) 12 23 rfl rfl (by kernel_rfl) (by kernel_rfl) (by kernel_rfl) (fun _ _ _ h => h) (by rfl) ?_ (by assumption) ?_
  rotate_left
  ·(intro w hSw; (try dsimp only at hSw); go_simp; with_reducible rfl)
  simp only [Act.put, List.setIfInBounds_toArray, List.set_cons_zero, List.set_cons_succ]
  refine held_run (v := ?_) 13 24 rfl rfl (by kernel_rfl) (by kernel_rfl) (by kernel_rfl) (fun _ _ _ h => h) (by rfl) ?_ (by assumption) ?_
  rotate_left
  ·(intro w hSw; (try dsimp only at hSw); go_simp; with_reducible rfl)
  simp only [Act.put, List.setIfInBounds_toArray, List.set_cons_zero, List.set_cons_succ]
  refine held_run (v := ?_) 14 7 rfl rfl (by kernel_rfl) (by kernel_rfl) (by kernel_rfl) (fun _ _ _ h => h) (by rfl) ?_ (by assumption) ?_
  rotate_left
  ·(intro w hSw; (try dsimp only at hSw); go_simp; with_reducible rfl)
  simp only [Act.put, List.setIfInBounds_toArray, List.set_cons_zero, List.set_cons_succ]
  refine held_run (v := ?_) 15 8 rfl rfl (by kernel_rfl) (by kernel_rfl) (by kernel_rfl) (fun _ _ _ h => h) (by rfl) ?_ (by assumption) ?_
  rotate_left
  ·(intro w hSw; (try dsimp only at hSw); go_simp; with_reducible rfl)
  simp only [Act.put, List.setIfInBounds_toArray, List.set_cons_zero, List.set_cons_succ]
  refine wpAnyH_done (by kernel_rfl) ?_ _
  have HB := hide hb5
  clear c0 c1 c2 c3 c4 d0 d1
  go_upto_if 26 with fail
  go_cut [] from 11 (fun wx => wx = w5)
  case first =>
   go_wp2
   go_meet
   case rel => rfl
  case rest =>
   obtain rfl := hcut
   apply_assumption
   exact logRead_sec w _ L first i l HLN.out HB.out d3 hf hi1000

end Go.Proofs.YtnhbfehfipafoaaGreatDoor

/- A log: one of its sectors is written. -/
namespace Go.Proofs.YtnhbfehfipafoaaGreatDoor
open Go.RowKit

theorem BufB.one (W : World) (b : UInt8) : BufB W.heap.size (W.alloc (.cells #[.int .u8 (b.toNat : Int)] 5)) (.slice (some ⟨W.heap.size, 0, none⟩) 1 1) [b] := by
 refine ⟨by simp [Lib.byteCells], .inr ⟨W.heap.size, 1, _, rfl, Nat.le_refl _, heap_alloc_new W _, Nat.le_refl _, by unfold maxLen; decide, rfl, ?_⟩⟩
 simp only [Lib.byteCells, List.map_cons, List.map_nil]
 rfl

theorem BufB.kept {b0 : Nat} {base : Own} {W W' : World} {v : Value} {l : List UInt8} (h : BufB b0 W v l) (hk : Kept base W W') : BufB b0 W' v l := by
 refine ⟨h.1, ?_⟩
 rcases h.2 with hn | ⟨g, cap, cur, e, hbg, hg, rest⟩
 ·exact .inl hn
 ·refine .inr ⟨g, cap, cur, e, hbg, (hk.block g (heap_lt hg) (.inr fun cs t fz hx => ?_)).trans hg, rest⟩
  rw [hg] at hx
  simp only [Option.some.injEq, Obj.cells.injEq] at hx
  rw [← hx.2.1]
  unfold diskT
  decide

set_option linter.unusedSimpArgs false in
set_option maxRecDepth 100000 in
set_option maxHeartbeats 1600000 in
theorem logWrite_any (w : World) (base : Own) (B L : Nat) (D : Dsk) (m k fr i : Nat) (many first en : Int) (kb : UInt8) (S : ByteArray) (hd : DiskO w base B D) (hl : LogM w L B fr many first en) (hw : Well D m k) (hk : k ≤ 1000000) (hm : m ≤ 200) (hin : fr + i < m) (hf : 0 ≤ first ∧ first ≤ 8589934592) (hS : S.size ≤ 58) (hbase : base.h ≤ w.heap.size) :
  Calls Tryz.prog 105 #[.pointer (some ⟨L, 0, none⟩), .int .i64 (i : Int), .int .u8 (kb.toNat : Int), .string S] w fun e w' => e = .returned (stepErr D) ∧ DiskO w' base B (putD D ((fr + i : Nat) : Int) (secB (secT kb (first + i) S.data.toList))) ∧ Kept base w w' := by
 have hlen : D.secs.length = m := hw.len
 obtain ⟨n, hn⟩ : ∃ n : Nat, S.size = n := ⟨_, rfl⟩
 have hsd : S.data.toList.length = n := by rw [← hn]; simp
 obtain ⟨N, hN⟩ : ∃ N : Int, (first + (i : Int)) % 4294967296 = N := ⟨_, rfl⟩
 have hwr : IntKind.u32.wrap (IntKind.i64.wrap (first + (i : Int))) = N := by
  rw [wrap_small (by omega) (by omega)]
  exact (show (first + (i : Int)) % 2 ^ 32 = (first + (i : Int)) % 4294967296 from rfl).trans hN
 have hN0 : 0 ≤ N ∧ N < 4294967296 := by omega
 have hT : secT kb (first + i) S.data.toList = ([kb] ++ fourB N) ++ [lowB (n : Int)] ++ S.data.toList := by
  unfold secT
  rw [hN, hsd]
  rfl
 have hTl : (secT kb (first + i) S.data.toList).length ≤ 64 := by rw [secT_len, hsd]; omega
 have hpe : putErr D ((fr + i : Nat) : Int) (secB (secT kb (first + i) S.data.toList)) = stepErr D := by
  unfold putErr
  rw [if_pos (And.intro (by omega) (by omega)), if_pos]
  show (List.toArray _).size ≤ 64
  rw [List.size_toArray]
  exact hTl
 rw [← hpe]
 obtain ⟨ST, hST⟩ : ∃ ST, secB (secT kb (first + i) S.data.toList) = ST := ⟨_, rfl⟩
 have hSTs : ST.size ≤ 1000000 := by
  rw [← hST]
  show (List.toArray _).size ≤ _
  rw [List.size_toArray]
  omega
 rw [hST]
 have HST := hide hSTs
 have HTB : Hid (secB (([kb] ++ fourB N) ++ [lowB (n : Int)] ++ S.data.toList) = ST) := by show _ = _; rw [← hT]; exact hST
 obtain ⟨kz, hkz⟩ : ∃ kz : Int, (kb.toNat : Int) = kz := ⟨_, rfl⟩
 have bA := BufB.one w kb
 have hA := alloc_below w (.cells #[.int .u8 (kb.toNat : Int)] 5)
 rw [hkz] at bA hA
 rw [hkz]
 have hcast : (fr : Int) + (i : Int) = ((fr + i : Nat) : Int) := by omega
 have gW3 : IntKind.i64.wrap ((fr + i : Nat) : Int) = ((fr + i : Nat) : Int) := wrap_small (by omega) (by omega)
 generalize ((fr + i : Nat) : Int) = AT at *
 have HD := hide hd; have HL := hide hl; have HW := hide hw; have HBA := hide bA; have HA := hide hA; have HSZ := hide hn; have HSD := hide hsd; have HN := hide hN
 have HLA := hide (hl.later hA)
 obtain ⟨-, -, -, c3, -, -⟩ := HLA.out.cells
 clear hd hl hw bA hA hpe hST hSTs hT hTl hN hlen hkz hsd hwr
 go_enter Tryz.func105, Tryz.ntmps105
 go_wp2_with fail
 clear c3
 rw [HN.out]
 refine (four_any _ N hN0.1 hN0.2).mono ?_
 rintro e w2 ⟨rfl, hb2⟩
 generalize hWA : w.alloc (.cells #[.int .u8 kz] 5) = A1 at *
 have hba : w.heap.size ≤ A1.heap.size := HA.out.size
 have b2 : BufB w.heap.size w2 (.slice (some ⟨w.heap.size, 0, none⟩) 1 1) [kb] := HBA.out.later hb2
 have hs2 : w.heap.size ≤ w2.heap.size := Nat.le_trans hba hb2.size
 obtain ⟨o1, k1, A2, hr1, bB, hbB⟩ := b2.str hs2 ⟨(fourB N).toArray⟩ 142 (by show 1 + 4 ≤ 1000000; decide)
 have e1 : [kb] ++ (⟨(fourB N).toArray⟩ : ByteArray).data.toList = [kb] ++ fourB N := rfl
 rw [e1] at hr1 bB
 have hl5 : ([kb] ++ fourB N).length = 5 := rfl
 rw [hl5] at hr1 bB
 have hs3 : w.heap.size ≤ A2.heap.size := Nat.le_trans hs2 hbB.size
 obtain ⟨o2, k2, A3, hr2, bC, hbC⟩ := bB.more hs3 [lowB (n : Int)] #[.int .u8 (n : Int)] (by have h58 : (n : Int) % 256 = n := (by have := HSZ.out; omega); simp [Lib.byteCells, lowB_nat, h58]) 142 5 (by rw [hl5]; show 5 + 1 ≤ 1000000; decide)
 have hl6 : ([kb] ++ fourB N ++ [lowB (n : Int)]).length = 6 := rfl
 rw [hl6] at hr2 bC
 have hs4 : w.heap.size ≤ A3.heap.size := Nat.le_trans hs3 hbC.size
 obtain ⟨o3, k3, A4, hr3, bD, hbD⟩ := bC.str hs4 S 142 (by rw [hl6, HSZ.out]; omega)
 obtain ⟨n4, hn4⟩ : ∃ n4, ([kb] ++ fourB N ++ [lowB (n : Int)] ++ S.data.toList).length = n4 := ⟨_, rfl⟩
 rw [hn4] at hr3 bD
 have hcv : ∀ W, BufB w.heap.size W (.slice o3 n4 k3) ([kb] ++ fourB N ++ [lowB (n : Int)] ++ S.data.toList) → (convert 142 9 (.slice o3 n4 k3)).run Tryz.prog W = .ok (.string ST) W := fun W h1 => by
  rw [← hn4] at h1
  have h := h1.back (by rw [List.length_append, hl6]; omega)
  rw [hn4] at h
  rw [← HTB.out]
  exact h
 have HALL := hide (HA.out.trans ((hb2.mono hba).trans (hbB.trans (hbC.trans hbD))))
 have HR1 := hide hr1; have HR2 := hide hr2; have HR3 := hide hr3; have HCV := hide hcv; have HBD := hide bD
 have HD5 := hide (HD.out.later HALL.out); have HL5 := hide (HL.out.later HALL.out)
 have HBS : Hid (base.h ≤ A4.heap.size) := Nat.le_trans hbase HALL.out.size
 have hns : ((S.size : Nat) : Int) = (n : Int) := by rw [HSZ.out]
 clear hr1 hr2 hr3 hcv bB bC bD b2 hbB hbC hbD hb2 hn4 hl5 hl6 e1 hs2 hs3 hs4 hba HBA HA
 obtain ⟨c0, c1, -, -, -, -⟩ := HL5.out.cells
 go_wp2_with (first | (show wpList _ _ _ ({ dst := some 21, op := _, type := _, pos := _, after := _, guard := _ } :: _) _ _; refine Lib.wpList_append_run _ rfl _ _ _ _ rfl _ _ rfl rfl _ _ HR1.out ?_) | (show wpList _ _ _ ({ dst := some 27, op := _, type := _, pos := _, after := _, guard := _ } :: _) _ _; refine Lib.wpList_append_run _ rfl _ _ _ _ rfl _ _ rfl rfl _ _ HR2.out ?_) | (show wpList _ _ _ ({ dst := some 30, op := _, type := _, pos := _, after := _, guard := _ } :: _) _ _; refine Lib.wpList_append_run _ rfl _ _ _ _ rfl _ _ rfl rfl _ _ HR3.out ?_))
 have hcv := HCV.out _ (HBD.out.later (Below.refl _ _).drew)
 refine wp_region_held_drew (S := (fun w' => w'.cell? ⟨L, 0, none⟩ = some (.pointer (some ⟨B, 0, none⟩)) ∧ w'.cell? ⟨L, 1, none⟩ = some (.int .i64 fr) ∧ (convert 142 9 (.slice o3 n4 k3)).run Tryz.prog w' = .ok (.string ST) w')) (by kernel_rfl) (by (try dsimp only); go_keep) (fun hHeld => ?_)
 refine held_run (v := ?_) 0 31 rfl rfl (by kernel_rfl) (by kernel_rfl) (by kernel_rfl) (fun _ _ _ h => h) (by rfl) ?_ (by assumption) ?_
 rotate_left
 ·(intro w hSw; (try dsimp only at hSw); go_simp; with_reducible rfl)
 simp only [Act.put, List.setIfInBounds_toArray, List.set_cons_zero, List.set_cons_succ]
 refine held_run (v := ?_) 1 32 rfl rfl (by kernel_rfl) (by kernel_rfl) (by kernel_rfl) (fun _ _ _ h => h) (by rfl) ?_ (by assumption) ?_
 rotate_left
 ·(intro w hSw; (try dsimp only at hSw); go_simp; with_reducible rfl)
 simp only [Act.put, List.setIfInBounds_toArray, List.set_cons_zero, List.set_cons_succ]
 refine held_run (v := ?_) 2 33 rfl rfl (by kernel_rfl) (by kernel_rfl) (by kernel_rfl) (fun _ _ _ h => h) (by rfl) ?_ (by assumption) ?_
 rotate_left
 ·(intro w hSw; (try dsimp only at hSw); go_simp; with_reducible rfl)
 simp only [Act.put, List.setIfInBounds_toArray, List.set_cons_zero, List.set_cons_succ]
 refine held_run (v := ?_) 3 34 rfl rfl (by kernel_rfl) (by kernel_rfl) (by kernel_rfl) (fun _ _ _ h => h) (by rfl) ?_ (by assumption) ?_
 rotate_left
 ·(intro w hSw; (try dsimp only at hSw); go_simp; with_reducible rfl)
 simp only [Act.put, List.setIfInBounds_toArray, List.set_cons_zero, List.set_cons_succ]
 refine held_run (v := ?_) 4 35 rfl rfl (by kernel_rfl) (by kernel_rfl) (by kernel_rfl) (fun _ _ _ h => h) (by rfl) ?_ (by assumption) ?_
 rotate_left
 ·(intro w hSw; (try dsimp only at hSw); go_simp; with_reducible rfl)
 simp only [Act.put, List.setIfInBounds_toArray, List.set_cons_zero, List.set_cons_succ]
 refine held_run (v := ?_) 5 36 rfl rfl (by kernel_rfl) (by kernel_rfl) (by kernel_rfl) (fun _ _ _ h => h) (by rfl) ?_ (by assumption) ?_
 rotate_left
 ·(intro w hSw; (try dsimp only at hSw); go_simp; with_reducible rfl)
 simp only [Act.put, List.setIfInBounds_toArray, List.set_cons_zero, List.set_cons_succ]
 refine held_run (v := ?_) 6 37 rfl rfl (by kernel_rfl) (by kernel_rfl) (by kernel_rfl) (fun _ _ _ h => h) (by rfl) ?_ (by assumption) ?_
 rotate_left
 ·(intro w hSw; (try dsimp only at hSw); go_simp; with_reducible rfl)
 simp only [Act.put, List.setIfInBounds_toArray, List.set_cons_zero, List.set_cons_succ]
 refine held_run (v := ?_) 7 38 rfl rfl (by kernel_rfl) (by kernel_rfl) (by kernel_rfl) (fun _ _ _ h => h) (by rfl) ?_ (by assumption) ?_
 rotate_left
 ·(intro w hSw; (try dsimp only at hSw); go_simp; with_reducible rfl)
 simp only [Act.put, List.setIfInBounds_toArray, List.set_cons_zero, List.set_cons_succ]
 refine held_run (v := ?_) 8 39 rfl rfl (by kernel_rfl) (by kernel_rfl) (by kernel_rfl) (fun _ _ _ h => h) (by rfl) ?_ (by assumption) ?_
 rotate_left
 ·(intro w hSw; (try dsimp only at hSw); go_simp; with_reducible rfl)
 simp only [Act.put, List.setIfInBounds_toArray, List.set_cons_zero, List.set_cons_succ]
 refine held_run (v := ?_) 9 40 rfl rfl (by kernel_rfl) (by kernel_rfl) (by kernel_rfl) (fun _ _ _ h => h) (by rfl) ?_ (by assumption) ?_
 rotate_left
 ·(intro w hSw; (try dsimp only at hSw); go_simp; with_reducible rfl)
 simp only [Act.put, List.setIfInBounds_toArray, List.set_cons_zero, List.set_cons_succ]
 refine held_run (v := ?_) 10 41 rfl rfl (by kernel_rfl) (by kernel_rfl) (by kernel_rfl) (fun _ _ _ h => h) (by rfl) ?_ (by assumption) ?_
 rotate_left
 ·(intro w hSw; (try dsimp only at hSw); go_simp; with_reducible rfl)
 simp only [Act.put, List.setIfInBounds_toArray, List.set_cons_zero, List.set_cons_succ]
 refine held_run (v := ?_) 11 42 rfl rfl (by kernel_rfl) (by kernel_rfl) (by kernel_rfl) (fun _ _ _ h => h) (by rfl) ?_ (by assumption) ?_
 rotate_left
 ·(intro w hSw; (try dsimp only at hSw); go_simp; with_reducible rfl)
 simp only [Act.put, List.setIfInBounds_toArray, List.set_cons_zero, List.set_cons_succ]
 refine wpAnyH_ready (rs := [12]) (by kernel_rfl) (by simp) (AllReadyH.cons (o := _) rfl (fun K hK => ?_) AllReadyH.nil)
 go_simp
 (refine (put_any _ base B D m k _ ST (HD5.out.later (Below.refl _ _).drew) HW.out hk hm HST.out (by first | exact HBS.out | simpa using HBS.out)).mono ?_; rintro e w7 ⟨rfl, hd7, hk7⟩; obtain ⟨d0, d1, -, -, -, -⟩ := ((HL5.out.later (Below.refl _ _).drew).kept hk7).cells; have hcv7 := HCV.out w7 ((HBD.out.later (Below.refl _ _).drew).kept hk7))
 go_wp2_with fail
 refine hK.out _ _ (by (try dsimp only); go_keep) (fun hHeld => ?_)
 clear hK K
 try simp only [Act.put, List.setIfInBounds_toArray, List.set_cons_zero, List.set_cons_succ]
 refine held_run (v := ?_) 13 8 rfl rfl (by kernel_rfl) (by kernel_rfl) (by kernel_rfl) (fun _ _ _ h => h) (by rfl) ?_ (by assumption) ?_
 rotate_left
 ·(intro w hSw; (try dsimp only at hSw); go_simp; with_reducible rfl)
 simp only [Act.put, List.setIfInBounds_toArray, List.set_cons_zero, List.set_cons_succ]
 refine wpAnyH_done (by kernel_rfl) ?_ _
 go_wp2
 go_ret
 exact ⟨rfl, hd7, (Kept.of_below HALL.out).trans ((Kept.of_below (Below.refl _ _).drew).trans hk7)⟩

end Go.Proofs.YtnhbfehfipafoaaGreatDoor
