/- A store's catalog is laid anew. -/
import Derived.Test.YtnhbfehfipafoaaGreatDoorSrM
import Derived.Deep.Cut
import Derived.Deep.CutRange
import Derived.Deep.CutBlock
namespace Go.Proofs.YtnhbfehfipafoaaGreatDoor
open Go.RowKit

section
variable {P : Program} {ops : Array Oper} {Q : Exit → Act → World → Prop} {md : Region.Mode} {S : World → Prop} {A : Nat → Bool}

theorem up_two (i j : Nat) {oi oj : Oper} {fuel : Nat} {listed : Array Bool} {a : Act} {w : World} (hr : Region.ready md ops listed = [i, j]) (hi : ops[i]? = some oi) (hj : ops[j]? = some oj)
  (h1 : ∀ K' : Act → World → Prop, Shut (∀ a w, (A i = true → S w) → wpUp P md ops Q S A fuel (listed.setIfInBounds i true) a w → K' a w) → if Region.wanted oi (yielded ops a.tmps) = true then Oper.wp P oi a w K' Q else K' (a.put oi.dst undef) w)
  (h2 : ∀ K' : Act → World → Prop, Shut (∀ a w, (A j = true → S w) → wpUp P md ops Q S A fuel (listed.setIfInBounds j true) a w → K' a w) → if Region.wanted oj (yielded ops a.tmps) = true then Oper.wp P oj a w K' Q else K' (a.put oj.dst undef) w) :
  wpUp P md ops Q S A (fuel + 1) listed a w := by
 refine ⟨fun h0 => absurd (hr.symm.trans h0) (by simp), fun k hk => ?_⟩
 rw [hr] at hk
 rcases (show k = i ∨ k = j by simpa using hk) with rfl | rfl
 ·exact wpOp_step hi (fun K' hK => h1 K' (fun a w hS hW => hK a w ⟨hS, hW⟩))
 ·exact wpOp_step hj (fun K' hK => h2 K' (fun a w hS hW => hK a w ⟨hS, hW⟩))

end

set_option linter.unusedSimpArgs false in
set_option maxRecDepth 100000 in
set_option maxHeartbeats 3200000 in
theorem nextL_any (w : World) (L B : Nat) (fr mn first en : Int) (hl : LogM w L B fr mn first en) (hs : -9223372036854775808 ≤ first + mn ∧ first + mn ≤ 9223372036854775807) :
  Calls Tryz.prog 52 #[.pointer (some ⟨L, 0, none⟩)] w fun e w' => e = .returned (.int .i64 (first + mn)) ∧ Below w.heap.size w w' := by
 obtain ⟨-, -, c2, c3, -, -⟩ := hl.cells
 obtain ⟨N, hN⟩ : ∃ N, first + mn = N := ⟨_, rfl⟩
 have wN : IntKind.i64.wrap N = N := wrap_small (by omega) (by omega)
 have HB := hide ((Below.refl w.heap.size w).drew)
 clear hl hs
 rw [hN]
 go_enter Tryz.func52, Tryz.ntmps52
 go_wp2_with fail
 go_region_held3 (fun w' => w'.cell? ⟨L, 2, none⟩ = some (.int .i64 mn) ∧ w'.cell? ⟨L, 3, none⟩ = some (.int .i64 first)) (go_keep) (fail)
 go_wp2
 go_ret
 exact ⟨rfl, HB.out⟩

theorem StoB.setTop {W : World} {S B : Nat} {h : Hd} {u lp : Value} (y : StoB W S B h u lp) (x : Hd) : StoB ((((W.setCell ⟨S, 1, none⟩ (.int .i64 (x.pl : Int))).setCell ⟨S, 2, none⟩ (.int .u32 x.age)).setCell ⟨S, 3, none⟩ (.int .u32 x.first)).setCell ⟨S, 4, none⟩ (.int .u32 x.long)) S B x u lp :=
 heap_setCell_same _ S 4 _ _ _ (heap_setCell_same _ S 3 _ _ _ (heap_setCell_same _ S 2 _ _ _ (heap_setCell_same _ S 1 _ _ _ y)))

theorem DiskO.setTop {W : World} {base : Own} {C : Nat} {D : Dsk} (d : DiskO W base C D) {S B : Nat} {h : Hd} {u lp : Value} (y : StoB W S B h u lp) (v1 v2 v3 v4 : Value) : DiskO ((((W.setCell ⟨S, 1, none⟩ v1).setCell ⟨S, 2, none⟩ v2).setCell ⟨S, 3, none⟩ v3).setCell ⟨S, 4, none⟩ v4) base C D :=
 (((d.set sto_type y 1 _).set sto_type (heap_setCell_same _ S 1 _ _ _ y) 2 _).set sto_type (heap_setCell_same _ S 2 _ _ _ (heap_setCell_same _ S 1 _ _ _ y)) 3 _).set sto_type (heap_setCell_same _ S 3 _ _ _ (heap_setCell_same _ S 2 _ _ _ (heap_setCell_same _ S 1 _ _ _ y))) 4 _

def CkR (w : World) (base : Own) (B : Nat) (D : Dsk) (h : Hd) (l : List Nmd) (Bv : Nat) (x : Hd) (r : Bool) (W : World) : Prop :=
 ∃ F : Int, (0 < F ∧ F < 4294967296) ∧ numL (cont D 82) ≠ F ∧ (if r = true then nextHd h F (textC l).length else hd0) = x ∧ (layD (nextHd h F (textC l).length) (textC l) D).2 = r ∧
  DiskO W base B (layD (nextHd h F (textC l).length) (textC l) D).1 ∧ HdB W Bv (.int .i64 (x.pl : Int)) (.int .u32 x.age) (.int .u32 x.first) (.int .u32 x.long) ∧ w.heap.size ≤ Bv ∧ Kept base w W

def CkP (w : World) (base : Own) (S B : Nat) (D : Dsk) (m : Nat) (l : List Nmd) (e : Ending) (w' : World) : Prop :=
 ∃ D' b, e = .returned (okV b) ∧ DiskO w' base B D' ∧ KeptS base w w' ∧ (b = true → ∃ h', StoreP w' base S B D' m h' l 0) ∧ (b = false → StoZ D' m l l) ∧ (Free D → b = true ∧ Free D')

set_option linter.unusedSimpArgs false in
set_option maxRecDepth 100000 in
set_option maxHeartbeats 3200000 in
theorem checkpoint_any (w : World) (base : Own) (S B : Nat) (D : Dsk) (m : Nat) (h : Hd) (l : List Nmd) (en : Nat) (hp : StoreP w base S B D m h l en) (hm : m ≤ 200) (h86 : 86 ≤ m) (ht : TabP w) (hbase : base.h ≤ w.heap.size) :
  Calls Tryz.prog 17 #[.pointer (some ⟨S, 0, none⟩)] w fun e w' => CkP w base S B D m l e w' := by
 obtain ⟨⟨L, o, n, c, qs, hx, hc, hq, hlg, hL, hS⟩, hd, hi⟩ := hp
 have ho := (newest_ok hi.says.head).1
 have HCO : Hid (CatOk (qs.map (·.x))) := by rw [hq]; exact hi.says.ok
 have HN1 : Hid (-9223372036854775808 ≤ h.first + ((m - 82 : Nat) : Int) ∧ h.first + ((m - 82 : Nat) : Int) ≤ 9223372036854775807) := by have := ho.first; exact ⟨by omega, by omega⟩
 have HN2 : Hid (1 ≤ h.first + ((m - 82 : Nat) : Int) ∧ h.first + ((m - 82 : Nat) : Int) ≤ 8589934592) := by have := ho.first; exact ⟨by omega, by omega⟩
 have X := hide hx; have HC := hide hc; have HQ := hide hq; have HLG := hide hlg; have HD := hide hd; have HI := hide hi; have HHO := hide ho; have HT := hide ht; have HBA := hide hbase; have HLB := hide hL; have HSB := hide hS
 obtain ⟨c0, c1, c2, c3, c4, c5, c6, -⟩ := hx.cells
 clear hx hc hq hlg hd hi ho ht hbase hL hS
 go_enter Tryz.func17, Tryz.ntmps17
 go_upto_region 1 with fail
 go_cut [3, 4] from 5 (fun v3 v4 wc => ∃ Bv x r, v3 = .pointer (some ⟨Bv, 0, none⟩) ∧ v4 = okV r ∧ CkR w base B D h l Bv x r wc)
 case first =>
  refine up_start (A := fun j => decide (j = 3 ∨ j = 7 ∨ j = 11 ∨ j = 15 ∨ j = 16 ∨ j = 21)) (S := (fun w' => w'.cell? ⟨S, 0, none⟩ = some (.pointer (some ⟨B, 0, none⟩)) ∧ w'.cell? ⟨S, 1, none⟩ = some (.int .i64 (h.pl : Int)) ∧ w'.cell? ⟨S, 2, none⟩ = some (.int .u32 h.age) ∧ w'.cell? ⟨S, 3, none⟩ = some (.int .u32 h.first) ∧ w'.cell? ⟨S, 4, none⟩ = some (.int .u32 h.long) ∧ w'.cell? ⟨S, 5, none⟩ = some (.slice o n c) ∧ w'.cell? ⟨S, 6, none⟩ = some (.pointer (some ⟨L, 0, none⟩)))) (by kernel_rfl) (by exact ⟨c0, c1, c2, c3, c4, c5, c6⟩) (fun hHeld => ?_)
  refine up_pure (v := ?_) 0 6 rfl rfl (by kernel_rfl) (by kernel_rfl) (by kernel_rfl) (by kernel_rfl) (fun _ _ _ h => h) (by rfl) ?_ ?_
  rotate_left
  ·(intro w; go_simp; with_reducible rfl)
  simp only [Act.put, List.setIfInBounds_toArray, List.set_cons_zero, List.set_cons_succ]
  refine up_pure (v := ?_) 1 7 rfl rfl (by kernel_rfl) (by kernel_rfl) (by kernel_rfl) (by kernel_rfl) (fun _ _ _ h => h) (by rfl) ?_ ?_
  rotate_left
  ·(intro w; go_simp; with_reducible rfl)
  simp only [Act.put, List.setIfInBounds_toArray, List.set_cons_zero, List.set_cons_succ]
  refine up_pure (v := ?_) 2 8 rfl rfl (by kernel_rfl) (by kernel_rfl) (by kernel_rfl) (by kernel_rfl) (fun _ _ _ h => h) (by rfl) ?_ ?_
  rotate_left
  ·(intro w; go_simp; with_reducible rfl)
  simp only [Act.put, List.setIfInBounds_toArray, List.set_cons_zero, List.set_cons_succ]
  refine up_pure (v := ?_) 4 10 rfl rfl (by kernel_rfl) (by kernel_rfl) (by kernel_rfl) (by kernel_rfl) (fun _ _ _ h => h) (by rfl) ?_ ?_
  rotate_left
  ·(intro w; go_simp; with_reducible rfl)
  simp only [Act.put, List.setIfInBounds_toArray, List.set_cons_zero, List.set_cons_succ]
  refine up_pure (v := ?_) 5 11 rfl rfl (by kernel_rfl) (by kernel_rfl) (by kernel_rfl) (by kernel_rfl) (fun _ _ _ h => h) (by rfl) ?_ ?_
  rotate_left
  ·(intro w; go_simp; with_reducible rfl)
  simp only [Act.put, List.setIfInBounds_toArray, List.set_cons_zero, List.set_cons_succ]
  refine up_pure (v := ?_) 6 12 rfl rfl (by kernel_rfl) (by kernel_rfl) (by kernel_rfl) (by kernel_rfl) (fun _ _ _ h => h) (by rfl) ?_ ?_
  rotate_left
  ·(intro w; go_simp; with_reducible rfl)
  simp only [Act.put, List.setIfInBounds_toArray, List.set_cons_zero, List.set_cons_succ]
  refine up_pure (v := ?_) 8 14 rfl rfl (by kernel_rfl) (by kernel_rfl) (by kernel_rfl) (by kernel_rfl) (fun _ _ _ h => h) (by rfl) ?_ ?_
  rotate_left
  ·(intro w; go_simp; with_reducible rfl)
  simp only [Act.put, List.setIfInBounds_toArray, List.set_cons_zero, List.set_cons_succ]
  refine up_pure (v := ?_) 9 15 rfl rfl (by kernel_rfl) (by kernel_rfl) (by kernel_rfl) (by kernel_rfl) (fun _ _ _ h => h) (by rfl) ?_ ?_
  rotate_left
  ·(intro w; go_simp; with_reducible rfl)
  simp only [Act.put, List.setIfInBounds_toArray, List.set_cons_zero, List.set_cons_succ]
  refine up_pure (v := ?_) 10 16 rfl rfl (by kernel_rfl) (by kernel_rfl) (by kernel_rfl) (by kernel_rfl) (fun _ _ _ h => h) (by rfl) ?_ ?_
  rotate_left
  ·(intro w; go_simp; with_reducible rfl)
  simp only [Act.put, List.setIfInBounds_toArray, List.set_cons_zero, List.set_cons_succ]
  refine up_pure (v := ?_) 12 18 rfl rfl (by kernel_rfl) (by kernel_rfl) (by kernel_rfl) (by kernel_rfl) (fun _ _ _ h => h) (by rfl) ?_ ?_
  rotate_left
  ·(intro w; go_simp; with_reducible rfl)
  simp only [Act.put, List.setIfInBounds_toArray, List.set_cons_zero, List.set_cons_succ]
  refine up_pure (v := ?_) 13 19 rfl rfl (by kernel_rfl) (by kernel_rfl) (by kernel_rfl) (by kernel_rfl) (fun _ _ _ h => h) (by rfl) ?_ ?_
  rotate_left
  ·(intro w; go_simp; with_reducible rfl)
  simp only [Act.put, List.setIfInBounds_toArray, List.set_cons_zero, List.set_cons_succ]
  refine up_pure (v := ?_) 14 20 rfl rfl (by kernel_rfl) (by kernel_rfl) (by kernel_rfl) (by kernel_rfl) (fun _ _ _ h => h) (by rfl) ?_ ?_
  rotate_left
  ·(intro w; go_simp; with_reducible rfl)
  simp only [Act.put, List.setIfInBounds_toArray, List.set_cons_zero, List.set_cons_succ]
  refine up_run (v := ?_) 3 9 [17, 18, 19, 20, 22, 23] rfl rfl (by kernel_rfl) (by kernel_rfl) (by kernel_rfl) (by kernel_rfl) (fun _ _ _ h => h) (by rfl) ?_ (by assumption) ?_
  rotate_left
  ·(intro w hSw; (try dsimp only at hSw); go_simp; with_reducible rfl)
  simp only [Act.put, List.setIfInBounds_toArray, List.set_cons_zero, List.set_cons_succ]
  refine up_run (v := ?_) 7 13 [17, 18, 19, 20, 22, 23] rfl rfl (by kernel_rfl) (by kernel_rfl) (by kernel_rfl) (by kernel_rfl) (fun _ _ _ h => h) (by rfl) ?_ (by assumption) ?_
  rotate_left
  ·(intro w hSw; (try dsimp only at hSw); go_simp; with_reducible rfl)
  simp only [Act.put, List.setIfInBounds_toArray, List.set_cons_zero, List.set_cons_succ]
  refine up_run (v := ?_) 11 17 [17, 18, 19, 20, 22, 23] rfl rfl (by kernel_rfl) (by kernel_rfl) (by kernel_rfl) (by kernel_rfl) (fun _ _ _ h => h) (by rfl) ?_ (by assumption) ?_
  rotate_left
  ·(intro w hSw; (try dsimp only at hSw); go_simp; with_reducible rfl)
  simp only [Act.put, List.setIfInBounds_toArray, List.set_cons_zero, List.set_cons_succ]
  refine up_run (v := ?_) 15 21 [16, 17, 18, 19, 20, 22, 23] rfl rfl (by kernel_rfl) (by kernel_rfl) (by kernel_rfl) (by kernel_rfl) (fun _ _ _ h => h) (by rfl) ?_ (by assumption) ?_
  rotate_left
  ·(intro w hSw; (try dsimp only at hSw); go_simp; with_reducible rfl)
  simp only [Act.put, List.setIfInBounds_toArray, List.set_cons_zero, List.set_cons_succ]
  have h0 : Below w.heap.size w w.drew := (Below.refl _ _).drew
  clear c0 c1 c2 c3 c4 c5 c6
  generalize w.drew = w0 at *
  refine up_two 16 21 (by kernel_rfl) rfl rfl (fun K hK => ?_) (fun K hK => ?_)
  ·go_simp
   refine (nextL_any _ L B 82 ((m - 82 : Nat) : Int) h.first en (HLG.out.later h0) HN1.out).mono ?_
   rintro e w1 ⟨rfl, hb'⟩
   have h1 : Below w.heap.size w w1 := h0.trans (hb'.mono h0.size)
   obtain ⟨t0, t1, t2, t3, t4, t5, t6, -⟩ := (X.out.later h1).cells
   go_wp2_with fail
   refine hK.out _ _ (fun _ => ⟨t0, t1, t2, t3, t4, t5, t6⟩) ?_
   clear hK K
   try clear hHeld
   try simp only [Act.put, List.setIfInBounds_toArray, List.set_cons_zero, List.set_cons_succ]
   have hHeld : (fun w' => w'.cell? ⟨S, 0, none⟩ = some (.pointer (some ⟨B, 0, none⟩)) ∧ w'.cell? ⟨S, 1, none⟩ = some (.int .i64 (h.pl : Int)) ∧ w'.cell? ⟨S, 2, none⟩ = some (.int .u32 h.age) ∧ w'.cell? ⟨S, 3, none⟩ = some (.int .u32 h.first) ∧ w'.cell? ⟨S, 4, none⟩ = some (.int .u32 h.long) ∧ w'.cell? ⟨S, 5, none⟩ = some (.slice o n c) ∧ w'.cell? ⟨S, 6, none⟩ = some (.pointer (some ⟨L, 0, none⟩))) w1 := ⟨t0, t1, t2, t3, t4, t5, t6⟩
   clear hb' t0 t1 t2 t3 t4 t5 t6
   refine up_two 17 21 (by kernel_rfl) rfl rfl (fun K hK => ?_) (fun K hK => ?_)
   ·go_simp
    refine (lay_any _ base B D m h (.agg #[.slice o n c]) qs (h.first + ((m - 82 : Nat) : Int)) (HD.out.later h1) HI.out.up HI.out.well hm h86 HHO.out.pl ⟨_, rfl, HC.out.below h1⟩ HCO.out (HT.out.below h1) HN2.out (Nat.le_trans HBA.out h1.size)).mono ?_
    rintro e w9 ⟨F, hF, hfr, rfl, hd9, hk9⟩
    rw [HQ.out] at hd9 ⊢
    obtain ⟨r, hr⟩ : ∃ r, (layD (nextHd h F (textC l).length) (textC l) D).2 = r := ⟨_, rfl⟩
    rw [hr]
    obtain ⟨x, hx⟩ : ∃ x, (if r = true then nextHd h F (textC l).length else hd0) = x := ⟨_, rfl⟩
    rw [hx]
    unfold hdV
    have HF := hide hF; have HFR := hide hfr; have HR := hide hr; have HX := hide hx; have HD9 := hide hd9
    have HK9 := hide ((Kept.of_below (base := base) h1).trans hk9)
    have HS9 : Hid (w.heap.size ≤ w9.heap.size) := Nat.le_trans h1.size hk9.size
    clear hF hfr hr hx hd9 hk9
    go_wp2_with fail
    refine hK.out _ _ (fun h => absurd h (by decide)) ?_
    clear hK K
    try clear hHeld
    try simp only [Act.put, List.setIfInBounds_toArray, List.set_cons_zero, List.set_cons_succ]
    refine up_pure (v := ?_) 18 5 rfl rfl (by kernel_rfl) (by kernel_rfl) (by kernel_rfl) (by kernel_rfl) (fun _ _ _ h => h) (by rfl) ?_ ?_
    rotate_left
    ·(intro w; go_simp; with_reducible rfl)
    simp only [Act.put, List.setIfInBounds_toArray, List.set_cons_zero, List.set_cons_succ]
    refine up_pure (v := ?_) 19 24 rfl rfl (by kernel_rfl) (by kernel_rfl) (by kernel_rfl) (by kernel_rfl) (fun _ _ _ h => h) (by rfl) ?_ ?_
    rotate_left
    ·(intro w; go_simp; with_reducible rfl)
    simp only [Act.put, List.setIfInBounds_toArray, List.set_cons_zero, List.set_cons_succ]
    refine up_pure (v := ?_) 20 25 rfl rfl (by kernel_rfl) (by kernel_rfl) (by kernel_rfl) (by kernel_rfl) (fun _ _ _ h => h) (by rfl) ?_ ?_
    rotate_left
    ·(intro w; go_simp; with_reducible rfl)
    simp only [Act.put, List.setIfInBounds_toArray, List.set_cons_zero, List.set_cons_succ]
    refine up_one 21 (by kernel_rfl) rfl (fun K hK => ?_)
    have XB9 := hide (HdB.new w9 (.int .i64 0) (.int .u32 0) (.int .u32 0) (.int .u32 0))
    have HD9 := hide (HD9.out.later (alloc_below w9 (.cells #[.int .i64 0, .int .u32 0, .int .u32 0, .int .u32 0] 91)))
    have HK9 := hide (HK9.out.trans (Kept.of_below (alloc_below w9 (.cells #[.int .i64 0, .int .u32 0, .int .u32 0, .int .u32 0] 91))))
    obtain ⟨Bv, hBv⟩ : ∃ Bv, w9.heap.size = Bv := ⟨_, rfl⟩
    have hBV : w.heap.size ≤ Bv := by rw [← hBv]; exact HS9.out
    obtain ⟨t0, t1, t2, t3, t4, t5, t6, -⟩ := (X.out.kept HK9.out).cells
    go_simp
    refine hK.out _ _ (fun _ => ⟨t0, t1, t2, t3, t4, t5, t6⟩) ?_
    clear hK K
    try clear hHeld
    try simp only [Act.put, List.setIfInBounds_toArray, List.set_cons_zero, List.set_cons_succ]
    clear t0 t1 t2 t3 t4 t5 t6
    generalize hw10 : w9.alloc (.cells #[.int .i64 0, .int .u32 0, .int .u32 0, .int .u32 0] 91) = w10 at *
    try rw [hBv]
    rw [hBv] at XB9
    clear hw10 hBv
    obtain ⟨z0, z1, z2, z3, z4, z5, z6, z7⟩ := HdB.cells XB9.out
    refine up_one 22 (by kernel_rfl) rfl (fun K hK => ?_)
    go_simp
    refine hK.out _ _ (fun h => absurd h (by decide)) ?_
    clear hK K
    try clear hHeld
    try simp only [Act.put, List.setIfInBounds_toArray, List.set_cons_zero, List.set_cons_succ]
    refine up_one 23 (by kernel_rfl) rfl (fun K hK => ?_)
    go_simp
    refine hK.out _ _ (fun h => absurd h (by decide)) ?_
    clear hK K
    try clear hHeld
    try simp only [Act.put, List.setIfInBounds_toArray, List.set_cons_zero, List.set_cons_succ]
    refine up_done (by kernel_rfl) ?_
    go_wp2
    go_meet
    case rel => exact ⟨Bv, x, r, rfl, rfl, F, HF.out, HFR.out, HX.out, HR.out, (((HD9.out.set head_type XB9.out 0 _).set head_type (heap_setCell_same _ _ 0 _ _ _ XB9.out) 1 _).set head_type (heap_setCell_same _ _ 1 _ _ _ (heap_setCell_same _ _ 0 _ _ _ XB9.out)) 2 _).set head_type (heap_setCell_same _ _ 2 _ _ _ (heap_setCell_same _ _ 1 _ _ _ (heap_setCell_same _ _ 0 _ _ _ XB9.out))) 3 _, HdB.wrote XB9.out (.int .i64 (x.pl : Int)) (.int .u32 x.age) (.int .u32 x.first) (.int .u32 x.long), hBV, (((HK9.out.setNew hBV 0 _).setNew hBV 1 _).setNew hBV 2 _).setNew hBV 3 _⟩
   ·have hb' := alloc_below w1 (.cells #[.int .i64 0, .int .u32 0, .int .u32 0, .int .u32 0] 91)
    have h2 := h1.trans (hb'.mono h1.size)
    have XB := hide (HdB.new w1 (.int .i64 0) (.int .u32 0) (.int .u32 0) (.int .u32 0))
    obtain ⟨Bv, hBv⟩ : ∃ Bv, w1.heap.size = Bv := ⟨_, rfl⟩
    have hBV : w.heap.size ≤ Bv := by rw [← hBv]; exact h1.size
    obtain ⟨t0, t1, t2, t3, t4, t5, t6, -⟩ := (X.out.later h2).cells
    go_simp
    refine hK.out _ _ (fun _ => ⟨t0, t1, t2, t3, t4, t5, t6⟩) ?_
    clear hK K
    try clear hHeld
    try simp only [Act.put, List.setIfInBounds_toArray, List.set_cons_zero, List.set_cons_succ]
    have hHeld : (fun w' => w'.cell? ⟨S, 0, none⟩ = some (.pointer (some ⟨B, 0, none⟩)) ∧ w'.cell? ⟨S, 1, none⟩ = some (.int .i64 (h.pl : Int)) ∧ w'.cell? ⟨S, 2, none⟩ = some (.int .u32 h.age) ∧ w'.cell? ⟨S, 3, none⟩ = some (.int .u32 h.first) ∧ w'.cell? ⟨S, 4, none⟩ = some (.int .u32 h.long) ∧ w'.cell? ⟨S, 5, none⟩ = some (.slice o n c) ∧ w'.cell? ⟨S, 6, none⟩ = some (.pointer (some ⟨L, 0, none⟩))) (w1.alloc (.cells #[.int .i64 0, .int .u32 0, .int .u32 0, .int .u32 0] 91)) := ⟨t0, t1, t2, t3, t4, t5, t6⟩
    clear hb' t0 t1 t2 t3 t4 t5 t6
    generalize hw2 : w1.alloc (.cells #[.int .i64 0, .int .u32 0, .int .u32 0, .int .u32 0] 91) = w2 at *
    try rw [hBv]
    rw [hBv] at XB
    clear hw2 hBv
    refine up_one 17 (by kernel_rfl) rfl (fun K hK => ?_)
    go_simp
    refine (lay_any _ base B D m h (.agg #[.slice o n c]) qs (h.first + ((m - 82 : Nat) : Int)) (HD.out.later h2) HI.out.up HI.out.well hm h86 HHO.out.pl ⟨_, rfl, HC.out.below h2⟩ HCO.out (HT.out.below h2) HN2.out (Nat.le_trans HBA.out h2.size)).mono ?_
    rintro e w9 ⟨F, hF, hfr, rfl, hd9, hk9⟩
    rw [HQ.out] at hd9 ⊢
    obtain ⟨r, hr⟩ : ∃ r, (layD (nextHd h F (textC l).length) (textC l) D).2 = r := ⟨_, rfl⟩
    rw [hr]
    obtain ⟨x, hx⟩ : ∃ x, (if r = true then nextHd h F (textC l).length else hd0) = x := ⟨_, rfl⟩
    rw [hx]
    unfold hdV
    have HF := hide hF; have HFR := hide hfr; have HR := hide hr; have HX := hide hx; have HD9 := hide hd9
    have HK9 := hide ((Kept.of_below (base := base) h2).trans hk9)
    have XB9 := hide (HdB.kept XB.out hk9)
    clear hF hfr hr hx hd9 hk9
    go_wp2_with fail
    refine hK.out _ _ (fun h => absurd h (by decide)) ?_
    clear hK K
    try clear hHeld
    try simp only [Act.put, List.setIfInBounds_toArray, List.set_cons_zero, List.set_cons_succ]
    refine up_pure (v := ?_) 18 5 rfl rfl (by kernel_rfl) (by kernel_rfl) (by kernel_rfl) (by kernel_rfl) (fun _ _ _ h => h) (by rfl) ?_ ?_
    rotate_left
    ·(intro w; go_simp; with_reducible rfl)
    simp only [Act.put, List.setIfInBounds_toArray, List.set_cons_zero, List.set_cons_succ]
    refine up_pure (v := ?_) 19 24 rfl rfl (by kernel_rfl) (by kernel_rfl) (by kernel_rfl) (by kernel_rfl) (fun _ _ _ h => h) (by rfl) ?_ ?_
    rotate_left
    ·(intro w; go_simp; with_reducible rfl)
    simp only [Act.put, List.setIfInBounds_toArray, List.set_cons_zero, List.set_cons_succ]
    refine up_pure (v := ?_) 20 25 rfl rfl (by kernel_rfl) (by kernel_rfl) (by kernel_rfl) (by kernel_rfl) (fun _ _ _ h => h) (by rfl) ?_ ?_
    rotate_left
    ·(intro w; go_simp; with_reducible rfl)
    simp only [Act.put, List.setIfInBounds_toArray, List.set_cons_zero, List.set_cons_succ]
    obtain ⟨z0, z1, z2, z3, z4, z5, z6, z7⟩ := HdB.cells XB9.out
    refine up_one 22 (by kernel_rfl) rfl (fun K hK => ?_)
    go_simp
    refine hK.out _ _ (fun h => absurd h (by decide)) ?_
    clear hK K
    try clear hHeld
    try simp only [Act.put, List.setIfInBounds_toArray, List.set_cons_zero, List.set_cons_succ]
    refine up_one 23 (by kernel_rfl) rfl (fun K hK => ?_)
    go_simp
    refine hK.out _ _ (fun h => absurd h (by decide)) ?_
    clear hK K
    try clear hHeld
    try simp only [Act.put, List.setIfInBounds_toArray, List.set_cons_zero, List.set_cons_succ]
    refine up_done (by kernel_rfl) ?_
    go_wp2
    go_meet
    case rel => exact ⟨Bv, x, r, rfl, rfl, F, HF.out, HFR.out, HX.out, HR.out, (((HD9.out.set head_type XB9.out 0 _).set head_type (heap_setCell_same _ _ 0 _ _ _ XB9.out) 1 _).set head_type (heap_setCell_same _ _ 1 _ _ _ (heap_setCell_same _ _ 0 _ _ _ XB9.out)) 2 _).set head_type (heap_setCell_same _ _ 2 _ _ _ (heap_setCell_same _ _ 1 _ _ _ (heap_setCell_same _ _ 0 _ _ _ XB9.out))) 3 _, HdB.wrote XB9.out (.int .i64 (x.pl : Int)) (.int .u32 x.age) (.int .u32 x.first) (.int .u32 x.long), hBV, (((HK9.out.setNew hBV 0 _).setNew hBV 1 _).setNew hBV 2 _).setNew hBV 3 _⟩
  ·have hb' := alloc_below w0 (.cells #[.int .i64 0, .int .u32 0, .int .u32 0, .int .u32 0] 91)
   have h1 := h0.trans (hb'.mono h0.size)
   have XB := hide (HdB.new w0 (.int .i64 0) (.int .u32 0) (.int .u32 0) (.int .u32 0))
   obtain ⟨Bv, hBv⟩ : ∃ Bv, w0.heap.size = Bv := ⟨_, rfl⟩
   have hBV : w.heap.size ≤ Bv := by rw [← hBv]; exact h0.size
   obtain ⟨t0, t1, t2, t3, t4, t5, t6, -⟩ := (X.out.later h1).cells
   go_simp
   refine hK.out _ _ (fun _ => ⟨t0, t1, t2, t3, t4, t5, t6⟩) ?_
   clear hK K
   try clear hHeld
   try simp only [Act.put, List.setIfInBounds_toArray, List.set_cons_zero, List.set_cons_succ]
   have hHeld : (fun w' => w'.cell? ⟨S, 0, none⟩ = some (.pointer (some ⟨B, 0, none⟩)) ∧ w'.cell? ⟨S, 1, none⟩ = some (.int .i64 (h.pl : Int)) ∧ w'.cell? ⟨S, 2, none⟩ = some (.int .u32 h.age) ∧ w'.cell? ⟨S, 3, none⟩ = some (.int .u32 h.first) ∧ w'.cell? ⟨S, 4, none⟩ = some (.int .u32 h.long) ∧ w'.cell? ⟨S, 5, none⟩ = some (.slice o n c) ∧ w'.cell? ⟨S, 6, none⟩ = some (.pointer (some ⟨L, 0, none⟩))) (w0.alloc (.cells #[.int .i64 0, .int .u32 0, .int .u32 0, .int .u32 0] 91)) := ⟨t0, t1, t2, t3, t4, t5, t6⟩
   clear hb' t0 t1 t2 t3 t4 t5 t6
   generalize hw1 : w0.alloc (.cells #[.int .i64 0, .int .u32 0, .int .u32 0, .int .u32 0] 91) = w1 at *
   try rw [hBv]
   rw [hBv] at XB
   clear hw1 hBv
   refine up_one 16 (by kernel_rfl) rfl (fun K hK => ?_)
   go_simp
   refine (nextL_any _ L B 82 ((m - 82 : Nat) : Int) h.first en (HLG.out.later h1) HN1.out).mono ?_
   rintro e w2 ⟨rfl, hb'⟩
   have h2 : Below w.heap.size w w2 := h1.trans (hb'.mono h1.size)
   obtain ⟨t0, t1, t2, t3, t4, t5, t6, -⟩ := (X.out.later h2).cells
   have XB := hide (HdB.later XB.out hb')
   go_wp2_with fail
   refine hK.out _ _ (fun _ => ⟨t0, t1, t2, t3, t4, t5, t6⟩) ?_
   clear hK K
   try clear hHeld
   try simp only [Act.put, List.setIfInBounds_toArray, List.set_cons_zero, List.set_cons_succ]
   have hHeld : (fun w' => w'.cell? ⟨S, 0, none⟩ = some (.pointer (some ⟨B, 0, none⟩)) ∧ w'.cell? ⟨S, 1, none⟩ = some (.int .i64 (h.pl : Int)) ∧ w'.cell? ⟨S, 2, none⟩ = some (.int .u32 h.age) ∧ w'.cell? ⟨S, 3, none⟩ = some (.int .u32 h.first) ∧ w'.cell? ⟨S, 4, none⟩ = some (.int .u32 h.long) ∧ w'.cell? ⟨S, 5, none⟩ = some (.slice o n c) ∧ w'.cell? ⟨S, 6, none⟩ = some (.pointer (some ⟨L, 0, none⟩))) w2 := ⟨t0, t1, t2, t3, t4, t5, t6⟩
   clear hb' t0 t1 t2 t3 t4 t5 t6
   refine up_one 17 (by kernel_rfl) rfl (fun K hK => ?_)
   go_simp
   refine (lay_any _ base B D m h (.agg #[.slice o n c]) qs (h.first + ((m - 82 : Nat) : Int)) (HD.out.later h2) HI.out.up HI.out.well hm h86 HHO.out.pl ⟨_, rfl, HC.out.below h2⟩ HCO.out (HT.out.below h2) HN2.out (Nat.le_trans HBA.out h2.size)).mono ?_
   rintro e w9 ⟨F, hF, hfr, rfl, hd9, hk9⟩
   rw [HQ.out] at hd9 ⊢
   obtain ⟨r, hr⟩ : ∃ r, (layD (nextHd h F (textC l).length) (textC l) D).2 = r := ⟨_, rfl⟩
   rw [hr]
   obtain ⟨x, hx⟩ : ∃ x, (if r = true then nextHd h F (textC l).length else hd0) = x := ⟨_, rfl⟩
   rw [hx]
   unfold hdV
   have HF := hide hF; have HFR := hide hfr; have HR := hide hr; have HX := hide hx; have HD9 := hide hd9
   have HK9 := hide ((Kept.of_below (base := base) h2).trans hk9)
   have XB9 := hide (HdB.kept XB.out hk9)
   clear hF hfr hr hx hd9 hk9
   go_wp2_with fail
   refine hK.out _ _ (fun h => absurd h (by decide)) ?_
   clear hK K
   try clear hHeld
   try simp only [Act.put, List.setIfInBounds_toArray, List.set_cons_zero, List.set_cons_succ]
   refine up_pure (v := ?_) 18 5 rfl rfl (by kernel_rfl) (by kernel_rfl) (by kernel_rfl) (by kernel_rfl) (fun _ _ _ h => h) (by rfl) ?_ ?_
   rotate_left
   ·(intro w; go_simp; with_reducible rfl)
   simp only [Act.put, List.setIfInBounds_toArray, List.set_cons_zero, List.set_cons_succ]
   refine up_pure (v := ?_) 19 24 rfl rfl (by kernel_rfl) (by kernel_rfl) (by kernel_rfl) (by kernel_rfl) (fun _ _ _ h => h) (by rfl) ?_ ?_
   rotate_left
   ·(intro w; go_simp; with_reducible rfl)
   simp only [Act.put, List.setIfInBounds_toArray, List.set_cons_zero, List.set_cons_succ]
   refine up_pure (v := ?_) 20 25 rfl rfl (by kernel_rfl) (by kernel_rfl) (by kernel_rfl) (by kernel_rfl) (fun _ _ _ h => h) (by rfl) ?_ ?_
   rotate_left
   ·(intro w; go_simp; with_reducible rfl)
   simp only [Act.put, List.setIfInBounds_toArray, List.set_cons_zero, List.set_cons_succ]
   obtain ⟨z0, z1, z2, z3, z4, z5, z6, z7⟩ := HdB.cells XB9.out
   refine up_one 22 (by kernel_rfl) rfl (fun K hK => ?_)
   go_simp
   refine hK.out _ _ (fun h => absurd h (by decide)) ?_
   clear hK K
   try clear hHeld
   try simp only [Act.put, List.setIfInBounds_toArray, List.set_cons_zero, List.set_cons_succ]
   refine up_one 23 (by kernel_rfl) rfl (fun K hK => ?_)
   go_simp
   refine hK.out _ _ (fun h => absurd h (by decide)) ?_
   clear hK K
   try clear hHeld
   try simp only [Act.put, List.setIfInBounds_toArray, List.set_cons_zero, List.set_cons_succ]
   refine up_done (by kernel_rfl) ?_
   go_wp2
   go_meet
   case rel => exact ⟨Bv, x, r, rfl, rfl, F, HF.out, HFR.out, HX.out, HR.out, (((HD9.out.set head_type XB9.out 0 _).set head_type (heap_setCell_same _ _ 0 _ _ _ XB9.out) 1 _).set head_type (heap_setCell_same _ _ 1 _ _ _ (heap_setCell_same _ _ 0 _ _ _ XB9.out)) 2 _).set head_type (heap_setCell_same _ _ 2 _ _ _ (heap_setCell_same _ _ 1 _ _ _ (heap_setCell_same _ _ 0 _ _ _ XB9.out))) 3 _, HdB.wrote XB9.out (.int .i64 (x.pl : Int)) (.int .u32 x.age) (.int .u32 x.first) (.int .u32 x.long), hBV, (((HK9.out.setNew hBV 0 _).setNew hBV 1 _).setNew hBV 2 _).setNew hBV 3 _⟩
 case rest =>
  obtain ⟨Bv, x, r, rfl, rfl, F, hF, hfr, hx, hr, hd, hb, hBv, hk⟩ := hcut
  apply_assumption
  have X9 := X.out.kept hk
  cases r with
  | false =>
   have HFIN : Hid (CkP w base S B D m l (.returned (errno 9)) wc) := ⟨_, false, rfl, hd, KeptS.of_kept hk, (fun h => by cases h), fun _ => HI.out.lay_fell (by omega) hF hfr hr, fun hf => absurd (layD_free hf).1 (by rw [hr]; decide)⟩
   clear hF hfr hx hr hd hb hk X9
   rw [show okV false = errno 9 from rfl]
   go_wp2
   go_ret
   exact HFIN.out
  | true =>
   rw [if_pos rfl] at hx
   have hst := HI.out.lay_done (by omega) hF hfr hr
   rw [hx] at hst hd
   have HFR : Hid (Free D → Free (layD x (textC l) D).1) := fun hf => by have := (layD_free (n := x) (t := textC l) hf).2; exact this
   obtain ⟨D1, hD1⟩ : ∃ D1, (layD x (textC l) D).1 = D1 := ⟨_, rfl⟩
   rw [hD1] at hst hd HFR
   have hxo := (newest_ok hst.says.head).1
   have HST := hide hst; have HXO := hide hxo
   have XE := hide (X9.setTop x); have HDE := hide (hd.setTop X9 (.int .i64 (x.pl : Int)) (.int .u32 x.age) (.int .u32 x.first) (.int .u32 x.long))
   have hbut : ButB wc.heap.size S wc ((((wc.setCell ⟨S, 1, none⟩ (.int .i64 (x.pl : Int))).setCell ⟨S, 2, none⟩ (.int .u32 x.age)).setCell ⟨S, 3, none⟩ (.int .u32 x.first)).setCell ⟨S, 4, none⟩ (.int .u32 x.long)) := ((((ButB.of (Below.refl _ _)).set 1 _).set 2 _).set 3 _).set 4 _
   have HKE := hide ((KeptS.of_kept hk).trans (KeptS.of_but hbut X9 HSB.out))
   have HSZ : Hid (w.heap.size ≤ (((((wc.setCell ⟨S, 1, none⟩ (.int .i64 (x.pl : Int))).setCell ⟨S, 2, none⟩ (.int .u32 x.age)).setCell ⟨S, 3, none⟩ (.int .u32 x.first)).setCell ⟨S, 4, none⟩ (.int .u32 x.long))).heap.size) := HKE.out.size
   obtain ⟨c0, c1, c2, c3, c4, c5, c6, cz⟩ := X9.cells
   have z1 := cz 1; have z2 := cz 2; have z3 := cz 3; have z4 := cz 4
   obtain ⟨b0, b1, b2, b3, -⟩ := HdB.cells hb
   clear hF hfr hx hr hd hb hk X9 hst hxo hD1 hbut cz
   rw [show okV true = .nilIface from rfl]
   go_wp2_with fail
   generalize ((((wc.setCell ⟨S, 1, none⟩ (.int .i64 (x.pl : Int))).setCell ⟨S, 2, none⟩ (.int .u32 x.age)).setCell ⟨S, 3, none⟩ (.int .u32 x.first)).setCell ⟨S, 4, none⟩ (.int .u32 x.long)) = wE at *
   refine (openLog_any wE base S B D1 m x (.slice o n c) (.pointer (some ⟨L, 0, none⟩)) XE.out HDE.out HST.out.up HST.out.well.len hm h86 HXO.out).mono ?_
   rintro e w5 ⟨L2, dv, dss, rfl, hL2, -, -, hlg2, hx5, hd5, hb5⟩
   rw [HST.out.says.e] at hlg2
   have hK := HKE.out.trans (KeptS.of_but hb5 XE.out HSB.out)
   have HFIN : Hid (CkP w base S B D m l (.returned .nilIface) w5) := ⟨D1, true, rfl, hd5, hK, fun _ => ⟨x, ⟨⟨L2, o, n, c, qs, hx5, HC.out.keepK (keepK_keptS hK), HQ.out, hlg2, .inl (Nat.le_trans HBA.out (Nat.le_trans HSZ.out hL2)), HSB.out⟩, hd5, HST.out⟩⟩, (fun h => by cases h), fun hf => ⟨rfl, HFR.out hf⟩⟩
   clear hL2 hlg2 hx5 hd5 hb5 hK
   go_wp2
   go_ret
   exact HFIN.out

end Go.Proofs.YtnhbfehfipafoaaGreatDoor
