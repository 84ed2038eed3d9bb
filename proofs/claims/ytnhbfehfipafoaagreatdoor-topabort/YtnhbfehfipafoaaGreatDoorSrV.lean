/- An operation in a session; a session's deed is committed. -/
import Derived.Test.YtnhbfehfipafoaaGreatDoorSrX
import Derived.Test.YtnhbfehfipafoaaGreatDoorSrW
import Derived.Test.YtnhbfehfipafoaaGreatDoorWaV

namespace Go.Proofs.YtnhbfehfipafoaaGreatDoor
open Go.RowKit

theorem OpBx.new (W : World) (k : Int) (s : ByteArray) (n : Int) (v : Value) : OpBx (W.alloc (.cells #[.int .i64 k, .string s, .int .i64 n, v] 43)) W.heap.size k s n v := heap_alloc_new W _

theorem opsN_one1 {W : World} {B : Nat} {k n : Int} {s : ByteArray} {vs : List Int} {vo : Option Addr} {vc : Nat} (x : OpBx W B k s n (.slice vo vs.length vc)) (hr : RowS W (.slice vo vs.length vc) vs) : OpsN W (.slice (some ⟨B, 0, none⟩) 1 1) [⟨⟨k, s, n, vs⟩, vo, vc⟩] := by
 obtain ⟨c0, c1, c2, c3, -⟩ := x.cells
 refine ⟨_, 1, rfl, Nat.le_refl _, fun _ => ⟨B, 0, rfl, heap_lt (show W.heap[B]? = _ from x), fun i q hq => ?_⟩⟩
 match i, hq with
 | 0, hq =>
  simp only [List.getElem?_cons_zero, Option.some.injEq] at hq
  subst hq
  exact ⟨c0, c1, c2, c3, hr⟩

theorem OpBx.keptS {W W' : World} {base B : Nat} {k n : Int} {s : ByteArray} {v : Value} (x : OpBx W B k s n v) (hk : KeptS base W W') : OpBx W' B k s n v := hk.stays x op_stoN
theorem SesB.keptS {W W' : World} {base X S : Nat} {v : Value} (x : SesB W X S v) (hk : KeptS base W W') : SesB W' X S v := hk.stays x ses_sto
theorem DeeB.keptS {W W' : World} {base T : Nat} {u v : Value} (x : DeeB W T u v) (hk : KeptS base W W') : DeeB W' T u v := hk.stays x dee_sto
theorem int_stoN : ¬ stoT 3 := by unfold stoT logT diskT; decide

theorem OpsT.keptS {W W' : World} {base C : Nat} {v : Value} {os : List OpC} (h : OpsT C W v os) (hk : KeptS base W W') : OpsT C W' v os := h.keep fun b cs t fz hx ht => by
 rw [hk.stays hx ?_, hx]
 rcases ht with rfl | rfl | rfl <;> (unfold stoT logT diskT; decide)

theorem CmP.ret {w w' : World} {base S B : Nat} {D : Dsk} {m : Nat} {l : List Nmd} {en : Nat} {os : List OpV} {e : Ending} (h : CmP w base S B D m l en os e w') : ∃ v, e = .returned v ∧ CmP w base S B D m l en os (.returned v) w' := by
 rcases id h with ⟨⟨-, rfl, -⟩ | ⟨-, D', b, rfl, -⟩, -⟩
 ·exact ⟨_, rfl, h⟩
 ·exact ⟨_, rfl, h⟩

theorem CmP.later {w0 w w' : World} {base S B : Nat} {D : Dsk} {m : Nat} {l : List Nmd} {en : Nat} {os : List OpV} {e : Ending} (h : CmP w base S B D m l en os e w') (hb : Below w0.heap.size w0 w) : CmP w0 base S B D m l en os e w' := ⟨h.1, (KeptS.of_below hb).trans h.2⟩

set_option linter.unusedSimpArgs false in
set_option maxRecDepth 100000 in
set_option maxHeartbeats 3200000 in
theorem do0_any (w : World) (X base S B : Nat) (D : Dsk) (m : Nat) (h : Hd) (l : List Nmd) (en : Nat) (ov : OpV) (vo : Option Addr) (vc : Nat) (x : SesB w X S (.pointer none)) (hp : StoreP w base S B D m h l en) (hm : m ≤ 200) (h86 : 86 ≤ m) (ht : TabP w) (hbase : base ≤ w.heap.size)
  (hv : ∀ W, KeptS base w W → RowS W (.slice vo ov.v.length vc) ov.v) (hvl : ov.v.length ≤ 20) :
  Calls Tryz.prog 28 #[.pointer (some ⟨X, 0, none⟩), .agg #[.int .i64 ov.kind, .string ov.name, .int .i64 ov.n, .slice vo ov.v.length vc]] w fun e w' => CmP w base S B D m l en [ov] e w' := by
 obtain ⟨kd, nm, nn, vs⟩ := ov
 dsimp only at hv hvl ⊢
 have hb1 := alloc_below w (.cells #[.int .i64 kd, .string nm, .int .i64 nn, .slice vo vs.length vc] 43)
 have hB1 := OpBx.new w kd nm nn (.slice vo vs.length vc)
 have hX1 := x.later hb1
 have hb0 := hb1.trans (((Below.refl _ _).drew : Below (w.alloc (.cells #[.int .i64 kd, .string nm, .int .i64 nn, .slice vo vs.length vc] 43)).heap.size (w.alloc (.cells #[.int .i64 kd, .string nm, .int .i64 nn, .slice vo vs.length vc] 43)) (w.alloc (.cells #[.int .i64 kd, .string nm, .int .i64 nn, .slice vo vs.length vc] 43)).drew).mono hb1.size)
 have hB0 : OpBx (w.alloc (.cells #[.int .i64 kd, .string nm, .int .i64 nn, .slice vo vs.length vc] 43)).drew w.heap.size kd nm nn (.slice vo vs.length vc) := hB1
 have hX0 : SesB (w.alloc (.cells #[.int .i64 kd, .string nm, .int .i64 nn, .slice vo vs.length vc] 43)).drew X S (.pointer none) := hX1
 have hb7 := alloc_below (w.alloc (.cells #[.int .i64 kd, .string nm, .int .i64 nn, .slice vo vs.length vc] 43)).drew (.cells #[.int .i64 kd, .string nm, .int .i64 nn, .slice vo vs.length vc] 43)
 have HB7 := hide (hb0.trans (hb7.mono hb0.size))
 have hN7 := OpBx.new (w.alloc (.cells #[.int .i64 kd, .string nm, .int .i64 nn, .slice vo vs.length vc] 43)).drew kd nm nn (.slice vo vs.length vc)
 have HCM := hide (commit_any ((w.alloc (.cells #[.int .i64 kd, .string nm, .int .i64 nn, .slice vo vs.length vc] 43)).drew.alloc (.cells #[.int .i64 kd, .string nm, .int .i64 nn, .slice vo vs.length vc] 43)) base S B D m h l en (.slice (some ⟨(w.alloc (.cells #[.int .i64 kd, .string nm, .int .i64 nn, .slice vo vs.length vc] 43)).drew.heap.size, 0, none⟩) 1 1) [⟨⟨kd, nm, nn, vs⟩, vo, vc⟩] (hp.later HB7.out) hm h86 (ht.below HB7.out) (Nat.le_trans hbase HB7.out.size)
  (fun W hk => opsN_one1 (hN7.keptS hk) (hv W ((KeptS.of_below HB7.out).trans hk))) (fun q hq => by rw [List.mem_singleton] at hq; subst hq; exact hvl) (by show 1 ≤ 1000000; decide) [⟨kd, nm, nn, vs⟩] rfl)
 have hS0 : (w.alloc (.cells #[.int .i64 kd, .string nm, .int .i64 nn, .slice vo vs.length vc] 43)).drew.cell? ⟨X, 0, none⟩ = some (.pointer (some ⟨S, 0, none⟩)) ∧ (w.alloc (.cells #[.int .i64 kd, .string nm, .int .i64 nn, .slice vo vs.length vc] 43)).drew.cell? ⟨w.heap.size, 0, none⟩ = some (.int .i64 kd) ∧ (w.alloc (.cells #[.int .i64 kd, .string nm, .int .i64 nn, .slice vo vs.length vc] 43)).drew.cell? ⟨w.heap.size, 1, none⟩ = some (.string nm) ∧ (w.alloc (.cells #[.int .i64 kd, .string nm, .int .i64 nn, .slice vo vs.length vc] 43)).drew.cell? ⟨w.heap.size, 2, none⟩ = some (.int .i64 nn) ∧ (w.alloc (.cells #[.int .i64 kd, .string nm, .int .i64 nn, .slice vo vs.length vc] 43)).drew.cell? ⟨w.heap.size, 3, none⟩ = some (.slice vo vs.length vc) := ⟨hX0.cells.1, hB0.cells.1, hB0.cells.2.1, hB0.cells.2.2.1, hB0.cells.2.2.2.1⟩
 have hS7 : Hid (((w.alloc (.cells #[.int .i64 kd, .string nm, .int .i64 nn, .slice vo vs.length vc] 43)).drew.alloc (.cells #[.int .i64 kd, .string nm, .int .i64 nn, .slice vo vs.length vc] 43)).cell? ⟨X, 0, none⟩ = some (.pointer (some ⟨S, 0, none⟩)) ∧ ((w.alloc (.cells #[.int .i64 kd, .string nm, .int .i64 nn, .slice vo vs.length vc] 43)).drew.alloc (.cells #[.int .i64 kd, .string nm, .int .i64 nn, .slice vo vs.length vc] 43)).cell? ⟨w.heap.size, 0, none⟩ = some (.int .i64 kd) ∧ ((w.alloc (.cells #[.int .i64 kd, .string nm, .int .i64 nn, .slice vo vs.length vc] 43)).drew.alloc (.cells #[.int .i64 kd, .string nm, .int .i64 nn, .slice vo vs.length vc] 43)).cell? ⟨w.heap.size, 1, none⟩ = some (.string nm) ∧ ((w.alloc (.cells #[.int .i64 kd, .string nm, .int .i64 nn, .slice vo vs.length vc] 43)).drew.alloc (.cells #[.int .i64 kd, .string nm, .int .i64 nn, .slice vo vs.length vc] 43)).cell? ⟨w.heap.size, 2, none⟩ = some (.int .i64 nn) ∧ ((w.alloc (.cells #[.int .i64 kd, .string nm, .int .i64 nn, .slice vo vs.length vc] 43)).drew.alloc (.cells #[.int .i64 kd, .string nm, .int .i64 nn, .slice vo vs.length vc] 43)).cell? ⟨w.heap.size, 3, none⟩ = some (.slice vo vs.length vc)) := ⟨(hX0.later hb7).cells.1, (hB0.later hb7).cells.1, (hB0.later hb7).cells.2.1, (hB0.later hb7).cells.2.2.1, (hB0.later hb7).cells.2.2.2.1⟩
 have X1 := hide hX1
 clear x hp ht hbase hv hvl hb1 hB1 hX1 hb0 hB0 hX0 hb7 hN7
 go_enter Tryz.func28, Tryz.ntmps28
 go_wp2_with fail
 generalize w.alloc (.cells #[.int .i64 kd, .string nm, .int .i64 nn, .slice vo vs.length vc] 43) = w1 at *
 refine (begun_any w1 X S _ false X1.out (.inl ⟨rfl, rfl⟩)).mono ?_
 rintro e w2 ⟨rfl, hw2⟩
 subst hw2
 clear X1
 go_wp2_with fail
 refine up_start (A := fun j => decide (j < 6)) (S := (fun w' => w'.cell? ⟨X, 0, none⟩ = some (.pointer (some ⟨S, 0, none⟩)) ∧ w'.cell? ⟨w.heap.size, 0, none⟩ = some (.int .i64 kd) ∧ w'.cell? ⟨w.heap.size, 1, none⟩ = some (.string nm) ∧ w'.cell? ⟨w.heap.size, 2, none⟩ = some (.int .i64 nn) ∧ w'.cell? ⟨w.heap.size, 3, none⟩ = some (.slice vo vs.length vc))) (by kernel_rfl) (by exact hS0) (fun hHeld => ?_)
 refine up_run (v := ?_) 0 8 [1, 2, 3, 6, 7] rfl rfl (by kernel_rfl) (by kernel_rfl) (by kernel_rfl) (by kernel_rfl) (fun _ _ _ h => h) (by rfl) ?_ (by assumption) ?_
 rotate_left
 ·(intro w hSw; (try dsimp only at hSw); go_simp; with_reducible rfl)
 simp only [Act.put, List.setIfInBounds_toArray, List.set_cons_zero, List.set_cons_succ]
 refine up_run (v := ?_) 1 9 [2, 3, 6, 7] rfl rfl (by kernel_rfl) (by kernel_rfl) (by kernel_rfl) (by kernel_rfl) (fun _ _ _ h => h) (by rfl) ?_ (by assumption) ?_
 rotate_left
 ·(intro w hSw; (try dsimp only at hSw); go_simp; with_reducible rfl)
 simp only [Act.put, List.setIfInBounds_toArray, List.set_cons_zero, List.set_cons_succ]
 refine up_run (v := ?_) 2 10 [3, 6, 7] rfl rfl (by kernel_rfl) (by kernel_rfl) (by kernel_rfl) (by kernel_rfl) (fun _ _ _ h => h) (by rfl) ?_ (by assumption) ?_
 rotate_left
 ·(intro w hSw; (try dsimp only at hSw); go_simp; with_reducible rfl)
 simp only [Act.put, List.setIfInBounds_toArray, List.set_cons_zero, List.set_cons_succ]
 refine up_run (v := ?_) 3 11 [6, 7] rfl rfl (by kernel_rfl) (by kernel_rfl) (by kernel_rfl) (by kernel_rfl) (fun _ _ _ h => h) (by rfl) ?_ (by assumption) ?_
 rotate_left
 ·(intro w hSw; (try dsimp only at hSw); go_simp; with_reducible rfl)
 simp only [Act.put, List.setIfInBounds_toArray, List.set_cons_zero, List.set_cons_succ]
 refine up_run (v := ?_) 4 12 [5, 6, 7] rfl rfl (by kernel_rfl) (by kernel_rfl) (by kernel_rfl) (by kernel_rfl) (fun _ _ _ h => h) (by rfl) ?_ (by assumption) ?_
 rotate_left
 ·(intro w hSw; (try dsimp only at hSw); go_simp; with_reducible rfl)
 simp only [Act.put, List.setIfInBounds_toArray, List.set_cons_zero, List.set_cons_succ]
 clear hS0
 generalize w2.drew = w0 at *
 refine up_one 5 (by kernel_rfl) rfl (fun K hK => ?_)
 go_simp
 refine hK.out _ _ (fun _ => hS7.out) ?_
 clear hK K
 try simp only [Act.put, List.setIfInBounds_toArray, List.set_cons_zero, List.set_cons_succ]
 clear hHeld
 refine up_one 6 (by kernel_rfl) rfl (fun K hK => ?_)
 go_simp
 refine HCM.out.mono ?_
 rintro e w9 hcm
 obtain ⟨ev, rfl, hcm⟩ := CmP.ret hcm
 have HFIN := hide (hcm.later HB7.out)
 clear hcm HCM hS7 HB7
 refine hK.out _ _ (fun h => absurd h (by decide)) ?_
 clear hK K
 try simp only [Act.put, List.setIfInBounds_toArray, List.set_cons_zero, List.set_cons_succ]
 refine up_one 7 (by kernel_rfl) rfl (fun K hK => ?_)
 go_simp
 refine hK.out _ _ (fun h => absurd h (by decide)) ?_
 clear hK K
 try simp only [Act.put, List.setIfInBounds_toArray, List.set_cons_zero, List.set_cons_succ]
 refine up_done (by kernel_rfl) ?_
 go_wp2
 go_ret
 exact HFIN.out

def InP (W : World) (base X S : Nat) (os : List OpC) (made : List Nmd) : Prop :=
 ∃ T oo on oc o n k qs, SesB W X S (.pointer (some ⟨T, 0, none⟩)) ∧ DeeB W T (.slice oo on oc) (.slice o n k) ∧ OpsT base W (.slice oo on oc) os ∧ os.length = on ∧ on ≤ 12 ∧ CatN W (.slice o n k) qs ∧ qs.map (·.x) = made ∧ CatOk made ∧ base ≤ T

theorem InP.later {W W' : World} {base X S : Nat} {os : List OpC} {made : List Nmd} (h : InP W base X S os made) (hb : Below W.heap.size W W') : InP W' base X S os made := by
 obtain ⟨T, oo, on, oc, o, n, k, qs, h1, h2, h3, h4, h5, h6, h7, h8, h9⟩ := h
 exact ⟨T, oo, on, oc, o, n, k, qs, h1.later hb, h2.later hb, h3.later hb, h4, h5, h6.below hb, h7, h8, h9⟩

theorem InP.keptS {W W' : World} {base C X S : Nat} {os : List OpC} {made : List Nmd} (h : InP W base X S os made) (hk : KeptS C W W') : InP W' base X S os made := by
 obtain ⟨T, oo, on, oc, o, n, k, qs, h1, h2, h3, h4, h5, h6, h7, h8, h9⟩ := h
 exact ⟨T, oo, on, oc, o, n, k, qs, h1.keptS hk, h2.keptS hk, h3.keptS hk, h4, h5, h6.keepK (keepK_keptS hk), h7, h8, h9⟩

theorem deeX_of {W : World} {base T : Nat} {oo : Option Addr} {on oc : Nat} {cv : Value} {os : List OpC} (ht : DeeB W T (.slice oo on oc) cv) (ho : OpsT base W (.slice oo on oc) os) : DeeX (fun b => b = T ∨ (Value.slice oo on oc).ownBlock = some b) W := fun b hb cs t fz hx => by
 rcases hb with rfl | hb
 ·rw [show W.heap[b]? = _ from ht] at hx
  simp only [Option.some.injEq, Obj.cells.injEq] at hx
  exact .inl hx.2.1.symm
 ·rcases ho.1.2 with ⟨hn, -⟩ | ⟨g, cap, cur, e, -, hg, -⟩
  ·rw [hn] at hb; cases hb
  ·rw [e] at hb
   simp only [Value.ownBlock, Option.some.injEq] at hb
   rw [← hb, hg] at hx
   simp only [Option.some.injEq, Obj.cells.injEq] at hx
   exact .inr hx.2.1.symm

def DonP (w : World) (base X S : Nat) (os : List OpC) (made : List Nmd) (o : OpV) (w' : World) : Prop :=
 ∃ os', InP w' base X S os' (if addO made os.length o = 0 then (applyC made o).2 else made) ∧ os'.map (·.o) = (if addO made os.length o = 0 then os.map (·.o) ++ [o] else os.map (·.o)) ∧ ∃ ex, ButE ex w w' ∧ DeeX ex w ∧ ∀ b, ex b → base ≤ b

set_option linter.unusedSimpArgs false in
set_option maxRecDepth 100000 in
set_option maxHeartbeats 3200000 in
theorem do1_any (w : World) (X base S : Nat) (os : List OpC) (made : List Nmd) (ov : OpV) (vo : Option Addr) (vc : Nat) (x : InP w base X S os made) (hbase : base ≤ w.heap.size) (hv : RowS w (.slice vo ov.v.length vc) ov.v) (hvl : ov.v.length ≤ 20) (h12 : os.length ≤ 12) :
  Calls Tryz.prog 28 #[.pointer (some ⟨X, 0, none⟩), .agg #[.int .i64 ov.kind, .string ov.name, .int .i64 ov.n, .slice vo ov.v.length vc]] w fun e w' => e = .returned (errV (addO made os.length ov)) ∧ DonP w base X S os made ov w' := by
 obtain ⟨T, oo, on, oc, o, n, k, qs, hx, hd, ho, hl, h12', hc, hq, hok, hT⟩ := x
 subst hl
 obtain ⟨kd, nm, nn, vs⟩ := ov
 dsimp only at hv hvl ⊢
 have hb1 := alloc_below w (.cells #[.int .i64 kd, .string nm, .int .i64 nn, .slice vo vs.length vc] 43)
 have hB1 := OpBx.new w kd nm nn (.slice vo vs.length vc)
 have hX1 := hx.later hb1
 have hb0 := hb1.trans (((Below.refl _ _).drew : Below (w.alloc (.cells #[.int .i64 kd, .string nm, .int .i64 nn, .slice vo vs.length vc] 43)).heap.size (w.alloc (.cells #[.int .i64 kd, .string nm, .int .i64 nn, .slice vo vs.length vc] 43)) (w.alloc (.cells #[.int .i64 kd, .string nm, .int .i64 nn, .slice vo vs.length vc] 43)).drew).mono hb1.size)
 have hB0 : OpBx (w.alloc (.cells #[.int .i64 kd, .string nm, .int .i64 nn, .slice vo vs.length vc] 43)).drew w.heap.size kd nm nn (.slice vo vs.length vc) := hB1
 have hX0 : SesB (w.alloc (.cells #[.int .i64 kd, .string nm, .int .i64 nn, .slice vo vs.length vc] 43)).drew X S (.pointer (some ⟨T, 0, none⟩)) := hX1
 have HAD : Hid (Calls Tryz.prog 57 #[.pointer (some ⟨T, 0, none⟩), .agg #[.int .i64 kd, .string nm, .int .i64 nn, .slice vo vs.length vc]] (w.alloc (.cells #[.int .i64 kd, .string nm, .int .i64 nn, .slice vo vs.length vc] 43)).drew fun e w' => e = .returned (errV (addO made os.length ⟨kd, nm, nn, vs⟩)) ∧ DonP w base X S os made ⟨kd, nm, nn, vs⟩ w') := by
  refine (addX_any (w.alloc (.cells #[.int .i64 kd, .string nm, .int .i64 nn, .slice vo vs.length vc] 43)).drew base T oo os.length oc _ _ _ os qs made ⟨kd, nm, nn, vs⟩ vo vc (hd.later hb0) (ho.later hb0) rfl h12' (hc.below hb0) hq hok (hv.below hb0 (Nat.le_refl _)) hvl (Nat.le_trans hbase hb0.size)).mono ?_
  intro e w' had
  rcases had with ⟨hne, rfl, hb⟩ | ⟨hz, rfl, o', c', q, o2, n2, k2, qs2, h1, h2, h3, h4, h5, h6, h7⟩
  ·refine ⟨by unfold errV; rw [if_neg hne], os, ?_, by rw [if_neg hne], fun _ => False, ?_, fun b hb => hb.elim, fun b hb => hb.elim⟩
   ·rw [if_neg hne]
    have hbb := hb0.trans (hb.mono hb0.size)
    exact ⟨T, oo, os.length, oc, o, n, k, qs, hx.later hbb, hd.later hbb, ho.later hbb, rfl, h12', hc.below hbb, hq, hok, hT⟩
   ·have hbb := hb0.trans (hb.mono hb0.size)
    exact ⟨hbb.os, hbb.tape, hbb.output, hbb.size, fun b hb' _ => hbb.block b hb'⟩
  ·have hex := deeX_of (hd.later hb0) (ho.later hb0)
   have h12z : os.length < 12 := by
    unfold addO at hz
    split at hz
    ·cases hz
    ·omega
   have hok2 : CatOk (applyC made ⟨kd, nm, nn, vs⟩).2 := by
    refine applyC_ok hok _ ?_
    unfold addO at hz
    rw [if_neg (by omega)] at hz
    exact hz
   have hbk : ∀ b, (b = T ∨ (Value.slice oo os.length oc).ownBlock = some b) → base ≤ b := fun b hb => by
    rcases hb with rfl | hb
    ·exact hT
    ·rcases ho.1.2 with ⟨hn, -⟩ | ⟨g, cap, cur, e, hbg, -⟩
     ·rw [hn] at hb; cases hb
     ·rw [e] at hb
      simp only [Value.ownBlock, Option.some.injEq] at hb
      omega
   refine ⟨by rw [hz]; rfl, os ++ [q], ?_, by rw [if_pos hz, List.map_append, List.map_cons, List.map_nil, h3], _, ⟨h6.os.trans hb0.os, h6.tape.trans hb0.tape, h6.output.trans hb0.output, Nat.le_trans hb0.size h6.size, fun b hb hn => (h6.block b (Nat.lt_of_lt_of_le hb hb0.size) hn).trans (hb0.block b hb)⟩, deeX_of hd ho, hbk⟩
   rw [if_pos hz]
   exact ⟨T, o', os.length + 1, c', o2, n2, k2, qs2, hX0.butE h6 hex, h1, h2, by rw [List.length_append]; rfl, by omega, h4, h5, hok2, hT⟩
 have hS0 : (w.alloc (.cells #[.int .i64 kd, .string nm, .int .i64 nn, .slice vo vs.length vc] 43)).drew.cell? ⟨X, 1, none⟩ = some (.pointer (some ⟨T, 0, none⟩)) ∧ (w.alloc (.cells #[.int .i64 kd, .string nm, .int .i64 nn, .slice vo vs.length vc] 43)).drew.cell? ⟨w.heap.size, 0, none⟩ = some (.int .i64 kd) ∧ (w.alloc (.cells #[.int .i64 kd, .string nm, .int .i64 nn, .slice vo vs.length vc] 43)).drew.cell? ⟨w.heap.size, 1, none⟩ = some (.string nm) ∧ (w.alloc (.cells #[.int .i64 kd, .string nm, .int .i64 nn, .slice vo vs.length vc] 43)).drew.cell? ⟨w.heap.size, 2, none⟩ = some (.int .i64 nn) ∧ (w.alloc (.cells #[.int .i64 kd, .string nm, .int .i64 nn, .slice vo vs.length vc] 43)).drew.cell? ⟨w.heap.size, 3, none⟩ = some (.slice vo vs.length vc) := ⟨hX0.cells.2.1, hB0.cells.1, hB0.cells.2.1, hB0.cells.2.2.1, hB0.cells.2.2.2.1⟩
 have X1 := hide hX1
 clear hx hd ho h12' hc hq hok hT hbase hv hvl h12 hb1 hB1 hX1 hb0 hB0 hX0
 go_enter Tryz.func28, Tryz.ntmps28
 go_wp2_with fail
 generalize w.alloc (.cells #[.int .i64 kd, .string nm, .int .i64 nn, .slice vo vs.length vc] 43) = w1 at *
 refine (begun_any w1 X S _ true X1.out (.inr ⟨rfl, T, rfl⟩)).mono ?_
 rintro e w2 ⟨rfl, hw2⟩
 subst hw2
 clear X1
 go_wp2_with fail
 refine up_start (A := fun j => decide (j < 5)) (S := (fun w' => w'.cell? ⟨X, 1, none⟩ = some (.pointer (some ⟨T, 0, none⟩)) ∧ w'.cell? ⟨w.heap.size, 0, none⟩ = some (.int .i64 kd) ∧ w'.cell? ⟨w.heap.size, 1, none⟩ = some (.string nm) ∧ w'.cell? ⟨w.heap.size, 2, none⟩ = some (.int .i64 nn) ∧ w'.cell? ⟨w.heap.size, 3, none⟩ = some (.slice vo vs.length vc))) (by kernel_rfl) (by exact hS0) (fun hHeld => ?_)
 refine up_run (v := ?_) 0 15 [1, 2, 3, 5, 6] rfl rfl (by kernel_rfl) (by kernel_rfl) (by kernel_rfl) (by kernel_rfl) (fun _ _ _ h => h) (by rfl) ?_ (by assumption) ?_
 rotate_left
 ·(intro w hSw; (try dsimp only at hSw); go_simp; with_reducible rfl)
 simp only [Act.put, List.setIfInBounds_toArray, List.set_cons_zero, List.set_cons_succ]
 refine up_run (v := ?_) 1 16 [2, 3, 5, 6] rfl rfl (by kernel_rfl) (by kernel_rfl) (by kernel_rfl) (by kernel_rfl) (fun _ _ _ h => h) (by rfl) ?_ (by assumption) ?_
 rotate_left
 ·(intro w hSw; (try dsimp only at hSw); go_simp; with_reducible rfl)
 simp only [Act.put, List.setIfInBounds_toArray, List.set_cons_zero, List.set_cons_succ]
 refine up_run (v := ?_) 2 17 [3, 5, 6] rfl rfl (by kernel_rfl) (by kernel_rfl) (by kernel_rfl) (by kernel_rfl) (fun _ _ _ h => h) (by rfl) ?_ (by assumption) ?_
 rotate_left
 ·(intro w hSw; (try dsimp only at hSw); go_simp; with_reducible rfl)
 simp only [Act.put, List.setIfInBounds_toArray, List.set_cons_zero, List.set_cons_succ]
 refine up_run (v := ?_) 3 18 [5, 6] rfl rfl (by kernel_rfl) (by kernel_rfl) (by kernel_rfl) (by kernel_rfl) (fun _ _ _ h => h) (by rfl) ?_ (by assumption) ?_
 rotate_left
 ·(intro w hSw; (try dsimp only at hSw); go_simp; with_reducible rfl)
 simp only [Act.put, List.setIfInBounds_toArray, List.set_cons_zero, List.set_cons_succ]
 refine up_run (v := ?_) 4 19 [5, 6] rfl rfl (by kernel_rfl) (by kernel_rfl) (by kernel_rfl) (by kernel_rfl) (fun _ _ _ h => h) (by rfl) ?_ (by assumption) ?_
 rotate_left
 ·(intro w hSw; (try dsimp only at hSw); go_simp; with_reducible rfl)
 simp only [Act.put, List.setIfInBounds_toArray, List.set_cons_zero, List.set_cons_succ]
 clear hS0 hHeld
 generalize w2.drew = w0 at *
 refine up_one 5 (by kernel_rfl) rfl (fun K hK => ?_)
 go_simp
 refine HAD.out.mono ?_
 rintro e w9 had
 obtain ⟨rfl, hdn⟩ := had
 have HFIN := hide hdn
 clear hdn HAD
 refine hK.out _ _ (fun h => absurd h (by decide)) ?_
 clear hK K
 try simp only [Act.put, List.setIfInBounds_toArray, List.set_cons_zero, List.set_cons_succ]
 refine up_one 6 (by kernel_rfl) rfl (fun K hK => ?_)
 go_simp
 refine hK.out _ _ (fun h => absurd h (by decide)) ?_
 clear hK K
 try simp only [Act.put, List.setIfInBounds_toArray, List.set_cons_zero, List.set_cons_succ]
 refine up_done (by kernel_rfl) ?_
 go_wp2
 go_ret
 exact ⟨rfl, HFIN.out⟩

end Go.Proofs.YtnhbfehfipafoaaGreatDoor

/- What is committed is there when it is opened again; a fault's number. -/
namespace Go.Proofs.YtnhbfehfipafoaaGreatDoor
open Go.RowKit

def opB1 : OpV := ⟨1, ⟨#[97]⟩, 1, []⟩

theorem allC_opB1 : allC [] [opB1] = (0, [⟨⟨#[97]⟩, 1, []⟩]) := by kernel_rfl

theorem StoM.kept {W W' : World} {base base' S B m : Nat} {h : Hd} {l : List Nmd} {en : Nat} (x : StoM W base S B m h l en) (hk : Kept base' W W') : StoM W' base S B m h l en := by
 obtain ⟨L, o, n, c, qs, x1, x2, x3, x4, x5, x6⟩ := x
 exact ⟨L, o, n, c, qs, x1.kept hk, x2.keepK (keepK_kept hk), x3, x4.kept hk, x5, x6⟩

set_option linter.unusedSimpArgs false in
set_option maxRecDepth 100000 in
set_option maxHeartbeats 1600000 in
theorem kept_any (w : World) (ht : TabP w) (hx : MaxL w) :
  Calls Tryz.prog 39 #[] w fun e w' => e = .returned (.bool true) ∧ Below w.heap.size w w' := by
 have HT := hide ht; have HX := hide hx
 obtain ⟨B, hB⟩ : ∃ B, w.heap.size = B := ⟨_, rfl⟩
 have HBB := hide hB
 have HS := hide (stored_any w 100 (by decide) (by decide) ht hx)
 clear ht hx
 go_enter Tryz.func39, Tryz.ntmps39
 go_wp2_with fail
 refine HS.out.mono ?_
 rintro e w1 ⟨S, D, h, rfl, hS, hp1, hf1, hb1⟩
 rw [hB] at hS hp1 ⊢
 have hbA := alloc_below w1 (.cells #[.int .i64 1, .string ⟨#[97]⟩, .int .i64 1, .slice none 0 0] 43)
 have HP2 := hide (hp1.later hbA); have HB2 := hide (hb1.trans (hbA.mono hb1.size))
 have HO2 := hide (heap_alloc_new w1 (.cells #[.int .i64 1, .string ⟨#[97]⟩, .int .i64 1, .slice none 0 0] 43 (0, 0)))
 have HF1 := hide hf1
 have hs2 : Hid (B ≤ (w1.alloc (.cells #[.int .i64 1, .string ⟨#[97]⟩, .int .i64 1, .slice none 0 0] 43)).heap.size) := by show _ ≤ _; rw [← hB]; exact HB2.out.size
 clear hp1 hb1 hbA hS hf1 HS
 go_wp2_with fail
 obtain ⟨bo, hbo⟩ : ∃ bo, w1.heap.size = bo := ⟨_, rfl⟩
 try rw [hbo]
 rw [hbo] at HO2
 generalize w1.alloc (.cells #[.int .i64 1, .string ⟨#[97]⟩, .int .i64 1, .slice none 0 0] 43) = w2 at *
 clear hbo
 refine (commit_any w2 B S B D 100 h [] 0 _ [⟨opB1, none, 0⟩] HP2.out (by decide) (by decide) (HT.out.below HB2.out) hs2.out (fun W hk => opsN_lit (o := opB1) ((hk.block _ (heap_lt HO2.out) (.inr fun cs t fz hx => by
  rw [HO2.out] at hx
  simp only [Option.some.injEq, Obj.cells.injEq] at hx
  rw [← hx.2.1]
  exact op_sto)).trans HO2.out) rfl) (fun q hq => by rw [List.mem_singleton] at hq; subst hq; decide) (by decide) [opB1] rfl).mono ?_
 rintro e w3 ⟨hcm, hk3⟩
 have hF : comF [] [opB1] 100 = 0 := by kernel_rfl
 rcases hcm with ⟨hne, -⟩ | ⟨-, D', b, rfl, hd3, hok, -, hfree⟩
 ·exact absurd hF hne
 obtain ⟨rfl, -⟩ := hfree HF1.out
 obtain ⟨h3, hp3⟩ := hok rfl
 rw [allC_opB1, show comE [opB1] 100 0 = 2 from rfl] at hp3
 have HP3 := hide hp3
 have HB3 := hide (hk3.below HB2.out (Nat.le_of_eq hB) HB2.out.size)
 have hs3 : Hid (B ≤ w3.heap.size) := Nat.le_trans hs2.out hk3.size
 clear hd3 hok hfree hp3 hk3 hF HP2 HO2
 rw [show okV true = .nilIface from rfl]
 go_wp2_with fail
 refine (open_any w3 B B D' 100 h3 _ 2 HP3.out.disk HP3.out.says (by decide) (by decide) (HT.out.below HB3.out) (HX.out.below HB3.out) hs3.out).mono ?_
 rintro e w4 ⟨S4, rfl, hS4, hp4, hb4⟩
 obtain ⟨⟨L4, o4, n4, c4, q4, hx4, hc4, hq4, -⟩, -, hi4⟩ := hp4
 have X4 := hide hx4; have C4 := hide hc4; have Q4 := hide hq4; have OK4 := hide hi4.says.ok
 have HB4 := hide (HB3.out.trans (hb4.mono HB3.out.size))
 clear hx4 hc4 hq4 hi4 hb4 hS4
 go_wp2_with fail
 refine (scat_any w4 S4 B h3 o4 n4 c4 _ X4.out).mono ?_
 rintro e w5 ⟨rfl, hb5⟩
 have C5 := hide (C4.out.below hb5); have HB5 := hide (HB4.out.trans (hb5.mono HB4.out.size))
 have hq5 : q4.length = 1 := by have := congrArg List.length Q4.out; simpa using this
 clear hb5 C4 X4 HB4
 go_wp2_with fail
 refine (lattices_any2 w5 _ q4 ⟨_, rfl, C5.out⟩ (by omega) (by rw [Q4.out]; exact OK4.out.all)).mono ?_
 rintro e w6 ⟨u, rs, rfl, hc6, hm6, hb6⟩
 obtain ⟨o6, c6, rfl, -⟩ := id hc6
 have hr6 : rs.length = 1 := by have := congrArg List.length hm6; rw [List.length_map, List.length_map] at this; omega
 have HB6 := hide (HB5.out.trans (hb6.mono HB5.out.size))
 rw [hr6]
 clear hc6 hm6 hb6 hr6 HB5 C5
 go_wp2
 go_ret
 exact ⟨rfl, HB6.out⟩

end Go.Proofs.YtnhbfehfipafoaaGreatDoor

/- TopCrash. -/
namespace Go.Proofs.YtnhbfehfipafoaaGreatDoor
open Go.RowKit

theorem nm_sizesC {x : Nmd} (h : NmOk x) : x.gens.length ≤ 1000 ∧ ∀ g ∈ x.gens, g.length ≤ 1000000 := by
 refine ⟨by have := h.few; omega, fun g hg => ?_⟩
 have h1 := (genF_ok.1 (h.gens g hg)).1
 have h2 := h.n
 omega

end Go.Proofs.YtnhbfehfipafoaaGreatDoor
