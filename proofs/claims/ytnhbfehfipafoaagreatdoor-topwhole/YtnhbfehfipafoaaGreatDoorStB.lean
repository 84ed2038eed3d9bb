/- An operation in a session; a session's deed is committed. -/
import Derived.Test.YtnhbfehfipafoaaGreatDoorSrX
import Derived.Test.YtnhbfehfipafoaaGreatDoorStA

namespace Go.Proofs.YtnhbfehfipafoaaGreatDoor
open Go.RowKit

theorem OpBx.new (W : World) (k : Int) (s : ByteArray) (n : Int) (v : Value) : OpBx (W.alloc (.cells #[.int .i64 k, .string s, .int .i64 n, v] 43)) W.heap.size k s n v := heap_alloc_new W _

theorem opsN_one1 {W : World} {B : Nat} {k n : Int} {s : ByteArray} {vs : List Int} {vo : Option Addr} {vc : Nat} (x : OpBx W B k s n (.slice vo vs.length vc)) (hr : RowS W (.slice vo vs.length vc) vs) : OpsN W (.slice (some ⟨B, 0, none⟩) 1 1) [⟨⟨k, s, n, vs⟩, vo, vc⟩] := by
 obtain ⟨c0, c1, c2, c3, -⟩ := x.cells
 refine ⟨_, 1, rfl, Nat.le_refl _, fun _ => ⟨B, 0, rfl, heap_lt (show W.heap[B]? = _ from x), fun i q hq => ?_⟩⟩
 match i, hq with
 | 0, hq =>
  simp only [List.getElem?_cons_zero, Option.some.injEq] at hq
  subst hq
  exact ⟨c0, c1, c2, c3, hr⟩

theorem OpBx.keptS {W W' : World} {base : Own} {B : Nat} {k n : Int} {s : ByteArray} {v : Value} (x : OpBx W B k s n v) (hk : KeptS base W W') : OpBx W' B k s n v := hk.stays x op_stoN
theorem SesB.keptS {W W' : World} {base : Own} {X S : Nat} {v : Value} (x : SesB W X S v) (hk : KeptS base W W') : SesB W' X S v := hk.stays x ses_sto
theorem DeeB.keptS {W W' : World} {base : Own} {T : Nat} {u v : Value} (x : DeeB W T u v) (hk : KeptS base W W') : DeeB W' T u v := hk.stays x dee_sto
theorem int_stoN : ¬ stoT 3 := by unfold stoT logT diskT; decide

theorem OpsT.keptS {W W' : World} {base : Own} {C : Nat} {v : Value} {os : List OpC} (h : OpsT C W v os) (hk : KeptS base W W') : OpsT C W' v os := h.keep fun b cs t fz hx ht => by
 rw [hk.stays hx ?_, hx]
 rcases ht with rfl | rfl | rfl <;> (unfold stoT logT diskT; decide)

theorem CmP.ret {w w' : World} {base : Own} {S B : Nat} {D : Dsk} {m : Nat} {l : List Nmd} {en : Nat} {os : List OpV} {e : Ending} (h : CmP w base S B D m l en os e w') : ∃ v, e = .returned v ∧ CmP w base S B D m l en os (.returned v) w' := by
 rcases id h with ⟨⟨-, rfl, -⟩ | ⟨-, D', b, rfl, -⟩, -⟩
 ·exact ⟨_, rfl, h⟩
 ·exact ⟨_, rfl, h⟩

theorem CmP.later {w0 w w' : World} {base : Own} {S B : Nat} {D : Dsk} {m : Nat} {l : List Nmd} {en : Nat} {os : List OpV} {e : Ending} (h : CmP w base S B D m l en os e w') (hb : Below w0.heap.size w0 w) : CmP w0 base S B D m l en os e w' := ⟨h.1, (KeptS.of_below hb).trans h.2⟩

set_option linter.unusedSimpArgs false in
set_option maxRecDepth 100000 in
set_option maxHeartbeats 3200000 in
theorem do0_any (w : World) (X : Nat) (base : Own) (S B : Nat) (D : Dsk) (m : Nat) (h : Hd) (l : List Nmd) (en : Nat) (ov : OpV) (vo : Option Addr) (vc : Nat) (x : SesB w X S (.pointer none)) (hp : StoreP w base S B D m h l en) (hm : m ≤ 200) (h86 : 86 ≤ m) (ht : TabP w) (hbase : base.h ≤ w.heap.size)
  (hv : ∀ W, KeptS base w W → RowS W (.slice vo ov.v.length vc) ov.v) (hvl : ov.v.length ≤ 20) :
  Calls Tryz.prog 28 #[.pointer (some ⟨X, 0, none⟩), .agg #[.int .i64 ov.kind, .string ov.name, .int .i64 ov.n, .slice vo ov.v.length vc]] w fun e w' => CmP w base S B D m l en [ov] e w' := by
 obtain ⟨kd, nm, nn, vs⟩ := ov
 dsimp only at hv hvl ⊢
 have hb1 := alloc_below w (.cells #[.int .i64 kd, .string nm, .int .i64 nn, .slice vo vs.length vc] 43)
 have hB1 := OpBx.new w kd nm nn (.slice vo vs.length vc)
 have hX1 := x.later hb1
 have hb0 := hb1.trans (((Below.refl _ _).drew : Below (w.alloc (.cells #[.int .i64 kd, .string nm, .int .i64 nn, .slice vo vs.length vc] 43)).heap.size (w.alloc (.cells #[.int .i64 kd, .string nm, .int .i64 nn, .slice vo vs.length vc] 43)) (w.alloc (.cells #[.int .i64 kd, .string nm, .int .i64 nn, .slice vo vs.length vc] 43)).drew).mono hb1.size)
 have hB0 : OpBx (w.alloc (.cells #[.int .i64 kd, .string nm, .int .i64 nn, .slice vo vs.length vc] 43)).drew w.heap.size kd nm nn (.slice vo vs.length vc) := hB1
 have hX0 : SesB (w.alloc (.cells #[.int .i64 kd, .string nm, .int .i64 nn, .slice vo vs.length vc] 43)).drew X S (.pointer none) := hX1
 have hb7 := alloc_below (w.alloc (.cells #[.int .i64 kd, .string nm, .int .i64 nn, .slice vo vs.length vc] 43)).drew (.cells #[.int .i64 kd, .string nm, .int .i64 nn, .slice vo vs.length vc] 43)
 have HB7 := hide (hb0.trans (hb7.mono hb0.size))
 have hN7 := OpBx.new (w.alloc (.cells #[.int .i64 kd, .string nm, .int .i64 nn, .slice vo vs.length vc] 43)).drew kd nm nn (.slice vo vs.length vc)
 have HCM := hide (commit_any ((w.alloc (.cells #[.int .i64 kd, .string nm, .int .i64 nn, .slice vo vs.length vc] 43)).drew.alloc (.cells #[.int .i64 kd, .string nm, .int .i64 nn, .slice vo vs.length vc] 43)) base S B D m h l en (.slice (some ⟨(w.alloc (.cells #[.int .i64 kd, .string nm, .int .i64 nn, .slice vo vs.length vc] 43)).drew.heap.size, 0, none⟩) 1 1) [⟨⟨kd, nm, nn, vs⟩, vo, vc⟩] (hp.later HB7.out) hm h86 (ht.below HB7.out) (Nat.le_trans hbase HB7.out.size)
  (fun W hk => opsN_one1 (hN7.keptS hk) (hv W ((KeptS.of_below HB7.out).trans hk))) (fun q hq => by rw [List.mem_singleton] at hq; subst hq; exact hvl) (by show 1 ≤ 1000000; decide) [⟨kd, nm, nn, vs⟩] rfl)
 have hS0 : (w.alloc (.cells #[.int .i64 kd, .string nm, .int .i64 nn, .slice vo vs.length vc] 43)).drew.cell? ⟨X, 0, none⟩ = some (.pointer (some ⟨S, 0, none⟩)) ∧ (w.alloc (.cells #[.int .i64 kd, .string nm, .int .i64 nn, .slice vo vs.length vc] 43)).drew.cell? ⟨w.heap.size, 0, none⟩ = some (.int .i64 kd) ∧ (w.alloc (.cells #[.int .i64 kd, .string nm, .int .i64 nn, .slice vo vs.length vc] 43)).drew.cell? ⟨w.heap.size, 1, none⟩ = some (.string nm) ∧ (w.alloc (.cells #[.int .i64 kd, .string nm, .int .i64 nn, .slice vo vs.length vc] 43)).drew.cell? ⟨w.heap.size, 2, none⟩ = some (.int .i64 nn) ∧ (w.alloc (.cells #[.int .i64 kd, .string nm, .int .i64 nn, .slice vo vs.length vc] 43)).drew.cell? ⟨w.heap.size, 3, none⟩ = some (.slice vo vs.length vc) := ⟨hX0.cells.1, hB0.cells.1, hB0.cells.2.1, hB0.cells.2.2.1, hB0.cells.2.2.2.1⟩
 have hS7 : Hid (((w.alloc (.cells #[.int .i64 kd, .string nm, .int .i64 nn, .slice vo vs.length vc] 43)).drew.alloc (.cells #[.int .i64 kd, .string nm, .int .i64 nn, .slice vo vs.length vc] 43)).cell? ⟨X, 0, none⟩ = some (.pointer (some ⟨S, 0, none⟩)) ∧ ((w.alloc (.cells #[.int .i64 kd, .string nm, .int .i64 nn, .slice vo vs.length vc] 43)).drew.alloc (.cells #[.int .i64 kd, .string nm, .int .i64 nn, .slice vo vs.length vc] 43)).cell? ⟨w.heap.size, 0, none⟩ = some (.int .i64 kd) ∧ ((w.alloc (.cells #[.int .i64 kd, .string nm, .int .i64 nn, .slice vo vs.length vc] 43)).drew.alloc (.cells #[.int .i64 kd, .string nm, .int .i64 nn, .slice vo vs.length vc] 43)).cell? ⟨w.heap.size, 1, none⟩ = some (.string nm) ∧ ((w.alloc (.cells #[.int .i64 kd, .string nm, .int .i64 nn, .slice vo vs.length vc] 43)).drew.alloc (.cells #[.int .i64 kd, .string nm, .int .i64 nn, .slice vo vs.length vc] 43)).cell? ⟨w.heap.size, 2, none⟩ = some (.int .i64 nn) ∧ ((w.alloc (.cells #[.int .i64 kd, .string nm, .int .i64 nn, .slice vo vs.length vc] 43)).drew.alloc (.cells #[.int .i64 kd, .string nm, .int .i64 nn, .slice vo vs.length vc] 43)).cell? ⟨w.heap.size, 3, none⟩ = some (.slice vo vs.length vc)) := ⟨(hX0.later hb7).cells.1, (hB0.later hb7).cells.1, (hB0.later hb7).cells.2.1, (hB0.later hb7).cells.2.2.1, (hB0.later hb7).cells.2.2.2.1⟩
 have X1 := hide hX1
 clear x hp ht hbase hv hvl hb1 hB1 hX1 hb0 hB0 hX0 hb7 hN7
 go_enter Tryz.func28, Tryz.ntmps28
 go_wp2_with fail
 generalize w.alloc (.cells #[.int .i64 kd, .string nm, .int .i64 nn, .slice vo vs.length vc] 43) = w1 at *
 refine (begun_any w1 X S _ false X1.out (.inl ⟨rfl, rfl⟩)).mono ?_
 rintro e w2 ⟨rfl, hw2⟩
 subst hw2
 clear X1
 go_wp2_with fail
 refine up_start (A := fun j => decide (j < 6)) (S := (fun w' => w'.cell? ⟨X, 0, none⟩ = some (.pointer (some ⟨S, 0, none⟩)) ∧ w'.cell? ⟨w.heap.size, 0, none⟩ = some (.int .i64 kd) ∧ w'.cell? ⟨w.heap.size, 1, none⟩ = some (.string nm) ∧ w'.cell? ⟨w.heap.size, 2, none⟩ = some (.int .i64 nn) ∧ w'.cell? ⟨w.heap.size, 3, none⟩ = some (.slice vo vs.length vc))) (by kernel_rfl) (by exact hS0) (fun hHeld => ?_)
 refine up_run (v := ?_) 0 8 [1, 2, 3, 6, 7] rfl rfl (by kernel_rfl) (by kernel_rfl) (by kernel_rfl) (by kernel_rfl) (fun _ _ _ h => h) (by rfl) ?_ (by assumption) ?_
 rotate_left
 ·(intro w hSw; (try dsimp only at hSw); go_simp; with_reducible rfl)
 simp only [Act.put, List.setIfInBounds_toArray, List.set_cons_zero, List.set_cons_succ]
 refine up_run (v := ?_) 1 9 [2, 3, 6, 7] rfl rfl (by kernel_rfl) (by kernel_rfl) (by kernel_rfl) (by kernel_rfl) (fun _ _ _ h => h) (by rfl) ?_ (by assumption) ?_
 rotate_left
 ·(intro w hSw; (try dsimp only at hSw); go_simp; with_reducible rfl)
 simp only [Act.put, List.setIfInBounds_toArray, List.set_cons_zero, List.set_cons_succ]
 refine up_run (v := ?_) 2 10 [3, 6, 7] rfl rfl (by kernel_rfl) (by kernel_rfl) (by kernel_rfl) (by kernel_rfl) (fun _ _ _ h => h) (by rfl) ?_ (by assumption) ?_
 rotate_left
 ·(intro w hSw; (try dsimp only at hSw); go_simp; with_reducible rfl)
 simp only [Act.put, List.setIfInBounds_toArray, List.set_cons_zero, List.set_cons_succ]
 refine up_run (v := ?_) 3 11 [6, 7] rfl rfl (by kernel_rfl) (by kernel_rfl) (by kernel_rfl) (by kernel_rfl) (fun _ _ _ h => h) (by rfl) ?_ (by assumption) ?_
 rotate_left
 ·(intro w hSw; (try dsimp only at hSw); go_simp; with_reducible rfl)
 simp only [Act.put, List.setIfInBounds_toArray, List.set_cons_zero, List.set_cons_succ]
 refine up_run (v := ?_) 4 12 [5, 6, 7] rfl rfl (by kernel_rfl) (by kernel_rfl) (by kernel_rfl) (by kernel_rfl) (fun _ _ _ h => h) (by rfl) ?_ (by assumption) ?_
 rotate_left
 ·(intro w hSw; (try dsimp only at hSw); go_simp; with_reducible rfl)
 simp only [Act.put, List.setIfInBounds_toArray, List.set_cons_zero, List.set_cons_succ]
 clear hS0
 generalize w2.drew = w0 at *
 refine up_one 5 (by kernel_rfl) rfl (fun K hK => ?_)
 go_simp
 refine hK.out _ _ (fun _ => hS7.out) ?_
 clear hK K
 try simp only [Act.put, List.setIfInBounds_toArray, List.set_cons_zero, List.set_cons_succ]
 clear hHeld
 refine up_one 6 (by kernel_rfl) rfl (fun K hK => ?_)
 go_simp
 refine HCM.out.mono ?_
 rintro e w9 hcm
 obtain ⟨ev, rfl, hcm⟩ := CmP.ret hcm
 have HFIN := hide (hcm.later HB7.out)
 clear hcm HCM hS7 HB7
 refine hK.out _ _ (fun h => absurd h (by decide)) ?_
 clear hK K
 try simp only [Act.put, List.setIfInBounds_toArray, List.set_cons_zero, List.set_cons_succ]
 refine up_one 7 (by kernel_rfl) rfl (fun K hK => ?_)
 go_simp
 refine hK.out _ _ (fun h => absurd h (by decide)) ?_
 clear hK K
 try simp only [Act.put, List.setIfInBounds_toArray, List.set_cons_zero, List.set_cons_succ]
 refine up_done (by kernel_rfl) ?_
 go_wp2
 go_ret
 exact HFIN.out

def InP (W : World) (base X S : Nat) (os : List OpC) (made : List Nmd) : Prop :=
 ∃ T oo on oc o n k qs, SesB W X S (.pointer (some ⟨T, 0, none⟩)) ∧ DeeB W T (.slice oo on oc) (.slice o n k) ∧ OpsT base W (.slice oo on oc) os ∧ os.length = on ∧ on ≤ 12 ∧ CatN W (.slice o n k) qs ∧ qs.map (·.x) = made ∧ CatOk made ∧ base ≤ T

theorem InP.later {W W' : World} {base X S : Nat} {os : List OpC} {made : List Nmd} (h : InP W base X S os made) (hb : Below W.heap.size W W') : InP W' base X S os made := by
 obtain ⟨T, oo, on, oc, o, n, k, qs, h1, h2, h3, h4, h5, h6, h7, h8, h9⟩ := h
 exact ⟨T, oo, on, oc, o, n, k, qs, h1.later hb, h2.later hb, h3.later hb, h4, h5, h6.below hb, h7, h8, h9⟩

theorem InP.keptS {W W' : World} {base : Nat} {C : Own} {X S : Nat} {os : List OpC} {made : List Nmd} (h : InP W base X S os made) (hk : KeptS C W W') : InP W' base X S os made := by
 obtain ⟨T, oo, on, oc, o, n, k, qs, h1, h2, h3, h4, h5, h6, h7, h8, h9⟩ := h
 exact ⟨T, oo, on, oc, o, n, k, qs, h1.keptS hk, h2.keptS hk, h3.keptS hk, h4, h5, h6.keepK (keepK_keptS hk), h7, h8, h9⟩

theorem deeX_of {W : World} {base T : Nat} {oo : Option Addr} {on oc : Nat} {cv : Value} {os : List OpC} (ht : DeeB W T (.slice oo on oc) cv) (ho : OpsT base W (.slice oo on oc) os) : DeeX (fun b => b = T ∨ (Value.slice oo on oc).ownBlock = some b) W := fun b hb cs t fz hx => by
 rcases hb with rfl | hb
 ·rw [show W.heap[b]? = _ from ht] at hx
  simp only [Option.some.injEq, Obj.cells.injEq] at hx
  exact .inl hx.2.1.symm
 ·rcases ho.1.2 with ⟨hn, -⟩ | ⟨g, cap, cur, e, -, hg, -⟩
  ·rw [hn] at hb; cases hb
  ·rw [e] at hb
   simp only [Value.ownBlock, Option.some.injEq] at hb
   rw [← hb, hg] at hx
   simp only [Option.some.injEq, Obj.cells.injEq] at hx
   exact .inr hx.2.1.symm

def DonP (w : World) (base X S : Nat) (os : List OpC) (made : List Nmd) (o : OpV) (w' : World) : Prop :=
 ∃ os', InP w' base X S os' (if addO made os.length o = 0 then (applyC made o).2 else made) ∧ os'.map (·.o) = (if addO made os.length o = 0 then os.map (·.o) ++ [o] else os.map (·.o)) ∧ ∃ ex, ButE ex w w' ∧ DeeX ex w ∧ ∀ b, ex b → base ≤ b

set_option linter.unusedSimpArgs false in
set_option maxRecDepth 100000 in
set_option maxHeartbeats 3200000 in
theorem do1_any (w : World) (X base S : Nat) (os : List OpC) (made : List Nmd) (ov : OpV) (vo : Option Addr) (vc : Nat) (x : InP w base X S os made) (hbase : base ≤ w.heap.size) (hv : RowS w (.slice vo ov.v.length vc) ov.v) (hvl : ov.v.length ≤ 20) (h12 : os.length ≤ 12) :
  Calls Tryz.prog 28 #[.pointer (some ⟨X, 0, none⟩), .agg #[.int .i64 ov.kind, .string ov.name, .int .i64 ov.n, .slice vo ov.v.length vc]] w fun e w' => e = .returned (errV (addO made os.length ov)) ∧ DonP w base X S os made ov w' := by
 obtain ⟨T, oo, on, oc, o, n, k, qs, hx, hd, ho, hl, h12', hc, hq, hok, hT⟩ := x
 subst hl
 obtain ⟨kd, nm, nn, vs⟩ := ov
 dsimp only at hv hvl ⊢
 have hb1 := alloc_below w (.cells #[.int .i64 kd, .string nm, .int .i64 nn, .slice vo vs.length vc] 43)
 have hB1 := OpBx.new w kd nm nn (.slice vo vs.length vc)
 have hX1 := hx.later hb1
 have hb0 := hb1.trans (((Below.refl _ _).drew : Below (w.alloc (.cells #[.int .i64 kd, .string nm, .int .i64 nn, .slice vo vs.length vc] 43)).heap.size (w.alloc (.cells #[.int .i64 kd, .string nm, .int .i64 nn, .slice vo vs.length vc] 43)) (w.alloc (.cells #[.int .i64 kd, .string nm, .int .i64 nn, .slice vo vs.length vc] 43)).drew).mono hb1.size)
 have hB0 : OpBx (w.alloc (.cells #[.int .i64 kd, .string nm, .int .i64 nn, .slice vo vs.length vc] 43)).drew w.heap.size kd nm nn (.slice vo vs.length vc) := hB1
 have hX0 : SesB (w.alloc (.cells #[.int .i64 kd, .string nm, .int .i64 nn, .slice vo vs.length vc] 43)).drew X S (.pointer (some ⟨T, 0, none⟩)) := hX1
 have HAD : Hid (Calls Tryz.prog 57 #[.pointer (some ⟨T, 0, none⟩), .agg #[.int .i64 kd, .string nm, .int .i64 nn, .slice vo vs.length vc]] (w.alloc (.cells #[.int .i64 kd, .string nm, .int .i64 nn, .slice vo vs.length vc] 43)).drew fun e w' => e = .returned (errV (addO made os.length ⟨kd, nm, nn, vs⟩)) ∧ DonP w base X S os made ⟨kd, nm, nn, vs⟩ w') := by
  refine (addX_any (w.alloc (.cells #[.int .i64 kd, .string nm, .int .i64 nn, .slice vo vs.length vc] 43)).drew base T oo os.length oc _ _ _ os qs made ⟨kd, nm, nn, vs⟩ vo vc (hd.later hb0) (ho.later hb0) rfl h12' (hc.below hb0) hq hok (hv.below hb0 (Nat.le_refl _)) hvl (Nat.le_trans hbase hb0.size)).mono ?_
  intro e w' had
  rcases had with ⟨hne, rfl, hb⟩ | ⟨hz, rfl, o', c', q, o2, n2, k2, qs2, h1, h2, h3, h4, h5, h6, h7⟩
  ·refine ⟨by unfold errV; rw [if_neg hne], os, ?_, by rw [if_neg hne], fun _ => False, ?_, fun b hb => hb.elim, fun b hb => hb.elim⟩
   ·rw [if_neg hne]
    have hbb := hb0.trans (hb.mono hb0.size)
    exact ⟨T, oo, os.length, oc, o, n, k, qs, hx.later hbb, hd.later hbb, ho.later hbb, rfl, h12', hc.below hbb, hq, hok, hT⟩
   ·have hbb := hb0.trans (hb.mono hb0.size)
    exact ⟨hbb.os, hbb.tape, hbb.output, hbb.size, fun b hb' _ => hbb.block b hb'⟩
  ·have hex := deeX_of (hd.later hb0) (ho.later hb0)
   have h12z : os.length < 12 := by
    unfold addO at hz
    split at hz
    ·cases hz
    ·omega
   have hok2 : CatOk (applyC made ⟨kd, nm, nn, vs⟩).2 := by
    refine applyC_ok hok _ ?_
    unfold addO at hz
    rw [if_neg (by omega)] at hz
    exact hz
   have hbk : ∀ b, (b = T ∨ (Value.slice oo os.length oc).ownBlock = some b) → base ≤ b := fun b hb => by
    rcases hb with rfl | hb
    ·exact hT
    ·rcases ho.1.2 with ⟨hn, -⟩ | ⟨g, cap, cur, e, hbg, -⟩
     ·rw [hn] at hb; cases hb
     ·rw [e] at hb
      simp only [Value.ownBlock, Option.some.injEq] at hb
      omega
   refine ⟨by rw [hz]; rfl, os ++ [q], ?_, by rw [if_pos hz, List.map_append, List.map_cons, List.map_nil, h3], _, ⟨h6.os.trans hb0.os, h6.tape.trans hb0.tape, h6.output.trans hb0.output, Nat.le_trans hb0.size h6.size, fun b hb hn => (h6.block b (Nat.lt_of_lt_of_le hb hb0.size) hn).trans (hb0.block b hb)⟩, deeX_of hd ho, hbk⟩
   rw [if_pos hz]
   exact ⟨T, o', os.length + 1, c', o2, n2, k2, qs2, hX0.butE h6 hex, h1, h2, by rw [List.length_append]; rfl, by omega, h4, h5, hok2, hT⟩
 have hS0 : (w.alloc (.cells #[.int .i64 kd, .string nm, .int .i64 nn, .slice vo vs.length vc] 43)).drew.cell? ⟨X, 1, none⟩ = some (.pointer (some ⟨T, 0, none⟩)) ∧ (w.alloc (.cells #[.int .i64 kd, .string nm, .int .i64 nn, .slice vo vs.length vc] 43)).drew.cell? ⟨w.heap.size, 0, none⟩ = some (.int .i64 kd) ∧ (w.alloc (.cells #[.int .i64 kd, .string nm, .int .i64 nn, .slice vo vs.length vc] 43)).drew.cell? ⟨w.heap.size, 1, none⟩ = some (.string nm) ∧ (w.alloc (.cells #[.int .i64 kd, .string nm, .int .i64 nn, .slice vo vs.length vc] 43)).drew.cell? ⟨w.heap.size, 2, none⟩ = some (.int .i64 nn) ∧ (w.alloc (.cells #[.int .i64 kd, .string nm, .int .i64 nn, .slice vo vs.length vc] 43)).drew.cell? ⟨w.heap.size, 3, none⟩ = some (.slice vo vs.length vc) := ⟨hX0.cells.2.1, hB0.cells.1, hB0.cells.2.1, hB0.cells.2.2.1, hB0.cells.2.2.2.1⟩
 have X1 := hide hX1
 clear hx hd ho h12' hc hq hok hT hbase hv hvl h12 hb1 hB1 hX1 hb0 hB0 hX0
 go_enter Tryz.func28, Tryz.ntmps28
 go_wp2_with fail
 generalize w.alloc (.cells #[.int .i64 kd, .string nm, .int .i64 nn, .slice vo vs.length vc] 43) = w1 at *
 refine (begun_any w1 X S _ true X1.out (.inr ⟨rfl, T, rfl⟩)).mono ?_
 rintro e w2 ⟨rfl, hw2⟩
 subst hw2
 clear X1
 go_wp2_with fail
 refine up_start (A := fun j => decide (j < 5)) (S := (fun w' => w'.cell? ⟨X, 1, none⟩ = some (.pointer (some ⟨T, 0, none⟩)) ∧ w'.cell? ⟨w.heap.size, 0, none⟩ = some (.int .i64 kd) ∧ w'.cell? ⟨w.heap.size, 1, none⟩ = some (.string nm) ∧ w'.cell? ⟨w.heap.size, 2, none⟩ = some (.int .i64 nn) ∧ w'.cell? ⟨w.heap.size, 3, none⟩ = some (.slice vo vs.length vc))) (by kernel_rfl) (by exact hS0) (fun hHeld => ?_)
 refine up_run (v := ?_) 0 15 [1, 2, 3, 5, 6] rfl rfl (by kernel_rfl) (by kernel_rfl) (by kernel_rfl) (by kernel_rfl) (fun _ _ _ h => h) (by rfl) ?_ (by assumption) ?_
 rotate_left
 ·(intro w hSw; (try dsimp only at hSw); go_simp; with_reducible rfl)
 simp only [Act.put, List.setIfInBounds_toArray, List.set_cons_zero, List.set_cons_succ]
 refine up_run (v := ?_) 1 16 [2, 3, 5, 6] rfl rfl (by kernel_rfl) (by kernel_rfl) (by kernel_rfl) (by kernel_rfl) (fun _ _ _ h => h) (by rfl) ?_ (by assumption) ?_
 rotate_left
 ·(intro w hSw; (try dsimp only at hSw); go_simp; with_reducible rfl)
 simp only [Act.put, List.setIfInBounds_toArray, List.set_cons_zero, List.set_cons_succ]
 refine up_run (v := ?_) 2 17 [3, 5, 6] rfl rfl (by kernel_rfl) (by kernel_rfl) (by kernel_rfl) (by kernel_rfl) (fun _ _ _ h => h) (by rfl) ?_ (by assumption) ?_
 rotate_left
 ·(intro w hSw; (try dsimp only at hSw); go_simp; with_reducible rfl)
 simp only [Act.put, List.setIfInBounds_toArray, List.set_cons_zero, List.set_cons_succ]
 refine up_run (v := ?_) 3 18 [5, 6] rfl rfl (by kernel_rfl) (by kernel_rfl) (by kernel_rfl) (by kernel_rfl) (fun _ _ _ h => h) (by rfl) ?_ (by assumption) ?_
 rotate_left
 ·(intro w hSw; (try dsimp only at hSw); go_simp; with_reducible rfl)
 simp only [Act.put, List.setIfInBounds_toArray, List.set_cons_zero, List.set_cons_succ]
 refine up_run (v := ?_) 4 19 [5, 6] rfl rfl (by kernel_rfl) (by kernel_rfl) (by kernel_rfl) (by kernel_rfl) (fun _ _ _ h => h) (by rfl) ?_ (by assumption) ?_
 rotate_left
 ·(intro w hSw; (try dsimp only at hSw); go_simp; with_reducible rfl)
 simp only [Act.put, List.setIfInBounds_toArray, List.set_cons_zero, List.set_cons_succ]
 clear hS0 hHeld
 generalize w2.drew = w0 at *
 refine up_one 5 (by kernel_rfl) rfl (fun K hK => ?_)
 go_simp
 refine HAD.out.mono ?_
 rintro e w9 had
 obtain ⟨rfl, hdn⟩ := had
 have HFIN := hide hdn
 clear hdn HAD
 refine hK.out _ _ (fun h => absurd h (by decide)) ?_
 clear hK K
 try simp only [Act.put, List.setIfInBounds_toArray, List.set_cons_zero, List.set_cons_succ]
 refine up_one 6 (by kernel_rfl) rfl (fun K hK => ?_)
 go_simp
 refine hK.out _ _ (fun h => absurd h (by decide)) ?_
 clear hK K
 try simp only [Act.put, List.setIfInBounds_toArray, List.set_cons_zero, List.set_cons_succ]
 refine up_done (by kernel_rfl) ?_
 go_wp2
 go_ret
 exact ⟨rfl, HFIN.out⟩

end Go.Proofs.YtnhbfehfipafoaaGreatDoor

/- A session's deed is committed. -/
namespace Go.Proofs.YtnhbfehfipafoaaGreatDoor
open Go.RowKit

theorem StoreP.setSes {W : World} {base : Own} {S B : Nat} {D : Dsk} {m : Nat} {h : Hd} {l : List Nmd} {en X : Nat} {dv : Value} (p : StoreP W base S B D m h l en) (x : SesB W X S dv) (v : Value) : StoreP (W.setCell ⟨X, 1, none⟩ v) base S B D m h l en :=
 p.but x ses_sto ses_kin ((ButB.of (C := W.heap.size) (b := X) (Below.refl _ _)).set 1 v)

theorem DiskO.setSes {W : World} {base : Own} {S B : Nat} {D : Dsk} {X : Nat} {dv : Value} (p : DiskO W base B D) (x : SesB W X S dv) (v : Value) : DiskO (W.setCell ⟨X, 1, none⟩ v) base B D :=
 p.but x (fun h => ses_sto (.inl (.inl h))) ((ButB.of (C := W.heap.size) (b := X) (Below.refl _ _)).set 1 v)

def XcmP (w : World) (base : Own) (X S B : Nat) (m : Nat) (l : List Nmd) (en : Nat) (os : List OpC) (e : Ending) (w' : World) : Prop :=
 e = .returned (errV (comF l (os.map (·.o)) m)) ∧ ∃ D' h' w1, StoreP w' base S B D' m h' (comL l (os.map (·.o)) m) (comN l (os.map (·.o)) m en) ∧ Free D' ∧
  (comF l (os.map (·.o)) m ≠ 0 → w' = w1) ∧ (comF l (os.map (·.o)) m = 0 → SesB w' X S (.pointer none)) ∧ KeptS base w w1 ∧ ButB w1.heap.size X w1 w'

set_option linter.unusedSimpArgs false in
set_option maxRecDepth 100000 in
set_option maxHeartbeats 3200000 in
theorem xcommit1_any (w : World) (X C : Nat) (base : Own) (S B : Nat) (D : Dsk) (m : Nat) (h : Hd) (l : List Nmd) (en : Nat) (os : List OpC) (made : List Nmd) (x : InP w C X S os made) (hp : StoreP w base S B D m h l en) (hfree : Free D) (hm : m ≤ 200) (h86 : 86 ≤ m) (ht : TabP w) (hbase : base.h ≤ w.heap.size) (hv20 : ∀ q ∈ os, q.o.v.length ≤ 20) :
  Calls Tryz.prog 30 #[.pointer (some ⟨X, 0, none⟩)] w fun e w' => XcmP w base X S B m l en os e w' := by
 obtain ⟨T, oo, on, oc, o, n, k, qs, hx, hd, ho, hl, h12', hc, hq, hok, hT⟩ := id x
 have HIN := hide x; have HFR := hide hfree
 have hb0 : Below w.heap.size w w.drew := (Below.refl _ _).drew
 have HCM := hide (commit_any w.drew base S B D m h l en (.slice oo on oc) os (hp.later hb0) hm h86 (ht.below hb0) (Nat.le_trans hbase hb0.size) (fun W hk => ((ho.later hb0).keptS hk).read) hv20 (by omega) (os.map (·.o)) rfl)
 have hS0 : w.drew.cell? ⟨X, 0, none⟩ = some (.pointer (some ⟨S, 0, none⟩)) ∧ w.drew.cell? ⟨X, 1, none⟩ = some (.pointer (some ⟨T, 0, none⟩)) ∧ w.drew.cell? ⟨T, 0, none⟩ = some (.slice oo on oc) := ⟨(hx.later hb0).cells.1, (hx.later hb0).cells.2.1, (hd.later hb0).cells.1⟩
 have X1 := hide hx; have HB0 := hide hb0
 clear x hx hd ho hl h12' hc hq hok hT hp ht hbase hv20 hfree hb0
 go_enter Tryz.func30, Tryz.ntmps30
 go_wp2_with fail
 refine (begun_any w X S _ true X1.out (.inr ⟨rfl, T, rfl⟩)).mono ?_
 rintro e w2 ⟨rfl, hw2⟩
 subst hw2
 clear X1
 go_wp2_with fail
 refine up_start (A := fun j => decide (j < 11)) (S := (fun w' => w'.cell? ⟨X, 0, none⟩ = some (.pointer (some ⟨S, 0, none⟩)) ∧ w'.cell? ⟨X, 1, none⟩ = some (.pointer (some ⟨T, 0, none⟩)) ∧ w'.cell? ⟨T, 0, none⟩ = some (.slice oo on oc))) (by kernel_rfl) (by exact hS0) (fun hHeld => ?_)
 refine up_run (v := ?_) 0 8 [1, 2, 3, 11, 12] rfl rfl (by kernel_rfl) (by kernel_rfl) (by kernel_rfl) (by kernel_rfl) (fun _ _ _ h => h) (by rfl) ?_ (by assumption) ?_
 rotate_left
 ·(intro w hSw; (try dsimp only at hSw); go_simp; with_reducible rfl)
 simp only [Act.put, List.setIfInBounds_toArray, List.set_cons_zero, List.set_cons_succ]
 refine up_run (v := ?_) 1 9 [2, 3, 11, 12] rfl rfl (by kernel_rfl) (by kernel_rfl) (by kernel_rfl) (by kernel_rfl) (fun _ _ _ h => h) (by rfl) ?_ (by assumption) ?_
 rotate_left
 ·(intro w hSw; (try dsimp only at hSw); go_simp; with_reducible rfl)
 simp only [Act.put, List.setIfInBounds_toArray, List.set_cons_zero, List.set_cons_succ]
 refine up_run (v := ?_) 2 10 [3, 11, 12] rfl rfl (by kernel_rfl) (by kernel_rfl) (by kernel_rfl) (by kernel_rfl) (fun _ _ _ h => h) (by rfl) ?_ (by assumption) ?_
 rotate_left
 ·(intro w hSw; (try dsimp only at hSw); go_simp; with_reducible rfl)
 simp only [Act.put, List.setIfInBounds_toArray, List.set_cons_zero, List.set_cons_succ]
 refine up_run (v := ?_) 3 11 [11, 12] rfl rfl (by kernel_rfl) (by kernel_rfl) (by kernel_rfl) (by kernel_rfl) (fun _ _ _ h => h) (by rfl) ?_ (by assumption) ?_
 rotate_left
 ·(intro w hSw; (try dsimp only at hSw); go_simp; with_reducible rfl)
 simp only [Act.put, List.setIfInBounds_toArray, List.set_cons_zero, List.set_cons_succ]
 refine up_run (v := ?_) 4 12 [5, 6, 7, 8, 9, 10, 11, 12] rfl rfl (by kernel_rfl) (by kernel_rfl) (by kernel_rfl) (by kernel_rfl) (fun _ _ _ h => h) (by rfl) ?_ (by assumption) ?_
 rotate_left
 ·(intro w hSw; (try dsimp only at hSw); go_simp; with_reducible rfl)
 simp only [Act.put, List.setIfInBounds_toArray, List.set_cons_zero, List.set_cons_succ]
 refine up_run (v := ?_) 5 13 [6, 7, 8, 9, 10, 11, 12] rfl rfl (by kernel_rfl) (by kernel_rfl) (by kernel_rfl) (by kernel_rfl) (fun _ _ _ h => h) (by rfl) ?_ (by assumption) ?_
 rotate_left
 ·(intro w hSw; (try dsimp only at hSw); go_simp; with_reducible rfl)
 simp only [Act.put, List.setIfInBounds_toArray, List.set_cons_zero, List.set_cons_succ]
 refine up_run (v := ?_) 6 14 [7, 8, 9, 10, 11, 12] rfl rfl (by kernel_rfl) (by kernel_rfl) (by kernel_rfl) (by kernel_rfl) (fun _ _ _ h => h) (by rfl) ?_ (by assumption) ?_
 rotate_left
 ·(intro w hSw; (try dsimp only at hSw); go_simp; with_reducible rfl)
 simp only [Act.put, List.setIfInBounds_toArray, List.set_cons_zero, List.set_cons_succ]
 refine up_run (v := ?_) 7 15 [8, 9, 10, 11, 12] rfl rfl (by kernel_rfl) (by kernel_rfl) (by kernel_rfl) (by kernel_rfl) (fun _ _ _ h => h) (by rfl) ?_ (by assumption) ?_
 rotate_left
 ·(intro w hSw; (try dsimp only at hSw); go_simp; with_reducible rfl)
 simp only [Act.put, List.setIfInBounds_toArray, List.set_cons_zero, List.set_cons_succ]
 refine up_run (v := ?_) 8 16 [9, 10, 11, 12] rfl rfl (by kernel_rfl) (by kernel_rfl) (by kernel_rfl) (by kernel_rfl) (fun _ _ _ h => h) (by rfl) ?_ (by assumption) ?_
 rotate_left
 ·(intro w hSw; (try dsimp only at hSw); go_simp; with_reducible rfl)
 simp only [Act.put, List.setIfInBounds_toArray, List.set_cons_zero, List.set_cons_succ]
 refine up_run (v := ?_) 9 17 [10, 11, 12] rfl rfl (by kernel_rfl) (by kernel_rfl) (by kernel_rfl) (by kernel_rfl) (fun _ _ _ h => h) (by rfl) ?_ (by assumption) ?_
 rotate_left
 ·(intro w hSw; (try dsimp only at hSw); go_simp; with_reducible rfl)
 simp only [Act.put, List.setIfInBounds_toArray, List.set_cons_zero, List.set_cons_succ]
 refine up_run (v := ?_) 10 18 [11, 12] rfl rfl (by kernel_rfl) (by kernel_rfl) (by kernel_rfl) (by kernel_rfl) (fun _ _ _ h => h) (by rfl) ?_ (by assumption) ?_
 rotate_left
 ·(intro w hSw; (try dsimp only at hSw); go_simp; with_reducible rfl)
 simp only [Act.put, List.setIfInBounds_toArray, List.set_cons_zero, List.set_cons_succ]
 clear hS0 hHeld
 generalize w2.drew = w0 at *
 refine up_one 11 (by kernel_rfl) rfl (fun K hK => ?_)
 go_simp
 refine HCM.out.mono ?_
 rintro e w9 hcm
 obtain ⟨ev, rfl, hcm⟩ := CmP.ret hcm
 have HC9 := hide hcm
 clear hcm HCM
 refine hK.out _ _ (fun h => absurd h (by decide)) ?_
 clear hK K
 try simp only [Act.put, List.setIfInBounds_toArray, List.set_cons_zero, List.set_cons_succ]
 refine up_one 12 (by kernel_rfl) rfl (fun K hK => ?_)
 go_simp
 refine hK.out _ _ (fun h => absurd h (by decide)) ?_
 clear hK K
 try simp only [Act.put, List.setIfInBounds_toArray, List.set_cons_zero, List.set_cons_succ]
 refine up_done (by kernel_rfl) ?_

 obtain ⟨D', h', hev, hp9, hf9, hk9⟩ := HC9.out.free HFR.out
 obtain rfl : ev = errV (comF l (os.map (·.o)) m) := by simpa using hev
 have hk := (KeptS.of_below (base := base) HB0.out).trans hk9
 have hi9 := HIN.out.keptS hk
 obtain ⟨f, hf⟩ : ∃ f, comF l (os.map (·.o)) m = f := ⟨_, rfl⟩
 by_cases hf0 : f = 0
 ·subst hf0
  obtain ⟨_, _, _, _, _, _, _, _, hx9, -⟩ := id hi9
  obtain ⟨c0, c1, cz⟩ := hx9.cells
  have z1 := cz 1
  have HFIN : Hid (XcmP w2 base X S B m l en os (.returned .nilIface) (w9.setCell ⟨X, 1, none⟩ (.pointer none))) := by
   refine ⟨by rw [hf]; rfl, D', h', w9, hp9.setSes hx9 _, hf9, fun h => absurd hf h, fun _ => hx9.set _, hk, (ButB.of (Below.refl _ _)).set 1 _⟩
  rw [hf, show errV 0 = .nilIface from rfl]
  clear HC9 HFR HB0 HIN hk9 hk hp9 hf9 hi9 hx9 hev cz hf
  go_wp2
  go_ret
  exact HFIN.out
 ·have HFIN : Hid (XcmP w2 base X S B m l en os (.returned (.iface 80 (.int .i64 ((f : Nat) : Int)))) w9) := by
   refine ⟨by rw [hf]; unfold errV; rw [if_neg hf0], D', h', w9, hp9, hf9, fun _ => rfl, fun h => absurd (hf.symm.trans h) hf0, hk, ButB.of (Below.refl _ _)⟩
  rw [hf, show errV f = .iface 80 (.int .i64 ((f : Nat) : Int)) from if_neg hf0]
  clear HC9 HFR HB0 HIN hk9 hk hp9 hf9 hi9 hev hf
  go_wp2
  go_ret
  exact HFIN.out

end Go.Proofs.YtnhbfehfipafoaaGreatDoor

/- A session over the first of two stores. -/
namespace Go.Proofs.YtnhbfehfipafoaaGreatDoor
open Go.RowKit

theorem KeepK.trans {a b c : World} (h : KeepK a b) (k : KeepK b c) : KeepK a c := fun x hx => (k x (by obtain ⟨cs, t, fz, h1, h2⟩ := hx; exact ⟨cs, t, fz, (h x ⟨cs, t, fz, h1, h2⟩).trans h1, h2⟩)).trans (h x hx)

theorem comF_one {l : List Nmd} {o : OpV} {m : Nat} (h : 95 ≤ m) : comF l [o] m = (applyC l o).1 := by
 have e : (allC l [o]).1 = (applyC l o).1 := by
  rw [allC_cons]
  split
  ·rename_i h0
   rw [h0]; rfl
  ·rfl
 unfold comF
 rw [if_neg (by simp), e]
 split
 ·rfl
 ·rename_i h0
  rw [if_neg (by show ¬ (m - 82 ≤ 1); omega)]
  exact (Classical.not_not.1 h0).symm

theorem comL_one {l : List Nmd} {o : OpV} {m : Nat} (h : 95 ≤ m) : comL l [o] m = if (applyC l o).1 = 0 then (applyC l o).2 else l := by
 unfold comL
 rw [comF_one h]
 split
 ·rename_i h0
  rw [allC_cons, if_pos h0]; rfl
 ·rfl

theorem commitOne_any {K : Nat} {w : World} {x y : Sto} (t : Two K w x y) (kd nn : Int) (nm : ByteArray) (vs : List Int) (vo : Option Addr) (vc : Nat) (hf : Free x.D) (hm : x.m ≤ 200) (h86 : 86 ≤ x.m) (ht : TabP w)
  (hv : ∀ W, Below K w W → RowS W (.slice vo vs.length vc) vs) (hvl : vs.length ≤ 20) :
  Calls Tryz.prog 15 #[.pointer (some ⟨x.S, 0, none⟩), .slice (some ⟨w.heap.size, 0, none⟩) 1 1] (w.alloc (.cells #[.int .i64 kd, .string nm, .int .i64 nn, .slice vo vs.length vc] 43)) fun e w' => Cm2P K w x y [⟨kd, nm, nn, vs⟩] e w' := by
 have hKw : K ≤ w.heap.size := by obtain ⟨_, _, a, -⟩ := t; exact a.low
 have hb := alloc_below w (.cells #[.int .i64 kd, .string nm, .int .i64 nn, .slice vo vs.length vc] 43)
 have hN := OpBx.new w kd nm nn (.slice vo vs.length vc)
 refine (commit2_any (t.later hb) _ [⟨⟨kd, nm, nn, vs⟩, vo, vc⟩] hf hm h86 (ht.below hb) (fun W base hk hbl => opsN_one1 (hN.keptS hk) (hv W ((hb.mono hKw).trans hbl))) (fun q hq => by rw [List.mem_singleton] at hq; subst hq; exact hvl) (by show 1 ≤ 1000000; decide)).mono ?_
 rintro e w' ⟨x', h1, h2, h3, h4, h5, h6, h7, h8, base, hk⟩
 exact ⟨x', h1, h2, h3, h4, h5, h6, h7, (hb.mono hKw).trans h8, base, (KeptS.of_below hb).trans hk⟩

def Xo2P (K : Nat) (w : World) (x y : Sto) (e : Ending) (w' : World) : Prop :=
 ∃ X S, e = .returned (.tuple #[.pointer (some ⟨X, 0, none⟩), .nilIface]) ∧ w.heap.size ≤ X ∧ SesB w' X S (.pointer none) ∧ Two K w' { x with S := S } y ∧ Below w.heap.size w w'

theorem xopen2_any {K : Nat} {w : World} {x y : Sto} (t : Two K w x y) (hm : x.m ≤ 200) (h86 : 86 ≤ x.m) (ht : TabP w) (hx : MaxL w) :
  Calls Tryz.prog 25 #[.pointer (some ⟨x.B, 0, none⟩)] w fun e w' => Xo2P K w x y e w' := by
 obtain ⟨base, hb, hK, hxl, hst⟩ := t.step
 refine (xopen_any w base x.B x.D x.m x.h x.l x.en hxl.disk hxl.says hm h86 ht hx hb).mono ?_
 rintro e w' ⟨X, S, rfl, hX, hs, hp, hbl⟩
 exact ⟨X, S, rfl, hX, hs, hst w' w' { x with S := S } (KeptS.of_below hbl) (Nat.le_refl _) (fun _ _ h => h) hp, hbl⟩

theorem xdo2_any {K : Nat} {w : World} {x y : Sto} (t : Two K w x y) {X : Nat} (hs : SesB w X x.S (.pointer none)) (ov : OpV) (vo : Option Addr) (vc : Nat) (hf : Free x.D) (hm : x.m ≤ 200) (h86 : 86 ≤ x.m) (ht : TabP w)
  (hv : ∀ W, Below K w W → RowS W (.slice vo ov.v.length vc) ov.v) (hvl : ov.v.length ≤ 20) :
  Calls Tryz.prog 28 #[.pointer (some ⟨X, 0, none⟩), .agg #[.int .i64 ov.kind, .string ov.name, .int .i64 ov.n, .slice vo ov.v.length vc]] w fun e w' => Cm2P K w x y [ov] e w' := by
 obtain ⟨base, hb, hK, hx, hst⟩ := t.step
 have hKw : K ≤ w.heap.size := by obtain ⟨_, _, a, -⟩ := t; exact a.low
 have bel : ∀ W, KeptS base w W → Below K w W := fun W hk => hk.below (Below.refl _ _) hK hKw
 refine (do0_any w X base x.S x.B x.D x.m x.h x.l x.en ov vo vc hs hx hm h86 ht hb (fun W hk => hv W (bel W hk)) hvl).mono fun e w' hc => ?_
 obtain ⟨D', h', he, hp, hf', hk⟩ := hc.free hf
 exact ⟨⟨x.S, x.B, D', x.m, h', comL x.l [ov] x.m, comN x.l [ov] x.m x.en⟩, he, rfl, rfl, rfl, rfl, hf', hst w' w' _ hk (Nat.le_refl _) (fun _ _ h => h) hp, bel w' hk, base, hk⟩

def Bg2P (K : Nat) (w : World) (X : Nat) (x y : Sto) (e : Ending) (w' : World) : Prop :=
 e = .returned .nilIface ∧ InP w' K X x.S [] x.l ∧ Two K w' x y ∧ ButB w.heap.size X w w'

theorem begin2_any {K : Nat} {w : World} {x y : Sto} (t : Two K w x y) {X : Nat} (hs : SesB w X x.S (.pointer none)) :
  Calls Tryz.prog 26 #[.pointer (some ⟨X, 0, none⟩)] w fun e w' => Bg2P K w X x y e w' := by
 obtain ⟨h, o, n, c, qs, L, h1, h2, h3, h4⟩ := t.cat
 have hKw : K ≤ w.heap.size := by obtain ⟨_, _, a, -⟩ := t; exact a.low
 refine (begin0_any w X x.S x.B h o n c _ hs h1).mono ?_
 rintro e w' ⟨T, rfl, hT, hx, hd, hk⟩
 refine ⟨rfl, ⟨T, none, 0, 0, o, n, c, qs, hx, hd, ⟨World.ownsRow_nil _ _ _ _, fun q hq => absurd hq (by simp)⟩, rfl, by decide, h2.keepK (keepK_but hs ses_kin hk), h3, h4, Nat.le_trans hKw hT⟩, t.map hk.size (fun z c hz => StoreP.but hz hs ses_sto ses_kin hk), hk⟩

def Dn2P (K : Nat) (w : World) (X : Nat) (x y : Sto) (os : List OpC) (made : List Nmd) (o : OpV) (e : Ending) (w' : World) : Prop :=
 e = .returned (errV (addO made os.length o)) ∧ Two K w' x y ∧ Below K w w' ∧ ∃ os', InP w' K X x.S os' (if addO made os.length o = 0 then (applyC made o).2 else made) ∧ os'.map (·.o) = (if addO made os.length o = 0 then os.map (·.o) ++ [o] else os.map (·.o))

theorem xadd2_any {K : Nat} {w : World} {x y : Sto} (t : Two K w x y) {X : Nat} {os : List OpC} {made : List Nmd} (hi : InP w K X x.S os made) (ov : OpV) (vo : Option Addr) (vc : Nat) (hv : RowS w (.slice vo ov.v.length vc) ov.v) (hvl : ov.v.length ≤ 20) (h12 : os.length ≤ 12) :
  Calls Tryz.prog 28 #[.pointer (some ⟨X, 0, none⟩), .agg #[.int .i64 ov.kind, .string ov.name, .int .i64 ov.n, .slice vo ov.v.length vc]] w fun e w' => Dn2P K w X x y os made ov e w' := by
 have hKw : K ≤ w.heap.size := by obtain ⟨_, _, a, -⟩ := t; exact a.low
 refine (do1_any w X K x.S os made ov vo vc hi hKw hv hvl h12).mono ?_
 rintro e w' ⟨rfl, os', h1, h2, ex, hb, hx, hl⟩
 exact ⟨rfl, t.map hb.size (fun z c hz => StoreP.butE hz hb hx), hb.below (Below.refl _ _) hKw hl, os', h1, h2⟩

theorem xcommit2_any {K : Nat} {w : World} {x y : Sto} (t : Two K w x y) {X : Nat} {os : List OpC} {made : List Nmd} (hi : InP w K X x.S os made) (hX : K ≤ X) (hf : Free x.D) (hm : x.m ≤ 200) (h86 : 86 ≤ x.m) (ht : TabP w) (hv20 : ∀ q ∈ os, q.o.v.length ≤ 20) (h0 : comF x.l (os.map (·.o)) x.m = 0) :
  Calls Tryz.prog 30 #[.pointer (some ⟨X, 0, none⟩)] w fun e w' => ∃ x' : Sto, e = .returned .nilIface ∧ x'.S = x.S ∧ x'.B = x.B ∧ x'.m = x.m ∧ x'.l = (allC x.l (os.map (·.o))).2 ∧ Free x'.D ∧ SesB w' X x.S (.pointer none) ∧ Two K w' x' y ∧ Below K w w' ∧ KeepK w w' := by
 obtain ⟨base, hb, hK, hx, hst⟩ := t.step
 have hKw : K ≤ w.heap.size := by obtain ⟨_, _, a, -⟩ := t; exact a.low
 refine (xcommit1_any w X K base x.S x.B x.D x.m x.h x.l x.en os made hi hx hf hm h86 ht hb hv20).mono ?_
 rintro e w' ⟨rfl, D', h', w1, hp, hf', -, hses, hk, hbt⟩
 have hs1 : SesB w1 X x.S (.pointer (some ⟨Classical.choose hi, 0, none⟩)) := by
  have := Classical.choose_spec hi
  obtain ⟨oo, on, oc, o, n, k, qs, h1, -⟩ := this
  exact h1.keptS hk
 refine ⟨⟨x.S, x.B, D', x.m, h', comL x.l (os.map fun q : OpC => q.o) x.m, comN x.l (os.map fun q : OpC => q.o) x.m x.en⟩, by rw [h0]; rfl, rfl, rfl, rfl, by simp only [comL]; rw [if_pos h0], hf', hses h0, hst w1 w' _ hk hbt.size (fun z c hz => StoreP.but hz hs1 ses_sto ses_kin hbt) hp, ?_, ?_⟩
 ·have b1 : Below K w w1 := hk.below (Below.refl _ _) hK hKw
  exact ⟨hbt.os.trans b1.os, hbt.tape.trans b1.tape, hbt.output.trans b1.output, Nat.le_trans b1.size hbt.size, fun b hlt => (hbt.block b (by have := b1.size; omega) (by omega)).trans (b1.block b hlt)⟩
 ·exact (keepK_keptS hk).trans (keepK_but hs1 ses_kin hbt)

end Go.Proofs.YtnhbfehfipafoaaGreatDoor
