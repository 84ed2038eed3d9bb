/- An operation is added to a deed. -/
import Derived.Test.YtnhbfehfipafoaaGreatDoorSrW
import Derived.Test.YtnhbfehfipafoaaGreatDoorSrN
import Derived.Test.YtnhbfehfipafoaaGreatDoorBiE
import Derived.Maps.AppendAt
namespace Go.Proofs.YtnhbfehfipafoaaGreatDoor
open Go.RowKit

structure ButE (ex : Nat → Prop) (W W' : World) : Prop where
 os : W'.os = W.os
 tape : W'.tape = W.tape
 output : W'.output = W.output
 size : W.heap.size ≤ W'.heap.size
 block : ∀ b, b < W.heap.size → ¬ ex b → W'.heap[b]? = W.heap[b]?

theorem ButE.below {ex : Nat → Prop} {K : Nat} {w W W' : World} (h : ButE ex W W') (hb : Below K w W) (hK : K ≤ W.heap.size) (he : ∀ b, ex b → K ≤ b) : Below K w W' :=
 ⟨h.os.trans hb.os, h.tape.trans hb.tape, h.output.trans hb.output, Nat.le_trans hb.size h.size, fun k hk => (h.block k (by omega) (fun e => by have := he k e; omega)).trans (hb.block k hk)⟩

theorem ButE.stays {ex : Nat → Prop} {W W' : World} (hk : ButE ex W W') {b : Nat} {ob : Obj} (hb : W.heap[b]? = some ob) (hn : ¬ ex b) : W'.heap[b]? = some ob := (hk.block b (heap_lt hb) hn).trans hb

def deeT (t : TypeId) : Prop := t = 113 ∨ t = 43

theorem dee_not {t : TypeId} (h : deeT t) : ¬ stoT t ∧ ¬ kinT t ∧ t ≠ 111 := by
 rcases h with rfl | rfl <;> (unfold stoT logT diskT kinT; decide)

def DeeX (ex : Nat → Prop) (W : World) : Prop := ∀ b, ex b → ∀ cs t fz, W.heap[b]? = some (.cells cs t fz) → deeT t

theorem ButE.keep {ex : Nat → Prop} {W W' : World} (h : ButE ex W W') (he : DeeX ex W) {b : Nat} {cs : Array Value} {t : TypeId} {fz : Nat × Nat} (hb : W.heap[b]? = some (.cells cs t fz)) (ht : ¬ deeT t) : W'.heap[b]? = W.heap[b]? := h.block b (heap_lt hb) (fun e => ht (he b e _ _ _ hb))

theorem ButE.keepK {ex : Nat → Prop} {W W' : World} (h : ButE ex W W') (he : DeeX ex W) : KeepK W W' := fun b hb => by
 obtain ⟨cs, t, fz, hx, ht⟩ := hb
 exact h.keep he hx (fun hd => (dee_not hd).2.1 ht)

theorem DiskO.butE {ex : Nat → Prop} {W W' : World} {base : Own} {B : Nat} {D : Dsk} (h : DiskO W base B D) (hk : ButE ex W W') (he : DeeX ex W) : DiskO W' base B D := by
 obtain ⟨sv, ls, h⟩ := h
 have key : ∀ (b : Nat) (cs' : Array Value) (t' : TypeId) (fz : Nat × Nat), W.heap[b]? = some (.cells cs' t' fz) → diskT t' → W'.heap[b]? = W.heap[b]? := fun b cs' t' fz hb hd => hk.keep he hb (fun hx => (dee_not hx).1 (.inl (.inl hd)))
 exact ⟨sv, ls, h.low, (key _ _ _ _ h.head (.inl rfl)).trans h.head, h.len, ownsKeep h.own (fun b cs' fz hb => key b cs' _ fz hb (.inr (.inl rfl))), fun i s v h1 h2 => ownsKeep (h.loose i s v h1 h2) (fun b cs' fz hb => key b cs' _ fz hb (.inr (.inr rfl))), h.apart, h.ok, h.num, h.left, h.mine⟩

theorem StoreP.butE {ex : Nat → Prop} {W W' : World} {base : Own} {S B : Nat} {D : Dsk} {m : Nat} {h : Hd} {l : List Nmd} {en : Nat} (x : StoreP W base S B D m h l en) (hk : ButE ex W W') (he : DeeX ex W) : StoreP W' base S B D m h l en := by
 obtain ⟨⟨L, o, n, c, qs, x1, x2, x3, x4, x5, x6⟩, hd, hi⟩ := x
 exact ⟨⟨L, o, n, c, qs, (hk.keep he (show W.heap[S]? = _ from x1) (fun hx => (dee_not hx).1 (.inr rfl))).trans x1, x2.keepK (hk.keepK he), x3, (hk.keep he (show W.heap[L]? = _ from x4) (fun hx => (dee_not hx).1 (.inl (.inr rfl)))).trans x4, x5, x6⟩, hd.butE hk he, hi⟩

theorem SesB.butE {ex : Nat → Prop} {W W' : World} {X S : Nat} {dv : Value} (x : SesB W X S dv) (hk : ButE ex W W') (he : DeeX ex W) : SesB W' X S dv := (hk.keep he (show W.heap[X]? = _ from x) (fun hx => (dee_not hx).2.2 rfl)).trans x

def OpBx (W : World) (b : Nat) (k : Int) (s : ByteArray) (n : Int) (v : Value) : Prop := W.heap[b]? = some (.cells #[.int .i64 k, .string s, .int .i64 n, v] 43 (0, 0))

theorem OpBx.later {W W' : World} {b : Nat} {k : Int} {s : ByteArray} {n : Int} {v : Value} (x : OpBx W b k s n v) (hb : Below W.heap.size W W') : OpBx W' b k s n v := (hb.block _ (heap_lt x)).trans x

theorem OpBx.cells {W : World} {b : Nat} {k : Int} {s : ByteArray} {n : Int} {v : Value} (x : OpBx W b k s n v) : W.cell? ⟨b, 0, none⟩ = some (.int .i64 k) ∧ W.cell? ⟨b, 1, none⟩ = some (.string s) ∧ W.cell? ⟨b, 2, none⟩ = some (.int .i64 n) ∧ W.cell? ⟨b, 3, none⟩ = some v ∧ ∀ j, W.frozen? ⟨b, j, none⟩ = false := by
 refine ⟨?_, ?_, ?_, ?_, fun k => by simp [World.frozen?, show W.heap[b]? = _ from x]⟩
 all_goals rw [cell_of_row W b _ _ _ _ x]; rfl

theorem OpsT.snocG {W : World} {base : Nat} {v : Value} {os : List OpC} (h : OpsT base W v os) (hbase : base ≤ W.heap.size) (q : OpC) (hq : RowAt 0 W q.vo q.o.v.length q.vc q.o.v) (hn : os.length ≤ 1000) :
  ∃ o c W', (Builtin.append_ #[44, 44] 44 #[v, .slice (some ⟨W.heap.size, 0, none⟩) 1 1]).run Tryz.prog (W.alloc (.cells #[.int .i64 q.o.kind, .string q.o.name, .int .i64 q.o.n, q.row] 43)) = .ok (.slice o (os.length + 1) c) W' ∧ OpsT base W' (.slice o (os.length + 1) c) (os ++ [q]) ∧
   (W.alloc (.cells #[.int .i64 q.o.kind, .string q.o.name, .int .i64 q.o.n, q.row] 43)).grownBy W' v.ownBlock ∧ ((Value.slice o (os.length + 1) c).ownBlock = v.ownBlock ∨ (Value.slice o (os.length + 1) c).ownBlock = some (W.heap.size + 1)) := by
 obtain ⟨j0, hj, hy0, hy1, hy2⟩ := info_got Tryz.infoOpM
 have hA := alloc_below W (.cells #[.int .i64 q.o.kind, .string q.o.name, .int .i64 q.o.n, q.row] 43)
 obtain ⟨v', W', hr, hown, hg, -, hat⟩ := run_append_own_at (P := Tryz.prog) (W.alloc (.cells #[.int .i64 q.o.kind, .string q.o.name, .int .i64 q.o.n, q.row] 43)) base 44 44 43 j0 _ 4 56 (by kernel_rfl) hj hy0 hy1 hy2 rfl (by decide) v os.length _ (h.1.alloc _) ⟨W.heap.size, 0, none⟩ 1 1 [.int .i64 q.o.kind, .string q.o.name, .int .i64 q.o.n, q.row] rfl (World.news_of_block (heap_alloc_new W _)) (fun y hy => by
  simp only [List.mem_cons, List.not_mem_nil, or_false] at hy
  rcases hy with rfl | rfl | rfl | rfl <;> rfl) (by unfold maxLen; omega) (by omega) (Nat.le_trans hbase hA.size)
 obtain ⟨o, c, rfl, -⟩ := owns_form hown
 have hint : ∀ (b : Nat) (cs : Array Value) (fz : Nat × Nat), W.heap[b]? = some (.cells cs 3 fz) → W'.heap[b]? = W.heap[b]? := fun b cs fz hx => by
  refine (hg.block b (Nat.lt_of_lt_of_le (heap_lt hx) hA.size) (fun e => ?_)).trans (hA.block b (heap_lt hx))
  rcases h.1.2 with ⟨hn, -⟩ | ⟨g, cap, cur, ev, -, hgg, -⟩
  ·rw [hn] at e
   cases e
  ·rw [ev] at e
   simp only [Value.ownBlock, Option.some.injEq] at e
   rw [e, hgg] at hx
   simp only [Option.some.injEq, Obj.cells.injEq] at hx
   exact absurd hx.2.1 (by decide)
 refine ⟨o, c, W', hr, ⟨?_, fun p hp => ?_⟩, hg, by simpa using hat⟩
 ·rw [List.length_append, List.flatMap_append, List.flatMap_cons, List.flatMap_nil, List.append_nil]
  exact hown
 ·rcases List.mem_append.1 hp with h1 | h1
  ·exact (h.2 p h1).keep hint
  ·rw [List.mem_singleton] at h1
   rw [h1]
   exact hq.keep hint

theorem opF_small {o : OpV} (h : opF o = 0) : ∀ z ∈ o.v, -32768 ≤ z ∧ z ≤ 32767 := fun z hz => by
 unfold opF at h
 split at h
 ·cases h
 ·split at h
  ·cases h
  ·rename_i h1
   have h2 : bigB o = false := by simpa using h1
   unfold bigB at h2
   rw [List.any_eq_false] at h2
   have := h2 z hz
   rw [decide_eq_true_eq] at this
   omega

theorem op_kinN : ¬ kinT 43 := by unfold kinT; decide
theorem op_stoN : ¬ stoT 43 := by unfold stoT logT diskT; decide

theorem OpsT.off {W W' : World} {base : Nat} {v : Value} {os : List OpC} (h : OpsT base W v os) (h1 : ∀ g, v.ownBlock = some g → W'.heap[g]? = W.heap[g]?) (h2 : ∀ (b : Nat) (cs : Array Value) (fz : Nat × Nat), W.heap[b]? = some (.cells cs 3 fz) → W'.heap[b]? = W.heap[b]?) : OpsT base W' v os := by
 refine ⟨⟨h.1.1, ?_⟩, fun q hq => (h.2 q hq).keep h2⟩
 rcases h.1.2 with hn | ⟨g, cap, cur, ev, hbg, hg, rest⟩
 ·exact .inl hn
 ·exact .inr ⟨g, cap, cur, ev, hbg, (h1 g (by rw [ev]; rfl)).trans hg, rest⟩

theorem OpsT.set {W : World} {base b : Nat} {v : Value} {os : List OpC} {cs : Array Value} {t : TypeId} {fz : Nat × Nat} (h : OpsT base W v os) (hb : W.heap[b]? = some (.cells cs t fz)) (ht : t ≠ 3) (hn : v.ownBlock ≠ some b) (k : Nat) (u : Value) : OpsT base (W.setCell ⟨b, k, none⟩ u) v os := by
 refine h.off (fun g hg => heap_setCell_other _ _ _ _ (fun e => hn (by rw [hg]; exact congrArg some e))) (fun c cs' fz' hc => heap_setCell_other _ _ _ _ (fun e => ?_))
 have e : c = b := e
 subst e
 rw [hb] at hc
 simp only [Option.some.injEq, Obj.cells.injEq] at hc
 exact ht hc.2.1

theorem keepK_grown {W W' : World} {base n : Nat} {v : Value} {xs : List Value} (h : W.ownsRow base 43 4 v n xs) (hg : W.grownBy W' v.ownBlock) : KeepK W W' := fun b hb => by
 obtain ⟨cs, t, fz, hx, ht⟩ := hb
 refine hg.block b (heap_lt hx) (fun e => ?_)
 rcases h.2 with ⟨hn, -⟩ | ⟨g, cap, cur, ev, -, hgg, -⟩
 ·rw [hn] at e
  cases e
 ·rw [ev] at e
  simp only [Value.ownBlock, Option.some.injEq] at e
  rw [e, hgg] at hx
  simp only [Option.some.injEq, Obj.cells.injEq] at hx
  exact op_kinN (by rw [hx.2.1]; exact ht)

theorem oper_append {P : Program} {K : Act → World → Prop} {Q : Exit → Act → World → Prop} {o : Oper} {a : Act} {w w' : World} {s x : Operand} {t : TypeId} {v u v' : Value} (ho : o.op = .call { callee := .builtin .append, args := #[s, x], argTypes := #[t, t] }) (hs : a.eval s = v) (hx : a.eval x = u)
  (hr : (Builtin.append_ #[t, t] o.type #[v, u]).run P w = .ok v' w') (hK : K (a.put o.dst v') w') : Oper.wp P o a w K Q := by
 unfold Oper.wp execOp
 simp only [ho, resolve, invoke, builtin, Sem.run_bind, Sem.run_pure, Result.andThen_ok, List.map_toArray, List.map_cons, List.map_nil, hs, hx, hr]
 exact hK

theorem add_mem {w w0 : World} {base T B BD : Nat} {oo vo' : Option Addr} {on oc vc' : Nat} {cv nv : Value} {kd nn : Int} {nm : ByteArray} {vs : List Int} {os : List OpC} {qs : List Nc}
  (hT : DeeB w0 T (.slice oo on oc) cv) (hO : OpsT base w0 (.slice oo on oc) os) (hon : os.length = on) (hon12 : on ≤ 12) (hB : OpBx w0 B kd nm nn (.slice vo' vs.length vc')) (hR : RowAt 0 w0 vo' vs.length vc' vs) (hC : CatN w0 nv qs) (hX : One w0 BD nv)
  (hK : Below w.heap.size w w0) (hTL : T < w.heap.size) (hBL : w.heap.size ≤ B) (hBD : w.heap.size ≤ BD) (how : ∀ g, (Value.slice oo on oc).ownBlock = some g → g < w.heap.size ∧ g ≠ T) (hbase : base ≤ w.heap.size) :
  ∃ o8 c8 w8, (Builtin.append_ #[44, 44] 44 #[.slice oo on oc, .slice (some ⟨w0.heap.size, 0, none⟩) 1 1]).run Tryz.prog (w0.alloc (.cells #[.int .i64 kd, .string nm, .int .i64 nn, .slice vo' vs.length vc'] 43)) = .ok (.slice o8 (on + 1) c8) w8 ∧
   DeeB w0 T (.slice oo on oc) cv ∧ OpBx w0 B kd nm nn (.slice vo' vs.length vc') ∧ One w0 BD nv ∧
   OpBx (w0.alloc (.cells #[.int .i64 kd, .string nm, .int .i64 nn, .slice vo' vs.length vc'] 43)) B kd nm nn (.slice vo' vs.length vc') ∧ One (w0.alloc (.cells #[.int .i64 kd, .string nm, .int .i64 nn, .slice vo' vs.length vc'] 43)) BD nv ∧ DeeB (w0.alloc (.cells #[.int .i64 kd, .string nm, .int .i64 nn, .slice vo' vs.length vc'] 43)) T (.slice oo on oc) cv ∧
   OpBx w8 B kd nm nn (.slice vo' vs.length vc') ∧ One w8 BD nv ∧ DeeB w8 T (.slice oo on oc) cv ∧ T ≠ B ∧ T ≠ BD ∧
   DeeB ((w8.setCell ⟨T, 0, none⟩ (.slice o8 (on + 1) c8)).setCell ⟨T, 1, none⟩ nv) T (.slice o8 (on + 1) c8) nv ∧ OpsT base ((w8.setCell ⟨T, 0, none⟩ (.slice o8 (on + 1) c8)).setCell ⟨T, 1, none⟩ nv) (.slice o8 (on + 1) c8) (os ++ [⟨⟨kd, nm, nn, vs⟩, vo', vc'⟩]) ∧
   CatN ((w8.setCell ⟨T, 0, none⟩ (.slice o8 (on + 1) c8)).setCell ⟨T, 1, none⟩ nv) nv qs ∧ ButE (fun b => b = T ∨ (Value.slice oo on oc).ownBlock = some b) w ((w8.setCell ⟨T, 0, none⟩ (.slice o8 (on + 1) c8)).setCell ⟨T, 1, none⟩ nv) ∧ ∀ g, (Value.slice o8 (on + 1) c8).ownBlock = some g → (Value.slice oo on oc).ownBlock = some g ∨ w.heap.size ≤ g := by
 obtain ⟨o8, c8, w8, hr, hops, hg, hat⟩ := hO.snocG (Nat.le_trans hbase hK.size) ⟨⟨kd, nm, nn, vs⟩, vo', vc'⟩ hR (by omega)
 have hb7 := alloc_below w0 (.cells #[.int .i64 kd, .string nm, .int .i64 nn, .slice vo' vs.length vc'] 43)
 have hO7 := hO.later hb7
 have hB7 := hB.later hb7
 have hX7 := hX.later hb7
 have hT7 := hT.later hb7
 have hC7 := hC.below hb7
 have hK7 := hK.trans (hb7.mono hK.size)
 obtain ⟨w7, hw7⟩ : ∃ w7, w0.alloc (.cells #[.int .i64 kd, .string nm, .int .i64 nn, .slice vo' vs.length vc'] 43) = w7 := ⟨_, rfl⟩
 rw [show w0.alloc (.cells #[.int .i64 kd, .string nm, .int .i64 nn, OpC.row ⟨⟨kd, nm, nn, vs⟩, vo', vc'⟩] 43) = w7 from hw7] at hg hr
 rw [hw7] at hO7 hB7 hX7 hT7 hC7 hK7 ⊢
 rw [hon] at hr hops hat
 have hs0 : w.heap.size ≤ w0.heap.size := hK.size
 have hBX : BD < w7.heap.size := hX7.2.2
 have n1 : ∀ b, b < w7.heap.size → (b = T ∨ w.heap.size ≤ b) → w8.heap[b]? = w7.heap[b]? := fun b hb hx => hg.block b hb (fun e => by
  obtain ⟨h1, h2⟩ := how b e.symm
  rcases hx with rfl | hx
  ·exact h2 rfl
  ·omega)
 have hB8 : OpBx w8 B kd nm nn (.slice vo' vs.length vc') := (n1 B (heap_lt (show w7.heap[B]? = _ from hB7)) (.inr hBL)).trans hB7
 have hT8 : DeeB w8 T (.slice oo on oc) cv := (n1 T (heap_lt (show w7.heap[T]? = _ from hT7)) (.inl rfl)).trans hT7
 have e8 := n1 BD hBX (.inr hBD)
 have hX8 : One w8 BD nv := ⟨(World.cell?_of_block e8).trans hX7.1, (by have := hX7.2.1; unfold World.frozen? at this ⊢; rw [e8]; exact this), Nat.lt_of_lt_of_le hBX hg.size⟩
 have hC8 := hC7.keepK (keepK_grown hO7.1 hg)
 have nT : (Value.slice o8 (on + 1) c8).ownBlock ≠ some T := by
  rcases hat with e | e
  ·rw [e]
   intro h
   exact (how T h).2 rfl
  ·rw [e]
   intro h
   simp only [Option.some.injEq] at h
   omega
 have dt : 113 ≠ 3 := by decide
 have hT9 : DeeB (w8.setCell ⟨T, 0, none⟩ (.slice o8 (on + 1) c8)) T (.slice o8 (on + 1) c8) cv := heap_setCell_same w8 T 0 _ _ _ hT8
 refine ⟨o8, c8, w8, hr, hT, hB, hX, hB7, hX7, hT7, hB8, hX8, hT8, by omega, by omega, heap_setCell_same _ T 1 _ _ _ hT9, (hops.set hT8 dt nT 0 _).set hT9 dt nT 1 _, (hC8.keepK (keepK_set hT8 dee_kin 0 _)).keepK (keepK_set hT9 dee_kin 1 _), ?_, fun g hgg => ?_⟩
 ·refine ⟨hg.os.trans hK7.os, hg.tape.trans hK7.tape, hg.output.trans hK7.output, ?_, fun b hb hn => ?_⟩
  ·exact Nat.le_trans hK7.size (by simpa using hg.size)
  ·rw [heap_setCell_other _ _ _ _ (fun e => hn (.inl e)), heap_setCell_other _ _ _ _ (fun e => hn (.inl e)), hg.block b (Nat.lt_of_lt_of_le hb hK7.size) (fun e => hn (.inr e.symm))]
   exact hK7.block b hb
 ·rcases hat with e | e
  ·rw [e] at hgg
   exact .inl hgg
  ·rw [e] at hgg
   simp only [Option.some.injEq] at hgg
   exact .inr (by omega)

theorem addS_of {W : World} {B BD : Nat} {kd nn : Int} {nm : ByteArray} {v nv : Value} (hB : OpBx W B kd nm nn v) (hX : One W BD nv) : W.cell? ⟨B, 0, none⟩ = some (.int .i64 kd) ∧ W.cell? ⟨B, 1, none⟩ = some (.string nm) ∧ W.cell? ⟨B, 2, none⟩ = some (.int .i64 nn) ∧ W.cell? ⟨B, 3, none⟩ = some v ∧ W.cell? ⟨BD, 0, none⟩ = some nv :=
 ⟨hB.cells.1, hB.cells.2.1, hB.cells.2.2.1, hB.cells.2.2.2.1, hX.1⟩

theorem OpBx.setOther {W : World} {B T : Nat} {k n : Int} {s : ByteArray} {v : Value} (x : OpBx W B k s n v) (h : T ≠ B) (j : Nat) (u : Value) : OpBx (W.setCell ⟨T, j, none⟩ u) B k s n v := (heap_setCell_other _ _ _ _ (fun e => h (show B = T from e).symm)).trans x

def addP3 : Nat → List Nat
 | 1 => [0]
 | 2 => [1]
 | 3 => [2]
 | 5 => [3, 4]
 | _ => []

def addO (made : List Nmd) (n : Nat) (o : OpV) : Nat := if 12 ≤ n then 2 else (applyC made o).1

def AdoP (w : World) (base T : Nat) (oo : Option Addr) (on oc : Nat) (os : List OpC) (made : List Nmd) (o : OpV) (e : Ending) (w' : World) : Prop :=
 (addO made on o ≠ 0 ∧ e = .returned (errno (addO made on o : Nat)) ∧ Below w.heap.size w w') ∨
 (addO made on o = 0 ∧ e = .returned .nilIface ∧ ∃ o' c' q o2 n2 k2 qs, DeeB w' T (.slice o' (on + 1) c') (.slice o2 n2 k2) ∧ OpsT base w' (.slice o' (on + 1) c') (os ++ [q]) ∧ q.o = o ∧ CatN w' (.slice o2 n2 k2) qs ∧ qs.map (·.x) = (applyC made o).2 ∧
  ButE (fun b => b = T ∨ (Value.slice oo on oc).ownBlock = some b) w w' ∧ ∀ g, (Value.slice o' (on + 1) c').ownBlock = some g → (Value.slice oo on oc).ownBlock = some g ∨ w.heap.size ≤ g)

set_option linter.unusedSimpArgs false in
set_option maxRecDepth 100000 in
set_option maxHeartbeats 3200000 in
theorem addX_any (w : World) (base T : Nat) (oo : Option Addr) (on oc : Nat) (co : Option Addr) (cn ck : Nat) (os : List OpC) (qs : List Nc) (made : List Nmd) (ov : OpV) (vo : Option Addr) (vc : Nat) (ht : DeeB w T (.slice oo on oc) (.slice co cn ck)) (ho : OpsT base w (.slice oo on oc) os) (hon : os.length = on) (hon12 : on ≤ 12)
  (hc : CatN w (.slice co cn ck) qs) (hq : qs.map (·.x) = made) (hok : CatOk made) (hv : RowS w (.slice vo ov.v.length vc) ov.v) (hvl : ov.v.length ≤ 20) (hbase : base ≤ w.heap.size) :
  Calls Tryz.prog 57 #[.pointer (some ⟨T, 0, none⟩), .agg #[.int .i64 ov.kind, .string ov.name, .int .i64 ov.n, .slice vo ov.v.length vc]] w fun e w' => AdoP w base T oo on oc os made ov e w' := by
 obtain ⟨kd, nm, nn, vs⟩ := ov
 dsimp only at hv hvl ⊢
 have hb1 := alloc_below w (.cells #[.int .i64 kd, .string nm, .int .i64 nn, .slice vo vs.length vc] 43)
 have HT1 := hide (ht.later hb1); have HO1 := hide (ho.later hb1); have HC1 := hide (hc.below hb1); have HRV1 := hide (hv.below hb1 (Nat.le_refl _)); have HQ := hide hq; have HBW := hide hb1
 have HB1 : Hid (OpBx (w.alloc (.cells #[.int .i64 kd, .string nm, .int .i64 nn, .slice vo vs.length vc] 43)) w.heap.size kd nm nn (.slice vo vs.length vc)) := heap_alloc_new w _
 have HS1 : Hid ((w.alloc (.cells #[.int .i64 kd, .string nm, .int .i64 nn, .slice vo vs.length vc] 43)).heap.size = w.heap.size + 1) := by show _ = _; simp
 have HTL : Hid (T < w.heap.size) := heap_lt (show w.heap[T]? = _ from ht)
 have HOW : Hid (∀ g, (Value.slice oo on oc).ownBlock = some g → g < w.heap.size ∧ g ≠ T) := fun g hg => by
  rcases ho.1.2 with ⟨hn, -⟩ | ⟨g', cap, cur, e, -, hgg, -⟩
  ·rw [hn] at hg; cases hg
  ·rw [e] at hg
   simp only [Value.ownBlock, Option.some.injEq] at hg
   subst hg
   refine ⟨heap_lt hgg, fun e => ?_⟩
   subst e
   rw [show w.heap[g']? = _ from ht] at hgg
   simp only [Option.some.injEq, Obj.cells.injEq] at hgg
   exact absurd hgg.2.1 (by decide)
 have HON := hide hon; have HBA := hide hbase
 have HOK : Hid (CatOk (qs.map (·.x))) := by rw [hq]; exact hok
 obtain ⟨⟨rc, rl⟩, hr⟩ : ∃ r, applyC made ⟨kd, nm, nn, vs⟩ = r := ⟨_, rfl⟩
 have HR : Hid (applyC (qs.map (·.x)) ⟨kd, nm, nn, vs⟩ = (rc, rl)) := by show _ = _; rw [hq]; exact hr
 have HRM := hide hr
 have HROK : Hid (rc = 0 → ∀ x ∈ rl, NmOk x) := fun h0 => by have := (applyC_ok HOK.out ⟨kd, nm, nn, vs⟩ (by rw [HR.out]; exact h0)).all; rwa [HR.out] at this
 have HOPF : Hid (rc = 0 → ∀ z ∈ vs, -32768 ≤ z ∧ z ≤ 32767) := fun h0 => opF_small (applyC_opF hok (o := ⟨kd, nm, nn, vs⟩) (by rw [hr]; exact h0))
 obtain ⟨c0, c1, -⟩ := HT1.out.cells
 clear ht ho hc hq hok hv hb1 hon hbase hr
 go_enter Tryz.func57, Tryz.ntmps57
 by_cases h12 : 12 ≤ on
 ·have g1 : decide ((12 : Int) ≤ (on : Int)) = true := decide_eq_true (by omega)
  have HFIN : Hid (AdoP w base T oo on oc os made ⟨kd, nm, nn, vs⟩ (.returned (errno 2)) (w.alloc (.cells #[.int .i64 kd, .string nm, .int .i64 nn, .slice vo vs.length vc] 43))) := by
   have e : addO made on ⟨kd, nm, nn, vs⟩ = 2 := by unfold addO; rw [if_pos h12]
   exact .inl ⟨by rw [e]; decide, by rw [e]; rfl, HBW.out⟩
  go_wp2
  go_ret
  exact HFIN.out
 have g1 : decide ((12 : Int) ≤ (on : Int)) = false := decide_eq_false (by omega)
 have HAD : Hid (addO made on ⟨kd, nm, nn, vs⟩ = rc) := by show _ = _; unfold addO; rw [if_neg h12, HRM.out]
 go_wp2_with fail
 generalize hw1 : w.alloc (.cells #[.int .i64 kd, .string nm, .int .i64 nn, .slice vo vs.length vc] 43) = w1 at *
 clear hw1
 refine region_inv (by kernel_rfl) (by kernel_rfl) (fun L a' w' => ∃ (c : Nat → Value) (fl : Bool), a' = (⟨#[(.pointer (some ⟨T, 0, none⟩)), (.agg #[.int .i64 kd, .string nm, .int .i64 nn, .slice vo vs.length vc]), undef, (.pointer (some ⟨w.heap.size, 0, none⟩)), .nilIface, c 9, c 11, (.pointer (some ⟨T, 0, none⟩)), (.pointer (some ⟨T, 0, none⟩)), (.pointer (some ⟨T, 0, none⟩)), (.slice oo on oc), (.int .i64 (on : Int)), (.bool false), undef, c 6, c 0, c 1, c 2, c 3, c 4, c 5, c 7, c 8, undef, undef, undef, undef, undef, undef, undef, undef, undef, undef, undef, undef, undef, undef, undef, undef, undef, undef, undef, undef, undef], []⟩ : Act) ∧ L.getD 10 false = fl ∧ FS (apD 5 addP3) (fun i => List.getD [some (.pointer (some ⟨T, 0, none⟩)), some (.pointer (some ⟨T, 0, none⟩)), some (.pointer (some ⟨T, 1, none⟩)), some (.agg #[.slice co cn ck]), some (.agg #[.int .i64 kd, .string nm, .int .i64 nn, .slice vo vs.length vc])] i none) (apS 5 (CatG (rc, rl)) w1.heap.size fl) w1 L c w') ⟨fun i => List.getD [undef, undef, undef, undef, undef, undef, undef, undef, undef, undef, undef, undef] i undef, false, rfl, by simp [Array.getD], FS.start _ _ _⟩ ?_ ?_
 ·rintro L a' w' i o ⟨c, fl, rfl, hbf, R⟩ ho hn hdep K hK
  have hi : i < 12 := (Array.getElem?_eq_some_iff.1 ho).1
  have hst := apStays 5 addP3 (CatG (rc, rl)) (CatG.later (r := (rc, rl))) w1.heap.size fl
  rcases (by omega : i = 0 ∨ i = 1 ∨ i = 2 ∨ i = 3 ∨ i = 4 ∨ i = 5 ∨ i = 6 ∨ i = 7 ∨ i = 8 ∨ i = 9 ∨ i = 10 ∨ i = 11) with rfl | rfl | rfl | rfl | rfl | rfl | rfl | rfl | rfl | rfl | rfl | rfl
  ·obtain rfl := Option.some.inj ho
   have R' := R.made hst hn (fun j hj => absurd hj (by simp [apD, addP3])) (Below.refl _ _) (v := (.pointer (some ⟨T, 0, none⟩))) (fun u h => Option.some.inj h) (apS_p (by decide))
   clear R
   go_simp
   exact hK.out _ _ ⟨_, fl, by simp [upd], by rw [getD_set_ne false (by decide)]; exact hbf, R'⟩
  ·obtain rfl := Option.some.inj ho
   have e0 : c 0 = (.pointer (some ⟨T, 0, none⟩)) := R.plain 0 _ (hdep ⟨0, .data⟩ (by simp) rfl) rfl
   have R' := R.made hst hn (fun j hj => by simp [apD, addP3] at hj; subst hj; exact hdep ⟨_, .data⟩ (by simp) rfl) (Below.refl _ _) (v := (.pointer (some ⟨T, 0, none⟩))) (fun u h => Option.some.inj h) (apS_p (by decide))
   clear R
   rw [e0]
   go_simp
   exact hK.out _ _ ⟨_, fl, by simp [upd, e0], by rw [getD_set_ne false (by decide)]; exact hbf, R'⟩
  ·obtain rfl := Option.some.inj ho
   have e1 : c 1 = (.pointer (some ⟨T, 0, none⟩)) := R.plain 1 _ (hdep ⟨1, .data⟩ (by simp) rfl) rfl
   have R' := R.made hst hn (fun j hj => by simp [apD, addP3] at hj; subst hj; exact hdep ⟨_, .data⟩ (by simp) rfl) (Below.refl _ _) (v := (.pointer (some ⟨T, 1, none⟩))) (fun u h => Option.some.inj h) (apS_p (by decide))
   clear R
   rw [e1]
   go_simp
   exact hK.out _ _ ⟨_, fl, by simp [upd, e1], by rw [getD_set_ne false (by decide)]; exact hbf, R'⟩
  ·obtain rfl := Option.some.inj ho
   have e2 : c 2 = (.pointer (some ⟨T, 1, none⟩)) := R.plain 2 _ (hdep ⟨2, .data⟩ (by simp) rfl) rfl
   obtain ⟨-, p1, -⟩ := (HT1.out.later R.below).cells
   have R' := R.made hst hn (fun j hj => by simp [apD, addP3] at hj; subst hj; exact hdep ⟨_, .data⟩ (by simp) rfl) (Below.refl _ _) (v := (.agg #[.slice co cn ck])) (fun u h => Option.some.inj h) (apS_p (by decide))
   clear R
   rw [e2]
   go_simp
   exact hK.out _ _ ⟨_, fl, by simp [upd, e2], by rw [getD_set_ne false (by decide)]; exact hbf, R'⟩
  ·obtain rfl := Option.some.inj ho
   obtain ⟨q0, q1, q2, q3, -⟩ := (HB1.out.later R.below).cells
   have R' := R.made hst hn (fun j hj => absurd hj (by simp [apD, addP3])) (Below.refl _ _) (v := (.agg #[.int .i64 kd, .string nm, .int .i64 nn, .slice vo vs.length vc])) (fun u h => Option.some.inj h) (apS_p (by decide))
   clear R
   go_simp
   exact hK.out _ _ ⟨_, fl, by simp [upd], by rw [getD_set_ne false (by decide)]; exact hbf, R'⟩
  ·obtain rfl := Option.some.inj ho
   have e3 : c 3 = (.agg #[.slice co cn ck]) := R.plain 3 _ (hdep ⟨3, .data⟩ (by simp) rfl) rfl
   have e4 : c 4 = (.agg #[.int .i64 kd, .string nm, .int .i64 nn, .slice vo vs.length vc]) := R.plain 4 _ (hdep ⟨4, .data⟩ (by simp) rfl) rfl
   rw [e3, e4]
   go_simp
   refine (apply_any w' _ qs ⟨kd, nm, nn, vs⟩ vo vc ⟨_, rfl, HC1.out.below R.below⟩ HOK.out (HRV1.out.below R.below (Nat.le_refl _)) (by show vs.length ≤ 100; omega)).mono ?_
   rw [HR.out]
   rintro e w2 hres
   obtain ⟨o, l, k', ev, rfl, hg2, hb2⟩ := catG_of hres
   have R' := R.made hst hn (fun j hj => by simp [apD, addP3] at hj; rcases hj with rfl | rfl <;> exact hdep ⟨_, .data⟩ (by simp) rfl) hb2 (v := .tuple #[.agg #[.slice o l k'], ev]) (fun u h => by cases h) (apS_0 ⟨o, l, k', ev, upd_self .., hg2⟩)
   clear R hg2 hb2 hres
   go_wp2_with fail
   exact hK.out _ _ ⟨_, fl, by simp [upd, e3, e4], by rw [getD_set_ne false (by decide)]; exact hbf, R'⟩
  ·obtain rfl := Option.some.inj ho
   have R' := R.made hst hn (fun j hj => by simp [apD, addP3] at hj; subst hj; exact hdep ⟨_, .data⟩ (by simp) rfl) (Below.refl _ _) (v := c 5) (fun u h => by cases h) (apS_1 (q := 5) (show upd c 6 (c 5) 6 = upd c 6 (c 5) 5 by rw [upd_self, upd_ne _ _ (by decide)]))
   clear R
   go_simp
   exact hK.out _ _ ⟨_, fl, by simp [upd], by rw [getD_set_ne false (by decide)]; exact hbf, R'⟩
  ·obtain rfl := Option.some.inj ho
   have t1 := hdep ⟨6, .data⟩ (by simp) rfl
   have e1 : c 6 = c 5 := (R.spec 6 t1).2.1 rfl
   obtain ⟨o, l, k', ev, e0, -⟩ := (R.spec 5 (R.closed 6 t1 5 (by simp [apD]))).1 rfl
   rw [e0] at e1
   have R' := R.made hst hn (fun j hj => by simp [apD, addP3] at hj; subst hj; exact hdep ⟨_, .data⟩ (by simp) rfl) (Below.refl _ _) (v := .agg #[.slice o l k']) (fun u h => by cases h) (apS_2 (q := 5) ⟨.agg #[.slice o l k'], ev, (upd_ne _ _ (by decide)).trans e1, upd_self ..⟩)
   clear R t1 e0
   rw [e1]
   go_simp
   exact hK.out _ _ ⟨_, fl, by simp [upd, e1], by rw [getD_set_ne false (by decide)]; exact hbf, R'⟩
  ·obtain rfl := Option.some.inj ho
   have t1 := hdep ⟨6, .data⟩ (by simp) rfl
   have e1 : c 6 = c 5 := (R.spec 6 t1).2.1 rfl
   obtain ⟨o, l, k', ev, e0, -⟩ := (R.spec 5 (R.closed 6 t1 5 (by simp [apD]))).1 rfl
   rw [e0] at e1
   have R' := R.made hst hn (fun j hj => by simp [apD, addP3] at hj; subst hj; exact hdep ⟨_, .data⟩ (by simp) rfl) (Below.refl _ _) (v := ev) (fun u h => by cases h) (apS_3 (q := 5) ⟨.agg #[.slice o l k'], ev, (upd_ne _ _ (by decide)).trans e1, upd_self ..⟩)
   clear R t1 e0
   rw [e1]
   go_simp
   exact hK.out _ _ ⟨_, fl, by simp [upd, e1], by rw [getD_set_ne false (by decide)]; exact hbf, R'⟩
  ·obtain rfl := Option.some.inj ho
   have m7 := One.new w' (.slice none 0 0) 53
   have R' := R.made hst hn (fun j hj => absurd hj (by simp [apD, addP3])) (alloc_below w' (.cells #[.slice none 0 0] 53)) (v := .pointer (some ⟨w'.heap.size, 0, none⟩)) (fun u h => by cases h) (apS_4 (q := 5) ⟨w'.heap.size, upd_self .., R.below.size, fun _ => m7⟩)
   clear R m7
   go_simp
   exact hK.out _ _ ⟨_, fl, by simp [upd], by rw [getD_set_ne false (by decide)]; exact hbf, R'⟩
  ·obtain rfl := Option.some.inj ho
   have t2 := hdep ⟨7, .data⟩ (by simp) rfl
   have t4 := hdep ⟨9, .data⟩ (by simp) rfl
   have hb0 : fl = false := by
    cases fl with
    | false => rfl
    | true => exact absurd hbf (listed_not hn)
   subst hb0
   have t1 := R.closed 7 t2 6 (by simp [apD])
   have e1 : c 6 = c 5 := (R.spec 6 t1).2.1 rfl
   obtain ⟨o, l, k', ev, e0, hg⟩ := (R.spec 5 (R.closed 6 t1 5 (by simp [apD]))).1 rfl
   obtain ⟨u2, f2, e2, e2'⟩ : ∃ u e, c 6 = .tuple #[u, e] ∧ c 7 = u := (R.spec 7 t2).2.2.1 rfl
   rw [e1, e0] at e2
   simp only [Value.tuple.injEq, Array.mk.injEq, List.cons.injEq, and_true] at e2
   obtain ⟨rfl, rfl⟩ := e2
   obtain ⟨B, e4, hCB, hbx⟩ : ∃ B, c 9 = .pointer (some ⟨B, 0, none⟩) ∧ w1.heap.size ≤ B ∧ (false = false → One w' B (.slice none 0 0)) := (R.spec 9 t4).2.2.2.2.1 rfl
   have hbx := hbx rfl
   have hg' := CatG.put HROK.out hbx (.slice o l k') hg
   have R' := R.put (Sp' := (apS 5 (CatG (rc, rl)) w1.heap.size true)) (v := undef) hn (fun j hj => by simp [apD, addP3] at hj; rcases hj with rfl | rfl <;> exact hdep ⟨_, .data⟩ (by simp) rfl) (R.below.setCell (p := ⟨B, 0, none⟩) hCB (.slice o l k')) (fun u h => by cases h) (fun j hj hl hs => by
    obtain ⟨h0, h1, h2, h3, h4, h5, h6⟩ := hs
    refine ⟨fun e => ?_, fun e => ?_, fun e => ?_, fun e => ?_, fun e => ?_, fun e => absurd e hj, fun e => ?_⟩
    ·exact ⟨o, l, k', ev, (upd_ne _ _ (by decide)).trans e0, hg'⟩
    ·rw [upd_ne _ _ (by decide), upd_ne _ _ (by decide)]; exact h1 e
    ·rw [upd_ne _ _ (by decide), upd_ne _ _ (by decide)]; exact h2 e
    ·rw [upd_ne _ _ (by decide), upd_ne _ _ (by decide)]; exact h3 e
    ·obtain ⟨B', a1, a2, -⟩ := h4 e
     exact ⟨B', (upd_ne _ _ (by decide)).trans a1, a2, fun hf => by cases hf⟩
    ·rw [upd_ne _ _ (by decide), upd_ne _ _ (by decide)]; exact h6 e) (apS_5 (q := 5) ⟨B, .slice o l k', (upd_ne _ _ (by decide)).trans e4, (upd_ne _ _ (by decide)).trans e2', hCB, hbx.write _⟩)
   obtain ⟨z0, z1, -⟩ := hbx
   clear R hg hg' hst e1 e0 t1 t2 t4
   rw [e2', e4]
   go_simp
   exact hK.out _ _ ⟨_, true, by simp [upd, e2', e4], by first | exact listed_new hn | simp [hn], R'⟩
  ·obtain rfl := Option.some.inj ho
   have R' := R.made hst hn (fun j hj => by simp [apD, addP3] at hj; subst hj; exact hdep ⟨_, .data⟩ (by simp) rfl) (Below.refl _ _) (v := c 8) (fun u h => by cases h) (apS_6 (q := 5) (show upd c 11 (c 8) 11 = upd c 11 (c 8) 8 by rw [upd_self, upd_ne _ _ (by decide)]))
   clear R
   go_simp
   exact hK.out _ _ ⟨_, fl, by simp [upd], by rw [getD_set_ne false (by decide)]; exact hbf, R'⟩
 rintro L a' w2 ⟨c, fl, rfl, hbf, R⟩ hall
 obtain rfl : true = fl := (hall 10 (by decide)).symm.trans hbf
 obtain ⟨BD, o, l, k', ev, e4, e6, hCB, hbx, hg⟩ := ap_fin (q := 5) R (fun i hi => hall i hi)
 have e4 : c 9 = .pointer (some ⟨BD, 0, none⟩) := e4
 have e6 : c 11 = ev := e6
 have hb2 := R.below
 clear R hall hbf
 rw [e4, e6]
 have XD := hide hbx; have HBD : Hid (w1.heap.size ≤ BD) := hCB
 have HT2 := hide (HT1.out.later hb2); have HO2 := hide (HO1.out.later hb2); have HB2 := hide (HB1.out.later hb2); have HRV2 := hide (HRV1.out.below hb2 (Nat.le_refl _)); have HBW2 := hide (HBW.out.trans (hb2.mono HBW.out.size))
 clear hb2 HT1 HO1 HB1 HRV1 HC1 HBW e4 e6 c0 c1 hbx hCB
 rcases hg with ⟨hr0, rfl, rfl, rfl, rfl⟩ | ⟨hr0, rfl, qs2, hq2, hc2⟩
 ·have e0 : errV rc = .iface 80 (.int .i64 (rc : Nat)) := if_neg hr0
  have HFIN : Hid (AdoP w base T oo on oc os made ⟨kd, nm, nn, vs⟩ (.returned (errno (rc : Nat))) w2) := .inl ⟨by rw [HAD.out]; exact hr0, by rw [HAD.out], HBW2.out⟩
  dsimp only
  rw [e0]
  clear e0 hr0 HROK HR HRM
  go_wp2
  go_ret
  exact HFIN.out
 ·obtain rfl : rc = 0 := hr0
  have HQ2 := hide hq2; have HC2 := hide hc2
  have hsq := rowS_seq HRV2.out
  obtain ⟨b0, b1, b2, b3, bz⟩ := HB2.out.cells
  clear hq2 hc2
  go_wp2_with fail
  refine (cloneI_own w2 _ vs.length _ hsq (by simp) (by omega) (fun y hy => by obtain ⟨z, -, rfl⟩ := List.mem_map.1 hy; rfl)).mono ?_
  rintro e w3 ⟨u3, rfl, hown3, hb3⟩
  obtain ⟨vo', vc', rfl, -⟩ := owns_form hown3
  have hb3x := HB2.out.later hb3
  obtain ⟨b0, b1, b2, b3, bz⟩ := hb3x.cells
  have z3 := bz 3
  have HT4 : Hid (DeeB (w3.setCell ⟨w.heap.size, 3, none⟩ (.slice vo' vs.length vc')) T (.slice oo on oc) (.slice co cn ck)) := (heap_setCell_other _ _ _ _ (fun e => by have h1 : T = w.heap.size := e; have := HTL.out; omega)).trans (HT2.out.later hb3)
  have HB4 : Hid (OpBx (w3.setCell ⟨w.heap.size, 3, none⟩ (.slice vo' vs.length vc')) w.heap.size kd nm nn (.slice vo' vs.length vc')) := heap_setCell_same _ _ 3 _ _ _ hb3x
  have HR4 : Hid (RowAt 0 (w3.setCell ⟨w.heap.size, 3, none⟩ (.slice vo' vs.length vc')) vo' vs.length vc' vs) := by
   refine ⟨ownsRow_setCell_below (a := ⟨w.heap.size, 3, none⟩) (base := w2.heap.size) hown3 (heap_lt (show w2.heap[w.heap.size]? = _ from HB2.out)) _ |> ownsZero, HOPF.out (by first | trivial | rfl)⟩
  have HO4 : Hid (OpsT base (w3.setCell ⟨w.heap.size, 3, none⟩ (.slice vo' vs.length vc')) (.slice oo on oc) os) := (HO2.out.later hb3).set hb3x (by decide) (fun h => by have := (HOW.out _ h).1; omega) 3 _
  have HC4 := hide ((HC2.out.below hb3).keepK (keepK_set hb3x op_kinN 3 (.slice vo' vs.length vc')))
  have HX4 := hide ((XD.out.later hb3).other (p := ⟨w.heap.size, 3, none⟩) (by show w.heap.size ≠ BD; have := HBD.out; have := HS1.out; omega) (.slice vo' vs.length vc'))
  have HK4 := hide ((HBW2.out.trans (hb3.mono HBW2.out.size)).setCell (p := ⟨w.heap.size, 3, none⟩) (Nat.le_refl _) (.slice vo' vs.length vc'))
  clear hown3 hb3 hb3x bz HT2 HO2 HB2 HC2 XD HBW2
  go_wp2_with fail
  generalize hw4 : w3.setCell ⟨w.heap.size, 3, none⟩ (.slice vo' vs.length vc') = w4 at *
  clear hw4
  have h0 : Below w4.heap.size w4 w4.drew := (Below.refl _ _).drew
  obtain ⟨o8, c8, w8, hrun, hT0, hB0, hX0, hB7, hX7, hT7, hB8, hX8, hT8, nTB, nTD, hTF, hOF, hCF, hKF, hOWF⟩ := add_mem (HT4.out.later h0) (HO4.out.later h0) HON.out hon12 (HB4.out.later h0) (HR4.out.later h0) (HC4.out.below h0) (HX4.out.later h0) (HK4.out.trans (h0.mono HK4.out.size)) HTL.out (Nat.le_refl _) (by have := HBD.out; have := HS1.out; omega) HOW.out HBA.out
  have HFIN : Hid (AdoP w base T oo on oc os made ⟨kd, nm, nn, vs⟩ (.returned .nilIface) ((w8.setCell ⟨T, 0, none⟩ (.slice o8 (on + 1) c8)).setCell ⟨T, 1, none⟩ (.slice o l k'))) := .inr ⟨HAD.out, rfl, o8, c8, _, o, l, k', qs2, hTF, hOF, rfl, hCF, by rw [HRM.out]; exact HQ2.out, hKF, hOWF⟩
  have hS0 := addS_of hB0 hX0; have hS7 := hide (addS_of hB7 hX7); have hS8 := hide (addS_of hB8 hX8); have hS9 := hide (addS_of (hB8.setOther nTB 0 (.slice o8 (on + 1) c8)) (hX8.other (p := ⟨T, 0, none⟩) nTD (.slice o8 (on + 1) c8))); have hS10 := hide (addS_of ((hB8.setOther nTB 0 (.slice o8 (on + 1) c8)).setOther nTB 1 (.slice o l k')) ((hX8.other (p := ⟨T, 0, none⟩) nTD (.slice o8 (on + 1) c8)).other (p := ⟨T, 1, none⟩) nTD (.slice o l k')))
  have HRUN := hide hrun; have HT0 := hide hT0; have HT7 := hide hT7; have HT8 := hide hT8
  clear hTF hOF hCF hKF hOWF hT0 hB0 hX0 hB7 hX7 hT7 hB8 hX8 hT8 HT4 HO4 HB4 HR4 HC4 HX4 HK4 h0 hrun
  refine up_start (A := fun _ => true) (S := (fun w' => w'.cell? ⟨w.heap.size, 0, none⟩ = some (.int .i64 kd) ∧ w'.cell? ⟨w.heap.size, 1, none⟩ = some (.string nm) ∧ w'.cell? ⟨w.heap.size, 2, none⟩ = some (.int .i64 nn) ∧ w'.cell? ⟨w.heap.size, 3, none⟩ = some (.slice vo' vs.length vc') ∧ w'.cell? ⟨BD, 0, none⟩ = some (.slice o l k'))) (by kernel_rfl) (by exact hS0) (fun hHeld => ?_)
  refine up_run (v := ?_) 0 30 [] rfl rfl (by kernel_rfl) (by kernel_rfl) (by kernel_rfl) (by kernel_rfl) (fun _ _ _ h => h) (by rfl) ?_ (by assumption) ?_
  rotate_left
  ·(intro w hSw; (try dsimp only at hSw); go_simp; with_reducible rfl)
  simp only [Act.put, List.setIfInBounds_toArray, List.set_cons_zero, List.set_cons_succ]
  refine up_run (v := ?_) 1 31 [] rfl rfl (by kernel_rfl) (by kernel_rfl) (by kernel_rfl) (by kernel_rfl) (fun _ _ _ h => h) (by rfl) ?_ (by assumption) ?_
  rotate_left
  ·(intro w hSw; (try dsimp only at hSw); go_simp; with_reducible rfl)
  simp only [Act.put, List.setIfInBounds_toArray, List.set_cons_zero, List.set_cons_succ]
  refine up_run (v := ?_) 2 32 [] rfl rfl (by kernel_rfl) (by kernel_rfl) (by kernel_rfl) (by kernel_rfl) (fun _ _ _ h => h) (by rfl) ?_ (by assumption) ?_
  rotate_left
  ·(intro w hSw; (try dsimp only at hSw); go_simp; with_reducible rfl)
  simp only [Act.put, List.setIfInBounds_toArray, List.set_cons_zero, List.set_cons_succ]
  refine up_run (v := ?_) 3 33 [] rfl rfl (by kernel_rfl) (by kernel_rfl) (by kernel_rfl) (by kernel_rfl) (fun _ _ _ h => h) (by rfl) ?_ (by assumption) ?_
  rotate_left
  ·(intro w hSw; (try dsimp only at hSw); go_simp; with_reducible rfl)
  simp only [Act.put, List.setIfInBounds_toArray, List.set_cons_zero, List.set_cons_succ]
  refine up_run (v := ?_) 4 34 [] rfl rfl (by kernel_rfl) (by kernel_rfl) (by kernel_rfl) (by kernel_rfl) (fun _ _ _ h => h) (by rfl) ?_ (by assumption) ?_
  rotate_left
  ·(intro w hSw; (try dsimp only at hSw); go_simp; with_reducible rfl)
  simp only [Act.put, List.setIfInBounds_toArray, List.set_cons_zero, List.set_cons_succ]
  refine up_run (v := ?_) 6 36 [] rfl rfl (by kernel_rfl) (by kernel_rfl) (by kernel_rfl) (by kernel_rfl) (fun _ _ _ h => h) (by rfl) ?_ (by assumption) ?_
  rotate_left
  ·(intro w hSw; (try dsimp only at hSw); go_simp; with_reducible rfl)
  simp only [Act.put, List.setIfInBounds_toArray, List.set_cons_zero, List.set_cons_succ]
  refine up_run (v := ?_) 9 39 [] rfl rfl (by kernel_rfl) (by kernel_rfl) (by kernel_rfl) (by kernel_rfl) (fun _ _ _ h => h) (by rfl) ?_ (by assumption) ?_
  rotate_left
  ·(intro w hSw; (try dsimp only at hSw); go_simp; with_reducible rfl)
  simp only [Act.put, List.setIfInBounds_toArray, List.set_cons_zero, List.set_cons_succ]
  clear hS0
  generalize w4.drew = w0 at *
  refine up_two 5 7 (by kernel_rfl) rfl rfl (fun K hK => ?_) (fun K hK => ?_)
  ·obtain ⟨d0, d1, -⟩ := HT0.out.cells
   go_simp
   refine hK.out _ _ (fun _ => hHeld) ?_
   clear hK K
   try simp only [Act.put, List.setIfInBounds_toArray, List.set_cons_zero, List.set_cons_succ]
   clear d0 d1
   refine up_one 7 (by kernel_rfl) rfl (fun K hK => ?_)
   go_simp
   refine hK.out _ _ (fun _ => hS7.out) ?_
   clear hK K
   try simp only [Act.put, List.setIfInBounds_toArray, List.set_cons_zero, List.set_cons_succ]
   clear hHeld
   refine up_one 8 (by kernel_rfl) rfl (fun K hK => ?_)
   rw [if_pos (by kernel_rfl)]
   refine oper_append rfl rfl rfl HRUN.out ?_
   refine hK.out _ _ (fun _ => hS8.out) ?_
   clear hK K
   try simp only [Act.put, List.setIfInBounds_toArray, List.set_cons_zero, List.set_cons_succ]
   have hHeld := hS8.out
   refine up_run (v := ?_) 10 40 [] rfl rfl (by kernel_rfl) (by kernel_rfl) (by kernel_rfl) (by kernel_rfl) (fun _ _ _ h => h) (by rfl) ?_ (by assumption) ?_
   rotate_left
   ·(intro w hSw; (try dsimp only at hSw); go_simp; with_reducible rfl)
   simp only [Act.put, List.setIfInBounds_toArray, List.set_cons_zero, List.set_cons_succ]
   refine up_run (v := ?_) 11 41 [] rfl rfl (by kernel_rfl) (by kernel_rfl) (by kernel_rfl) (by kernel_rfl) (fun _ _ _ h => h) (by rfl) ?_ (by assumption) ?_
   rotate_left
   ·(intro w hSw; (try dsimp only at hSw); go_simp; with_reducible rfl)
   simp only [Act.put, List.setIfInBounds_toArray, List.set_cons_zero, List.set_cons_succ]
   obtain ⟨d0, d1, dz⟩ := HT8.out.cells
   have z0 := dz 0
   refine up_one 12 (by kernel_rfl) rfl (fun K hK => ?_)
   go_simp
   refine hK.out _ _ (fun _ => hS9.out) ?_
   clear hK K
   try simp only [Act.put, List.setIfInBounds_toArray, List.set_cons_zero, List.set_cons_succ]
   clear hHeld
   have hHeld := hS9.out
   refine up_run (v := ?_) 13 42 [] rfl rfl (by kernel_rfl) (by kernel_rfl) (by kernel_rfl) (by kernel_rfl) (fun _ _ _ h => h) (by rfl) ?_ (by assumption) ?_
   rotate_left
   ·(intro w hSw; (try dsimp only at hSw); go_simp; with_reducible rfl)
   simp only [Act.put, List.setIfInBounds_toArray, List.set_cons_zero, List.set_cons_succ]
   refine up_run (v := ?_) 14 43 [] rfl rfl (by kernel_rfl) (by kernel_rfl) (by kernel_rfl) (by kernel_rfl) (fun _ _ _ h => h) (by rfl) ?_ (by assumption) ?_
   rotate_left
   ·(intro w hSw; (try dsimp only at hSw); go_simp; with_reducible rfl)
   simp only [Act.put, List.setIfInBounds_toArray, List.set_cons_zero, List.set_cons_succ]
   have z1 : (w8.setCell ⟨T, 0, none⟩ (.slice o8 (on + 1) c8)).frozen? ⟨T, 1, none⟩ = false := by simpa using dz 1
   refine up_one 15 (by kernel_rfl) rfl (fun K hK => ?_)
   go_simp
   refine hK.out _ _ (fun _ => hS10.out) ?_
   clear hK K
   try simp only [Act.put, List.setIfInBounds_toArray, List.set_cons_zero, List.set_cons_succ]
   refine up_done (by kernel_rfl) ?_
   go_wp2
   go_ret
   exact HFIN.out
  ·go_simp
   refine hK.out _ _ (fun _ => hS7.out) ?_
   clear hK K
   try simp only [Act.put, List.setIfInBounds_toArray, List.set_cons_zero, List.set_cons_succ]
   obtain ⟨d0, d1, -⟩ := HT7.out.cells
   refine up_one 5 (by kernel_rfl) rfl (fun K hK => ?_)
   go_simp
   refine hK.out _ _ (fun _ => hS7.out) ?_
   clear hK K
   try simp only [Act.put, List.setIfInBounds_toArray, List.set_cons_zero, List.set_cons_succ]
   clear d0 d1
   clear hHeld
   refine up_one 8 (by kernel_rfl) rfl (fun K hK => ?_)
   rw [if_pos (by kernel_rfl)]
   refine oper_append rfl rfl rfl HRUN.out ?_
   refine hK.out _ _ (fun _ => hS8.out) ?_
   clear hK K
   try simp only [Act.put, List.setIfInBounds_toArray, List.set_cons_zero, List.set_cons_succ]
   have hHeld := hS8.out
   refine up_run (v := ?_) 10 40 [] rfl rfl (by kernel_rfl) (by kernel_rfl) (by kernel_rfl) (by kernel_rfl) (fun _ _ _ h => h) (by rfl) ?_ (by assumption) ?_
   rotate_left
   ·(intro w hSw; (try dsimp only at hSw); go_simp; with_reducible rfl)
   simp only [Act.put, List.setIfInBounds_toArray, List.set_cons_zero, List.set_cons_succ]
   refine up_run (v := ?_) 11 41 [] rfl rfl (by kernel_rfl) (by kernel_rfl) (by kernel_rfl) (by kernel_rfl) (fun _ _ _ h => h) (by rfl) ?_ (by assumption) ?_
   rotate_left
   ·(intro w hSw; (try dsimp only at hSw); go_simp; with_reducible rfl)
   simp only [Act.put, List.setIfInBounds_toArray, List.set_cons_zero, List.set_cons_succ]
   obtain ⟨d0, d1, dz⟩ := HT8.out.cells
   have z0 := dz 0
   refine up_one 12 (by kernel_rfl) rfl (fun K hK => ?_)
   go_simp
   refine hK.out _ _ (fun _ => hS9.out) ?_
   clear hK K
   try simp only [Act.put, List.setIfInBounds_toArray, List.set_cons_zero, List.set_cons_succ]
   clear hHeld
   have hHeld := hS9.out
   refine up_run (v := ?_) 13 42 [] rfl rfl (by kernel_rfl) (by kernel_rfl) (by kernel_rfl) (by kernel_rfl) (fun _ _ _ h => h) (by rfl) ?_ (by assumption) ?_
   rotate_left
   ·(intro w hSw; (try dsimp only at hSw); go_simp; with_reducible rfl)
   simp only [Act.put, List.setIfInBounds_toArray, List.set_cons_zero, List.set_cons_succ]
   refine up_run (v := ?_) 14 43 [] rfl rfl (by kernel_rfl) (by kernel_rfl) (by kernel_rfl) (by kernel_rfl) (fun _ _ _ h => h) (by rfl) ?_ (by assumption) ?_
   rotate_left
   ·(intro w hSw; (try dsimp only at hSw); go_simp; with_reducible rfl)
   simp only [Act.put, List.setIfInBounds_toArray, List.set_cons_zero, List.set_cons_succ]
   have z1 : (w8.setCell ⟨T, 0, none⟩ (.slice o8 (on + 1) c8)).frozen? ⟨T, 1, none⟩ = false := by simpa using dz 1
   refine up_one 15 (by kernel_rfl) rfl (fun K hK => ?_)
   go_simp
   refine hK.out _ _ (fun _ => hS10.out) ?_
   clear hK K
   try simp only [Act.put, List.setIfInBounds_toArray, List.set_cons_zero, List.set_cons_succ]
   refine up_done (by kernel_rfl) ?_
   go_wp2
   go_ret
   exact HFIN.out

end Go.Proofs.YtnhbfehfipafoaaGreatDoor
