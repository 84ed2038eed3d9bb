/- What a walk over a store wants: one commit on both sides; what stays. -/
import Derived.Test.YtnhbfehfipafoaaGreatDoorActW
import Derived.Test.YtnhbfehfipafoaaGreatDoorBgT
namespace Go.Proofs.YtnhbfehfipafoaaGreatDoor
open Go.RowKit

def comL (l : List Nmd) (os : List OpV) (m : Nat) : List Nmd := if comF l os m = 0 then (allC l os).2 else l

def comN (l : List Nmd) (os : List OpV) (m en : Nat) : Nat := if comF l os m = 0 then comE os m en else en

theorem CmP.free {w w' : World} {base S B : Nat} {D : Dsk} {m : Nat} {l : List Nmd} {en : Nat} {os : List OpV} {e : Ending} (h : CmP w base S B D m l en os e w') (hf : Free D) :
  ∃ D' h', e = .returned (errV (comF l os m)) ∧ StoreP w' base S B D' m h' (comL l os m) (comN l os m en) ∧ Free D' ∧ KeptS base w w' := by
 obtain ⟨h1, hk⟩ := h
 rcases h1 with ⟨hne, rfl, h', hp⟩ | ⟨h0, D', b, rfl, -, hok, -, hfr⟩
 ·refine ⟨D, h', ?_, ?_, hf, hk⟩
  ·unfold errV; rw [if_neg hne]
  ·unfold comL comN; rw [if_neg hne, if_neg hne]; exact hp
 ·obtain ⟨rfl, hf'⟩ := hfr hf
  obtain ⟨h', hp⟩ := hok rfl
  refine ⟨D', h', ?_, ?_, hf', hk⟩
  ·rw [h0]; rfl
  ·unfold comL comN; rw [if_pos h0, if_pos h0]; exact hp

theorem RcmP.both {w w' : World} {M : Nat} {o : Option Addr} {n k : Nat} {us mn : Nat} {qs : List Nc} {l : List Nmd} {os : List OpV} {e : Ending} (h : RcmP w M (.slice o n k) us mn l os e w') (hc : CatN w (.slice o n k) qs) (hq : qs.map (·.x) = l) :
  e = .returned (.int .i64 ((comF l os (mn + 82) : Nat) : Int)) ∧ ∃ o' n' k' qs', RstB w' M (.slice o' n' k') ((comN l os (mn + 82) us : Nat) : Int) mn ∧ CatN w' (.slice o' n' k') qs' ∧ qs'.map (·.x) = comL l os (mn + 82) ∧ ButB w.heap.size M w w' := by
 obtain ⟨h0, h1⟩ := h
 refine ⟨h0, ?_⟩
 rcases h1 with ⟨hne, hx, hb⟩ | ⟨hz, o', n', k', qs', hx, hc', hq', hb⟩
 ·refine ⟨o, n, k, qs, ?_, hc.below hb, ?_, ButB.of hb⟩
  ·unfold comN; rw [if_neg hne]; exact hx
  ·unfold comL; rw [if_neg hne]; exact hq
 ·refine ⟨o', n', k', qs', ?_, hc', ?_, hb⟩
  ·unfold comN; rw [if_pos hz]; exact hx
  ·unfold comL; rw [if_pos hz]; exact hq'

theorem keepK_but {W W' : World} {M : Nat} {cs : Array Value} {t : TypeId} (hm : W.heap[M]? = some (.cells cs t (0, 0))) (ht : ¬ kinT t) (hk : ButB W.heap.size M W W') : KeepK W W' := fun b hb => hk.block b hb.lt (fun e => by
 subst e
 obtain ⟨cs', t', fz', h, ht'⟩ := hb
 rw [hm] at h
 simp only [Option.some.injEq, Obj.cells.injEq] at h
 rw [← h.2.1] at ht'
 exact ht ht')

theorem DiskO.but {W W' : World} {base B : Nat} {D : Dsk} (h : DiskO W base B D) {M : Nat} {cs : Array Value} {t : TypeId} (hm : W.heap[M]? = some (.cells cs t (0, 0))) (ht : ¬ diskT t) (hk : ButB W.heap.size M W W') : DiskO W' base B D := by
 obtain ⟨sv, ls, h⟩ := h
 have key : ∀ (b : Nat) (cs' : Array Value) (t' : TypeId) (fz : Nat × Nat), W.heap[b]? = some (.cells cs' t' fz) → diskT t' → W'.heap[b]? = W.heap[b]? := fun b cs' t' fz hb hd => hk.block b (heap_lt hb) (fun e => by
  subst e
  rw [hm] at hb
  simp only [Option.some.injEq, Obj.cells.injEq] at hb
  rw [← hb.2.1] at hd
  exact ht hd)
 exact ⟨sv, ls, h.low, (key _ _ _ _ h.head (.inl rfl)).trans h.head, h.len, ownsKeep h.own (fun b cs' fz hb => key b cs' _ fz hb (.inr (.inl rfl))), fun i s v h1 h2 => ownsKeep (h.loose i s v h1 h2) (fun b cs' fz hb => key b cs' _ fz hb (.inr (.inr rfl))), h.apart, h.ok, h.num, h.left⟩

theorem StoreP.but {W W' : World} {base S B : Nat} {D : Dsk} {m : Nat} {h : Hd} {l : List Nmd} {en : Nat} (x : StoreP W base S B D m h l en) {M : Nat} {cs : Array Value} {t : TypeId} (hm : W.heap[M]? = some (.cells cs t (0, 0))) (ht : ¬ stoT t) (ht2 : ¬ kinT t) (hk : ButB W.heap.size M W W') : StoreP W' base S B D m h l en := by
 obtain ⟨⟨L, o, n, c, qs, x1, x2, x3, x4, x5, x6⟩, hd, hi⟩ := x
 refine ⟨⟨L, o, n, c, qs, (hk.block S (heap_lt x1) (fun e => ?_)).trans x1, x2.keepK (keepK_but hm ht2 hk), x3, (hk.block L (heap_lt x4) (fun e => ?_)).trans x4, x5, x6⟩, hd.but hm (fun h => ht (.inl (.inl h))) hk, hi⟩
 ·subst e
  rw [show W.heap[S]? = _ from x1] at hm
  simp only [Option.some.injEq, Obj.cells.injEq] at hm
  exact ht (.inr hm.2.1.symm)
 ·subst e
  rw [show W.heap[L]? = _ from x4] at hm
  simp only [Option.some.injEq, Obj.cells.injEq] at hm
  exact ht (.inl (.inr hm.2.1.symm))

theorem KeptS.stays {base : Nat} {W W' : World} (hk : KeptS base W W') {b : Nat} {cs : Array Value} {t : TypeId} {fz : Nat × Nat} (hb : W.heap[b]? = some (.cells cs t fz)) (ht : ¬ stoT t) : W'.heap[b]? = some (.cells cs t fz) :=
 (hk.block b (heap_lt hb) (.inr fun cs' t' fz' hx => by
  rw [hb] at hx
  simp only [Option.some.injEq, Obj.cells.injEq] at hx
  rw [← hx.2.1]
  exact ht)).trans hb

theorem ButB.stays {M : Nat} {W W' : World} (hk : ButB W.heap.size M W W') {b : Nat} {cs : Array Value} {t : TypeId} {fz : Nat × Nat} (hb : W.heap[b]? = some (.cells cs t fz)) (hn : b ≠ M) : W'.heap[b]? = some (.cells cs t fz) := (hk.block b (heap_lt hb) hn).trans hb

theorem rst_sto : ¬ stoT 39 := by unfold stoT logT diskT; decide
theorem act_sto : ¬ stoT 46 := by unfold stoT logT diskT; decide

def ActB (W : World) (Q : Nat) (p : ActW) : Prop := W.heap[Q]? = some (.cells p.cells.toArray 46 (0, 0))

theorem ActB.new (W : World) (p : ActW) : ActB (W.alloc (.cells p.cells.toArray 46)) W.heap.size p := heap_alloc_new W _

theorem ActB.later {W W' : World} {Q : Nat} {p : ActW} (h : ActB W Q p) (hb : Below W.heap.size W W') : ActB W' Q p := (hb.block _ (heap_lt h)).trans h

theorem ActB.keptS {W W' : World} {base Q : Nat} {p : ActW} (h : ActB W Q p) (hk : KeptS base W W') : ActB W' Q p := hk.stays h act_sto

theorem ActB.ne {W : World} {Q M : Nat} {p : ActW} (h : ActB W Q p) {v : Value} {us mn : Int} (hm : RstB W M v us mn) : Q ≠ M := fun e => by
 subst e
 unfold ActB at h
 unfold RstB at hm
 rw [h] at hm
 simp only [Option.some.injEq, Obj.cells.injEq] at hm
 exact absurd hm.2.1 (by decide)

theorem ActB.cells {W : World} {Q : Nat} {p : ActW} (h : ActB W Q p) : ∀ j u, p.cells[j]? = some u → W.cell? ⟨Q, j, none⟩ = some u := fun j u hu => by
 rw [cell_of_row W Q j _ _ _ h]
 simpa using hu

end Go.Proofs.YtnhbfehfipafoaaGreatDoor
