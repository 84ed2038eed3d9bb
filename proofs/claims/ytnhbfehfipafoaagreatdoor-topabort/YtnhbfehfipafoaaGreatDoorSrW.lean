/- The reference's Apply: behind the generators' loop. -/
import Derived.Test.YtnhbfehfipafoaaGreatDoorBgW
import Derived.Deep.Cut
import Derived.Deep.CutRange
import Derived.Deep.CutBlock
import Derived.Test.YtnhbfehfipafoaaGreatDoorTl2
import Derived.Test.YtnhbfehfipafoaaGreatDoorBgO
import Derived.Test.YtnhbfehfipafoaaGreatDoorBpZ
import Derived.Test.YtnhbfehfipafoaaGreatDoorDkN
import Derived.Test.YtnhbfehfipafoaaGreatDoorShelf
import Derived.Test.YtnhbfehfipafoaaGreatDoorWaJ

namespace Go.Proofs.YtnhbfehfipafoaaGreatDoor
open Go.RowKit

theorem RowS.grownNe {W W' : World} {row : Option Nat} {v : Value} {ks : List Int} (h : RowS W v ks) (hg : W.grownBy W' row) (hne : ∀ a l c, v = .slice (some a) l c → row ≠ some a.block) : RowS W' v ks := by
 obtain ⟨ao, cap, e, hn, h6, hh⟩ := h
 refine ⟨ao, cap, e, hn, h6, fun h0 => ?_⟩
 obtain ⟨b, off, e', hlt, hc⟩ := hh h0
 subst e'
 exact ⟨b, off, rfl, Nat.lt_of_lt_of_le hlt hg.size, fun i hi => hg.cell (hc i hi) (fun e2 => hne _ _ _ e e2.symm)⟩

theorem KinH.grownNe {W W' : World} {row : Option Nat} {v : Value} (h : KinH W v) (hg : W.grownBy W' row) (hne : ∀ a l c, v = .slice (some a) l c → row ≠ some a.block) : KinH W' v := fun p n c e h0 => by
 obtain ⟨cs, t, fz, hk, ht⟩ := h p n c e h0
 exact ⟨cs, t, fz, (hg.block _ (heap_lt hk) (fun e2 => hne _ _ _ e e2.symm)).trans hk, ht⟩

end Go.Proofs.YtnhbfehfipafoaaGreatDoor

/- The reference's Apply: the generators' loop. -/
namespace Go.Proofs.YtnhbfehfipafoaaGreatDoor
open Go.RowKit

def outL (ps : List Gc) (I k : Nat) : List Gc := if k ≤ I then ps.take k else ps.take I ++ (ps.take k).drop (I + 1)

end Go.Proofs.YtnhbfehfipafoaaGreatDoor

/- The reference's Apply: a lattice that is there, or isn't. -/
namespace Go.Proofs.YtnhbfehfipafoaaGreatDoor
open Go.RowKit

end Go.Proofs.YtnhbfehfipafoaaGreatDoor

/- The reference's Apply: a lattice is created. -/
namespace Go.Proofs.YtnhbfehfipafoaaGreatDoor
open Go.RowKit

def insL (qs : List Nc) (P : Nat) (q : Nc) (k : Nat) : List Nc := if P < k then qs.take P ++ (q :: (qs.take k).drop P) else qs.take k

end Go.Proofs.YtnhbfehfipafoaaGreatDoor

/- The reference's Apply, whole. -/
namespace Go.Proofs.YtnhbfehfipafoaaGreatDoor
open Go.RowKit

end Go.Proofs.YtnhbfehfipafoaaGreatDoor

/- The reference's store. -/
namespace Go.Proofs.YtnhbfehfipafoaaGreatDoor
open Go.RowKit

def RstB (W : World) (M : Nat) (v : Value) (us mn : Int) : Prop := W.heap[M]? = some (.cells #[v, .int .i64 us, .int .i64 mn] 39 (0, 0))

theorem RstB.later {W W' : World} {M : Nat} {v : Value} {us mn : Int} (x : RstB W M v us mn) (hb : Below W.heap.size W W') : RstB W' M v us mn := (hb.block _ (heap_lt x)).trans x

theorem RstB.cells {W : World} {M : Nat} {v : Value} {us mn : Int} (x : RstB W M v us mn) : W.cell? ⟨M, 0, none⟩ = some v ∧ W.cell? ⟨M, 1, none⟩ = some (.int .i64 us) ∧ W.cell? ⟨M, 2, none⟩ = some (.int .i64 mn) ∧ ∀ k, W.frozen? ⟨M, k, none⟩ = false := by
 refine ⟨?_, ?_, ?_, fun k => by simp [World.frozen?, show W.heap[M]? = _ from x]⟩
 all_goals rw [cell_of_row W M _ _ _ _ x]; rfl

theorem RstB.keptS {W W' : World} {base M : Nat} {v : Value} {us mn : Int} (x : RstB W M v us mn) (hk : KeptS base W W') : RstB W' M v us mn :=
 (hk.block M (heap_lt x) (.inr fun cs t fz hx => by
  rw [show W.heap[M]? = _ from x] at hx
  simp only [Option.some.injEq, Obj.cells.injEq] at hx
  rw [← hx.2.1]
  unfold stoT logT diskT
  decide)).trans x

theorem RstB.setUs {W : World} {M : Nat} {v : Value} {us mn : Int} (x : RstB W M v us mn) (z : Int) : RstB (W.setCell ⟨M, 1, none⟩ (.int .i64 z)) M v z mn := heap_setCell_same W M 1 _ _ _ x
theorem RstB.setC {W : World} {M : Nat} {v : Value} {us mn : Int} (x : RstB W M v us mn) (u : Value) : RstB (W.setCell ⟨M, 0, none⟩ u) M u us mn := heap_setCell_same W M 0 _ _ _ x

theorem rst_kin : ¬ kinT 39 := by unfold kinT; decide
theorem rst_disk : ¬ diskT 39 := by unfold diskT; decide

def RcmP (w : World) (M : Nat) (v : Value) (us mn : Nat) (l : List Nmd) (os : List OpV) (e : Ending) (w' : World) : Prop :=
 e = .returned (.int .i64 ((comF l os (mn + 82) : Nat) : Int)) ∧
 ((comF l os (mn + 82) ≠ 0 ∧ RstB w' M v us mn ∧ Below w.heap.size w w') ∨
  (comF l os (mn + 82) = 0 ∧ ∃ o n k qs, RstB w' M (.slice o n k) (comE os (mn + 82) us : Nat) mn ∧ CatN w' (.slice o n k) qs ∧ qs.map (·.x) = (allC l os).2 ∧ ButB w.heap.size M w w'))

end Go.Proofs.YtnhbfehfipafoaaGreatDoor

/- Errors that are the same. -/
namespace Go.Proofs.YtnhbfehfipafoaaGreatDoor
open Go.RowKit

end Go.Proofs.YtnhbfehfipafoaaGreatDoor

/- A formatted disk with its store; what is committed is there. -/
namespace Go.Proofs.YtnhbfehfipafoaaGreatDoor
open Go.RowKit

def StdP (w : World) (m : Nat) (e : Ending) (w' : World) : Prop :=
 ∃ S D h, e = .returned (.tuple #[.pointer (some ⟨w.heap.size, 0, none⟩), .pointer (some ⟨S, 0, none⟩), .bool true]) ∧ w.heap.size ≤ S ∧ StoreP w' w.heap.size S w.heap.size D m h [] 0 ∧ Free D ∧ Below w.heap.size w w'

set_option linter.unusedSimpArgs false in
set_option maxRecDepth 100000 in
set_option maxHeartbeats 1600000 in
theorem stored_any (w : World) (m : Nat) (h86 : 86 ≤ m) (hm : m ≤ 200) (ht : TabP w) (hx : MaxL w) :
  Calls Tryz.prog 24 #[.int .i64 (m : Int)] w fun e w' => StdP w m e w' := by
 have HT := hide ht; have HX := hide hx
 obtain ⟨B, hB⟩ : ∃ B, w.heap.size = B := ⟨_, rfl⟩
 have HB := hide hB
 clear ht hx
 go_enter Tryz.func24, Tryz.ntmps24
 go_wp2_with fail
 refine (new_ok w m (by omega) hm).mono ?_
 rintro e w1 ⟨rfl, hd1, hb1⟩
 rw [hB] at hd1 ⊢
 have HD1 := hide hd1; have HB1 := hide hb1
 have hs1 : Hid (B ≤ w1.heap.size) := by show _ ≤ _; rw [← hB]; exact hb1.size
 clear hd1 hb1
 go_wp2_with fail
 refine (format_any w1 B B m HD1.out hm h86 (HT.out.below HB1.out) hs1.out).mono ?_
 rintro e w2 ⟨rfl, D, h, hd2, hi2, hf2, hk2⟩
 have HD2 := hide hd2; have HI2 := hide hi2; have HF2 := hide hf2
 have HB2 : Hid (Below w.heap.size w w2) := (KeptS.of_kept hk2).below HB1.out (Nat.le_of_eq hB) HB1.out.size
 have hs2 : Hid (B ≤ w2.heap.size) := Nat.le_trans hs1.out hk2.size
 clear hd2 hi2 hf2 hk2
 go_wp2_with fail
 refine (open_any w2 B B D m h [] 0 HD2.out HI2.out hm h86 (HT.out.below HB2.out) (HX.out.below HB2.out) hs2.out).mono ?_
 rintro e w3 ⟨S, rfl, hS, hp3, hb3⟩
 have HFIN : Hid (StdP w m (.returned (.tuple #[.pointer (some ⟨B, 0, none⟩), .pointer (some ⟨S, 0, none⟩), .bool true])) w3) :=
  ⟨S, D, h, by rw [hB], by rw [hB]; exact Nat.le_trans hs2.out hS, by rw [hB]; exact hp3, HF2.out, HB2.out.trans (hb3.mono HB2.out.size)⟩
 clear hS hp3 hb3 hB
 go_wp2
 go_ret3
 exact HFIN.out

def opA : OpV := ⟨1, ⟨#[97]⟩, 2, []⟩

theorem opsN_lit {W : World} {b : Nat} {o : OpV} (h : W.heap[b]? = some (.cells #[.int .i64 o.kind, .string o.name, .int .i64 o.n, .slice none 0 0] 43 (0, 0))) (hv : o.v = []) : OpsN W (.slice (some ⟨b, 0, none⟩) 1 1) [⟨o, none, 0⟩] := by
 obtain ⟨kd, nm, nn, v⟩ := o
 obtain rfl : v = [] := hv
 refine ⟨_, 1, rfl, Nat.le_refl _, fun _ => ⟨b, 0, rfl, heap_lt h, fun i q hi => ?_⟩⟩
 obtain rfl : i = 0 := by
  have := (List.getElem?_eq_some_iff.1 hi).1
  simp at this
  exact this
 obtain rfl := Option.some.inj hi
 refine ⟨?_, ?_, ?_, ?_, ⟨none, 0, rfl, Nat.le_refl _, (fun i => by simp), fun h => absurd h (by simp)⟩⟩
 all_goals rw [cell_of_row W b _ _ _ _ h]; rfl

theorem op_sto : ¬ stoT 43 := by unfold stoT logT diskT; decide

end Go.Proofs.YtnhbfehfipafoaaGreatDoor

/- Acts that came in, with their operations: are they light? -/
namespace Go.Proofs.YtnhbfehfipafoaaGreatDoor
open Go.RowKit

structure ActW where
 kind : ByteArray
 a : Int
 s : ByteArray
 k : Int
 op : OpC
 ov : Value
 ops : List OpC

structure ActW.ok (w : World) (p : ActW) : Prop where
 a : -9223372036854775808 ≤ p.a ∧ p.a ≤ 9223372036854775807
 k : 0 ≤ p.k ∧ p.k < 18446744073709551616
 op : RowS w p.op.row p.op.o.v
 ops : OpsN w p.ov p.ops

def ActW.cells (p : ActW) : List Value := [.string p.kind, .int .i64 p.a, .string p.s, .int .u64 p.k, .int .i64 p.op.o.kind, .string p.op.o.name, .int .i64 p.op.o.n, p.op.row, p.ov]

def ActsW (w : World) (v : Value) (al : List ActW) : Prop :=
 ∃ ao cap, v = .slice ao al.length cap ∧ al.length ≤ cap ∧ (0 < al.length → ∃ b off, ao = some ⟨b, off, none⟩ ∧ b < w.heap.size ∧ ∀ i p, al[i]? = some p →
  p.ok w ∧ ∀ j u, p.cells[j]? = some u → w.cell? ⟨b, off + i * 9 + j, none⟩ = some u)

theorem ActW.ok.below {w w' : World} {p : ActW} (h : p.ok w) (hb : Below w.heap.size w w') : p.ok w' := ⟨h.a, h.k, h.op.below hb (Nat.le_refl _), h.ops.below hb⟩

theorem ActsW.below {w w' : World} {v : Value} {al : List ActW} (h : ActsW w v al) (hb : Below w.heap.size w w') : ActsW w' v al := by
 obtain ⟨ao, cap, e, hn, h⟩ := h
 refine ⟨ao, cap, e, hn, fun h0 => ?_⟩
 obtain ⟨b, off, e, hlt, h⟩ := h h0
 refine ⟨b, off, e, Nat.lt_of_lt_of_le hlt hb.size, fun i p hp => ?_⟩
 obtain ⟨h1, h2⟩ := h i p hp
 exact ⟨h1.below hb, fun j u hu => (hb.cell (p := ⟨b, off + i * 9 + j, none⟩) hlt).trans (h2 j u hu)⟩

theorem ActsW.at {w : World} {v : Value} {al : List ActW} (h : ActsW w v al) {k : Nat} {p : ActW} (hp : al[k]? = some p) : ∃ b off cap, v = .slice (some ⟨b, off, none⟩) al.length cap ∧ b < w.heap.size ∧ p.ok w ∧ ∀ j u, p.cells[j]? = some u → w.cell? ⟨b, off + k * 9 + j, none⟩ = some u := by
 obtain ⟨ao, cap, rfl, -, hh⟩ := h
 obtain ⟨b, off, rfl, hlt, hc⟩ := hh (by have := (List.getElem?_eq_some_iff.1 hp).1; omega)
 exact ⟨b, off, cap, rfl, hlt, hc k p hp⟩

def lightP (p : ActW) : Prop := p.s.size ≤ 100 ∧ p.op.o.name.size ≤ 30 ∧ p.op.o.v.length ≤ 10 ∧ lightL p.ops 20 = true

def LightW (w : World) (al : List ActW) (most : Nat) (e : Ending) (w' : World) : Prop := ∃ b, e = .returned (.bool b) ∧ (b = true → al.length ≤ most ∧ ∀ p ∈ al, lightP p) ∧ Below w.heap.size w w'

end Go.Proofs.YtnhbfehfipafoaaGreatDoor

/- What a walk over a store wants: one commit on both sides; what stays. -/
namespace Go.Proofs.YtnhbfehfipafoaaGreatDoor
open Go.RowKit

def comL (l : List Nmd) (os : List OpV) (m : Nat) : List Nmd := if comF l os m = 0 then (allC l os).2 else l

def comN (l : List Nmd) (os : List OpV) (m en : Nat) : Nat := if comF l os m = 0 then comE os m en else en

theorem CmP.free {w w' : World} {base S B : Nat} {D : Dsk} {m : Nat} {l : List Nmd} {en : Nat} {os : List OpV} {e : Ending} (h : CmP w base S B D m l en os e w') (hf : Free D) :
  ∃ D' h', e = .returned (errV (comF l os m)) ∧ StoreP w' base S B D' m h' (comL l os m) (comN l os m en) ∧ Free D' ∧ KeptS base w w' := by
 obtain ⟨h1, hk⟩ := h
 rcases h1 with ⟨hne, rfl, h', hp⟩ | ⟨h0, D', b, rfl, -, hok, -, hfr⟩
 ·refine ⟨D, h', ?_, ?_, hf, hk⟩
  ·unfold errV; rw [if_neg hne]
  ·unfold comL comN; rw [if_neg hne, if_neg hne]; exact hp
 ·obtain ⟨rfl, hf'⟩ := hfr hf
  obtain ⟨h', hp⟩ := hok rfl
  refine ⟨D', h', ?_, ?_, hf', hk⟩
  ·rw [h0]; rfl
  ·unfold comL comN; rw [if_pos h0, if_pos h0]; exact hp

theorem RcmP.both {w w' : World} {M : Nat} {o : Option Addr} {n k : Nat} {us mn : Nat} {qs : List Nc} {l : List Nmd} {os : List OpV} {e : Ending} (h : RcmP w M (.slice o n k) us mn l os e w') (hc : CatN w (.slice o n k) qs) (hq : qs.map (·.x) = l) :
  e = .returned (.int .i64 ((comF l os (mn + 82) : Nat) : Int)) ∧ ∃ o' n' k' qs', RstB w' M (.slice o' n' k') ((comN l os (mn + 82) us : Nat) : Int) mn ∧ CatN w' (.slice o' n' k') qs' ∧ qs'.map (·.x) = comL l os (mn + 82) ∧ ButB w.heap.size M w w' := by
 obtain ⟨h0, h1⟩ := h
 refine ⟨h0, ?_⟩
 rcases h1 with ⟨hne, hx, hb⟩ | ⟨hz, o', n', k', qs', hx, hc', hq', hb⟩
 ·refine ⟨o, n, k, qs, ?_, hc.below hb, ?_, ButB.of hb⟩
  ·unfold comN; rw [if_neg hne]; exact hx
  ·unfold comL; rw [if_neg hne]; exact hq
 ·refine ⟨o', n', k', qs', ?_, hc', ?_, hb⟩
  ·unfold comN; rw [if_pos hz]; exact hx
  ·unfold comL; rw [if_pos hz]; exact hq'

theorem keepK_but {W W' : World} {M : Nat} {cs : Array Value} {t : TypeId} (hm : W.heap[M]? = some (.cells cs t (0, 0))) (ht : ¬ kinT t) (hk : ButB W.heap.size M W W') : KeepK W W' := fun b hb => hk.block b hb.lt (fun e => by
 subst e
 obtain ⟨cs', t', fz', h, ht'⟩ := hb
 rw [hm] at h
 simp only [Option.some.injEq, Obj.cells.injEq] at h
 rw [← h.2.1] at ht'
 exact ht ht')

theorem DiskO.but {W W' : World} {base B : Nat} {D : Dsk} (h : DiskO W base B D) {M : Nat} {cs : Array Value} {t : TypeId} (hm : W.heap[M]? = some (.cells cs t (0, 0))) (ht : ¬ diskT t) (hk : ButB W.heap.size M W W') : DiskO W' base B D := by
 obtain ⟨sv, ls, h⟩ := h
 have key : ∀ (b : Nat) (cs' : Array Value) (t' : TypeId) (fz : Nat × Nat), W.heap[b]? = some (.cells cs' t' fz) → diskT t' → W'.heap[b]? = W.heap[b]? := fun b cs' t' fz hb hd => hk.block b (heap_lt hb) (fun e => by
  subst e
  rw [hm] at hb
  simp only [Option.some.injEq, Obj.cells.injEq] at hb
  rw [← hb.2.1] at hd
  exact ht hd)
 exact ⟨sv, ls, h.low, (key _ _ _ _ h.head (.inl rfl)).trans h.head, h.len, ownsKeep h.own (fun b cs' fz hb => key b cs' _ fz hb (.inr (.inl rfl))), fun i s v h1 h2 => ownsKeep (h.loose i s v h1 h2) (fun b cs' fz hb => key b cs' _ fz hb (.inr (.inr rfl))), h.apart, h.ok, h.num, h.left⟩

theorem StoreP.but {W W' : World} {base S B : Nat} {D : Dsk} {m : Nat} {h : Hd} {l : List Nmd} {en : Nat} (x : StoreP W base S B D m h l en) {M : Nat} {cs : Array Value} {t : TypeId} (hm : W.heap[M]? = some (.cells cs t (0, 0))) (ht : ¬ stoT t) (ht2 : ¬ kinT t) (hk : ButB W.heap.size M W W') : StoreP W' base S B D m h l en := by
 obtain ⟨⟨L, o, n, c, qs, x1, x2, x3, x4, x5, x6⟩, hd, hi⟩ := x
 refine ⟨⟨L, o, n, c, qs, (hk.block S (heap_lt x1) (fun e => ?_)).trans x1, x2.keepK (keepK_but hm ht2 hk), x3, (hk.block L (heap_lt x4) (fun e => ?_)).trans x4, x5, x6⟩, hd.but hm (fun h => ht (.inl (.inl h))) hk, hi⟩
 ·subst e
  rw [show W.heap[S]? = _ from x1] at hm
  simp only [Option.some.injEq, Obj.cells.injEq] at hm
  exact ht (.inr hm.2.1.symm)
 ·subst e
  rw [show W.heap[L]? = _ from x4] at hm
  simp only [Option.some.injEq, Obj.cells.injEq] at hm
  exact ht (.inl (.inr hm.2.1.symm))

theorem KeptS.stays {base : Nat} {W W' : World} (hk : KeptS base W W') {b : Nat} {cs : Array Value} {t : TypeId} {fz : Nat × Nat} (hb : W.heap[b]? = some (.cells cs t fz)) (ht : ¬ stoT t) : W'.heap[b]? = some (.cells cs t fz) :=
 (hk.block b (heap_lt hb) (.inr fun cs' t' fz' hx => by
  rw [hb] at hx
  simp only [Option.some.injEq, Obj.cells.injEq] at hx
  rw [← hx.2.1]
  exact ht)).trans hb

theorem ButB.stays {M : Nat} {W W' : World} (hk : ButB W.heap.size M W W') {b : Nat} {cs : Array Value} {t : TypeId} {fz : Nat × Nat} (hb : W.heap[b]? = some (.cells cs t fz)) (hn : b ≠ M) : W'.heap[b]? = some (.cells cs t fz) := (hk.block b (heap_lt hb) hn).trans hb

theorem rst_sto : ¬ stoT 39 := by unfold stoT logT diskT; decide
theorem act_sto : ¬ stoT 46 := by unfold stoT logT diskT; decide

def ActB (W : World) (Q : Nat) (p : ActW) : Prop := W.heap[Q]? = some (.cells p.cells.toArray 46 (0, 0))

theorem ActB.new (W : World) (p : ActW) : ActB (W.alloc (.cells p.cells.toArray 46)) W.heap.size p := heap_alloc_new W _

theorem ActB.later {W W' : World} {Q : Nat} {p : ActW} (h : ActB W Q p) (hb : Below W.heap.size W W') : ActB W' Q p := (hb.block _ (heap_lt h)).trans h

theorem ActB.keptS {W W' : World} {base Q : Nat} {p : ActW} (h : ActB W Q p) (hk : KeptS base W W') : ActB W' Q p := hk.stays h act_sto

theorem ActB.ne {W : World} {Q M : Nat} {p : ActW} (h : ActB W Q p) {v : Value} {us mn : Int} (hm : RstB W M v us mn) : Q ≠ M := fun e => by
 subst e
 unfold ActB at h
 unfold RstB at hm
 rw [h] at hm
 simp only [Option.some.injEq, Obj.cells.injEq] at hm
 exact absurd hm.2.1 (by decide)

theorem ActB.cells {W : World} {Q : Nat} {p : ActW} (h : ActB W Q p) : ∀ j u, p.cells[j]? = some u → W.cell? ⟨Q, j, none⟩ = some u := fun j u hu => by
 rw [cell_of_row W Q j _ _ _ h]
 simpa using hu

end Go.Proofs.YtnhbfehfipafoaaGreatDoor

/- A session in memory; what it says of itself. -/
namespace Go.Proofs.YtnhbfehfipafoaaGreatDoor
open Go.RowKit

structure KeptE (ex : Nat → Prop) (base : Nat) (W W' : World) : Prop where
 os : W'.os = W.os
 tape : W'.tape = W.tape
 output : W'.output = W.output
 size : W.heap.size ≤ W'.heap.size
 block : ∀ b, b < W.heap.size → ¬ ex b → (b < base ∨ ∀ cs t fz, W.heap[b]? = some (.cells cs t fz) → ¬ stoT t) → W'.heap[b]? = W.heap[b]?

theorem KeptE.of_keptS {ex : Nat → Prop} {base : Nat} {W W' : World} (h : KeptS base W W') : KeptE ex base W W' := ⟨h.os, h.tape, h.output, h.size, fun b hb _ hx => h.block b hb hx⟩

theorem KeptE.of_below {ex : Nat → Prop} {base : Nat} {W W' : World} (h : Below W.heap.size W W') : KeptE ex base W W' := .of_keptS (.of_below h)

theorem KeptE.of_but {ex : Nat → Prop} {base M : Nat} {W W' : World} (h : ButB W.heap.size M W W') (hM : ex M) : KeptE ex base W W' := ⟨h.os, h.tape, h.output, h.size, fun b hb hn _ => h.block b hb (fun e => hn (e ▸ hM))⟩

theorem KeptE.trans {ex : Nat → Prop} {base : Nat} {W W' W'' : World} (h : KeptE ex base W W') (k : KeptE ex base W' W'') : KeptE ex base W W'' where
 os := k.os.trans h.os
 tape := k.tape.trans h.tape
 output := k.output.trans h.output
 size := Nat.le_trans h.size k.size
 block := fun b hb hn hx => by
  have h1 := h.block b hb hn hx
  refine (k.block b (Nat.lt_of_lt_of_le hb h.size) hn ?_).trans h1
  rcases hx with hx | hx
  ·exact .inl hx
  ·exact .inr fun cs t fz e => hx cs t fz (by rw [← h1]; exact e)

theorem KeptE.mono {ex ex' : Nat → Prop} {base : Nat} {W W' : World} (h : KeptE ex base W W') (he : ∀ b, b < W.heap.size → ex b → ex' b) : KeptE ex' base W W' :=
 ⟨h.os, h.tape, h.output, h.size, fun b hb hn hx => h.block b hb (fun e => hn (he b hb e)) hx⟩

theorem KeptE.below {ex : Nat → Prop} {base K : Nat} {w W W' : World} (h : KeptE ex base W W') (hb : Below K w W) (hK : K ≤ base) (hK2 : K ≤ W.heap.size) (he : ∀ b, ex b → K ≤ b) : Below K w W' :=
 ⟨h.os.trans hb.os, h.tape.trans hb.tape, h.output.trans hb.output, Nat.le_trans hb.size h.size, fun k hk => (h.block k (by omega) (fun e => by have := he k e; omega) (.inl (by omega))).trans (hb.block k hk)⟩

theorem KeptE.stays {ex : Nat → Prop} {base : Nat} {W W' : World} (hk : KeptE ex base W W') {b : Nat} {cs : Array Value} {t : TypeId} {fz : Nat × Nat} (hb : W.heap[b]? = some (.cells cs t fz)) (ht : ¬ stoT t) (hn : ¬ ex b) : W'.heap[b]? = some (.cells cs t fz) :=
 (hk.block b (heap_lt hb) hn (.inr fun cs' t' fz' hx => by
  rw [hb] at hx
  simp only [Option.some.injEq, Obj.cells.injEq] at hx
  rw [← hx.2.1]
  exact ht)).trans hb

def SesB (W : World) (X S : Nat) (dv : Value) : Prop := W.heap[X]? = some (.cells #[.pointer (some ⟨S, 0, none⟩), dv] 111 (0, 0))

theorem SesB.later {W W' : World} {X S : Nat} {dv : Value} (x : SesB W X S dv) (hb : Below W.heap.size W W') : SesB W' X S dv := (hb.block _ (heap_lt x)).trans x

theorem SesB.cells {W : World} {X S : Nat} {dv : Value} (x : SesB W X S dv) : W.cell? ⟨X, 0, none⟩ = some (.pointer (some ⟨S, 0, none⟩)) ∧ W.cell? ⟨X, 1, none⟩ = some dv ∧ ∀ k, W.frozen? ⟨X, k, none⟩ = false := by
 refine ⟨?_, ?_, fun k => by simp [World.frozen?, show W.heap[X]? = _ from x]⟩
 all_goals rw [cell_of_row W X _ _ _ _ x]; rfl

theorem SesB.set {W : World} {X S : Nat} {dv : Value} (x : SesB W X S dv) (v : Value) : SesB (W.setCell ⟨X, 1, none⟩ v) X S v := heap_setCell_same W X 1 _ _ v x

theorem ses_sto : ¬ stoT 111 := by unfold stoT logT diskT; decide
theorem ses_kin : ¬ kinT 111 := by unfold kinT; decide

def DeeB (W : World) (T : Nat) (ov cv : Value) : Prop := W.heap[T]? = some (.cells #[ov, cv] 113 (0, 0))

theorem DeeB.later {W W' : World} {T : Nat} {ov cv : Value} (x : DeeB W T ov cv) (hb : Below W.heap.size W W') : DeeB W' T ov cv := (hb.block _ (heap_lt x)).trans x

theorem DeeB.cells {W : World} {T : Nat} {ov cv : Value} (x : DeeB W T ov cv) : W.cell? ⟨T, 0, none⟩ = some ov ∧ W.cell? ⟨T, 1, none⟩ = some cv ∧ ∀ k, W.frozen? ⟨T, k, none⟩ = false := by
 refine ⟨?_, ?_, fun k => by simp [World.frozen?, show W.heap[T]? = _ from x]⟩
 all_goals rw [cell_of_row W T _ _ _ _ x]; rfl

theorem dee_sto : ¬ stoT 113 := by unfold stoT logT diskT; decide
theorem dee_kin : ¬ kinT 113 := by unfold kinT; decide

set_option linter.unusedSimpArgs false in
set_option maxRecDepth 100000 in
set_option maxHeartbeats 1600000 in
theorem begun_any (w : World) (X S : Nat) (dv : Value) (b : Bool) (x : SesB w X S dv) (hb : (b = false ∧ dv = .pointer none) ∨ (b = true ∧ ∃ T, dv = .pointer (some ⟨T, 0, none⟩))) :
  Calls Tryz.prog 36 #[.pointer (some ⟨X, 0, none⟩)] w fun e w' => e = .returned (.bool b) ∧ w' = w := by
 obtain ⟨c0, c1, -⟩ := x.cells
 clear x
 rcases hb with ⟨rfl, rfl⟩ | ⟨rfl, T, rfl⟩
 ·go_enter Tryz.func36, Tryz.ntmps36
  go_wp2
  go_ret
  exact ⟨rfl, rfl⟩
 ·go_enter Tryz.func36, Tryz.ntmps36
  go_wp2
  go_ret
  exact ⟨rfl, rfl⟩

def XopP (w : World) (base B : Nat) (D : Dsk) (m : Nat) (h : Hd) (l : List Nmd) (en : Nat) (e : Ending) (w' : World) : Prop :=
 ∃ X S, e = .returned (.tuple #[.pointer (some ⟨X, 0, none⟩), .nilIface]) ∧ w.heap.size ≤ X ∧ SesB w' X S (.pointer none) ∧ StoreP w' base S B D m h l en ∧ Below w.heap.size w w'

set_option linter.unusedSimpArgs false in
set_option maxRecDepth 100000 in
set_option maxHeartbeats 1600000 in
theorem xopen_any (w : World) (base B : Nat) (D : Dsk) (m : Nat) (h : Hd) (l : List Nmd) (en : Nat) (hd : DiskO w base B D) (i : StoI D m h l en) (hm : m ≤ 200) (h86 : 86 ≤ m) (ht : TabP w) (hx : MaxL w) (hbase : base ≤ w.heap.size) :
  Calls Tryz.prog 25 #[.pointer (some ⟨B, 0, none⟩)] w fun e w' => XopP w base B D m h l en e w' := by
 have HO := hide (open_any w base B D m h l en hd i hm h86 ht hx hbase)
 clear hd i ht hx hbase
 go_enter Tryz.func25, Tryz.ntmps25
 go_wp2_with fail
 refine HO.out.mono ?_
 rintro e w1 ⟨S, rfl, hS, hp, hb1⟩
 have hbA := alloc_below w1 (.cells #[.pointer (some ⟨S, 0, none⟩), .pointer none] 111)
 have HFIN : Hid (XopP w base B D m h l en (.returned (.tuple #[.pointer (some ⟨w1.heap.size, 0, none⟩), .nilIface])) (w1.alloc (.cells #[.pointer (some ⟨S, 0, none⟩), .pointer none] 111))) :=
  ⟨_, S, rfl, hb1.size, heap_alloc_new w1 _, hp.later hbA, hb1.trans (hbA.mono hb1.size)⟩
 clear hS hp hb1 hbA HO
 go_wp2
 go_ret2
 exact HFIN.out

set_option linter.unusedSimpArgs false in
set_option maxRecDepth 100000 in
set_option maxHeartbeats 1600000 in
theorem view0_any (w : World) (X S B : Nat) (h : Hd) (o : Option Addr) (n k : Nat) (lp : Value) (x : SesB w X S (.pointer none)) (y : StoB w S B h (.slice o n k) lp) :
  Calls Tryz.prog 37 #[.pointer (some ⟨X, 0, none⟩)] w fun e w' => e = .returned (.agg #[.slice o n k]) ∧ Below w.heap.size w w' := by
 have hb1 := alloc_below w (.cells #[.slice none 0 0] 53)
 have X1 := hide (x.later hb1); have Y1 := hide (y.later hb1); have HB1 := hide hb1
 obtain ⟨c0, c1, -⟩ := X1.out.cells
 have hz := CtB.new w (.slice none 0 0)
 have HZ := hide hz
 clear x y hb1 hz
 go_enter Tryz.func37, Tryz.ntmps37
 go_wp2_with fail
 generalize w.alloc (.cells #[.slice none 0 0] 53) = w1 at *
 refine (begun_any w1 X S _ false X1.out (.inl ⟨rfl, rfl⟩)).mono ?_
 rintro e w2 ⟨rfl, hw2⟩
 subst hw2
 go_wp2_with fail
 refine (scat_any _ S B h o n k lp Y1.out).mono ?_
 rintro e w3 ⟨rfl, hb3⟩
 have hz3 := HZ.out.later hb3
 obtain ⟨z0, z1⟩ := hz3.cells
 have y0 : (w3.setCell ⟨w.heap.size, 0, none⟩ (.slice o n k)).cell? ⟨w.heap.size, 0, none⟩ = some (.slice o n k) := World.cell?_setCell_same _ _ _ z0
 have HB3 := hide ((HB1.out.trans (hb3.mono HB1.out.size)).setCell (p := ⟨w.heap.size, 0, none⟩) (Nat.le_refl _) (.slice o n k))
 clear hb3 hz3 HB1 X1 Y1 HZ c0 c1
 go_wp2
 exact bodyPost_ret (v := .agg #[.slice o n k]) (by simp [results, Tryz.results37, go_sem, y0]) rfl ⟨rfl, HB3.out⟩

def BegP (w : World) (X S : Nat) (o : Option Addr) (n k : Nat) (e : Ending) (w' : World) : Prop :=
 ∃ T, e = .returned .nilIface ∧ w.heap.size ≤ T ∧ SesB w' X S (.pointer (some ⟨T, 0, none⟩)) ∧ DeeB w' T (.slice none 0 0) (.slice o n k) ∧ ButB w.heap.size X w w'

set_option linter.unusedSimpArgs false in
set_option maxRecDepth 100000 in
set_option maxHeartbeats 1600000 in
theorem begin0_any (w : World) (X S B : Nat) (h : Hd) (o : Option Addr) (n k : Nat) (lp : Value) (x : SesB w X S (.pointer none)) (y : StoB w S B h (.slice o n k) lp) :
  Calls Tryz.prog 26 #[.pointer (some ⟨X, 0, none⟩)] w fun e w' => BegP w X S o n k e w' := by
 have X1 := hide x; have Y1 := hide y
 have HXL : Hid (X < w.heap.size) := heap_lt (show w.heap[X]? = _ from x)
 obtain ⟨c0, c1, -⟩ := x.cells
 clear x y
 go_enter Tryz.func26, Tryz.ntmps26
 go_wp2_with fail
 refine (begun_any w X S _ false X1.out (.inl ⟨rfl, rfl⟩)).mono ?_
 rintro e w2 ⟨rfl, hw2⟩
 subst hw2
 go_wp2_with fail
 refine (scat_any _ S B h o n k lp Y1.out).mono ?_
 rintro e w3 ⟨rfl, hb3⟩
 have hbA := alloc_below w3 (.cells #[.slice none 0 0, .slice o n k] 113)
 have x4 := (X1.out.later hb3).later hbA
 have hT : DeeB (w3.alloc (.cells #[.slice none 0 0, .slice o n k] 113)) w3.heap.size (.slice none 0 0) (.slice o n k) := heap_alloc_new w3 _
 obtain ⟨z0, z1, zz⟩ := x4.cells
 have z2 := zz 1
 have hbb := hb3.trans (hbA.mono hb3.size)
 have HFIN : Hid (BegP w2 X S o n k (.returned .nilIface) ((w3.alloc (.cells #[.slice none 0 0, .slice o n k] 113)).setCell ⟨X, 1, none⟩ (.pointer (some ⟨w3.heap.size, 0, none⟩)))) :=
  ⟨w3.heap.size, rfl, hb3.size, x4.set _, (heap_setCell_other _ _ _ _ (fun e => by have h1 : w3.heap.size = X := e; have := HXL.out; have := hb3.size; omega)).trans hT, (ButB.of hbb).set 1 _⟩
 clear hb3 hbA x4 hT zz hbb X1 Y1 c0 c1
 go_wp2
 go_ret
 exact HFIN.out

set_option linter.unusedSimpArgs false in
set_option maxRecDepth 100000 in
set_option maxHeartbeats 1600000 in
theorem abort1_any (w : World) (X S T : Nat) (x : SesB w X S (.pointer (some ⟨T, 0, none⟩))) :
  Calls Tryz.prog 32 #[.pointer (some ⟨X, 0, none⟩)] w fun e w' => e = .returned .nilIface ∧ SesB w' X S (.pointer none) ∧ ButB w.heap.size X w w' := by
 have X1 := hide x
 obtain ⟨c0, c1, cz⟩ := x.cells
 have z1 := cz 1
 clear x cz
 go_enter Tryz.func32, Tryz.ntmps32
 go_wp2_with fail
 refine (begun_any w X S _ true X1.out (.inr ⟨rfl, T, rfl⟩)).mono ?_
 rintro e w2 ⟨rfl, hw2⟩
 subst hw2
 have HX := hide (X1.out.set (.pointer none))
 have HB := hide ((ButB.of (C := w2.heap.size) (b := X) (Below.refl w2.heap.size w2)).set 1 (.pointer none))
 clear X1
 go_wp2
 go_ret
 exact ⟨rfl, HX.out, HB.out⟩

end Go.Proofs.YtnhbfehfipafoaaGreatDoor
