/- The reference's Apply: behind the generators' loop. -/
import Derived.Test.YtnhbfehfipafoaaGreatDoorBgW
import Derived.Deep.Cut
import Derived.Deep.CutRange
import Derived.Deep.CutBlock
import Derived.Test.YtnhbfehfipafoaaGreatDoorTl2
import Derived.Test.YtnhbfehfipafoaaGreatDoorBgO
import Derived.Test.YtnhbfehfipafoaaGreatDoorBpZ
import Derived.Test.YtnhbfehfipafoaaGreatDoorDkN
import Derived.Test.YtnhbfehfipafoaaGreatDoorShelf
import Derived.Test.YtnhbfehfipafoaaGreatDoorWaJ
import Derived.Test.YtnhbfehfipafoaaGreatDoorWaV
import Derived.Test.YtnhbfehfipafoaaGreatDoorDetRg

namespace Go.Proofs.YtnhbfehfipafoaaGreatDoor
open Go.RowKit

theorem RowS.grownNe {W W' : World} {row : Option Nat} {v : Value} {ks : List Int} (h : RowS W v ks) (hg : W.grownBy W' row) (hne : ∀ a l c, v = .slice (some a) l c → row ≠ some a.block) : RowS W' v ks := by
 obtain ⟨ao, cap, e, hn, h6, hh⟩ := h
 refine ⟨ao, cap, e, hn, h6, fun h0 => ?_⟩
 obtain ⟨b, off, e', hlt, hc⟩ := hh h0
 subst e'
 exact ⟨b, off, rfl, Nat.lt_of_lt_of_le hlt hg.size, fun i hi => hg.cell (hc i hi) (fun e2 => hne _ _ _ e e2.symm)⟩

theorem KinH.grownNe {W W' : World} {row : Option Nat} {v : Value} (h : KinH W v) (hg : W.grownBy W' row) (hne : ∀ a l c, v = .slice (some a) l c → row ≠ some a.block) : KinH W' v := fun p n c e h0 => by
 obtain ⟨cs, t, fz, hk, ht⟩ := h p n c e h0
 exact ⟨cs, t, fz, (hg.block _ (heap_lt hk) (fun e2 => hne _ _ _ e e2.symm)).trans hk, ht⟩

end Go.Proofs.YtnhbfehfipafoaaGreatDoor

/- The reference's Apply: the generators' loop. -/
namespace Go.Proofs.YtnhbfehfipafoaaGreatDoor
open Go.RowKit

def outL (ps : List Gc) (I k : Nat) : List Gc := if k ≤ I then ps.take k else ps.take I ++ (ps.take k).drop (I + 1)

end Go.Proofs.YtnhbfehfipafoaaGreatDoor

/- The reference's Apply: a lattice that is there, or isn't. -/
namespace Go.Proofs.YtnhbfehfipafoaaGreatDoor
open Go.RowKit

end Go.Proofs.YtnhbfehfipafoaaGreatDoor

/- The reference's Apply: a lattice is created. -/
namespace Go.Proofs.YtnhbfehfipafoaaGreatDoor
open Go.RowKit

def insL (qs : List Nc) (P : Nat) (q : Nc) (k : Nat) : List Nc := if P < k then qs.take P ++ (q :: (qs.take k).drop P) else qs.take k

end Go.Proofs.YtnhbfehfipafoaaGreatDoor

/- The reference's Apply, whole. -/
namespace Go.Proofs.YtnhbfehfipafoaaGreatDoor
open Go.RowKit

end Go.Proofs.YtnhbfehfipafoaaGreatDoor

/- The reference's store. -/
namespace Go.Proofs.YtnhbfehfipafoaaGreatDoor
open Go.RowKit

def RstB (W : World) (M : Nat) (v : Value) (us mn : Int) : Prop := W.heap[M]? = some (.cells #[v, .int .i64 us, .int .i64 mn] 39 (0, 0))

theorem RstB.later {W W' : World} {M : Nat} {v : Value} {us mn : Int} (x : RstB W M v us mn) (hb : Below W.heap.size W W') : RstB W' M v us mn := (hb.block _ (heap_lt x)).trans x

theorem RstB.cells {W : World} {M : Nat} {v : Value} {us mn : Int} (x : RstB W M v us mn) : W.cell? ⟨M, 0, none⟩ = some v ∧ W.cell? ⟨M, 1, none⟩ = some (.int .i64 us) ∧ W.cell? ⟨M, 2, none⟩ = some (.int .i64 mn) ∧ ∀ k, W.frozen? ⟨M, k, none⟩ = false := by
 refine ⟨?_, ?_, ?_, fun k => by simp [World.frozen?, show W.heap[M]? = _ from x]⟩
 all_goals rw [cell_of_row W M _ _ _ _ x]; rfl

theorem RstB.keptS {W W' : World} {base : Own} {M : Nat} {v : Value} {us mn : Int} (x : RstB W M v us mn) (hk : KeptS base W W') : RstB W' M v us mn :=
 (hk.block M (heap_lt x) (.inr fun cs t fz hx => by
  rw [show W.heap[M]? = _ from x] at hx
  simp only [Option.some.injEq, Obj.cells.injEq] at hx
  rw [← hx.2.1]
  unfold stoT logT diskT
  decide)).trans x

theorem RstB.setUs {W : World} {M : Nat} {v : Value} {us mn : Int} (x : RstB W M v us mn) (z : Int) : RstB (W.setCell ⟨M, 1, none⟩ (.int .i64 z)) M v z mn := heap_setCell_same W M 1 _ _ _ x
theorem RstB.setC {W : World} {M : Nat} {v : Value} {us mn : Int} (x : RstB W M v us mn) (u : Value) : RstB (W.setCell ⟨M, 0, none⟩ u) M u us mn := heap_setCell_same W M 0 _ _ _ x

theorem rst_kin : ¬ kinT 39 := by unfold kinT; decide
theorem rst_disk : ¬ diskT 39 := by unfold diskT; decide

def RcmP (w : World) (M : Nat) (v : Value) (us mn : Nat) (l : List Nmd) (os : List OpV) (e : Ending) (w' : World) : Prop :=
 e = .returned (.int .i64 ((comF l os (mn + 82) : Nat) : Int)) ∧
 ((comF l os (mn + 82) ≠ 0 ∧ RstB w' M v us mn ∧ Below w.heap.size w w') ∨
  (comF l os (mn + 82) = 0 ∧ ∃ o n k qs, RstB w' M (.slice o n k) (comE os (mn + 82) us : Nat) mn ∧ CatN w' (.slice o n k) qs ∧ qs.map (·.x) = (allC l os).2 ∧ ButB w.heap.size M w w'))

end Go.Proofs.YtnhbfehfipafoaaGreatDoor

/- Errors that are the same. -/
namespace Go.Proofs.YtnhbfehfipafoaaGreatDoor
open Go.RowKit

end Go.Proofs.YtnhbfehfipafoaaGreatDoor

/- A formatted disk with its store; what is committed is there. -/
namespace Go.Proofs.YtnhbfehfipafoaaGreatDoor
open Go.RowKit

def StdP (w : World) (m : Nat) (e : Ending) (w' : World) : Prop :=
 ∃ S D h, e = .returned (.tuple #[.pointer (some ⟨w.heap.size, 0, none⟩), .pointer (some ⟨S, 0, none⟩), .bool true]) ∧ w.heap.size ≤ S ∧ StoreP w' (one w.heap.size) S w.heap.size D m h [] 0 ∧ Free D ∧ Below w.heap.size w w'

set_option linter.unusedSimpArgs false in
set_option maxRecDepth 100000 in
set_option maxHeartbeats 1600000 in
theorem stored_any (w : World) (m : Nat) (h86 : 86 ≤ m) (hm : m ≤ 200) (ht : TabP w) (hx : MaxL w) :
  Calls Tryz.prog 24 #[.int .i64 (m : Int)] w fun e w' => StdP w m e w' := by
 have HT := hide ht; have HX := hide hx
 obtain ⟨B, hB⟩ : ∃ B, w.heap.size = B := ⟨_, rfl⟩
 have HB := hide hB
 clear ht hx
 go_enter Tryz.func24, Tryz.ntmps24
 go_wp2_with fail
 refine (new_ok w m (by omega) hm).mono ?_
 rintro e w1 ⟨rfl, hd1, hb1⟩
 rw [hB] at hd1 ⊢
 have HD1 := hide hd1; have HB1 := hide hb1
 have hs1 : Hid (B ≤ w1.heap.size) := by show _ ≤ _; rw [← hB]; exact hb1.size
 clear hd1 hb1
 go_wp2_with fail
 refine (format_any w1 (one B) B m HD1.out hm h86 (HT.out.below HB1.out) hs1.out).mono ?_
 rintro e w2 ⟨rfl, D, h, hd2, hi2, hf2, hk2⟩
 have HD2 := hide hd2; have HI2 := hide hi2; have HF2 := hide hf2
 have HB2 : Hid (Below w.heap.size w w2) := (KeptS.of_kept hk2).below HB1.out (one_le (Nat.le_of_eq hB)) HB1.out.size
 have hs2 : Hid (B ≤ w2.heap.size) := Nat.le_trans hs1.out hk2.size
 clear hd2 hi2 hf2 hk2
 go_wp2_with fail
 refine (open_any w2 (one B) B D m h [] 0 HD2.out HI2.out hm h86 (HT.out.below HB2.out) (HX.out.below HB2.out) hs2.out).mono ?_
 rintro e w3 ⟨S, rfl, hS, hp3, hb3⟩
 have HFIN : Hid (StdP w m (.returned (.tuple #[.pointer (some ⟨B, 0, none⟩), .pointer (some ⟨S, 0, none⟩), .bool true])) w3) :=
  ⟨S, D, h, by rw [hB], by rw [hB]; exact Nat.le_trans hs2.out hS, by rw [hB]; exact hp3, HF2.out, HB2.out.trans (hb3.mono HB2.out.size)⟩
 clear hS hp3 hb3 hB
 go_wp2
 go_ret3
 exact HFIN.out

def opA : OpV := ⟨1, ⟨#[97]⟩, 2, []⟩

theorem opsN_lit {W : World} {b : Nat} {o : OpV} (h : W.heap[b]? = some (.cells #[.int .i64 o.kind, .string o.name, .int .i64 o.n, .slice none 0 0] 43 (0, 0))) (hv : o.v = []) : OpsN W (.slice (some ⟨b, 0, none⟩) 1 1) [⟨o, none, 0⟩] := by
 obtain ⟨kd, nm, nn, v⟩ := o
 obtain rfl : v = [] := hv
 refine ⟨_, 1, rfl, Nat.le_refl _, fun _ => ⟨b, 0, rfl, heap_lt h, fun i q hi => ?_⟩⟩
 obtain rfl : i = 0 := by
  have := (List.getElem?_eq_some_iff.1 hi).1
  simp at this
  exact this
 obtain rfl := Option.some.inj hi
 refine ⟨?_, ?_, ?_, ?_, ⟨none, 0, rfl, Nat.le_refl _, (fun i => by simp), fun h => absurd h (by simp)⟩⟩
 all_goals rw [cell_of_row W b _ _ _ _ h]; rfl

theorem op_sto : ¬ stoT 43 := by unfold stoT logT diskT; decide

end Go.Proofs.YtnhbfehfipafoaaGreatDoor

/- Acts that came in, with their operations: are they light? -/
namespace Go.Proofs.YtnhbfehfipafoaaGreatDoor
open Go.RowKit

structure ActW where
 kind : ByteArray
 a : Int
 s : ByteArray
 k : Int
 op : OpC
 ov : Value
 ops : List OpC

structure ActW.ok (w : World) (p : ActW) : Prop where
 a : -9223372036854775808 ≤ p.a ∧ p.a ≤ 9223372036854775807
 k : 0 ≤ p.k ∧ p.k < 18446744073709551616
 op : RowS w p.op.row p.op.o.v
 ops : OpsN w p.ov p.ops

def ActW.cells (p : ActW) : List Value := [.string p.kind, .int .i64 p.a, .string p.s, .int .u64 p.k, .int .i64 p.op.o.kind, .string p.op.o.name, .int .i64 p.op.o.n, p.op.row, p.ov]

def ActsW (w : World) (v : Value) (al : List ActW) : Prop :=
 ∃ ao cap, v = .slice ao al.length cap ∧ al.length ≤ cap ∧ (0 < al.length → ∃ b off, ao = some ⟨b, off, none⟩ ∧ b < w.heap.size ∧ ∀ i p, al[i]? = some p →
  p.ok w ∧ ∀ j u, p.cells[j]? = some u → w.cell? ⟨b, off + i * 9 + j, none⟩ = some u)

theorem ActW.ok.below {w w' : World} {p : ActW} (h : p.ok w) (hb : Below w.heap.size w w') : p.ok w' := ⟨h.a, h.k, h.op.below hb (Nat.le_refl _), h.ops.below hb⟩

theorem ActsW.below {w w' : World} {v : Value} {al : List ActW} (h : ActsW w v al) (hb : Below w.heap.size w w') : ActsW w' v al := by
 obtain ⟨ao, cap, e, hn, h⟩ := h
 refine ⟨ao, cap, e, hn, fun h0 => ?_⟩
 obtain ⟨b, off, e, hlt, h⟩ := h h0
 refine ⟨b, off, e, Nat.lt_of_lt_of_le hlt hb.size, fun i p hp => ?_⟩
 obtain ⟨h1, h2⟩ := h i p hp
 exact ⟨h1.below hb, fun j u hu => (hb.cell (p := ⟨b, off + i * 9 + j, none⟩) hlt).trans (h2 j u hu)⟩

theorem ActsW.at {w : World} {v : Value} {al : List ActW} (h : ActsW w v al) {k : Nat} {p : ActW} (hp : al[k]? = some p) : ∃ b off cap, v = .slice (some ⟨b, off, none⟩) al.length cap ∧ b < w.heap.size ∧ p.ok w ∧ ∀ j u, p.cells[j]? = some u → w.cell? ⟨b, off + k * 9 + j, none⟩ = some u := by
 obtain ⟨ao, cap, rfl, -, hh⟩ := h
 obtain ⟨b, off, rfl, hlt, hc⟩ := hh (by have := (List.getElem?_eq_some_iff.1 hp).1; omega)
 exact ⟨b, off, cap, rfl, hlt, hc k p hp⟩

def lightP (p : ActW) : Prop := p.s.size ≤ 100 ∧ p.op.o.name.size ≤ 30 ∧ p.op.o.v.length ≤ 10 ∧ lightL p.ops 20 = true

def LightW (w : World) (al : List ActW) (most : Nat) (e : Ending) (w' : World) : Prop := ∃ b, e = .returned (.bool b) ∧ (b = true → al.length ≤ most ∧ ∀ p ∈ al, lightP p) ∧ Below w.heap.size w w'

end Go.Proofs.YtnhbfehfipafoaaGreatDoor

/- What a walk over a store wants: one commit on both sides; what stays. -/
namespace Go.Proofs.YtnhbfehfipafoaaGreatDoor
open Go.RowKit

def comL (l : List Nmd) (os : List OpV) (m : Nat) : List Nmd := if comF l os m = 0 then (allC l os).2 else l

def comN (l : List Nmd) (os : List OpV) (m en : Nat) : Nat := if comF l os m = 0 then comE os m en else en

theorem CmP.free {w w' : World} {base : Own} {S B : Nat} {D : Dsk} {m : Nat} {l : List Nmd} {en : Nat} {os : List OpV} {e : Ending} (h : CmP w base S B D m l en os e w') (hf : Free D) :
  ∃ D' h', e = .returned (errV (comF l os m)) ∧ StoreP w' base S B D' m h' (comL l os m) (comN l os m en) ∧ Free D' ∧ KeptS base w w' := by
 obtain ⟨h1, hk⟩ := h
 rcases h1 with ⟨hne, rfl, h', hp⟩ | ⟨h0, D', b, rfl, -, hok, -, hfr⟩
 ·refine ⟨D, h', ?_, ?_, hf, hk⟩
  ·unfold errV; rw [if_neg hne]
  ·unfold comL comN; rw [if_neg hne, if_neg hne]; exact hp
 ·obtain ⟨rfl, hf'⟩ := hfr hf
  obtain ⟨h', hp⟩ := hok rfl
  refine ⟨D', h', ?_, ?_, hf', hk⟩
  ·rw [h0]; rfl
  ·unfold comL comN; rw [if_pos h0, if_pos h0]; exact hp

theorem RcmP.both {w w' : World} {M : Nat} {o : Option Addr} {n k : Nat} {us mn : Nat} {qs : List Nc} {l : List Nmd} {os : List OpV} {e : Ending} (h : RcmP w M (.slice o n k) us mn l os e w') (hc : CatN w (.slice o n k) qs) (hq : qs.map (·.x) = l) :
  e = .returned (.int .i64 ((comF l os (mn + 82) : Nat) : Int)) ∧ ∃ o' n' k' qs', RstB w' M (.slice o' n' k') ((comN l os (mn + 82) us : Nat) : Int) mn ∧ CatN w' (.slice o' n' k') qs' ∧ qs'.map (·.x) = comL l os (mn + 82) ∧ ButB w.heap.size M w w' := by
 obtain ⟨h0, h1⟩ := h
 refine ⟨h0, ?_⟩
 rcases h1 with ⟨hne, hx, hb⟩ | ⟨hz, o', n', k', qs', hx, hc', hq', hb⟩
 ·refine ⟨o, n, k, qs, ?_, hc.below hb, ?_, ButB.of hb⟩
  ·unfold comN; rw [if_neg hne]; exact hx
  ·unfold comL; rw [if_neg hne]; exact hq
 ·refine ⟨o', n', k', qs', ?_, hc', ?_, hb⟩
  ·unfold comN; rw [if_pos hz]; exact hx
  ·unfold comL; rw [if_pos hz]; exact hq'

theorem keepK_but {W W' : World} {M : Nat} {cs : Array Value} {t : TypeId} (hm : W.heap[M]? = some (.cells cs t (0, 0))) (ht : ¬ kinT t) (hk : ButB W.heap.size M W W') : KeepK W W' := fun b hb => hk.block b hb.lt (fun e => by
 subst e
 obtain ⟨cs', t', fz', h, ht'⟩ := hb
 rw [hm] at h
 simp only [Option.some.injEq, Obj.cells.injEq] at h
 rw [← h.2.1] at ht'
 exact ht ht')

theorem DiskO.but {W W' : World} {base : Own} {B : Nat} {D : Dsk} (h : DiskO W base B D) {M : Nat} {cs : Array Value} {t : TypeId} (hm : W.heap[M]? = some (.cells cs t (0, 0))) (ht : ¬ diskT t) (hk : ButB W.heap.size M W W') : DiskO W' base B D := by
 obtain ⟨sv, ls, h⟩ := h
 have key : ∀ (b : Nat) (cs' : Array Value) (t' : TypeId) (fz : Nat × Nat), W.heap[b]? = some (.cells cs' t' fz) → diskT t' → W'.heap[b]? = W.heap[b]? := fun b cs' t' fz hb hd => hk.block b (heap_lt hb) (fun e => by
  subst e
  rw [hm] at hb
  simp only [Option.some.injEq, Obj.cells.injEq] at hb
  rw [← hb.2.1] at hd
  exact ht hd)
 exact ⟨sv, ls, h.low, (key _ _ _ _ h.head (.inl rfl)).trans h.head, h.len, ownsKeep h.own (fun b cs' fz hb => key b cs' _ fz hb (.inr (.inl rfl))), fun i s v h1 h2 => ownsKeep (h.loose i s v h1 h2) (fun b cs' fz hb => key b cs' _ fz hb (.inr (.inr rfl))), h.apart, h.ok, h.num, h.left, h.mine⟩

theorem StoreP.but {W W' : World} {base : Own} {S B : Nat} {D : Dsk} {m : Nat} {h : Hd} {l : List Nmd} {en : Nat} (x : StoreP W base S B D m h l en) {M : Nat} {cs : Array Value} {t : TypeId} (hm : W.heap[M]? = some (.cells cs t (0, 0))) (ht : ¬ stoT t) (ht2 : ¬ kinT t) (hk : ButB W.heap.size M W W') : StoreP W' base S B D m h l en := by
 obtain ⟨⟨L, o, n, c, qs, x1, x2, x3, x4, x5, x6⟩, hd, hi⟩ := x
 refine ⟨⟨L, o, n, c, qs, (hk.block S (heap_lt x1) (fun e => ?_)).trans x1, x2.keepK (keepK_but hm ht2 hk), x3, (hk.block L (heap_lt x4) (fun e => ?_)).trans x4, x5, x6⟩, hd.but hm (fun h => ht (.inl (.inl h))) hk, hi⟩
 ·subst e
  rw [show W.heap[S]? = _ from x1] at hm
  simp only [Option.some.injEq, Obj.cells.injEq] at hm
  exact ht (.inr hm.2.1.symm)
 ·subst e
  rw [show W.heap[L]? = _ from x4] at hm
  simp only [Option.some.injEq, Obj.cells.injEq] at hm
  exact ht (.inl (.inr hm.2.1.symm))

theorem KeptS.stays {base : Own} {W W' : World} (hk : KeptS base W W') {b : Nat} {cs : Array Value} {t : TypeId} {fz : Nat × Nat} (hb : W.heap[b]? = some (.cells cs t fz)) (ht : ¬ stoT t) : W'.heap[b]? = some (.cells cs t fz) :=
 (hk.block b (heap_lt hb) (.inr fun cs' t' fz' hx => by
  rw [hb] at hx
  simp only [Option.some.injEq, Obj.cells.injEq] at hx
  rw [← hx.2.1]
  exact ht)).trans hb

theorem ButB.stays {M : Nat} {W W' : World} (hk : ButB W.heap.size M W W') {b : Nat} {cs : Array Value} {t : TypeId} {fz : Nat × Nat} (hb : W.heap[b]? = some (.cells cs t fz)) (hn : b ≠ M) : W'.heap[b]? = some (.cells cs t fz) := (hk.block b (heap_lt hb) hn).trans hb

theorem rst_sto : ¬ stoT 39 := by unfold stoT logT diskT; decide
theorem act_sto : ¬ stoT 46 := by unfold stoT logT diskT; decide

def ActB (W : World) (Q : Nat) (p : ActW) : Prop := W.heap[Q]? = some (.cells p.cells.toArray 46 (0, 0))

theorem ActB.new (W : World) (p : ActW) : ActB (W.alloc (.cells p.cells.toArray 46)) W.heap.size p := heap_alloc_new W _

theorem ActB.later {W W' : World} {Q : Nat} {p : ActW} (h : ActB W Q p) (hb : Below W.heap.size W W') : ActB W' Q p := (hb.block _ (heap_lt h)).trans h

theorem ActB.keptS {W W' : World} {base : Own} {Q : Nat} {p : ActW} (h : ActB W Q p) (hk : KeptS base W W') : ActB W' Q p := hk.stays h act_sto

theorem ActB.ne {W : World} {Q M : Nat} {p : ActW} (h : ActB W Q p) {v : Value} {us mn : Int} (hm : RstB W M v us mn) : Q ≠ M := fun e => by
 subst e
 unfold ActB at h
 unfold RstB at hm
 rw [h] at hm
 simp only [Option.some.injEq, Obj.cells.injEq] at hm
 exact absurd hm.2.1 (by decide)

theorem ActB.cells {W : World} {Q : Nat} {p : ActW} (h : ActB W Q p) : ∀ j u, p.cells[j]? = some u → W.cell? ⟨Q, j, none⟩ = some u := fun j u hu => by
 rw [cell_of_row W Q j _ _ _ h]
 simpa using hu

end Go.Proofs.YtnhbfehfipafoaaGreatDoor

/- What is committed is there when it is opened again; a fault's number. -/
namespace Go.Proofs.YtnhbfehfipafoaaGreatDoor
open Go.RowKit

def opB1 : OpV := ⟨1, ⟨#[97]⟩, 1, []⟩

theorem allC_opB1 : allC [] [opB1] = (0, [⟨⟨#[97]⟩, 1, []⟩]) := by kernel_rfl

theorem StoM.kept {W W' : World} {base base' : Own} {S B m : Nat} {h : Hd} {l : List Nmd} {en : Nat} (x : StoM W base S B m h l en) (hk : Kept base' W W') : StoM W' base S B m h l en := by
 obtain ⟨L, o, n, c, qs, x1, x2, x3, x4, x5, x6⟩ := x
 exact ⟨L, o, n, c, qs, x1.kept hk, x2.keepK (keepK_kept hk), x3, x4.kept hk, x5, x6⟩

set_option linter.unusedSimpArgs false in
set_option maxRecDepth 100000 in
set_option maxHeartbeats 1600000 in
theorem kept_any (w : World) (ht : TabP w) (hx : MaxL w) :
  Calls Tryz.prog 39 #[] w fun e w' => e = .returned (.bool true) ∧ Below w.heap.size w w' := by
 have HT := hide ht; have HX := hide hx
 obtain ⟨B, hB⟩ : ∃ B, w.heap.size = B := ⟨_, rfl⟩
 have HBB := hide hB
 have HS := hide (stored_any w 100 (by decide) (by decide) ht hx)
 clear ht hx
 go_enter Tryz.func39, Tryz.ntmps39
 go_wp2_with fail
 refine HS.out.mono ?_
 rintro e w1 ⟨S, D, h, rfl, hS, hp1, hf1, hb1⟩
 rw [hB] at hS hp1 ⊢
 have hbA := alloc_below w1 (.cells #[.int .i64 1, .string ⟨#[97]⟩, .int .i64 1, .slice none 0 0] 43)
 have HP2 := hide (hp1.later hbA); have HB2 := hide (hb1.trans (hbA.mono hb1.size))
 have HO2 := hide (heap_alloc_new w1 (.cells #[.int .i64 1, .string ⟨#[97]⟩, .int .i64 1, .slice none 0 0] 43 (0, 0)))
 have HF1 := hide hf1
 have hs2 : Hid (B ≤ (w1.alloc (.cells #[.int .i64 1, .string ⟨#[97]⟩, .int .i64 1, .slice none 0 0] 43)).heap.size) := by show _ ≤ _; rw [← hB]; exact HB2.out.size
 clear hp1 hb1 hbA hS hf1 HS
 go_wp2_with fail
 obtain ⟨bo, hbo⟩ : ∃ bo, w1.heap.size = bo := ⟨_, rfl⟩
 try rw [hbo]
 rw [hbo] at HO2
 generalize w1.alloc (.cells #[.int .i64 1, .string ⟨#[97]⟩, .int .i64 1, .slice none 0 0] 43) = w2 at *
 clear hbo
 refine (commit_any w2 (one B) S B D 100 h [] 0 _ [⟨opB1, none, 0⟩] HP2.out (by decide) (by decide) (HT.out.below HB2.out) hs2.out (fun W hk => opsN_lit (o := opB1) ((hk.block _ (heap_lt HO2.out) (.inr fun cs t fz hx => by
  rw [HO2.out] at hx
  simp only [Option.some.injEq, Obj.cells.injEq] at hx
  rw [← hx.2.1]
  exact op_sto)).trans HO2.out) rfl) (fun q hq => by rw [List.mem_singleton] at hq; subst hq; decide) (by decide) [opB1] rfl).mono ?_
 rintro e w3 ⟨hcm, hk3⟩
 have hF : comF [] [opB1] 100 = 0 := by kernel_rfl
 rcases hcm with ⟨hne, -⟩ | ⟨-, D', b, rfl, hd3, hok, -, hfree⟩
 ·exact absurd hF hne
 obtain ⟨rfl, -⟩ := hfree HF1.out
 obtain ⟨h3, hp3⟩ := hok rfl
 rw [allC_opB1, show comE [opB1] 100 0 = 2 from rfl] at hp3
 have HP3 := hide hp3
 have HB3 := hide (hk3.below HB2.out (one_le (Nat.le_of_eq hB)) HB2.out.size)
 have hs3 : Hid (B ≤ w3.heap.size) := Nat.le_trans hs2.out hk3.size
 clear hd3 hok hfree hp3 hk3 hF HP2 HO2
 rw [show okV true = .nilIface from rfl]
 go_wp2_with fail
 refine (open_any w3 (one B) B D' 100 h3 _ 2 HP3.out.disk HP3.out.says (by decide) (by decide) (HT.out.below HB3.out) (HX.out.below HB3.out) hs3.out).mono ?_
 rintro e w4 ⟨S4, rfl, hS4, hp4, hb4⟩
 obtain ⟨⟨L4, o4, n4, c4, q4, hx4, hc4, hq4, -⟩, -, hi4⟩ := hp4
 have X4 := hide hx4; have C4 := hide hc4; have Q4 := hide hq4; have OK4 := hide hi4.says.ok
 have HB4 := hide (HB3.out.trans (hb4.mono HB3.out.size))
 clear hx4 hc4 hq4 hi4 hb4 hS4
 go_wp2_with fail
 refine (scat_any w4 S4 B h3 o4 n4 c4 _ X4.out).mono ?_
 rintro e w5 ⟨rfl, hb5⟩
 have C5 := hide (C4.out.below hb5); have HB5 := hide (HB4.out.trans (hb5.mono HB4.out.size))
 have hq5 : q4.length = 1 := by have := congrArg List.length Q4.out; simpa using this
 clear hb5 C4 X4 HB4
 go_wp2_with fail
 refine (lattices_any2 w5 _ q4 ⟨_, rfl, C5.out⟩ (by omega) (by rw [Q4.out]; exact OK4.out.all)).mono ?_
 rintro e w6 ⟨u, rs, rfl, hc6, hm6, hb6⟩
 obtain ⟨o6, c6, rfl, -⟩ := id hc6
 have hr6 : rs.length = 1 := by have := congrArg List.length hm6; rw [List.length_map, List.length_map] at this; omega
 have HB6 := hide (HB5.out.trans (hb6.mono HB5.out.size))
 rw [hr6]
 clear hc6 hm6 hb6 hr6 HB5 C5
 go_wp2
 go_ret
 exact ⟨rfl, HB6.out⟩

end Go.Proofs.YtnhbfehfipafoaaGreatDoor

/- Two stores, each on its own disk: what is done to the one leaves the other. -/
namespace Go.Proofs.YtnhbfehfipafoaaGreatDoor
open Go.RowKit

theorem ownsMine {W W' : World} {e : TypeId} {size : Nat} {v : Value} {n : Nat} {xs : List Value} (h : W.ownsRow 0 e size v n xs) (hk : ∀ g, v.ownBlock = some g → g < W.heap.size → W'.heap[g]? = W.heap[g]?) : W'.ownsRow 0 e size v n xs := by
 refine ⟨h.1, ?_⟩
 rcases h.2 with hn | ⟨g, cap, cur, e, hbg, hh, rest⟩
 ·exact .inl hn
 ·exact .inr ⟨g, cap, cur, e, hbg, (hk g (by rw [e]; rfl) (heap_lt hh)).trans hh, rest⟩

theorem DiskO.re {W : World} {base base' : Own} {B : Nat} {D : Dsk} (h : DiskO W base B D) (hm : ∀ b, b < W.heap.size → base.mine b → base'.mine b) : DiskO W base' B D := by
 obtain ⟨sv, ls, h⟩ := h
 exact ⟨sv, ls, h.re hm⟩

theorem DiskO.stay {W W' : World} {base : Own} {B : Nat} {D : Dsk} (h : DiskO W base B D) (hk : ∀ b, b < W.heap.size → base.mine b → W'.heap[b]? = W.heap[b]?) : DiskO W' base B D := by
 obtain ⟨sv, ls, h⟩ := h
 exact ⟨sv, ls, h.low, (hk _ (heap_lt h.head) h.low).trans h.head, h.len, ownsMine h.own (fun g hg hl => hk g hl (h.mine.1 g hg)),
  fun i s v h1 h2 => ownsMine (h.loose i s v h1 h2) (fun g hg hl => hk g hl (h.mine.2 v (List.mem_of_getElem? h2) g hg)), h.apart, h.ok, h.num, h.left, h.mine⟩

theorem StoreP.re {W : World} {base base' : Own} {S B : Nat} {D : Dsk} {m : Nat} {h : Hd} {l : List Nmd} {en : Nat} (x : StoreP W base S B D m h l en) (hm : ∀ b, b < W.heap.size → base.mine b → base'.mine b) : StoreP W base' S B D m h l en := by
 obtain ⟨⟨L, o, n, c, qs, x1, x2, x3, x4, x5, x6⟩, hd, hi⟩ := x
 exact ⟨⟨L, o, n, c, qs, x1, x2, x3, x4, hm _ (heap_lt x4) x5, hm _ (heap_lt x1) x6⟩, hd.re hm, hi⟩

theorem StoreP.stay {W W' : World} {base : Own} {S B : Nat} {D : Dsk} {m : Nat} {h : Hd} {l : List Nmd} {en : Nat} (x : StoreP W base S B D m h l en) (hk : ∀ b, b < W.heap.size → base.mine b → W'.heap[b]? = W.heap[b]?) (hkk : KeepK W W') : StoreP W' base S B D m h l en := by
 obtain ⟨⟨L, o, n, c, qs, x1, x2, x3, x4, x5, x6⟩, hd, hi⟩ := x
 exact ⟨⟨L, o, n, c, qs, (hk _ (heap_lt x1) x6).trans x1, x2.keepK hkk, x3, (hk _ (heap_lt x4) x5).trans x4, x5, x6⟩, hd.stay hk, hi⟩

theorem number_errV (k : Nat) (w : World) : Calls Tryz.prog 41 #[errV k] w fun e w' => e = .returned (.int .i64 (k : Int)) ∧ w' = w := by
 by_cases h : k = 0
 ·subst h
  exact (number_err true w).mono fun e w' ⟨a, b⟩ => ⟨a, b⟩
 ·have e : errV k = errno (k : Nat) := if_neg h
  rw [e]
  exact number_errno k w

theorem nm_sizes2 {x : Nmd} (h : NmOk x) : x.gens.length ≤ 1000 ∧ ∀ g ∈ x.gens, g.length ≤ 1000000 := by
 refine ⟨by have := h.few; omega, fun g hg => ?_⟩
 have h1 := (genF_ok.1 (h.gens g hg)).1
 have h2 := h.n
 omega

structure Sto where
 S : Nat
 B : Nat
 D : Dsk
 m : Nat
 h : Hd
 l : List Nmd
 en : Nat

def Sto.lies (x : Sto) (W : World) (base : Own) : Prop := StoreP W base x.S x.B x.D x.m x.h x.l x.en

structure Apart (K : Nat) (W : World) (O1 O2 : Nat → Prop) : Prop where
 low : K ≤ W.heap.size
 one : ∀ b, O1 b → K ≤ b ∧ b < W.heap.size
 two : ∀ b, O2 b → K ≤ b ∧ b < W.heap.size
 off : ∀ b, O1 b → ¬ O2 b

def Two (K : Nat) (W : World) (x y : Sto) : Prop := ∃ O1 O2, Apart K W O1 O2 ∧ x.lies W ⟨W.heap.size, O1⟩ ∧ y.lies W ⟨W.heap.size, O2⟩

theorem Two.symm {K : Nat} {W : World} {x y : Sto} (t : Two K W x y) : Two K W y x := by
 obtain ⟨O1, O2, a, h1, h2⟩ := t
 exact ⟨O2, O1, ⟨a.low, a.two, a.one, fun b h k => a.off b k h⟩, h2, h1⟩

theorem Sto.lies.up {x : Sto} {W W' : World} {O : Nat → Prop} (h : x.lies W ⟨W.heap.size, O⟩) : x.lies W ⟨W'.heap.size, O⟩ :=
 StoreP.re h fun b hb hm => .inr (hm.elim (fun e => by simp only at e; omega) id)

theorem Two.later {K : Nat} {W W' : World} {x y : Sto} (t : Two K W x y) (hb : Below W.heap.size W W') : Two K W' x y := by
 obtain ⟨O1, O2, a, h1, h2⟩ := t
 have hs := hb.size
 exact ⟨O1, O2, ⟨Nat.le_trans a.low hs, fun b h => ⟨(a.one b h).1, by have := (a.one b h).2; omega⟩, fun b h => ⟨(a.two b h).1, by have := (a.two b h).2; omega⟩, a.off⟩, StoreP.later h1.up hb, StoreP.later h2.up hb⟩

theorem Two.step {K : Nat} {W : World} {x y : Sto} (t : Two K W x y) : ∃ base : Own, base.h ≤ W.heap.size ∧ (∀ b, base.mine b → K ≤ b) ∧ x.lies W base ∧ ∀ (W1 W' : World) (x' : Sto), KeptS base W W1 → W1.heap.size ≤ W'.heap.size → (∀ (z : Sto) (c : Own), z.lies W1 c → z.lies W' c) → x'.lies W' base → Two K W' x' y := by
 obtain ⟨O1, O2, a, h1, h2⟩ := t
 refine ⟨⟨W.heap.size, O1⟩, Nat.le_refl _, fun b hb => hb.elim (fun e => Nat.le_trans a.low e) (fun e => (a.one b e).1), h1, fun W1 W' x' hk hs1 hz hx => ?_⟩
 have hs := Nat.le_trans hk.size hs1
 refine ⟨fun b => O1 b ∨ (W.heap.size ≤ b ∧ b < W'.heap.size), O2, ⟨Nat.le_trans a.low hs, fun b hb => ?_, fun b h => ⟨(a.two b h).1, by have := (a.two b h).2; omega⟩, fun b hb h2 => ?_⟩, StoreP.re hx fun b hb hm => ?_, hz y _ (StoreP.stay h2.up (fun b hb hm => hk.block b hb (.inl fun hm1 => ?_)) (keepK_keptS hk))⟩
 ·rcases hb with hb | hb
  ·exact ⟨(a.one b hb).1, by have := (a.one b hb).2; omega⟩
  ·exact ⟨Nat.le_trans a.low hb.1, hb.2⟩
 ·rcases hb with hb | hb
  ·exact a.off b hb h2
  ·have := (a.two b h2).2; omega
 ·rcases hm with e | e
  ·exact .inr (.inr ⟨e, hb⟩)
  ·exact .inr (.inl e)
 ·have hm2 : O2 b := hm.elim (fun e => by simp only at e; omega) id
  rcases hm1 with e | e
  ·simp only at e; omega
  ·exact a.off b e hm2

theorem Two.map {K : Nat} {W W' : World} {x y : Sto} (t : Two K W x y) (hs : W.heap.size ≤ W'.heap.size) (hz : ∀ (z : Sto) (c : Own), z.lies W c → z.lies W' c) : Two K W' x y := by
 obtain ⟨O1, O2, a, h1, h2⟩ := t
 exact ⟨O1, O2, ⟨Nat.le_trans a.low hs, fun b h => ⟨(a.one b h).1, by have := (a.one b h).2; omega⟩, fun b h => ⟨(a.two b h).1, by have := (a.two b h).2; omega⟩, a.off⟩, hz _ _ h1.up, hz _ _ h2.up⟩

def Cm2P (K : Nat) (w : World) (x y : Sto) (os : List OpV) (e : Ending) (w' : World) : Prop :=
 ∃ x' : Sto, e = .returned (errV (comF x.l os x.m)) ∧ x'.S = x.S ∧ x'.B = x.B ∧ x'.m = x.m ∧ x'.l = comL x.l os x.m ∧ Free x'.D ∧ Two K w' x' y ∧ Below K w w' ∧ ∃ base, KeptS base w w'

theorem commit2_any {K : Nat} {w : World} {x y : Sto} (t : Two K w x y) (v : Value) (os : List OpC) (hf : Free x.D) (hm : x.m ≤ 200) (h86 : 86 ≤ x.m) (ht : TabP w) (hops : ∀ W base, KeptS base w W → Below K w W → OpsN W v os) (hv : ∀ q ∈ os, q.o.v.length ≤ 20) (hn : os.length ≤ 1000000) :
  Calls Tryz.prog 15 #[.pointer (some ⟨x.S, 0, none⟩), v] w fun e w' => Cm2P K w x y (os.map (·.o)) e w' := by
 obtain ⟨base, hb, hK, hx, hst⟩ := t.step
 have hKw : K ≤ w.heap.size := by obtain ⟨_, _, a, -⟩ := t; exact a.low
 have bel : ∀ W, KeptS base w W → Below K w W := fun W hk => hk.below (Below.refl _ _) hK hKw
 refine (commit_any w base x.S x.B x.D x.m x.h x.l x.en v os hx hm h86 ht hb (fun W hk => hops W base hk (bel W hk)) hv hn _ rfl).mono fun e w' hc => ?_
 obtain ⟨D', h', he, hp, hf', hk⟩ := hc.free hf
 exact ⟨⟨x.S, x.B, D', x.m, h', comL x.l (os.map fun q : OpC => q.o) x.m, comN x.l (os.map fun q : OpC => q.o) x.m x.en⟩, he, rfl, rfl, rfl, rfl, hf', hst w' w' _ hk (Nat.le_refl _) (fun _ _ h => h) hp, bel w' hk, base, hk⟩

def Ck2P (K : Nat) (w : World) (x y : Sto) (e : Ending) (w' : World) : Prop :=
 ∃ x' : Sto, e = .returned .nilIface ∧ x'.S = x.S ∧ x'.B = x.B ∧ x'.m = x.m ∧ x'.l = x.l ∧ Free x'.D ∧ Two K w' x' y ∧ Below K w w'

def Op2P (K : Nat) (w : World) (x y : Sto) (e : Ending) (w' : World) : Prop :=
 ∃ S, e = .returned (.tuple #[.pointer (some ⟨S, 0, none⟩), .nilIface]) ∧ Two K w' { x with S := S } y ∧ Below w.heap.size w w'

theorem Two.cat {K : Nat} {w : World} {x y : Sto} (t : Two K w x y) : ∃ h o n c qs L, StoB w x.S x.B h (.slice o n c) (.pointer (some ⟨L, 0, none⟩)) ∧ CatN w (.slice o n c) qs ∧ qs.map (·.x) = x.l ∧ CatOk x.l := by
 obtain ⟨O1, O2, -, ⟨⟨L, o, n, c, qs, x1, x2, x3, -⟩, -, hi⟩, -⟩ := t
 exact ⟨_, o, n, c, qs, L, x1, x2, x3, hi.says.ok⟩

theorem Two.new {K : Nat} {w1 w2 : World} {x y : Sto} {h1 h2 : Nat} (hx : x.lies w1 (one h1)) (hy : y.lies w2 (one h2)) (hK1 : K ≤ h1) (h12 : w1.heap.size ≤ h2) (hb : Below w1.heap.size w1 w2) : Two K w2 x y := by
 have hs := hb.size
 have hl1 : h1 ≤ w1.heap.size := by
  obtain ⟨⟨_, _, _, _, _, x1, -, -, -, -, x6⟩, -, -⟩ := hx
  have := heap_lt x1
  rcases x6 with e | e
  ·simp only at e; omega
  ·exact e.elim
 have hl2 : h2 ≤ w2.heap.size := by
  obtain ⟨⟨_, _, _, _, _, x1, -, -, -, -, x6⟩, -, -⟩ := hy
  have := heap_lt x1
  rcases x6 with e | e
  ·simp only at e; omega
  ·exact e.elim
 refine ⟨fun b => h1 ≤ b ∧ b < w1.heap.size, fun b => h2 ≤ b ∧ b < w2.heap.size, ⟨by omega, fun b h => ⟨by omega, by omega⟩, fun b h => ⟨by omega, h.2⟩, fun b h k => by omega⟩, ?_, StoreP.re hy fun b hb hm => .inr ⟨hm.elim id (fun e => e.elim), hb⟩⟩
 exact StoreP.later (StoreP.re hx fun b hb hm => .inr ⟨hm.elim id (fun e => e.elim), hb⟩) hb

end Go.Proofs.YtnhbfehfipafoaaGreatDoor
