/- A region that draws its order: d, err := c.Apply(..) with a variable of one's own for d: q plain operations, the call, and what unpacks it. -/
import Derived.Test.YtjdnhdcaifogmaaGreatDoorDrawnP
import Derived.Test.YtjdnhdcaifogmaaGreatDoorBgO
import Derived.Test.YtjdnhdcaifogmaaGreatDoorBpG
import Derived.Test.YtjdnhdcaifogmaaGreatDoorBpL
import Derived.Deep.Cut
import Derived.Deep.CutRange
import Derived.Deep.CutBlock
import Derived.Test.YtjdnhdcaifogmaaGreatDoorRows
import Derived.WalkKit
import Derived.WalkSpells
import Derived.WalkLawsBesides
import Derived.Deep.QuietTactic
import Derived.BigQuiet
import Derived.Deep.RegionHeld3
import Derived.Deep.DrawnRows

namespace Go.Proofs.YtjdnhdcaifogmaaGreatDoor
open Go.RowKit

def apD (q : Nat) (ps : Nat → List Nat) (i : Nat) : List Nat :=
 if i ≤ q then ps i else if i = q + 1 then [q] else if i = q + 2 then [q + 1] else if i = q + 3 then [q + 1] else if i = q + 4 then [] else if i = q + 5 then [q + 2, q + 4] else if i = q + 6 then [q + 3] else []

theorem apD_1 (q : Nat) (ps : Nat → List Nat) : apD q ps (q + 1) = [q] := by unfold apD; rw [if_neg (by omega), if_pos rfl]
theorem apD_2 (q : Nat) (ps : Nat → List Nat) : apD q ps (q + 2) = [q + 1] := by unfold apD; rw [if_neg (by omega), if_neg (by omega), if_pos rfl]
theorem apD_3 (q : Nat) (ps : Nat → List Nat) : apD q ps (q + 3) = [q + 1] := by unfold apD; rw [if_neg (by omega), if_neg (by omega), if_neg (by omega), if_pos rfl]
theorem apD_4 (q : Nat) (ps : Nat → List Nat) : apD q ps (q + 4) = [] := by unfold apD; rw [if_neg (by omega), if_neg (by omega), if_neg (by omega), if_neg (by omega), if_pos rfl]
theorem apD_5 (q : Nat) (ps : Nat → List Nat) : apD q ps (q + 5) = [q + 2, q + 4] := by unfold apD; rw [if_neg (by omega), if_neg (by omega), if_neg (by omega), if_neg (by omega), if_neg (by omega), if_pos rfl]
theorem apD_6 (q : Nat) (ps : Nat → List Nat) : apD q ps (q + 6) = [q + 3] := by unfold apD; rw [if_neg (by omega), if_neg (by omega), if_neg (by omega), if_neg (by omega), if_neg (by omega), if_neg (by omega), if_pos rfl]

def apS (q : Nat) (Rg : World → Option Addr → Nat → Nat → Value → Prop) (C : Nat) (b : Bool) (i : Nat) (c : Nat → Value) (W : World) : Prop :=
 (i = q → ∃ o l k e, c q = .tuple #[.agg #[.slice o l k], e] ∧ Rg W o l k e) ∧
 (i = q + 1 → c (q + 1) = c q) ∧
 (i = q + 2 → ∃ u e, c (q + 1) = .tuple #[u, e] ∧ c (q + 2) = u) ∧
 (i = q + 3 → ∃ u e, c (q + 1) = .tuple #[u, e] ∧ c (q + 3) = e) ∧
 (i = q + 4 → ∃ B, c (q + 4) = .pointer (some ⟨B, 0, none⟩) ∧ C ≤ B ∧ (b = false → One W B (.slice none 0 0))) ∧
 (i = q + 5 → ∃ B u, c (q + 4) = .pointer (some ⟨B, 0, none⟩) ∧ c (q + 2) = .agg #[u] ∧ C ≤ B ∧ One W B u) ∧
 (i = q + 6 → c (q + 6) = c (q + 3))

section
variable {q : Nat} {Rg : World → Option Addr → Nat → Nat → Value → Prop} {C : Nat} {b : Bool} {c : Nat → Value} {W : World}

end

def CatG (r : Nat × List Nmd) (W : World) (o : Option Addr) (l k : Nat) (e : Value) : Prop :=
 (r.1 ≠ 0 ∧ o = none ∧ l = 0 ∧ k = 0 ∧ e = errV r.1) ∨ (r.1 = 0 ∧ e = .nilIface ∧ ∃ qs : List Nc, qs.map (·.x) = r.2 ∧ CatN W (.slice o l k) qs)

theorem CatG.later {r : Nat × List Nmd} (W W' : World) (o : Option Addr) (l k : Nat) (e : Value) (hb : Below W.heap.size W W') (h : CatG r W o l k e) : CatG r W' o l k e := by
 rcases h with h | ⟨h1, h2, qs, h3, h4⟩
 ·exact .inl h
 ·exact .inr ⟨h1, h2, qs, h3, h4.below hb⟩

theorem CatG.put {r : Nat × List Nmd} (hr : r.1 = 0 → ∀ x ∈ r.2, NmOk x) {W : World} {B : Nat} {o : Option Addr} {l k : Nat} {e : Value} (hB : One W B (.slice none 0 0)) (x : Value) (h : CatG r W o l k e) : CatG r (W.setCell ⟨B, 0, none⟩ x) o l k e := by
 rcases h with h | ⟨h1, h2, qs, h3, h4⟩
 ·exact .inl h
 ·exact .inr ⟨h1, h2, qs, h3, h4.setOne (nonE_of_ok (by rw [h3]; exact hr h1)) hB.1 x⟩

theorem catN_noRow {W : World} {u : Value} {ps : List Nc} (h : CatN W u ps) {g : List Int} (hg : g ≠ []) : ¬ RowS W u g := fun hr => by
 obtain ⟨ao, cap, e, -, hh⟩ := h
 obtain ⟨bo, cap', e2, -, -, hh2⟩ := hr
 rw [e] at e2
 simp only [Value.slice.injEq] at e2
 obtain ⟨rfl, hl, -⟩ := e2
 have h0 : 0 < g.length := List.length_pos_iff.2 hg
 obtain ⟨b, off, rfl, -, hc⟩ := hh (by omega)
 obtain ⟨b', off', e3, -, hc2⟩ := hh2 h0
 simp only [Option.some.injEq, Addr.mk.injEq, and_true] at e3
 obtain ⟨rfl, rfl⟩ := e3
 have k1 := (hc 0 ps[0] (List.getElem?_eq_getElem (by omega))).1
 have k2 := hc2 0 h0
 rw [Nat.zero_mul, Nat.add_zero] at k1
 rw [Nat.add_zero, k1] at k2
 cases k2

theorem RowS.setVar {W : World} {v : Value} {ks : List Int} (h : RowS W v ks) {p : Addr} {o : Option Addr} {l c : Nat} (hc : W.cell? p = some (.slice o l c)) (x : Value) : RowS (W.setCell p x) v ks := by
 obtain ⟨ao, cap, e, hn, h6, hh⟩ := h
 refine ⟨ao, cap, e, hn, h6, fun h0 => ?_⟩
 obtain ⟨b, off, e', hlt, hcell⟩ := hh h0
 refine ⟨b, off, e', by simpa using hlt, fun i hi => (World.cell?_setCell_other _ _ _ _ fun e => ?_).trans (hcell i hi)⟩
 have := hcell i hi
 rw [← e, hc] at this; cases this

theorem CatN.setVar {W : World} {v : Value} {qs : List Nc} (h : CatN W v qs) (hne : NonE qs) {B : Nat} {u : Value} {ps : List Nc} (hc : W.cell? ⟨B, 0, none⟩ = some u) (hu : CatN W u ps) (x : Value) : CatN (W.setCell ⟨B, 0, none⟩ x) v qs := by
 have hno := fun g (hg : g ≠ []) => catN_noRow (g := g) hu hg
 obtain ⟨uo, uc, rfl, -⟩ := hu
 obtain ⟨ao, cap, e, hn, hh⟩ := h
 refine ⟨ao, cap, e, hn, fun h0 => ?_⟩
 obtain ⟨b, off, e', hlt, hcell⟩ := hh h0
 refine ⟨b, off, e', by simpa using hlt, fun i q hi => ?_⟩
 obtain ⟨h1, h2, h3, h4⟩ := hcell i q hi
 refine ⟨(World.cell?_setCell_other _ _ _ _ fun e => ?_).trans h1, (World.cell?_setCell_other _ _ _ _ fun e => ?_).trans h2, (World.cell?_setCell_other _ _ _ _ fun e => ?_).trans h3, ?_⟩
 ·rw [← e, hc] at h1; cases h1
 ·rw [← e, hc] at h2; cases h2
 ·have := congrArg Addr.off e
  simp at this
 ·have hq := hne q (List.mem_of_getElem? hi)
  obtain ⟨go, gc, ge, gn, gh⟩ := h4
  refine ⟨go, gc, ge, gn, fun g0 => ?_⟩
  obtain ⟨gb, goff, ge', glt, gcell⟩ := gh g0
  refine ⟨gb, goff, ge', by simpa using glt, fun j r hj => ?_⟩
  obtain ⟨u2, hu2, hr2⟩ := gcell j r hj
  refine ⟨u2, (World.cell?_setCell_other _ _ _ _ fun e => ?_).trans hu2, hr2.setVar hc x⟩
  rw [← e, hc] at hu2
  simp only [Option.some.injEq] at hu2
  rw [← hu2] at hr2
  exact hno r (hq r (List.mem_of_getElem? hj)) hr2

theorem One.write {W : World} {B : Nat} {u : Value} (h : One W B u) (x : Value) : One (W.setCell ⟨B, 0, none⟩ x) B x :=
 ⟨World.cell?_setCell_same (h := h.1) .., by simpa using h.2.1, by simpa using h.2.2⟩

end Go.Proofs.YtjdnhdcaifogmaaGreatDoor

/- Operations that came in; are they light? -/
namespace Go.Proofs.YtjdnhdcaifogmaaGreatDoor
open Go.RowKit

structure OpC where
 o : OpV
 vo : Option Addr
 vc : Nat

def OpC.row (q : OpC) : Value := .slice q.vo q.o.v.length q.vc

def OpC.val (q : OpC) : Value := .agg #[.int .i64 q.o.kind, .string q.o.name, .int .i64 q.o.n, .slice q.vo q.o.v.length q.vc]

def OpsN (w : World) (v : Value) (os : List OpC) : Prop :=
 ∃ ao cap, v = .slice ao os.length cap ∧ os.length ≤ cap ∧ (0 < os.length → ∃ b off, ao = some ⟨b, off, none⟩ ∧ b < w.heap.size ∧
  ∀ i q, os[i]? = some q → w.cell? ⟨b, off + i * 4, none⟩ = some (.int .i64 q.o.kind) ∧ w.cell? ⟨b, off + i * 4 + 1, none⟩ = some (.string q.o.name) ∧ w.cell? ⟨b, off + i * 4 + 2, none⟩ = some (.int .i64 q.o.n) ∧ w.cell? ⟨b, off + i * 4 + 3, none⟩ = some q.row ∧ RowS w q.row q.o.v)

theorem OpsN.below {w w' : World} {v : Value} {os : List OpC} (h : OpsN w v os) (hb : Below w.heap.size w w') : OpsN w' v os := by
 obtain ⟨ao, cap, e, hn, hh⟩ := h
 refine ⟨ao, cap, e, hn, fun h0 => ?_⟩
 obtain ⟨b, off, e', hlt, hc⟩ := hh h0
 refine ⟨b, off, e', Nat.lt_of_lt_of_le hlt hb.size, fun i q hq => ?_⟩
 obtain ⟨a0, a1, a2, a3, a4⟩ := hc i q hq
 exact ⟨(hb.cell (p := ⟨b, off + i * 4, none⟩) hlt).trans a0, (hb.cell (p := ⟨b, off + i * 4 + 1, none⟩) hlt).trans a1, (hb.cell (p := ⟨b, off + i * 4 + 2, none⟩) hlt).trans a2, (hb.cell (p := ⟨b, off + i * 4 + 3, none⟩) hlt).trans a3, a4.below hb (Nat.le_refl _)⟩

def lightO (o : OpV) : Bool := decide (o.name.size ≤ 30 ∧ o.v.length ≤ 10)

def lightL (os : List OpC) (m : Nat) : Bool := decide (os.length ≤ m) && os.all (fun q => lightO q.o)

end Go.Proofs.YtjdnhdcaifogmaaGreatDoor

/- The reference: are two lattices the same, two catalogs; where does a name stand? -/
namespace Go.Proofs.YtjdnhdcaifogmaaGreatDoor
open Go.RowKit

end Go.Proofs.YtjdnhdcaifogmaaGreatDoor

/- The reference: are two catalogs the same; where does a name stand? -/
namespace Go.Proofs.YtjdnhdcaifogmaaGreatDoor
open Go.RowKit

def atL (cs : List Nmd) (s : ByteArray) : Int := if hasL cs s then (cs.findIdx (fun x => decide (x.name = s)) : Int) else -1

end Go.Proofs.YtjdnhdcaifogmaaGreatDoor

/- Lists that grow by one. -/
namespace Go.Proofs.YtjdnhdcaifogmaaGreatDoor
open Go.RowKit

theorem BoxT.laterC {W W' : World} {B C : Nat} {u0 u1 u2 : Value} (h : BoxT W B u0 u1 u2) (hb : Below C W W') (hC : B < C) : BoxT W' B u0 u1 u2 :=
 ⟨⟨(hb.cell (p := ⟨B, 0, none⟩) hC).trans h.1.1, (hb.cell (p := ⟨B, 1, none⟩) hC).trans h.1.2.1, (hb.cell (p := ⟨B, 2, none⟩) hC).trans h.1.2.2.1, Nat.lt_of_lt_of_le h.1.2.2.2 hb.size⟩, fun k => (hb.frozen (p := ⟨B, k, none⟩) hC).trans (h.2 k)⟩

structure BackI (W8 wr : World) (ps : List Gc) (m : Nat) (nm : ByteArray) (N : Int) (vo : Option Addr) (vc : Nat) : Prop where
 box : BoxT wr W8.heap.size (.string nm) (.int .i64 N) (.slice vo m vc)
 own : wr.ownsRow (W8.heap.size + 1) 44 1 (.slice vo m vc) m ((ps.reverse.take m).map (·.1))
 below : Below W8.heap.size W8 wr

theorem BackI.start (W8 : World) (ps : List Gc) (nm : ByteArray) (N : Int) (t : TypeId) : BackI W8 (W8.alloc (.cells #[.string nm, .int .i64 N, .slice none 0 0] t)) ps 0 nm N none 0 :=
 ⟨BoxT.new _ _ _ _ _, by rw [List.take_zero]; exact World.ownsRow_nil _ _ _ _, alloc_below _ _⟩

theorem BackI.step {W8 wr W' : World} {ps : List Gc} {u' : Gc} {m : Nat} {nm : ByteArray} {N : Int} {vo : Option Addr} {vc : Nat} (h : BackI W8 wr ps m nm N vo vc) (hm : m < ps.length) {o' : Option Addr} {c' : Nat} {u : Value} (hu : ps.reverse[m]? = some u') (hu1 : u'.1 = u)
  (hown : W'.ownsRow (W8.heap.size + 1) 44 1 (.slice o' (m + 1) c') (m + 1) ((ps.reverse.take m).map (·.1) ++ [u])) (hb : Below (W8.heap.size + 1) wr W') : BackI W8 (W'.setCell ⟨W8.heap.size, 2, none⟩ (.slice o' (m + 1) c')) ps (m + 1) nm N o' c' where
 box := (h.box.laterC hb (Nat.lt_succ_self _)).set2 _
 own := by
  have hl : m < ps.reverse.length := by rw [List.length_reverse]; exact hm
  have e : ps.reverse[m] = u' := by rw [List.getElem?_eq_getElem hl] at hu; exact Option.some.inj hu
  rw [List.take_succ_eq_append_getElem hl, List.map_append, e]
  show World.ownsRow _ _ _ _ _ _ (_ ++ [u'.1])
  rw [hu1]
  exact ownsRow_setCell_below hown (a := ⟨W8.heap.size, 2, none⟩) (Nat.lt_succ_self W8.heap.size) _
 below := (h.below.trans (hb.mono (Nat.le_succ _))).setCell (p := ⟨W8.heap.size, 2, none⟩) (Nat.le_refl _) _

theorem BackI.rows {W8 wr : World} {ps : List Gc} {nm : ByteArray} {N : Int} {vo : Option Addr} {vc : Nat} (h : BackI W8 wr ps ps.length nm N vo vc) (hin : ∀ g ∈ ps, GcIn W8 g) {gs : List (List Int)} (hps : ps.map (·.2) = gs) : NcIn wr ⟨⟨nm, N, gs.reverse⟩, vo, ps.length, vc⟩ := by
 have ho := owns_seq h.own
 have hl : ps.reverse.take ps.length = ps.reverse := List.take_of_length_le (by rw [List.length_reverse]; exact Nat.le_refl _)
 rw [hl] at ho
 have h2 := rowsS_of_seq (ps := ps.reverse) (v := .slice vo ps.length vc) (W := wr) (by rw [List.length_reverse]; exact ho) (fun g hg => (hin g (List.mem_reverse.1 hg)).below h.below (Nat.le_refl _))
 rw [List.map_reverse, hps] at h2
 exact h2

theorem BackI.rows' {W8 wr : World} {ps : List Gc} {m : Nat} {nm : ByteArray} {N : Int} {vo : Option Addr} {vc : Nat} (h : BackI W8 wr ps m nm N vo vc) (hm : ps.length = m) (hin : ∀ g ∈ ps, GcIn W8 g) {gs : List (List Int)} (hps : ps.map (·.2) = gs) : NcIn wr ⟨⟨nm, N, gs.reverse⟩, vo, m, vc⟩ := by
 subst hm
 exact h.rows hin hps

end Go.Proofs.YtjdnhdcaifogmaaGreatDoor

/- The reference's Apply: lists that grow by one; what it answers. -/
namespace Go.Proofs.YtjdnhdcaifogmaaGreatDoor
open Go.RowKit

def RefRes (w : World) (r : Nat × List Nmd) (e : Ending) (w' : World) : Prop :=
 ((r.1 ≠ 0 ∧ e = .returned (.tuple #[.slice none 0 0, .int .i64 (r.1 : Int)])) ∨ (r.1 = 0 ∧ ∃ u qs, e = .returned (.tuple #[u, .int .i64 0]) ∧ qs.map (·.x) = r.2 ∧ CatN w' u qs)) ∧ Below w.heap.size w w'

end Go.Proofs.YtjdnhdcaifogmaaGreatDoor

/- A text's rest, where no numbers are. -/
namespace Go.Proofs.YtjdnhdcaifogmaaGreatDoor
open Go.RowKit

def Code.tail : Code → Code
 | .seq _ b => b
 | c => c

end Go.Proofs.YtjdnhdcaifogmaaGreatDoor

/- The reference's Apply, at its end: the lattice has these generators. -/
namespace Go.Proofs.YtjdnhdcaifogmaaGreatDoor
open Go.RowKit

end Go.Proofs.YtjdnhdcaifogmaaGreatDoor

/- The reference's Apply: behind the generators' loop. -/
namespace Go.Proofs.YtjdnhdcaifogmaaGreatDoor
open Go.RowKit

end Go.Proofs.YtjdnhdcaifogmaaGreatDoor

/- The reference's Apply: the generators' loop. -/
namespace Go.Proofs.YtjdnhdcaifogmaaGreatDoor
open Go.RowKit

def outL (ps : List Gc) (I k : Nat) : List Gc := if k ≤ I then ps.take k else ps.take I ++ (ps.take k).drop (I + 1)

end Go.Proofs.YtjdnhdcaifogmaaGreatDoor

/- The reference's Apply: a lattice that is there, or isn't. -/
namespace Go.Proofs.YtjdnhdcaifogmaaGreatDoor
open Go.RowKit

end Go.Proofs.YtjdnhdcaifogmaaGreatDoor

/- The reference's Apply: a lattice is created. -/
namespace Go.Proofs.YtjdnhdcaifogmaaGreatDoor
open Go.RowKit

def insL (qs : List Nc) (P : Nat) (q : Nc) (k : Nat) : List Nc := if P < k then qs.take P ++ (q :: (qs.take k).drop P) else qs.take k

end Go.Proofs.YtjdnhdcaifogmaaGreatDoor

/- The reference's Apply, whole. -/
namespace Go.Proofs.YtjdnhdcaifogmaaGreatDoor
open Go.RowKit

end Go.Proofs.YtjdnhdcaifogmaaGreatDoor

/- The reference's words of a text: the pieces between a byte. -/
namespace Go.Proofs.YtjdnhdcaifogmaaGreatDoor
open Go.RowKit

def pcs (c : UInt8) : List UInt8 → List (List UInt8)
 | [] => [[]]
 | a :: l => if a = c then [] :: pcs c l else (match pcs c l with
  | [] => [[a]]
  | p :: ps => (a :: p) :: ps)

theorem pcs_ne (c : UInt8) (l : List UInt8) : pcs c l ≠ [] := by
 cases l with
 | nil => simp [pcs]
 | cons a l =>
  unfold pcs
  split
  ·simp
  ·split <;> simp

theorem pcs_plain (c : UInt8) (x : List UInt8) (h : c ∉ x) : pcs c x = [x] := by
 induction x with
 | nil => rfl
 | cons a x ih =>
  have hc : a ≠ c := fun e => h (by rw [e]; exact List.mem_cons_self)
  rw [pcs, if_neg hc, ih fun h' => h (List.mem_cons_of_mem _ h')]

theorem pcs_cut (c : UInt8) (x r : List UInt8) (h : c ∉ x) : pcs c (x ++ c :: r) = x :: pcs c r := by
 induction x with
 | nil => rw [List.nil_append, pcs, if_pos rfl]
 | cons a x ih =>
  have hc : a ≠ c := fun e => h (by rw [e]; exact List.mem_cons_self)
  rw [List.cons_append, pcs, if_neg hc, ih fun h' => h (List.mem_cons_of_mem _ h')]

theorem pcs_count (c : UInt8) (L : List UInt8) : (pcs c L).length ≤ L.length + 1 := by
 induction L with
 | nil => simp [pcs]
 | cons a l ih =>
  unfold pcs
  split
  ·simp; omega
  ·split
   ·simp
   ·rename_i e; rw [e] at ih; simp at ih ⊢; omega

def WInvC (c : UInt8) (L : List UInt8) (k f : Nat) (ws : List ByteArray) : Prop :=
 f ≤ k ∧ (k ≤ L.length → (pcs c L).map bytesP = ws ++ (pcs c (L.drop f)).map bytesP ∧ c ∉ (L.drop f).take (k - f)) ∧ (k = L.length + 1 → ws = (pcs c L).map bytesP)

theorem WInvC.start (c : UInt8) (L : List UInt8) : WInvC c L 0 0 [] := ⟨Nat.le_refl _, fun _ => ⟨by simp, by simp⟩, fun h => absurd h (by omega)⟩

theorem WInvC.len {c : UInt8} {L : List UInt8} {k f : Nat} {ws : List ByteArray} (h : WInvC c L k f ws) (hk1 : k ≤ L.length + 1) : ws.length ≤ L.length + 1 := by
 have hp := pcs_count c L
 obtain ⟨-, h1, h2⟩ := h
 by_cases hk : k ≤ L.length
 ·have := congrArg List.length (h1 hk).1
  rw [List.length_map, List.length_append] at this
  omega
 ·rw [h2 (by omega), List.length_map]; exact hp

theorem WInvC.last {c : UInt8} {L : List UInt8} {f : Nat} {ws : List ByteArray} (h : WInvC c L L.length f ws) : WInvC c L (L.length + 1) (L.length + 1) (ws ++ [bytesP ((L.drop f).take (L.length - f))]) := by
 obtain ⟨h0, h1, -⟩ := h
 obtain ⟨h2, h3⟩ := h1 (Nat.le_refl _)
 refine ⟨Nat.le_refl _, fun h => absurd h (by omega), fun _ => ?_⟩
 have e : (L.drop f).take (L.length - f) = L.drop f := List.take_of_length_le (by rw [List.length_drop]; exact Nat.le_refl _)
 rw [e] at h3 ⊢
 rw [h2, pcs_plain _ _ h3]
 rfl

def StrsN (w : World) (v : Value) (ss : List ByteArray) : Prop :=
 ∃ ao cap, v = .slice ao ss.length cap ∧ ss.length ≤ cap ∧ (0 < ss.length → ∃ b off, ao = some ⟨b, off, none⟩ ∧ b < w.heap.size ∧ ∀ i s, ss[i]? = some s → w.cell? ⟨b, off + i, none⟩ = some (.string s))

theorem StrsN.below {w w' : World} {v : Value} {ss : List ByteArray} (h : StrsN w v ss) (hb : Below w.heap.size w w') : StrsN w' v ss := by
 obtain ⟨ao, cap, e, hn, h⟩ := h
 refine ⟨ao, cap, e, hn, fun h0 => ?_⟩
 obtain ⟨b, off, e, hlt, h⟩ := h h0
 exact ⟨b, off, e, Nat.lt_of_lt_of_le hlt hb.size, fun i p hp => (hb.cell (p := ⟨b, off + i, none⟩) hlt).trans (h i p hp)⟩

theorem StrsN.at {w : World} {v : Value} {ss : List ByteArray} (h : StrsN w v ss) {k : Nat} {s : ByteArray} (hs : ss[k]? = some s) : ∃ b off cap, v = .slice (some ⟨b, off, none⟩) ss.length cap ∧ b < w.heap.size ∧ w.cell? ⟨b, off + k, none⟩ = some (.string s) := by
 obtain ⟨ao, cap, rfl, -, hh⟩ := h
 obtain ⟨b, off, rfl, hlt, hc⟩ := hh (by have := (List.getElem?_eq_some_iff.1 hs).1; omega)
 exact ⟨b, off, cap, rfl, hlt, hc k s hs⟩

end Go.Proofs.YtjdnhdcaifogmaaGreatDoor

/- The leaves: one limb, its sums, orders. Conditions: the slices hold limbs. -/
namespace Go.Proofs.YtjdnhdcaifogmaaGreatDoor
open Go.RowKit Limbs

def Lim (w : World) (v : Value) (zs : List Int) : Prop :=
 ∃ ao cap, v = .slice ao zs.length cap ∧ zs.length ≤ cap ∧ zs.length ≤ 1000000 ∧ LB zs ∧
  (0 < zs.length → ∃ b off, ao = some ⟨b, off, none⟩ ∧ b < w.heap.size ∧ ∀ i, i < zs.length → w.cell? ⟨b, off + i, none⟩ = some (.int .u32 (zs.getD i 0)))

theorem Lim.below {B : Nat} {w w' : World} {v : Value} {zs : List Int} (h : Lim w v zs) (hb : Below B w w') (hB : w.heap.size ≤ B) : Lim w' v zs := by
 obtain ⟨ao, cap, hv, h1, h2, h3, h4⟩ := h
 refine ⟨ao, cap, hv, h1, h2, h3, fun h0 => ?_⟩
 obtain ⟨b, off, e, hlt, hc⟩ := h4 h0
 exact ⟨b, off, e, Nat.lt_of_lt_of_le hlt hb.size, fun i hi => (hb.cell (p := ⟨b, off + i, none⟩) (Nat.lt_of_lt_of_le hlt hB)).trans (hc i hi)⟩

def cmpI (a b : Int) : Int := if a < b then -1 else if b < a then 1 else 0

def bor (x y : Int) : Int := if x < y then 1 else 0

end Go.Proofs.YtjdnhdcaifogmaaGreatDoor

/- Limbs without noughts behind; the order of limbs. -/
namespace Go.Proofs.YtjdnhdcaifogmaaGreatDoor
open Go.RowKit Limbs

def lenOf : Value → Nat | .slice _ n _ => n | _ => 0

theorem Lim.take {w : World} {ao : Option Addr} {cap : Nat} {zs : List Int} (h : Lim w (.slice ao zs.length cap) zs) (n : Nat) (hn : n ≤ zs.length) : Lim w (.slice ao n cap) (zs.take n) := by
 obtain ⟨ao', cap', hv, h1, h2, h3, h4⟩ := h
 simp only [Value.slice.injEq, true_and] at hv
 obtain ⟨rfl, rfl⟩ := hv
 have hl : (zs.take n).length = n := by rw [List.length_take]; omega
 refine ⟨ao, cap, by rw [hl], by omega, by omega, LB_take h3 n, fun h0 => ?_⟩
 obtain ⟨b, off, e, hlt, hc⟩ := h4 (by omega)
 refine ⟨b, off, e, hlt, fun i hi => ?_⟩
 rw [hc i (by omega), getD_take zs n i (by omega)]

def TrimPost (w : World) (ao : Option Addr) (cap : Nat) (zs : List Int) (e : Ending) (w' : World) : Prop :=
 ∃ m, m ≤ zs.length ∧ e = .returned (.slice ao m cap) ∧ lv (zs.take m) = lv zs ∧ Nrm (zs.take m) ∧ w' = w

theorem cmpI_lt {a b : Int} (h : a < b) : cmpI a b = -1 := by unfold cmpI; rw [if_pos h]
theorem cmpI_gt {a b : Int} (h : b < a) : cmpI a b = 1 := by unfold cmpI; rw [if_neg (by omega), if_pos h]
theorem cmpI_eq {a b : Int} (h : a = b) : cmpI a b = 0 := by unfold cmpI; rw [if_neg (by omega), if_neg (by omega)]

def CmpPost (w : World) (r : Int) (e : Ending) (w' : World) : Prop := e = .returned (.int .i64 r) ∧ Below w.heap.size w w'

theorem below_drewN {B : Nat} {w w' : World} (h : Below B w w') (n : Nat) : Below B w (w'.drewN n) := ⟨h.os, h.tape, h.output, h.size, h.block⟩

end Go.Proofs.YtjdnhdcaifogmaaGreatDoor

/- Sums and differences of limbs. -/
namespace Go.Proofs.YtjdnhdcaifogmaaGreatDoor
open Go.RowKit Limbs

def Row (w : World) (g : Nat) (zs : List Int) : Prop :=
 g < w.heap.size ∧ LB zs ∧ ∀ j, j < zs.length → w.cell? ⟨g, j, none⟩ = some (.int .u32 (zs.getD j 0)) ∧ w.frozen? ⟨g, j, none⟩ = false

theorem Row.made (w : World) (m : Nat) : Row (w.alloc (.cells (madeCells #[.int .u32 0] m) 143)) w.heap.size (List.replicate m 0) := by
 refine ⟨by simp, LB_replicate m, fun j hj => ⟨?_, World.frozen?_alloc_new _ _ _ _⟩⟩
 rw [List.length_replicate] at hj
 rw [World.cell?_alloc_new]
 simp [madeCells, hj, Nat.mod_one, List.getD_eq_getElem?_getD]

theorem Row.store {w : World} {g : Nat} {zs : List Int} (h : Row w g zs) {k : Nat} (hk : k < zs.length) {z : Int} (hz : 0 ≤ z ∧ z < 4294967296) : Row (w.setCell ⟨g, k, none⟩ (.int .u32 z)) g (zs.set k z) := by
 obtain ⟨h1, h2, h3⟩ := h
 refine ⟨by simpa [World.setCell] using h1, LB_set h2 k hz, fun j hj => ?_⟩
 rw [List.length_set] at hj
 obtain ⟨c1, c2⟩ := h3 j hj
 obtain ⟨c3, c4⟩ := h3 k hk
 rw [World.frozen?_setCell, getD_set zs k j z hk]
 refine ⟨?_, c2⟩
 by_cases e : j = k
 ·subst e
  rw [if_pos rfl]
  exact World.cell?_setCell_same (h := c3) ..
 ·rw [if_neg e, ← c1]
  exact World.cell?_setCell_other (h := fun h => e (congrArg Addr.off h).symm) ..

theorem Row.lim {w : World} {g : Nat} {zs : List Int} (h : Row w g zs) (cap : Nat) (hc : zs.length ≤ cap) (hl : zs.length ≤ 1000000) : Lim w (.slice (some ⟨g, 0, none⟩) zs.length cap) zs := by
 obtain ⟨h1, h2, h3⟩ := h
 exact ⟨_, cap, rfl, hc, hl, h2, fun _ => ⟨g, 0, rfl, h1, fun i hi => by rw [Nat.zero_add]; exact (h3 i hi).1⟩⟩

def LimPost (w : World) (z : Int) (n : Nat) (e : Ending) (w' : World) : Prop :=
 ∃ v zs, e = .returned v ∧ Lim w' v zs ∧ lv zs = z ∧ zs.length ≤ n ∧ Below w.heap.size w w'

def AddInv (w wr : World) (a b : List Int) (m k : Nat) (cy : Int) (zs : List Int) : Prop :=
 zs.length = m ∧ Row wr w.heap.size zs ∧ Below w.heap.size w wr ∧ lv (zs.take k) + bp k * cy = lv (a.take k) + lv (b.take k)

theorem AddInv.start (w : World) (a b : List Int) (m : Nat) : AddInv w (w.alloc (.cells (madeCells #[.int .u32 0] m) 143)) a b m 0 0 (List.replicate m 0) :=
 ⟨List.length_replicate, Row.made w m, (Below.refl _ _).alloc (Nat.le_refl _) _, by simp [lv]⟩

theorem AddInv.step {w wr : World} {a b : List Int} {m k : Nat} {cy : Int} {zs : List Int} (h : AddInv w wr a b m k cy zs) (hk : k < m) :
  AddInv w (wr.setCell ⟨w.heap.size, k, none⟩ (.int .u32 ((a.getD k 0 + b.getD k 0 + cy) % 4294967296))) a b m (k + 1) ((a.getD k 0 + b.getD k 0 + cy) / 4294967296) (zs.set k ((a.getD k 0 + b.getD k 0 + cy) % 4294967296)) := by
 obtain ⟨h1, h2, h3, h4⟩ := h
 refine ⟨by rw [List.length_set]; exact h1, h2.store (by omega) (by omega), h3.setCell (Nat.le_refl _) _, ?_⟩
 rw [lv_take_succ, lv_take_succ, lv_take_succ, take_set_ge _ _ _ _ (Nat.le_refl _), getD_set _ _ _ _ (by omega), if_pos rfl]
 have e : bp k * ((a.getD k 0 + b.getD k 0 + cy) % 4294967296 + 4294967296 * ((a.getD k 0 + b.getD k 0 + cy) / 4294967296)) = bp k * (a.getD k 0 + b.getD k 0 + cy) := by rw [Int.emod_add_mul_ediv]
 generalize (a.getD k 0 + b.getD k 0 + cy) % 4294967296 = s at *
 generalize (a.getD k 0 + b.getD k 0 + cy) / 4294967296 = c at *
 rw [Int.mul_add, Int.mul_add, Int.mul_add] at e
 have e2 : bp (k + 1) * c = bp k * (4294967296 * c) := by simp only [bp]; rw [Int.mul_comm 4294967296 (bp k), Int.mul_assoc]
 rw [e2]
 omega

theorem AddInv.done {w wr : World} {a b : List Int} {m : Nat} {cy : Int} {zs : List Int} (h : AddInv w wr a b m m cy zs) (hc : 0 ≤ cy ∧ cy ≤ 1) (ha : LB a) (hb : LB b) (la : a.length < m) (lb : b.length < m) : lv zs = lv a + lv b := by
 obtain ⟨h1, h2, h3, h4⟩ := h
 rw [lv_take_ge zs (by omega), lv_take_ge a (by omega), lv_take_ge b (by omega)] at h4
 have e1 := lv_lt ha
 have e2 := lv_lt hb
 have e3 : bp a.length ≤ bp (m - 1) := bp_mono (by omega)
 have e4 : bp b.length ≤ bp (m - 1) := bp_mono (by omega)
 have e5 : bp m = 4294967296 * bp (m - 1) := by rw [← Nat.sub_add_cancel (show 1 ≤ m by omega)]; rfl
 have e6 := lv_nonneg h2.2.1
 have e7 := bp_pos (m - 1)
 rcases (by omega : cy = 0 ∨ cy = 1) with rfl | rfl
 ·omega
 ·omega

def SubInv (w wr : World) (a b : List Int) (m k : Nat) (bw : Int) (zs : List Int) : Prop :=
 zs.length = m ∧ Row wr w.heap.size zs ∧ Below w.heap.size w wr ∧ lv (zs.take k) - bp k * bw = lv (a.take k) - lv (b.take k)

theorem SubInv.start (w : World) (a b : List Int) (m : Nat) : SubInv w (w.alloc (.cells (madeCells #[.int .u32 0] m) 143)) a b m 0 0 (List.replicate m 0) :=
 ⟨List.length_replicate, Row.made w m, (Below.refl _ _).alloc (Nat.le_refl _) _, by simp [lv]⟩

theorem Row.drew {w : World} {g : Nat} {zs : List Int} (h : Row w g zs) : Row w.drew g zs := h

theorem SubInv.drew {w wr : World} {a b : List Int} {m k : Nat} {cy : Int} {zs : List Int} (h : SubInv w wr a b m k cy zs) : SubInv w wr.drew a b m k cy zs :=
 ⟨h.1, h.2.1.drew, h.2.2.1.drew, h.2.2.2⟩

theorem bor_eq (x y c : Int) (hx : 0 ≤ x ∧ x < 4294967296) (hy : 0 ≤ y ∧ y < 4294967296) (hc : 0 ≤ c ∧ c ≤ 1) : (x - y - c) % 4294967296 - 4294967296 * bor x (y + c) = x - y - c := by
 unfold bor; split <;> omega

theorem SubInv.step {w wr : World} {a b : List Int} {m k : Nat} {cy : Int} {zs : List Int} (h : SubInv w wr a b m k cy zs) (hk : k < m) (hc : 0 ≤ cy ∧ cy ≤ 1) (ha : LB a) (hb : LB b) :
  SubInv w (wr.setCell ⟨w.heap.size, k, none⟩ (.int .u32 ((a.getD k 0 - b.getD k 0 - cy) % 4294967296))) a b m (k + 1) (bor (a.getD k 0) (b.getD k 0 + cy)) (zs.set k ((a.getD k 0 - b.getD k 0 - cy) % 4294967296)) := by
 obtain ⟨h1, h2, h3, h4⟩ := h
 refine ⟨by rw [List.length_set]; exact h1, h2.store (by omega) (by omega), h3.setCell (Nat.le_refl _) _, ?_⟩
 rw [lv_take_succ, lv_take_succ, lv_take_succ, take_set_ge _ _ _ _ (Nat.le_refl _), getD_set _ _ _ _ (by omega), if_pos rfl]
 have e : bp k * ((a.getD k 0 - b.getD k 0 - cy) % 4294967296 - 4294967296 * bor (a.getD k 0) (b.getD k 0 + cy)) = bp k * (a.getD k 0 - b.getD k 0 - cy) := by rw [bor_eq _ _ _ (ha k) (hb k) hc]
 generalize (a.getD k 0 - b.getD k 0 - cy) % 4294967296 = s at *
 generalize bor (a.getD k 0) (b.getD k 0 + cy) = c at *
 rw [Int.mul_sub, Int.mul_sub, Int.mul_sub] at e
 have e2 : bp (k + 1) * c = bp k * (4294967296 * c) := by simp only [bp]; rw [Int.mul_comm 4294967296 (bp k), Int.mul_assoc]
 rw [e2]
 omega

theorem SubInv.done {w wr : World} {a b : List Int} {m : Nat} {cy : Int} {zs : List Int} (h : SubInv w wr a b m m cy zs) (hc : 0 ≤ cy ∧ cy ≤ 1) (la : a.length = m) (lb : b.length ≤ m) (hle : lv b ≤ lv a) : lv zs = lv a - lv b := by
 obtain ⟨h1, h2, h3, h4⟩ := h
 rw [lv_take_ge zs (by omega), lv_take_ge a (by omega), lv_take_ge b (by omega)] at h4
 have e1 := lv_lt h2.2.1
 rw [h1] at e1
 rcases (by omega : cy = 0 ∨ cy = 1) with rfl | rfl
 ·omega
 ·omega

end Go.Proofs.YtjdnhdcaifogmaaGreatDoor

/- Products of limbs. -/
namespace Go.Proofs.YtjdnhdcaifogmaaGreatDoor
open Go.RowKit Limbs

def MulInv (w wr : World) (a b : List Int) (i j : Nat) (cy : Int) (zs : List Int) : Prop :=
 zs.length = a.length + b.length ∧ Row wr w.heap.size zs ∧ Below w.heap.size w wr ∧
  lv zs + bp (i + j) * cy = lv (a.take i) * lv b + bp i * (a.getD i 0 * lv (b.take j)) ∧ ∀ t, i + b.length ≤ t → zs.getD t 0 = 0

def MulOut (w wr : World) (a b : List Int) (i : Nat) (zs : List Int) : Prop :=
 zs.length = a.length + b.length ∧ Row wr w.heap.size zs ∧ Below w.heap.size w wr ∧
  lv zs = lv (a.take i) * lv b ∧ ∀ t, i + b.length ≤ t → zs.getD t 0 = 0

theorem getD_replicate (n t : Nat) : (List.replicate n (0 : Int)).getD t 0 = 0 := by
 rw [List.getD_eq_getElem?_getD]
 by_cases h : t < n
 ·simp [h]
 ·simp [h]

theorem MulOut.start (w : World) (a b : List Int) : MulOut w (w.alloc (.cells (madeCells #[.int .u32 0] (a.length + b.length)) 143)) a b 0 (List.replicate (a.length + b.length) 0) :=
 ⟨List.length_replicate, Row.made w _, (Below.refl _ _).alloc (Nat.le_refl _) _, by simp [lv, lv_replicate], fun _ _ => getD_replicate _ _⟩

theorem MulOut.inner {w wr : World} {a b : List Int} {i : Nat} {zs : List Int} (h : MulOut w wr a b i zs) : MulInv w wr a b i 0 0 zs := by
 obtain ⟨h1, h2, h3, h4, h5⟩ := h
 exact ⟨h1, h2, h3, by simp [lv, h4], h5⟩

theorem MulInv.drewN {w wr : World} {a b : List Int} {i j : Nat} {cy : Int} {zs : List Int} (h : MulInv w wr a b i j cy zs) (n : Nat) : MulInv w (wr.drewN n) a b i j cy zs := by
 obtain ⟨h1, h2, h3, h4, h5⟩ := h
 exact ⟨h1, h2, below_drewN h3 n, h4, h5⟩

theorem MulInv.step {w wr : World} {a b : List Int} {i j : Nat} {cy : Int} {zs : List Int} (h : MulInv w wr a b i j cy zs) (hi : i < a.length) (hj : j < b.length) {T : Int} (hT : T = cy + (a.getD i 0 * b.getD j 0 + zs.getD (i + j) 0)) :
  MulInv w (wr.setCell ⟨w.heap.size, i + j, none⟩ (.int .u32 (T % 4294967296))) a b i (j + 1) (T / 4294967296) (zs.set (i + j) (T % 4294967296)) := by
 obtain ⟨h1, h2, h3, h4, h5⟩ := h
 refine ⟨by rw [List.length_set]; exact h1, h2.store (by omega) (by omega), h3.setCell (Nat.le_refl _) _, ?_, fun t ht => ?_⟩
 ·rw [lv_set _ _ _ (by omega), lv_take_succ]
  have e : bp (i + j) * (T % 4294967296 + 4294967296 * (T / 4294967296)) = bp (i + j) * T := by rw [Int.emod_add_mul_ediv]
  have e2 : bp (i + (j + 1)) * (T / 4294967296) = bp (i + j) * (4294967296 * (T / 4294967296)) := by rw [← Nat.add_assoc]; simp only [bp]; rw [Int.mul_comm 4294967296 (bp (i + j)), Int.mul_assoc]
  have e3 : bp (i + j) * (a.getD i 0 * b.getD j 0) = bp i * (a.getD i 0 * (bp j * b.getD j 0)) := by
   rw [bp_add, Int.mul_assoc, Int.mul_left_comm (bp j)]
  rw [e2, Int.mul_sub]
  rw [Int.mul_add] at e
  rw [hT, Int.mul_add, Int.mul_add] at e
  rw [← hT] at e
  rw [Int.mul_add, Int.mul_add]
  omega
 ·rw [getD_set _ _ _ _ (by omega), if_neg (by omega)]
  exact h5 t ht

theorem MulInv.done {w wr : World} {a b : List Int} {i : Nat} {cy : Int} {zs : List Int} (h : MulInv w wr a b i b.length cy zs) (hi : i < a.length) (hc : 0 ≤ cy ∧ cy < 4294967296) :
  MulOut w (wr.setCell ⟨w.heap.size, i + b.length, none⟩ (.int .u32 cy)) a b (i + 1) (zs.set (i + b.length) cy) := by
 obtain ⟨h1, h2, h3, h4, h5⟩ := h
 refine ⟨by rw [List.length_set]; exact h1, h2.store (by omega) hc, h3.setCell (Nat.le_refl _) _, ?_, fun t ht => ?_⟩
 ·rw [lv_set _ _ _ (by omega), lv_take_succ, h5 _ (Nat.le_refl _), Int.sub_zero, h4, List.take_length, Int.add_mul, Int.mul_assoc]
 ·rw [getD_set _ _ _ _ (by omega), if_neg (by omega)]
  exact h5 t (by omega)

end Go.Proofs.YtjdnhdcaifogmaaGreatDoor

/- Numbers: what is made of limbs and a sign. -/
namespace Go.Proofs.YtjdnhdcaifogmaaGreatDoor
open Go.RowKit Limbs

def NumL (w : World) (v : Value) (z : Int) (n : Nat) : Prop :=
 ∃ neg s zs, v = .agg #[.bool neg, s] ∧ Lim w s zs ∧ Nrm zs ∧ (zs.length = 0 → neg = false) ∧ z = (if neg = true then - lv zs else lv zs) ∧ zs.length ≤ n

def NumPost (w : World) (z : Int) (n : Nat) (e : Ending) (w' : World) : Prop :=
 ∃ r, e = .returned r ∧ NumL w' r z n ∧ Below w.heap.size w w'

theorem NumL.below {B : Nat} {w w' : World} {v : Value} {z : Int} {n : Nat} (h : NumL w v z n) (hb : Below B w w') (hB : w.heap.size ≤ B) : NumL w' v z n := by
 obtain ⟨neg, s, zs, h1, h2, h3⟩ := h
 exact ⟨neg, s, zs, h1, h2.below hb hB, h3⟩

theorem NumL.mono {w : World} {v : Value} {z : Int} {n m : Nat} (h : NumL w v z n) (hm : n ≤ m) : NumL w v z m := by
 obtain ⟨neg, s, zs, h1, h2, h3, h4, h5, h6⟩ := h
 exact ⟨neg, s, zs, h1, h2, h3, h4, h5, Nat.le_trans h6 hm⟩

def NewSl (w : World) (s : Value) : Prop := ∀ a l c, s = .slice (some a) l c → w.heap.size ≤ a.block

def IntPost (w : World) (x : Int) (n : Nat) (e : Ending) (w' : World) : Prop := NumPost w x n e w' ∧ ∀ neg s, e = .returned (.agg #[.bool neg, s]) → NewSl w s

theorem NumPost.below {w w0 : World} {z : Int} {n : Nat} {e : Ending} {w' : World} (h : NumPost w z n e w') (hb : Below w0.heap.size w0 w) : NumPost w0 z n e w' := by
 obtain ⟨r, h1, h2, h3⟩ := h
 exact ⟨r, h1, h2, hb.trans (h3.mono hb.size)⟩

def sg (neg : Bool) (z : Int) : Int := if neg = true then - z else z

theorem Lim.setCell {w : World} {v : Value} {zs : List Int} (h : Lim w v zs) {p : Addr} {u x : Value} (hp : w.cell? p = some u) (hu : ∀ z, u ≠ .int .u32 z) : Lim (w.setCell p x) v zs := by
 obtain ⟨ao, cap, hv, h1, h2, h3, h4⟩ := h
 refine ⟨ao, cap, hv, h1, h2, h3, fun h0 => ?_⟩
 obtain ⟨b, off, e, hlt, hc⟩ := h4 h0
 refine ⟨b, off, e, by simpa using hlt, fun i hi => ?_⟩
 have hci := hc i hi
 refine Eq.trans (World.cell?_setCell_other (h := fun e => ?_) ..) hci
 rw [e, hci] at hp
 exact hu _ (Option.some.inj hp).symm

theorem NumL.setCell {w : World} {v : Value} {z : Int} {n : Nat} (h : NumL w v z n) {p : Addr} {u x : Value} (hp : w.cell? p = some u) (hu : ∀ z, u ≠ .int .u32 z) : NumL (w.setCell p x) v z n := by
 obtain ⟨neg, s, zs, h1, h2, h3⟩ := h
 exact ⟨neg, s, zs, h1, h2.setCell hp hu, h3⟩

def Box (w : World) (B : Nat) (u0 u1 : Value) : Prop :=
 w.cell? ⟨B, 0, none⟩ = some u0 ∧ w.cell? ⟨B, 1, none⟩ = some u1 ∧ w.frozen? ⟨B, 0, none⟩ = false ∧ w.frozen? ⟨B, 1, none⟩ = false

theorem box_new (W : World) (u0 u1 : Value) (t : TypeId) (B : Nat) (hB : B = W.heap.size) : Box (W.alloc (.cells #[u0, u1] t)) B u0 u1 := by
 subst hB; simp [Box]

theorem Box.later {W w1 : World} {B C : Nat} {u0 u1 : Value} (h : Box W B u0 u1) (hb : Below C W w1) (hB : B < C) : Box w1 B u0 u1 := by
 obtain ⟨h1, h2, h3, h4⟩ := h
 exact ⟨(hb.cell (p := ⟨B, 0, none⟩) hB).trans h1, (hb.cell (p := ⟨B, 1, none⟩) hB).trans h2, (hb.frozen (p := ⟨B, 0, none⟩) hB).trans h3, (hb.frozen (p := ⟨B, 1, none⟩) hB).trans h4⟩

end Go.Proofs.YtjdnhdcaifogmaaGreatDoor
