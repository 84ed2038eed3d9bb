/- Whole numbers that came in, in a row: as they read. -/
import Derived.Test.YtcnllfnikajddaaMeetL
import Derived.Test.YtcnllfnikajddaaTrim
import Derived.Test.YtcnllfnikajddaaTl2
import Derived.Test.YtcnllfnikajddaaBgD
import Derived.Deep.SlicePairs

namespace Go.Proofs.Ytcnllfnikajddaa
open Go.ChangeShapes Go.WideShapes Go.ChangeAt Go.RowKit Go.Joins Limbs

theorem Try.cellsIntS : Try.prog.cellsOf 23 = 1 := by kernel_rfl
theorem Try.cellsInt : Try.prog.cellsOf 3 = 1 := by kernel_rfl

set_option maxRecDepth 100000 in
theorem open_rowS {H : Type} {enc : TypeId × Value → H} {W : World} {n : Nat} {v : Value} {y : DataW H × List MemPlace}
  (h : DataW.trod enc Try.prog W 0 (fun _ => true) true n 23 [v] = some y) : ∃ ks, RowS W v ks := by
 rcases open_ints Try.underlying23 Try.underlying3 Try.cellsInt h with ⟨hcs, _⟩ | ⟨x, l, c, zs, hcs, _, hl, hm, hz, _, hcell, hwz⟩
 ·simp only [List.cons.injEq, and_true] at hcs
  subst hcs
  exact ⟨[], none, 0, rfl, Nat.le_refl _, fun i => by simp, fun h => absurd h (by simp)⟩
 ·simp only [List.cons.injEq, and_true] at hcs
  subst hcs
  have hz' : zs.length = c := by simpa using hz
  have hlen : (zs.take l).length = l := by rw [List.length_take]; omega
  refine ⟨zs.take l, some x, c, by rw [hlen], by rw [hlen]; exact hl, fun i => ?_, fun h0 => ?_⟩
  ·by_cases hi : i < (zs.take l).length
   ·rw [List.getD_eq_getElem?_getD, List.getElem?_eq_getElem hi, Option.getD_some]
    have := hwz _ (List.mem_of_mem_take (List.getElem_mem hi))
    simp [Lit.wf, IntKind.min, IntKind.max, IntKind.signed, IntKind.bits] at this
    rw [List.getElem_take]
    omega
   ·rw [List.getD_eq_getElem?_getD, List.getElem?_eq_none (by omega)]
    simp
  ·obtain ⟨blk, off, spot⟩ := x
   rw [hlen] at h0
   have h00 := hcell 0 (by omega)
   have hspot : spot = none := by simpa [Addr.add] using World.cell?_spot h00
   subst hspot
   refine ⟨blk, off, rfl, World.block_lt_of_cell? W _ h00, fun i hi => ?_⟩
   rw [hlen] at hi
   have := hcell i (by omega)
   rw [getD_take zs l i (by omega)]
   by_cases hi0 : i = 0
   ·subst hi0; simpa [Addr.add] using this
   ·simpa [Addr.add, hi0] using this

end Go.Proofs.Ytcnllfnikajddaa

/- Operations that came in, as they read: all four cells. -/
namespace Go.Proofs.Ytcnllfnikajddaa
open Go.ChangeShapes Go.WideShapes Go.ChangeAt Go.RowKit Go.Joins

theorem Try.cellsOpF : Try.prog.cellsOf 32 = 4 := by kernel_rfl
theorem Try.cellsStrF : Try.prog.cellsOf 9 = 1 := by kernel_rfl

instance : Inhabited OpC := ⟨⟨⟨0, ⟨#[]⟩, 0, []⟩, none, 0⟩⟩

section
variable {H : Type} {enc : TypeId × Value → H} {W : World}

set_option maxRecDepth 100000 in
theorem open_opF {n : Nat} {cs : List Value} {y : DataW H × List MemPlace} (h : DataW.trod enc Try.prog W 0 (fun _ => true) true n 32 cs = some y) :
  ∃ q : OpC, cs[0]? = some (.int .i64 q.o.kind) ∧ cs[1]? = some (.string q.o.name) ∧ cs[2]? = some (.int .i64 q.o.n) ∧ cs[3]? = some q.row ∧ RowS W q.row q.o.v := by
 obtain ⟨xs, k, -, -, hl, hxl, hf⟩ := DataW.trod_struct Try.underlying32 h
 rw [Try.cellsOpF] at hl
 match cs, hl with
 | [v0, v1, v2, v3], _ =>
  match xs, hxl with
  | [x0, x1, x2, x3], _ =>
   have g0 : DataW.trod enc Try.prog W 0 (fun _ => true) true k 3 (([v0, v1, v2, v3].drop 0).take (Try.prog.cellsOf 3)) = [x0, x1, x2, x3][0]? := hf 0 _ rfl
   have g1 : DataW.trod enc Try.prog W 0 (fun _ => true) true k 9 (([v0, v1, v2, v3].drop 1).take (Try.prog.cellsOf 9)) = [x0, x1, x2, x3][1]? := hf 1 _ rfl
   have g2 : DataW.trod enc Try.prog W 0 (fun _ => true) true k 3 (([v0, v1, v2, v3].drop 2).take (Try.prog.cellsOf 3)) = [x0, x1, x2, x3][2]? := hf 2 _ rfl
   have g3 : DataW.trod enc Try.prog W 0 (fun _ => true) true k 23 (([v0, v1, v2, v3].drop 3).take (Try.prog.cellsOf 23)) = [x0, x1, x2, x3][3]? := hf 3 _ rfl
   rw [Try.cellsInt] at g0 g2
   rw [Try.cellsStrF] at g1
   rw [Try.cellsIntS] at g3
   obtain ⟨kd, e0, -, -⟩ := DataW.trod_int Try.underlying3 g0
   obtain ⟨name, e1, -, -⟩ := DataW.trod_string Try.underlying9 g1
   obtain ⟨nn, e2, -, -⟩ := DataW.trod_int Try.underlying3 g2
   obtain ⟨ks, hr⟩ := open_rowS (v := v3) g3
   have e0' : v0 = .int .i64 kd := by simpa using e0
   have e1' : v1 = .string name := by simpa using e1
   have e2' : v2 = .int .i64 nn := by simpa using e2
   obtain ⟨vo, vc, e3'⟩ := RowS.form hr
   subst e0' e1' e2' e3'
   exact ⟨⟨⟨kd, name, nn, ks⟩, vo, vc⟩, rfl, rfl, rfl, rfl, hr⟩

set_option maxRecDepth 100000 in
theorem open_opsN {n : Nat} {v : Value} {y : DataW H × List MemPlace} (h : DataW.trod enc Try.prog W 0 (fun _ => true) true n 22 [v] = some y) : ∃ os, OpsN W v os := by
 rcases Go.Deep.open_slice Try.underlying22 h with ⟨e, -⟩ | ⟨a, l, c, m, n, D, Pl, e, -, hl, hm, hmm, -, hc⟩
 ·have e' : v = .slice none 0 0 := by simpa using e
  exact ⟨[], none, 0, e', by decide, fun h => absurd h (by decide)⟩
 ·have e' : v = .slice (some a) l c := by simpa using e
  have hm' : l ≤ m := by simp at hmm; omega
  have each : ∀ i, i < l → ∃ q : OpC, W.cell? (a.add (i * 4 + 0)) = some (.int .i64 q.o.kind) ∧ W.cell? (a.add (i * 4 + 1)) = some (.string q.o.name) ∧ W.cell? (a.add (i * 4 + 2)) = some (.int .i64 q.o.n) ∧ W.cell? (a.add (i * 4 + 3)) = some q.row ∧ RowS W q.row q.o.v := fun i hi => by
   obtain ⟨cs, h1, h2⟩ := hc i (by omega)
   rw [Try.cellsOpF] at h1
   obtain ⟨-, hlen, hcell⟩ := World.cells?_some h1
   obtain ⟨q, e0, e1, e2, e3, hr⟩ := open_opF h2
   have c0 := hcell 0 (by omega)
   have c1 := hcell 1 (by omega)
   have c2 := hcell 2 (by omega)
   have c3 := hcell 3 (by omega)
   rw [Go.Deep.add_add, e0] at c0
   rw [Go.Deep.add_add, e1] at c1
   rw [Go.Deep.add_add, e2] at c2
   rw [Go.Deep.add_add, e3] at c3
   exact ⟨q, c0, c1, c2, c3, hr⟩
  obtain ⟨q, hq⟩ := Go.Deep.choose_lt each
  have hlen : ((List.range l).map q).length = l := by simp
  refine ⟨(List.range l).map q, some a, c, by rw [hlen]; exact e', by rw [hlen]; exact hl, fun h0 => ?_⟩
  rw [hlen] at h0
  obtain ⟨k0, -⟩ := hq 0 h0
  obtain ⟨blk, off, spot⟩ := a
  have hsp : spot = none := by simpa [Addr.add] using World.cell?_spot k0
  subst hsp
  refine ⟨blk, off, rfl, by simpa [Addr.add] using World.block_lt_of_cell? W _ k0, fun i r hi => ?_⟩
  obtain ⟨hi', e⟩ := List.getElem?_eq_some_iff.1 hi
  rw [hlen] at hi'
  have e2 : r = q i := by simpa using e.symm
  obtain ⟨c0, c1, c2, c3, hr⟩ := hq i hi'
  rw [Go.WideShapes.add_plain] at c0 c1 c2 c3
  rw [e2]
  refine ⟨by simpa using c0, ?_, ?_, ?_, hr⟩
  ·rw [Nat.add_assoc]; exact c1
  ·rw [Nat.add_assoc]; exact c2
  ·rw [Nat.add_assoc]; exact c3

set_option maxRecDepth 100000 in
theorem open_opsV {r : Reach} {b0 : Nat} {v : Value} {d : DataW H} {p : List MemPlace} (hv : Value.okWide Try.prog W r b0 22 v) (h : DataW.Trod enc Try.prog W 0 (fun _ => true) true 22 v d p) : ∃ os, OpsN W v os := by
 obtain ⟨a0, len, cap, rfl⟩ := okWide_slice Try.underlying22 hv
 obtain ⟨fuel, hf⟩ := h
 exact open_opsN (v := .slice a0 len cap) hf

set_option maxRecDepth 100000 in
theorem open_rowV {r : Reach} {b0 : Nat} {v : Value} {d : DataW H} {p : List MemPlace} (hv : Value.okWide Try.prog W r b0 23 v) (h : DataW.Trod enc Try.prog W 0 (fun _ => true) true 23 v d p) : ∃ ks, RowS W v ks := by
 obtain ⟨a0, len, cap, rfl⟩ := okWide_slice Try.underlying23 hv
 obtain ⟨fuel, hf⟩ := h
 exact open_rowS (v := .slice a0 len cap) hf

end

end Go.Proofs.Ytcnllfnikajddaa
