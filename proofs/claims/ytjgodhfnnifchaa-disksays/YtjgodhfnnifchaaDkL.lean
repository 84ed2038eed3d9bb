/- Laws for operations on values of many cells. -/
import Derived.Test.YtjgodhfnnifchaaDkA
import Derived.Laws.CopyOwn
namespace Go.Proofs.Ytjgodhfnnifchaa
open Go.RowKit

section
variable {P : Program} {w : World} {ops : Array Oper} {rest : List Oper} {op : Oper} {a : Act} {Q : Exit → Act → World → Prop}

/-- A value of many cells is read. -/
theorem wpList_loadA (hgd : op.guard = none) (d : Nat) (hd : op.dst = some d) (x : Operand) (t : TypeId) (ho : op.op = .load t x) (ad : Addr) (v : Value) (hx : a.eval x = .pointer (some ad)) (hrun : (loadVar t ad).run P w = .ok v w)
    (h : wpList P ops Q rest (a.put (some d) v) w) : wpList P ops Q (op :: rest) a w := by
  refine wpList_plain hgd fun K hK => ?_
  rw [← hd] at h
  unfold Oper.wp
  simp [execOp, ho, Instr.loadAt, Instr.sureAddr, hx, hrun]
  exact hK _ _ h

/-- It is written. -/
theorem wpList_storeA (hgd : op.guard = none) (x y : Operand) (t : TypeId) (ho : op.op = .store t x y) (hd : op.dst = none) (ad : Addr) (v : Value) (w' : World) (hx : a.eval x = .pointer (some ad)) (hy : a.eval y = v) (hrun : (storeVar t ad v).run P w = .ok () w')
    (h : wpList P ops Q rest a w') : wpList P ops Q (op :: rest) a w := by
  refine wpList_plain hgd fun K hK => ?_
  unfold Oper.wp
  simp [execOp, ho, Instr.storeAt, Instr.sureAddr, hx, hy, hrun]
  exact hK _ _ (by rw [hd]; exact h)

/-- It is built. -/
theorem wpList_buildA (hgd : op.guard = none) (d : Nat) (hd : op.dst = some d) (t : TypeId) (parts : Array (Nat × Operand)) (ho : op.op = .build t parts) (ps : Array (Nat × Value)) (hp : (parts.map fun (i, x) => (i, a.eval x)) = ps) (v : Value) (hrun : (Instr.build t ps).run P w = .ok v w)
    (h : wpList P ops Q rest (a.put (some d) v) w) : wpList P ops Q (op :: rest) a w := by
  refine wpList_plain hgd fun K hK => ?_
  rw [← hd] at h
  unfold Oper.wp
  simp only [execOp, ho, hp, hrun, Sem.run_bind, Sem.run_pure, Result.andThen_ok]
  exact hK _ _ h

/-- A list of one of these is built. -/
theorem wpList_buildSliceA (hgd : op.guard = none) (d : Nat) (hd : op.dst = some d) (t : TypeId) (x : Operand) (ho : op.op = .buildSlice t 1 #[(0, x)]) (v u : Value) (w' : World) (hx : a.eval x = v) (hrun : (Instr.buildSlice t 1 #[(0, v)]).run P w = .ok u w')
    (h : wpList P ops Q rest (a.put (some d) u) w') : wpList P ops Q (op :: rest) a w := by
  refine wpList_plain hgd fun K hK => ?_
  rw [← hd] at h
  unfold Oper.wp
  simp [execOp, ho, hx, hrun]
  exact hK _ _ h

/-- A variable of one is made. -/
theorem wpList_allocA (hgd : op.guard = none) (d : Nat) (hd : op.dst = some d) (t : TypeId) (ho : op.op = .alloc t) (u : Value) (w' : World) (hrun : (Instr.alloc t true (.tuple #[])).run P w = .ok u w')
    (h : wpList P ops Q rest (a.put (some d) u) w') : wpList P ops Q (op :: rest) a w := by
  refine wpList_plain hgd fun K hK => ?_
  rw [← hd] at h
  unfold Oper.wp
  simp [execOp, ho, hrun]
  exact hK _ _ h
end

theorem add_addr (b o j : Nat) : (⟨b, o, none⟩ : Addr).add j = ⟨b, o + j, none⟩ := by unfold Addr.add; split <;> simp_all

/-- Cells of a struct or an array, read as one. -/
theorem run_loadA {P : Program} (w : World) (t : TypeId) (b o : Nat) (cs : List Value) (desc : TypeDesc) (hu : P.underlying t = some desc) (hd : (match desc with | .struct _ | .array _ _ => true | _ => false) = true) (hi : (P.info? t).map (·.size) = some cs.length)
    (hc : ∀ j v, cs[j]? = some v → w.cell? ⟨b, o + j, none⟩ = some v) : (loadVar t ⟨b, o, none⟩).run P w = .ok (.agg cs.toArray) w := by
  have hl := run_loadCells_list (P := P) w ⟨b, o, none⟩ cs (fun j v hv => by rw [add_addr]; exact hc j v hv)
  cases hq : P.info? t with
  | none => simp [hq] at hi
  | some i =>
    have hs : i.size = cs.length := by simpa [hq] using hi
    have hagg : (isAgg t).run P w = .ok true w := by
      unfold isAgg
      cases desc <;> simp_all [run_underlying]
    simp [loadVar, hagg, sizeOf, typeInfo, hq, hs, hl]

/-- And written as one. -/
theorem run_storeA {P : Program} (w : World) (t : TypeId) (b o : Nat) (cs : List Value) (hi : (P.info? t).map (·.size) = some cs.length) (h1 : ∀ v ∈ cs, v.oneCell' = true)
    (hc : ∀ j, j < cs.length → (w.cell? ⟨b, o + j, none⟩).isSome = true) (hf : ∀ j, j < cs.length → w.frozen? ⟨b, o + j, none⟩ = false) : (storeVar t ⟨b, o, none⟩ (.agg cs.toArray)).run P w = .ok () (w.setCells b o cs) := by
  have hst := run_storeCells_cells (P := P) b o cs 0 w (by simpa using hc) (by simpa using hf) h1
  cases hq : P.info? t with
  | none => simp [hq] at hi
  | some i =>
    have hs : cs.length = i.size := by simp [hq] at hi; omega
    simpa [storeVar, sizeOf, typeInfo, hq, Value.cells, hs] using hst

/-- Cells put one by one over as many. -/
theorem fold_over (cs : List Value) : ∀ (k : Nat) (init : Array Value), k + cs.length ≤ init.size → ((cs.zipIdx k).foldl (fun (x : Array Value) (p : Value × Nat) => x.setIfInBounds (0 + p.2) p.1) init).toList = init.toList.take k ++ cs ++ init.toList.drop (k + cs.length) := by
  induction cs with
  | nil => intro k init _; simp
  | cons c cs ih =>
    intro k init h
    rw [List.length_cons] at h
    rw [List.zipIdx_cons, List.foldl_cons, ih (k + 1) _ (by simp; omega)]
    have e := list_seg_step init.toList k c cs (by simp; omega)
    simpa [Nat.zero_add, Array.toList_setIfInBounds, Nat.add_assoc] using e

theorem run_buildSliceA {P : Program} (w : World) (t e : TypeId) (i : TypeInfo) (z : Value) (cs : List Value) (hu : P.underlying t = some (.slice e)) (hi : P.info? e = some i) (hz : i.zero = some z) (hs : i.size = cs.length) (hzs : z.cells.size = cs.length) (h0 : 0 < cs.length) (h24 : cs.length ≤ 16777216) :
    (Instr.buildSlice t 1 #[(0, .agg cs.toArray)]).run P w = .ok (.slice (some ⟨w.heap.size, 0, none⟩) 1 1) (w.alloc (.cells cs.toArray e)) := by
  have hfill : ∀ Z : Array Value, Z.size = cs.length → Instr.fill (fun k => some (k * cs.length, cs.length)) Z [(0, .agg cs.toArray)] = some cs.toArray := fun Z hZ => by
    have e1 := fold_over cs 0 Z (by omega)
    simp only [List.take_zero, List.nil_append, Nat.zero_add] at e1
    rw [List.drop_of_length_le (by simp [hZ]), List.append_nil] at e1
    have e2 : List.foldl (fun (x : Array Value) (p : Value × Nat) => x.setIfInBounds p.2 p.1) Z cs.zipIdx = cs.toArray := Array.ext' (by simpa using e1)
    simp [Instr.fill, Value.cells, hZ, e2]
  have hf := hfill ((Array.range cs.length).map (z.cells[· % z.cells.size]!)) (by simp)
  have hne : ¬ (cs.length = 0) := by omega
  have h24' : ¬ (16777216 < cs.length) := by omega
  simp only [Instr.buildSlice, run_underlying hu, sizeOf, typeInfo, zeroValue, Sem.run_bind, Sem.run_pure, Result.andThen_ok, Nat.one_mul]
  simp [hne, h24', hi, hz, hs, hf, newRow]

end Go.Proofs.Ytjgodhfnnifchaa
