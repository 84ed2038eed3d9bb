/- A disk: a sector is read. -/
import Derived.Test.YtnhbfehfipafoaaGreatDoorDkB
import Derived.Laws.IdiomStrings
import Derived.Laws.CopyOwn

namespace Go.Proofs.YtnhbfehfipafoaaGreatDoor
open Go.RowKit

theorem scells_len {s : Sec} (h : s.ok) (v : Value) : (scells s v).length = 65 := by
 simp [scells, h.1]

theorem dcells_at : ∀ (ss : List Sec) (vs : List Value), (∀ s ∈ ss, s.ok) → ∀ (i : Nat) (s : Sec) (v : Value), ss[i]? = some s → vs[i]? = some v → ∀ j, j < 65 → (dcells ss vs)[i * 65 + j]? = (scells s v)[j]?
 | [], _, _, i, s, v, hs, _, _, _ => by simp at hs
 | _ :: _, [], _, i, s, v, _, hv, _, _ => by simp at hv
 | s0 :: ss, v0 :: vs, hok, 0, s, v, hs, hv, j, hj => by
  have e1 : s0 = s := by simpa using hs
  have e2 : v0 = v := by simpa using hv
  subst e1 e2
  have hl := scells_len (hok s0 (by simp)) v0
  rw [dcells, Nat.zero_mul, Nat.zero_add, List.getElem?_append_left (by omega)]
 | s0 :: ss, v0 :: vs, hok, i + 1, s, v, hs, hv, j, hj => by
  have hl := scells_len (hok s0 (by simp)) v0
  rw [dcells, List.getElem?_append_right (by omega), hl, show (i + 1) * 65 + j - 65 = i * 65 + j by omega]
  exact dcells_at ss vs (fun s hs => hok s (by simp [hs])) i s v (by simpa using hs) (by simpa using hv) j hj

theorem owns_cell {W : World} {base : Nat} {e : TypeId} {size : Nat} {g n cap : Nat} {xs : List Value} (h : W.ownsRow base e size (.slice (some ⟨g, 0, none⟩) n cap) n xs) (k : Nat) (u : Value) (hu : xs[k]? = some u) : W.cell? ⟨g, k, none⟩ = some u := by
 rcases h.2 with ⟨e, -⟩ | ⟨g', cap', cur, e, -, hh, -, -, -, ht⟩
 ·simp at e
 ·simp only [Value.slice.injEq, Option.some.injEq, Addr.mk.injEq, and_true, true_and] at e
  obtain ⟨rfl, rfl⟩ := e
  rw [cell_of_row W g k _ _ _ hh, ← Array.getElem?_toList]
  rw [← ht] at hu
  rw [List.getElem?_take] at hu
  split at hu
  ·exact hu
  ·cases hu

theorem owns_thaw {W : World} {base : Nat} {e : TypeId} {size : Nat} {g n cap : Nat} {xs : List Value} (h : W.ownsRow base e size (.slice (some ⟨g, 0, none⟩) n cap) n xs) (k : Nat) : W.frozen? ⟨g, k, none⟩ = false := by
 rcases h.2 with ⟨e, -⟩ | ⟨g', cap', cur, e, -, hh, -⟩
 ·simp at e
 ·simp only [Value.slice.injEq, Option.some.injEq, Addr.mk.injEq, and_true, true_and] at e
  obtain ⟨rfl, rfl⟩ := e
  simp [World.frozen?, hh]

theorem DiskM.sec {W : World} {base : Own} {B : Nat} {D : Dsk} {g cap : Nat} {ls : List Value} (h : DiskM W base B D (.slice (some ⟨g, 0, none⟩) D.secs.length cap) ls) (i : Nat) (hi : i < D.secs.length) :
  ∃ v, ls[i]? = some v ∧ W.cell? ⟨g, i * 65 + 64, none⟩ = some v ∧ (∀ j (hj : j < D.secs[i].kept.length), W.cell? ⟨g, i * 65 + j, none⟩ = some (byteC D.secs[i].kept[j])) ∧ W.ownsRow 0 144 65 v D.secs[i].loose.length (D.secs[i].loose.flatMap wcells) := by
 have hs : D.secs[i]? = some D.secs[i] := List.getElem?_eq_getElem hi
 have hv : ls[i]? = some (ls[i]'(by rw [h.len]; exact hi)) := List.getElem?_eq_getElem _
 have hok := h.ok D.secs[i] (List.getElem_mem hi)
 refine ⟨_, hv, ?_, fun j hj => ?_, h.loose i _ _ hs hv⟩
 ·refine owns_cell h.own _ _ ?_
  rw [dcells_at _ _ h.ok i _ _ hs hv 64 (by omega)]
  unfold scells
  rw [List.getElem?_append_right (by simp [hok.1])]
  simp [hok.1]
 ·refine owns_cell h.own _ _ ?_
  rw [dcells_at _ _ h.ok i _ _ hs hv j (by have := hok.1; omega)]
  unfold scells
  rw [List.getElem?_append_left (by simpa using hj), List.getElem?_map, List.getElem?_eq_getElem hj]
  rfl

theorem wcells_at : ∀ (l : List (Int × List UInt8)), (∀ p ∈ l, p.2.length = 64) → ∀ (i : Nat) (p : Int × List UInt8), l[i]? = some p → ∀ j, j < 65 → (l.flatMap wcells)[i * 65 + j]? = (wcells p)[j]?
 | [], _, i, p, hp, _, _ => by simp at hp
 | p0 :: l, hok, 0, p, hp, j, hj => by
  have e1 : p0 = p := by simpa using hp
  subst e1
  have hl : (wcells p0).length = 65 := by simp [wcells, hok p0 (by simp)]
  rw [List.flatMap_cons, Nat.zero_mul, Nat.zero_add, List.getElem?_append_left (by omega)]
 | p0 :: l, hok, i + 1, p, hp, j, hj => by
  have hl : (wcells p0).length = 65 := by simp [wcells, hok p0 (by simp)]
  rw [List.flatMap_cons, List.getElem?_append_right (by omega), hl, show (i + 1) * 65 + j - 65 = i * 65 + j by omega]
  exact wcells_at l (fun p hp => hok p (by simp [hp])) i p (by simpa using hp) j hj

def Sec.seen (s : Sec) : List UInt8 := match s.loose.getLast? with
 | some p => p.2
 | none => s.kept

def Dsk.readErr (D : Dsk) (at' : Int) : Value := if D.down = true then errno 9 else if 0 ≤ at' ∧ at' < D.secs.length then .nilIface else errno 1

theorem conv_bytes (w : World) (g o : Nat) (l : List UInt8) (hl : l.length = 64) (hc : ∀ j (hj : j < l.length), w.cell? ⟨g, o + j, none⟩ = some (byteC l[j])) :
  (convert 142 9 (.slice (some ⟨g, o, none⟩) 64 64)).run Tryz.prog w = .ok (.string ⟨l.toArray⟩) w := by
 have h := run_convert_bytes_back (P := Tryz.prog) w 142 9 5 ⟨g, o, none⟩ 64 l Tryz.underlying142 Tryz.underlying5 Tryz.underlying9 (fun j hj => by
  have e : (⟨g, o, none⟩ : Addr).add j = ⟨g, o + j, none⟩ := by unfold Addr.add; split <;> simp_all
  rw [e]; exact hc j hj)
 rw [hl] at h
 exact h

set_option maxRecDepth 100000 in
set_option maxHeartbeats 1600000 in
theorem read_ok (w : World) (base : Own) (B : Nat) (D : Dsk) (k : Nat) (s : Sec) (h : DiskO w base B D) (hd : D.down = false) (hs : D.secs[k]? = some s) (h2 : D.secs.length ≤ 200) :
  Calls Tryz.prog 60 #[.pointer (some ⟨B, 0, none⟩), .int .i64 (k : Int)] w fun e w' => e = .returned (.tuple #[.string ⟨s.seen.toArray⟩, .nilIface]) ∧ Below w.heap.size w w' := by
 have HO := hide h
 obtain ⟨hk, e⟩ := List.getElem?_eq_some_iff.1 hs
 subst e
 clear hs
 obtain ⟨sv, ls, h⟩ := h
 obtain ⟨g, cap, rfl, -, -, hcap⟩ := h.list (by omega)
 obtain ⟨c0, -, -, c3, -⟩ := h.cells
 rw [hd] at c3
 have HM := hide h
 have HSEC : Hid (∀ w1 : World, Below w.heap.size w w1 → ∃ v, w1.cell? ⟨g, k * 65 + 64, none⟩ = some v ∧ (∀ j (hj : j < D.secs[k].kept.length), w1.cell? ⟨g, k * 65 + j, none⟩ = some (byteC D.secs[k].kept[j])) ∧ w1.ownsRow 0 144 65 v D.secs[k].loose.length (D.secs[k].loose.flatMap wcells)) := fun w1 hb => by
  obtain ⟨v, -, h⟩ := (HM.out.later hb).sec k hk
  exact ⟨v, h⟩
 have hok := h.ok D.secs[k] (List.getElem_mem hk)
 clear h
 generalize D.secs[k] = s at *
 obtain ⟨kept, loose⟩ := s
 simp only at HSEC
 have hhas : decide (0 ≤ (k : Int) ∧ (k : Int) < D.secs.length) = true := decide_eq_true ⟨by omega, by omega⟩
 go_enter Tryz.func60, Tryz.ntmps60
 go_wp2_with fail
 refine (has_any w base B D k HO.out).mono ?_
 rintro e w1 ⟨rfl, hb1⟩
 rw [hhas]
 clear hhas
 have HB := hide hb1
 have HM1 := hide (HM.out.later hb1)
 clear hb1 c0 c3 HM HO
 obtain ⟨c0, -⟩ := HM1.out.cells
 obtain ⟨v, cv, hb, hown⟩ := HSEC.out w1 HB.out
 clear HSEC
 by_cases h0 : loose = []
 ·subst h0
  have hcv := conv_bytes w1 g (k * 65) kept hok.1 hb
  have hv : v = .slice none 0 0 ∨ ∃ a c, v = .slice (some a) 0 c := by
   rcases hown.2 with ⟨e, -⟩ | ⟨g', cap', cur, e, -⟩
   ·exact .inl e
   ·exact .inr ⟨_, _, e⟩
  clear hb hown hok HM1
  rcases hv with rfl | ⟨a, c, rfl⟩
  ·go_wp2
   exact bodyPost_ret (v := .tuple #[.string ⟨kept.toArray⟩, .nilIface]) (by simp [results, Tryz.results60, go_sem]) rfl ⟨rfl, HB.out⟩
  ·go_wp2
   exact bodyPost_ret (v := .tuple #[.string ⟨kept.toArray⟩, .nilIface]) (by simp [results, Tryz.results60, go_sem]) rfl ⟨rfl, HB.out⟩
 ·obtain ⟨l, p, rfl⟩ : ∃ l p, loose = l ++ [p] := ⟨loose.dropLast, loose.getLast h0, (List.dropLast_concat_getLast h0).symm⟩
  have hp := (hok.2 p (by simp)).1
  have HSEEN : Hid (Sec.seen ⟨kept, l ++ [p]⟩ = p.2) := by show _ = _; simp [Sec.seen]
  obtain ⟨bit, data⟩ := p
  rcases hown.2 with ⟨-, e⟩ | ⟨lg, lcap, cur, e, -, -, hlc, hlm, -⟩
  ·simp at e
  rw [e] at hown
  have hcells : ∀ j (hj : j < data.length), w1.cell? ⟨lg, l.length * 65 + 1 + j, none⟩ = some (byteC data[j]) := fun j hj => by
   refine owns_cell hown _ _ ?_
   simp only at hp
   rw [show l.length * 65 + 1 + j = l.length * 65 + (1 + j) by omega, wcells_at _ (fun p hp => (hok.2 p hp).1) l.length (bit, data) (by simp) (1 + j) (by omega)]
   rw [show (1 + j) = j + 1 by omega]
   simp [wcells, hj]
  have hcv := conv_bytes w1 lg (l.length * 65 + 1) data hp hcells
  rw [List.length_append, List.length_singleton] at e hlc
  subst e
  clear hb hown hok HM1 hcells hp
  have hlm' : l.length + 1 ≤ 9223372036854775807 := by unfold maxLen at hlm; omega
  clear hlm
  go_wp2
  exact bodyPost_ret (v := .tuple #[.string ⟨data.toArray⟩, .nilIface]) (by simp [results, Tryz.results60, go_sem]) rfl ⟨by rw [HSEEN.out], HB.out⟩

end Go.Proofs.YtnhbfehfipafoaaGreatDoor

/- Laws for operations on values of many cells. -/
namespace Go.Proofs.YtnhbfehfipafoaaGreatDoor
open Go.RowKit

section
variable {P : Program} {w : World} {ops : Array Oper} {rest : List Oper} {op : Oper} {a : Act} {Q : Exit → Act → World → Prop}

theorem wpList_loadA (hgd : op.guard = none) (d : Nat) (hd : op.dst = some d) (x : Operand) (t : TypeId) (ho : op.op = .load t x) (ad : Addr) (v : Value) (hx : a.eval x = .pointer (some ad)) (hrun : (loadVar t ad).run P w = .ok v w)
  (h : wpList P ops Q rest (a.put (some d) v) w) : wpList P ops Q (op :: rest) a w := by
 refine wpList_plain hgd fun K hK => ?_
 rw [← hd] at h
 unfold Oper.wp
 simp [execOp, ho, Instr.loadAt, Instr.sureAddr, hx, hrun]
 exact hK _ _ h

theorem wpList_storeA (hgd : op.guard = none) (x y : Operand) (t : TypeId) (ho : op.op = .store t x y) (hd : op.dst = none) (ad : Addr) (v : Value) (w' : World) (hx : a.eval x = .pointer (some ad)) (hy : a.eval y = v) (hrun : (storeVar t ad v).run P w = .ok () w')
  (h : wpList P ops Q rest a w') : wpList P ops Q (op :: rest) a w := by
 refine wpList_plain hgd fun K hK => ?_
 unfold Oper.wp
 simp [execOp, ho, Instr.storeAt, Instr.sureAddr, hx, hy, hrun]
 exact hK _ _ (by rw [hd]; exact h)

theorem wpList_buildA (hgd : op.guard = none) (d : Nat) (hd : op.dst = some d) (t : TypeId) (parts : Array (Nat × Operand)) (ho : op.op = .build t parts) (ps : Array (Nat × Value)) (hp : (parts.map fun (i, x) => (i, a.eval x)) = ps) (v : Value) (hrun : (Instr.build t ps).run P w = .ok v w)
  (h : wpList P ops Q rest (a.put (some d) v) w) : wpList P ops Q (op :: rest) a w := by
 refine wpList_plain hgd fun K hK => ?_
 rw [← hd] at h
 unfold Oper.wp
 simp only [execOp, ho, hp, hrun, Sem.run_bind, Sem.run_pure, Result.andThen_ok]
 exact hK _ _ h

theorem wpList_buildSliceA (hgd : op.guard = none) (d : Nat) (hd : op.dst = some d) (t : TypeId) (x : Operand) (ho : op.op = .buildSlice t 1 #[(0, x)]) (v u : Value) (w' : World) (hx : a.eval x = v) (hrun : (Instr.buildSlice t 1 #[(0, v)]).run P w = .ok u w')
  (h : wpList P ops Q rest (a.put (some d) u) w') : wpList P ops Q (op :: rest) a w := by
 refine wpList_plain hgd fun K hK => ?_
 rw [← hd] at h
 unfold Oper.wp
 simp [execOp, ho, hx, hrun]
 exact hK _ _ h

theorem wpList_allocA (hgd : op.guard = none) (d : Nat) (hd : op.dst = some d) (t : TypeId) (ho : op.op = .alloc t) (u : Value) (w' : World) (hrun : (Instr.alloc t true (.tuple #[])).run P w = .ok u w')
  (h : wpList P ops Q rest (a.put (some d) u) w') : wpList P ops Q (op :: rest) a w := by
 refine wpList_plain hgd fun K hK => ?_
 rw [← hd] at h
 unfold Oper.wp
 simp [execOp, ho, hrun]
 exact hK _ _ h
end

theorem add_addr (b o j : Nat) : (⟨b, o, none⟩ : Addr).add j = ⟨b, o + j, none⟩ := by unfold Addr.add; split <;> simp_all

theorem run_loadA {P : Program} (w : World) (t : TypeId) (b o : Nat) (cs : List Value) (desc : TypeDesc) (hu : P.underlying t = some desc) (hd : (match desc with | .struct _ | .array _ _ => true | _ => false) = true) (hi : (P.info? t).map (·.size) = some cs.length)
  (hc : ∀ j v, cs[j]? = some v → w.cell? ⟨b, o + j, none⟩ = some v) : (loadVar t ⟨b, o, none⟩).run P w = .ok (.agg cs.toArray) w := by
 have hl := run_loadCells_list (P := P) w ⟨b, o, none⟩ cs (fun j v hv => by rw [add_addr]; exact hc j v hv)
 cases hq : P.info? t with
 | none => simp [hq] at hi
 | some i =>
  have hs : i.size = cs.length := by simpa [hq] using hi
  have hagg : (isAgg t).run P w = .ok true w := by
   unfold isAgg
   cases desc <;> simp_all [run_underlying]
  simp [loadVar, hagg, sizeOf, typeInfo, hq, hs, hl]

theorem run_storeA {P : Program} (w : World) (t : TypeId) (b o : Nat) (cs : List Value) (hi : (P.info? t).map (·.size) = some cs.length) (h1 : ∀ v ∈ cs, v.oneCell' = true)
  (hc : ∀ j, j < cs.length → (w.cell? ⟨b, o + j, none⟩).isSome = true) (hf : ∀ j, j < cs.length → w.frozen? ⟨b, o + j, none⟩ = false) : (storeVar t ⟨b, o, none⟩ (.agg cs.toArray)).run P w = .ok () (w.setCells b o cs) := by
 have hst := run_storeCells_cells (P := P) b o cs 0 w (by simpa using hc) (by simpa using hf) h1
 cases hq : P.info? t with
 | none => simp [hq] at hi
 | some i =>
  have hs : cs.length = i.size := by simp [hq] at hi; omega
  simpa [storeVar, sizeOf, typeInfo, hq, Value.cells, hs] using hst

theorem fold_over (cs : List Value) : ∀ (k : Nat) (init : Array Value), k + cs.length ≤ init.size → ((cs.zipIdx k).foldl (fun (x : Array Value) (p : Value × Nat) => x.setIfInBounds (0 + p.2) p.1) init).toList = init.toList.take k ++ cs ++ init.toList.drop (k + cs.length) := by
 induction cs with
 | nil => intro k init _; simp
 | cons c cs ih =>
  intro k init h
  rw [List.length_cons] at h
  rw [List.zipIdx_cons, List.foldl_cons, ih (k + 1) _ (by simp; omega)]
  have e := list_seg_step init.toList k c cs (by simp; omega)
  simpa [Nat.zero_add, Array.toList_setIfInBounds, Nat.add_assoc] using e

theorem run_buildSliceA {P : Program} (w : World) (t e : TypeId) (i : TypeInfo) (z : Value) (cs : List Value) (hu : P.underlying t = some (.slice e)) (hi : P.info? e = some i) (hz : i.zero = some z) (hs : i.size = cs.length) (hzs : z.cells.size = cs.length) (h0 : 0 < cs.length) (h24 : cs.length ≤ 16777216) :
  (Instr.buildSlice t 1 #[(0, .agg cs.toArray)]).run P w = .ok (.slice (some ⟨w.heap.size, 0, none⟩) 1 1) (w.alloc (.cells cs.toArray e)) := by
 have hfill : ∀ Z : Array Value, Z.size = cs.length → Instr.fill (fun k => some (k * cs.length, cs.length)) Z [(0, .agg cs.toArray)] = some cs.toArray := fun Z hZ => by
  have e1 := fold_over cs 0 Z (by omega)
  simp only [List.take_zero, List.nil_append, Nat.zero_add] at e1
  rw [List.drop_of_length_le (by simp [hZ]), List.append_nil] at e1
  have e2 : List.foldl (fun (x : Array Value) (p : Value × Nat) => x.setIfInBounds p.2 p.1) Z cs.zipIdx = cs.toArray := Array.ext' (by simpa using e1)
  simp [Instr.fill, Value.cells, hZ, e2]
 have hf := hfill ((Array.range cs.length).map (z.cells[· % z.cells.size]!)) (by simp)
 have hne : ¬ (cs.length = 0) := by omega
 have h24' : ¬ (16777216 < cs.length) := by omega
 simp only [Instr.buildSlice, run_underlying hu, sizeOf, typeInfo, zeroValue, Sem.run_bind, Sem.run_pure, Result.andThen_ok, Nat.one_mul]
 simp [hne, h24', hi, hz, hs, hf, newRow]

end Go.Proofs.YtnhbfehfipafoaaGreatDoor

/- A disk: what writing into its sectors leaves. -/
namespace Go.Proofs.YtnhbfehfipafoaaGreatDoor
open Go.RowKit

def setL {α : Type} : List α → Nat → List α → List α
 | xs, _, [] => xs
 | xs, o, c :: cs => setL (xs.set o c) (o + 1) cs

theorem setL_right {α : Type} : ∀ (cs A B : List α) (o : Nat), setL (A ++ B) (A.length + o) cs = A ++ setL B o cs
 | [], _, _, _ => rfl
 | c :: cs, A, B, o => by
  rw [setL, setL, List.set_append_right _ _ (by omega), show A.length + o - A.length = o by omega, show A.length + o + 1 = A.length + (o + 1) by omega, setL_right cs]

theorem setL_all {α : Type} : ∀ (cs A B : List α), A.length = cs.length → setL (A ++ B) 0 cs = cs ++ B
 | [], A, B, h => by
  have : A = [] := List.eq_nil_of_length_eq_zero (by simpa using h)
  rw [this]; rfl
 | c :: cs, [], _, h => by simp at h
 | c :: cs, x :: A, B, h => by
  rw [setL, List.cons_append, List.set_cons_zero, show (0 + 1) = [c].length + 0 by rfl, show c :: (A ++ B) = [c] ++ (A ++ B) by rfl, setL_right, setL_all cs A B (by simpa using h)]
  rfl

theorem dcells_kept : ∀ (ss : List Sec) (vs : List Value), (∀ s ∈ ss, s.ok) → ss.length = vs.length → ∀ (i : Nat) (s : Sec) (bs : List UInt8), ss[i]? = some s → bs.length = 64 → setL (dcells ss vs) (i * 65) (bs.map byteC) = dcells (ss.set i { s with kept := bs }) vs
 | [], _, _, _, i, s, bs, hs, _ => by simp at hs
 | _ :: _, [], _, hl, _, _, _, _, _ => by simp at hl
 | s0 :: ss, v0 :: vs, hok, hl, 0, s, bs, hs, hb => by
  have e1 : s0 = s := by simpa using hs
  subst e1
  have h64 := (hok s0 (by simp)).1
  rw [dcells, Nat.zero_mul, List.set_cons_zero, dcells, scells, scells, List.append_assoc, setL_all _ _ _ (by simp [h64, hb]), List.append_assoc]
 | s0 :: ss, v0 :: vs, hok, hl, i + 1, s, bs, hs, hb => by
  have hl65 := scells_len (hok s0 (by simp)) v0
  rw [dcells, List.set_cons_succ, dcells, show (i + 1) * 65 = (scells s0 v0).length + i * 65 by omega, setL_right, dcells_kept ss vs (fun s hs => hok s (by simp [hs])) (by simpa using hl) i s bs (by simpa using hs) hb]

theorem dcells_loose : ∀ (ss : List Sec) (vs : List Value), (∀ s ∈ ss, s.ok) → ss.length = vs.length → ∀ (i : Nat) (s : Sec) (l : List (Int × List UInt8)) (v : Value), ss[i]? = some s → (dcells ss vs).set (i * 65 + 64) v = dcells (ss.set i { s with loose := l }) (vs.set i v)
 | [], _, _, _, i, s, l, v, hs => by simp at hs
 | _ :: _, [], _, hl, _, _, _, _, _ => by simp at hl
 | s0 :: ss, v0 :: vs, hok, hl, 0, s, l, v, hs => by
  have e1 : s0 = s := by simpa using hs
  subst e1
  have h64 := (hok s0 (by simp)).1
  have hl65 := scells_len (hok s0 (by simp)) v0
  rw [dcells, List.set_cons_zero, List.set_cons_zero, dcells, List.set_append_left _ _ (by omega)]
  congr 1
  unfold scells
  rw [List.set_append_right _ _ (by simp [h64])]
  simp [h64]
 | s0 :: ss, v0 :: vs, hok, hl, i + 1, s, l, v, hs => by
  have hl65 := scells_len (hok s0 (by simp)) v0
  rw [dcells, List.set_cons_succ, List.set_cons_succ, dcells, List.set_append_right _ _ (by omega), show (i + 1) * 65 + 64 - (scells s0 v0).length = i * 65 + 64 by omega, dcells_loose ss vs (fun s hs => hok s (by simp [hs])) (by simpa using hl) i s l v (by simpa using hs)]

theorem ownsSet {W : World} {base : Nat} {e : TypeId} {size : Nat} {g n cap : Nat} {xs : List Value} (h : W.ownsRow base e size (.slice (some ⟨g, 0, none⟩) n cap) n xs) (k : Nat) (u : Value) : (W.setCell ⟨g, k, none⟩ u).ownsRow base e size (.slice (some ⟨g, 0, none⟩) n cap) n (xs.set k u) := by
 refine ⟨by rw [List.length_set]; exact h.1, ?_⟩
 rcases h.2 with ⟨e', -⟩ | ⟨g', cap', cur, e', hb, hh, h1, h2, h3, h4⟩
 ·simp at e'
 ·simp only [Value.slice.injEq, Option.some.injEq, Addr.mk.injEq, and_true, true_and] at e'
  obtain ⟨rfl, rfl⟩ := e'
  refine .inr ⟨g, cap, _, rfl, hb, heap_setCell_same W g k _ _ u hh, h1, h2, by simpa using h3, ?_⟩
  rw [Array.toList_setIfInBounds, List.take_set, h4]

theorem ownsSets {base : Nat} {e : TypeId} {size : Nat} {g n cap : Nat} : ∀ (cs : List Value) (o : Nat) (W : World) (xs : List Value), W.ownsRow base e size (.slice (some ⟨g, 0, none⟩) n cap) n xs → (W.setCells g o cs).ownsRow base e size (.slice (some ⟨g, 0, none⟩) n cap) n (setL xs o cs)
 | [], _, _, _, h => h
 | c :: cs, o, _, _, h => ownsSets cs (o + 1) _ _ (ownsSet h o c)

theorem heap_setCells_other {b g : Nat} (hne : b ≠ g) : ∀ (cs : List Value) (o : Nat) (W : World), (W.setCells g o cs).heap[b]? = W.heap[b]?
 | [], _, _ => rfl
 | c :: cs, o, W => by rw [World.setCells, heap_setCells_other hne cs]; exact heap_setCell_other _ _ _ _ (fun e => hne e)

theorem heap_setCells_size (g : Nat) : ∀ (cs : List Value) (o : Nat) (W : World), (W.setCells g o cs).heap.size = W.heap.size
 | [], _, _ => rfl
 | c :: cs, o, W => by rw [World.setCells, heap_setCells_size g cs]; simp

theorem setCells_rest (g : Nat) : ∀ (cs : List Value) (o : Nat) (W : World), (W.setCells g o cs).os = W.os ∧ (W.setCells g o cs).tape = W.tape ∧ (W.setCells g o cs).output = W.output
 | [], _, _ => ⟨rfl, rfl, rfl⟩
 | c :: cs, o, W => by rw [World.setCells]; exact setCells_rest g cs (o + 1) _

theorem ownsAway {W W' : World} {base : Nat} {e : TypeId} {size : Nat} {v : Value} {n : Nat} {xs : List Value} (h : W.ownsRow base e size v n xs) {g : Nat} {cs : Array Value} {t : TypeId} (hh : W.heap[g]? = some (.cells cs t (0, 0))) (ht : t ≠ e) (hk : ∀ b, b ≠ g → W'.heap[b]? = W.heap[b]?) : W'.ownsRow base e size v n xs := by
 refine ⟨h.1, ?_⟩
 rcases h.2 with hn | ⟨g', cap, cur, ev, hbg, hg, rest⟩
 ·exact .inl hn
 ·refine .inr ⟨g', cap, cur, ev, hbg, (hk g' fun e => ?_).trans hg, rest⟩
  subst e
  rw [hh] at hg
  simp only [Option.some.injEq, Obj.cells.injEq] at hg
  exact ht hg.2.1

theorem DiskM.block {W : World} {base : Own} {B : Nat} {D : Dsk} {g cap : Nat} {ls : List Value} (h : DiskM W base B D (.slice (some ⟨g, 0, none⟩) D.secs.length cap) ls) : base.mine g ∧ ∃ cur, W.heap[g]? = some (.cells cur 87 (0, 0)) := by
 rcases h.own.2 with ⟨e, -⟩ | ⟨g', cap', cur, e, hb, hh, -⟩
 ·simp at e
 ·simp only [Value.slice.injEq, Option.some.injEq, Addr.mk.injEq, and_true, true_and] at e
  obtain ⟨rfl, rfl⟩ := e
  exact ⟨h.mine.1 g rfl, cur, hh⟩

theorem Kept.of_block {base : Own} {g : Nat} {W W' : World} {cur : Array Value} {t : TypeId} (hb : base.mine g) (hh : W.heap[g]? = some (.cells cur t (0, 0))) (ht : diskT t) (h1 : W'.os = W.os) (h2 : W'.tape = W.tape) (h3 : W'.output = W.output) (h4 : W.heap.size ≤ W'.heap.size) (hk : ∀ b, b < W.heap.size → b ≠ g → W'.heap[b]? = W.heap[b]?) : Kept base W W' :=
 ⟨h1, h2, h3, h4, fun b hlt ho => hk b hlt fun e => by
  subst e
  rcases ho with ho | ho
  ·exact ho hb
  ·exact ho _ _ _ hh ht⟩

theorem DiskM.setKept {W : World} {base : Own} {B : Nat} {D : Dsk} {g cap : Nat} {ls : List Value} (h : DiskM W base B D (.slice (some ⟨g, 0, none⟩) D.secs.length cap) ls) (i : Nat) (s : Sec) (hs : D.secs[i]? = some s) (bs : List UInt8) (hb : bs.length = 64) :
  DiskM (W.setCells g (i * 65) (bs.map byteC)) base B { D with secs := D.secs.set i { s with kept := bs } } (.slice (some ⟨g, 0, none⟩) D.secs.length cap) ls ∧ Kept base W (W.setCells g (i * 65) (bs.map byteC)) := by
 obtain ⟨hbg, cur, hh⟩ := h.block
 have hBg : B ≠ g := fun e => by
  subst e
  have := h.head
  rw [hh] at this
  simp only [Option.some.injEq, Obj.cells.injEq] at this
  exact absurd this.2.1 (by decide)
 have hi := (List.getElem?_eq_some_iff.1 hs).1
 have hok := h.ok s (List.mem_of_getElem? hs)
 have hsl : (D.secs.set i { s with kept := bs }).length = D.secs.length := List.length_set
 obtain ⟨r1, r2, r3⟩ := setCells_rest g (bs.map byteC) (i * 65) W
 refine ⟨⟨h.low, (heap_setCells_other hBg _ _ _).trans h.head, h.len.trans hsl.symm, ?_, fun j s' v hs' hv => ?_, h.apart, fun s' hs' => ?_, h.num, h.left, h.mine⟩, Kept.of_block hbg hh (.inr (.inl rfl)) r1 r2 r3 (by rw [heap_setCells_size]; exact Nat.le_refl _) (fun b _ hne => heap_setCells_other hne _ _ _)⟩
 ·have := ownsSets (bs.map byteC) (i * 65) W _ h.own
  rw [dcells_kept _ _ h.ok h.len.symm i s bs hs hb] at this
  simp only [hsl]
  exact this
 ·have hl : ∃ s0, D.secs[j]? = some s0 ∧ s0.loose = s'.loose := by
   simp only [List.getElem?_set] at hs'
   split at hs'
   ·rename_i e
    subst e
    have e := Option.some.inj hs'
    exact ⟨s, hs, by rw [← e]⟩
   ·exact ⟨s', hs', rfl⟩
  obtain ⟨s0, h0, e0⟩ := hl
  rw [← e0]
  exact ownsAway (h.loose j s0 v h0 hv) hh (by decide) (fun b hne => heap_setCells_other hne _ _ _)
 ·rcases List.mem_or_eq_of_mem_set hs' with hm | rfl
  ·exact h.ok s' hm
  ·exact ⟨hb, hok.2⟩

theorem DiskM.setLoose {W : World} {base : Own} {B : Nat} {D : Dsk} {g cap : Nat} {ls : List Value} (h : DiskM W base B D (.slice (some ⟨g, 0, none⟩) D.secs.length cap) ls) (i : Nat) (s : Sec) (hs : D.secs[i]? = some s) (v : Value) (l : List (Int × List UInt8))
  (hv : W.ownsRow 0 144 65 v l.length (l.flatMap wcells)) (hvm : ∀ b, v.ownBlock = some b → base.mine b) (hl : ∀ p ∈ l, p.2.length = 64 ∧ 0 ≤ p.1 ∧ p.1 < 18446744073709551616) (hap : ∀ j v' b, j ≠ i → ls[j]? = some v' → v.ownBlock = some b → v'.ownBlock ≠ some b) :
  DiskM (W.setCell ⟨g, i * 65 + 64, none⟩ v) base B { D with secs := D.secs.set i { s with loose := l } } (.slice (some ⟨g, 0, none⟩) D.secs.length cap) (ls.set i v) ∧ Kept base W (W.setCell ⟨g, i * 65 + 64, none⟩ v) := by
 obtain ⟨hbg, cur, hh⟩ := h.block
 have hBg : B ≠ g := fun e => by
  subst e
  have := h.head
  rw [hh] at this
  simp only [Option.some.injEq, Obj.cells.injEq] at this
  exact absurd this.2.1 (by decide)
 have hi := (List.getElem?_eq_some_iff.1 hs).1
 have hok := h.ok s (List.mem_of_getElem? hs)
 have hsl : (D.secs.set i { s with loose := l }).length = D.secs.length := List.length_set
 have hka : ∀ b, b ≠ g → (W.setCell ⟨g, i * 65 + 64, none⟩ v).heap[b]? = W.heap[b]? := fun b hne => heap_setCell_other _ _ _ _ (fun e => hne e)
 refine ⟨⟨h.low, (hka B hBg).trans h.head, by rw [List.length_set, hsl]; exact h.len, ?_, fun j s' v' hs' hv' => ?_, fun j k v1 v2 b hjk h1 h2 hb => ?_, fun s' hs' => ?_, h.num, h.left, ⟨h.mine.1, fun u hu b hb => (List.mem_or_eq_of_mem_set hu).elim (fun hm => h.mine.2 u hm b hb) (fun e => hvm b (by rw [← e]; exact hb))⟩⟩, Kept.of_block hbg hh (.inr (.inl rfl)) rfl rfl rfl (by simp) (fun b _ hne => hka b hne)⟩
 ·have := ownsSet h.own (i * 65 + 64) v
  rw [dcells_loose _ _ h.ok h.len.symm i s l v hs] at this
  simp only [hsl]
  exact this
 ·simp only [List.getElem?_set] at hs' hv'
  split at hs'
  ·rename_i e
   subst e
   rw [if_pos rfl] at hv'
   have e1 := Option.some.inj hs'
   split at hv'
   ·have e2 := Option.some.inj hv'
    subst e1 e2
    exact ownsAway hv hh (by decide) hka
   ·cases hv'
  ·rename_i e
   rw [if_neg e] at hv'
   exact ownsAway (h.loose j s' v' hs' hv') hh (by decide) hka
 ·simp only [List.getElem?_set] at h1 h2
  by_cases e1 : i = j
  ·rw [if_pos e1] at h1
   rw [if_neg (fun e2 => hjk (e1.symm.trans e2))] at h2
   split at h1
   ·have e := Option.some.inj h1
    subst e
    exact hap k v2 b (fun e => hjk (e1.symm.trans e.symm)) h2 hb
   ·cases h1
  ·rw [if_neg e1] at h1
   by_cases e2 : i = k
   ·rw [if_pos e2] at h2
    split at h2
    ·have e := Option.some.inj h2
     subst e
     exact fun hb' => hap j v1 b (fun e => e1 e.symm) h1 hb' hb
    ·cases h2
   ·rw [if_neg e2] at h2
    exact h.apart j k v1 v2 b hjk h1 h2 hb
 ·rcases List.mem_or_eq_of_mem_set hs' with hm | rfl
  ·exact h.ok s' hm
  ·exact ⟨hok.1, hl⟩

end Go.Proofs.YtnhbfehfipafoaaGreatDoor

/- A disk: a sector settles. -/
namespace Go.Proofs.YtnhbfehfipafoaaGreatDoor
open Go.RowKit

theorem DiskM.len_eq {W : World} {base : Own} {B : Nat} {D : Dsk} {so : Option Addr} {m cap : Nat} {ls : List Value} (h : DiskM W base B D (.slice so m cap) ls) : m = D.secs.length := by
 obtain ⟨so', cap', e⟩ := h.shape
 simp only [Value.slice.injEq] at e
 exact e.2.1

theorem DiskM.secAt {W : World} {base : Own} {B : Nat} {D : Dsk} {g m cap : Nat} {ls : List Value} (h : DiskM W base B D (.slice (some ⟨g, 0, none⟩) m cap) ls) (i : Nat) (s : Sec) (hs : D.secs[i]? = some s) :
  ∃ v, ls[i]? = some v ∧ W.cell? ⟨g, i * 65 + 64, none⟩ = some v ∧ (∀ j (hj : j < s.kept.length), W.cell? ⟨g, i * 65 + j, none⟩ = some (byteC s.kept[j])) ∧ W.ownsRow 0 144 65 v s.loose.length (s.loose.flatMap wcells) ∧ (∀ k, W.frozen? ⟨g, k, none⟩ = false) ∧ s.ok := by
 obtain rfl := h.len_eq
 obtain ⟨hi, e⟩ := List.getElem?_eq_some_iff.1 hs
 obtain ⟨v, h1, h2, h3, h4⟩ := h.sec i hi
 rw [e] at h3 h4
 exact ⟨v, h1, h2, h3, h4, fun k => owns_thaw h.own k, h.ok s (List.mem_of_getElem? hs)⟩

theorem DiskM.setKeptAt {W : World} {base : Own} {B : Nat} {D : Dsk} {g m cap : Nat} {ls : List Value} (h : DiskM W base B D (.slice (some ⟨g, 0, none⟩) m cap) ls) (i : Nat) (s : Sec) (hs : D.secs[i]? = some s) (bs : List UInt8) (hb : bs.length = 64) :
  DiskM (W.setCells g (i * 65) (bs.map byteC)) base B { D with secs := D.secs.set i { s with kept := bs } } (.slice (some ⟨g, 0, none⟩) m cap) ls ∧ Kept base W (W.setCells g (i * 65) (bs.map byteC)) := by
 obtain rfl := h.len_eq
 exact h.setKept i s hs bs hb

theorem DiskM.setLooseAt {W : World} {base : Own} {B : Nat} {D : Dsk} {g m cap : Nat} {ls : List Value} (h : DiskM W base B D (.slice (some ⟨g, 0, none⟩) m cap) ls) (i : Nat) (s : Sec) (hs : D.secs[i]? = some s) (v : Value) (l : List (Int × List UInt8))
  (hv : W.ownsRow 0 144 65 v l.length (l.flatMap wcells)) (hvm : ∀ b, v.ownBlock = some b → base.mine b) (hl : ∀ p ∈ l, p.2.length = 64 ∧ 0 ≤ p.1 ∧ p.1 < 18446744073709551616) (hap : ∀ j v' b, j ≠ i → ls[j]? = some v' → v.ownBlock = some b → v'.ownBlock ≠ some b) :
  DiskM (W.setCell ⟨g, i * 65 + 64, none⟩ v) base B { D with secs := D.secs.set i { s with loose := l } } (.slice (some ⟨g, 0, none⟩) m cap) (ls.set i v) ∧ Kept base W (W.setCell ⟨g, i * 65 + 64, none⟩ v) := by
 obtain rfl := h.len_eq
 exact h.setLoose i s hs v l hv hvm hl hap

def keepOne (keep : Int) (kept : List UInt8) (p : Int × List UInt8) : List UInt8 := if bits .and .u64 p.1 keep = 0 then kept else p.2

def Sec.settled (keep : Int) (s : Sec) : Sec := ⟨s.loose.foldl (keepOne keep) s.kept, []⟩

theorem set_same {α : Type} {l : List α} {i : Nat} {x : α} (h : l[i]? = some x) : l.set i x = l := by
 apply List.ext_getElem?
 intro j
 rw [List.getElem?_set]
 split
 ·rename_i e
  subst e
  have := (List.getElem?_eq_some_iff.1 h).1
  rw [if_pos this, h]
 ·rfl

set_option linter.unusedSimpArgs false in
set_option maxRecDepth 100000 in
set_option maxHeartbeats 1600000 in
theorem settleS_any (w : World) (base : Own) (B : Nat) (D : Dsk) (g m cap : Nat) (ls : List Value) (i : Nat) (keep : Int) (s : Sec) (h : DiskM w base B D (.slice (some ⟨g, 0, none⟩) m cap) ls) (hs : D.secs[i]? = some s) :
  Calls Tryz.prog 79 #[.pointer (some ⟨g, i * 65, none⟩), .int .u64 keep] w fun e w' => e = .returned (.tuple #[]) ∧ DiskM w' base B { D with secs := D.secs.set i (s.settled keep) } (.slice (some ⟨g, 0, none⟩) m cap) (ls.set i (.slice none 0 0)) ∧ Kept base w w' := by
 have HM := hide h; have HS := hide hs
 obtain ⟨hi, -⟩ := List.getElem?_eq_some_iff.1 hs
 obtain ⟨v, hv, cv, -, hown, -, hok⟩ := h.secAt i s hs
 obtain ⟨kept, loose⟩ := s
 have HOK := hide hok
 have HV := hide hv
 have hvs : ∃ vo vcap, v = .slice vo loose.length vcap ∧ loose.length ≤ 9223372036854775807 := by
  rcases hown.2 with ⟨rfl, e⟩ | ⟨lg, lcap, cur, rfl, -, -, h1, h2, -⟩
  ·exact ⟨none, 0, by rw [e], by rw [e]; decide⟩
  ·exact ⟨_, _, rfl, by unfold maxLen at h2; exact Nat.le_trans h1 h2⟩
 obtain ⟨vo, vcap, rfl, hlm⟩ := hvs
 clear h hs hown hok hv
 go_enter Tryz.func79, Tryz.ntmps79
 go_wp2
 clear cv
 go_loopw [10] (fun x wr => ∃ j : Nat, j ≤ loose.length ∧ x = .int .i64 j ∧ Hid (DiskM wr base B { D with secs := D.secs.set i ⟨(loose.take j).foldl (keepOne keep) kept, loose⟩ } (.slice (some ⟨g, 0, none⟩) m cap) ls) ∧ Hid (Kept base w wr)) (fun x _ => loose.length - (intOf x).toNat)
 case atStart => exact ⟨0, Nat.zero_le _, rfl, hide (by have e : D.secs.set i ⟨(loose.take 0).foldl (keepOne keep) kept, loose⟩ = D.secs := set_same HS.out; rw [e]; exact HM.out), hide (Kept.refl _ _)⟩
 case round =>
  obtain ⟨j, hj, rfl, HMR, HKR⟩ := hrel
  have hget : (D.secs.set i ⟨(loose.take j).foldl (keepOne keep) kept, loose⟩)[i]? = some ⟨(loose.take j).foldl (keepOne keep) kept, loose⟩ := by rw [List.getElem?_set_self hi]
  obtain ⟨v', hv', cv, hkb, hown, hfz, hokr⟩ := HMR.out.secAt i _ hget
  obtain rfl : v' = .slice vo loose.length vcap := Option.some.inj (hv'.symm.trans HV.out)
  have HGET := hide hget
  clear hget hv'
  by_cases hjl : j < loose.length
  ·have hvo : ∃ lg, vo = some ⟨lg, 0, none⟩ := by
    rcases hown.2 with ⟨e, e0⟩ | ⟨lg, lcap, cur, e, -⟩
    ·simp only at e0; omega
    ·simp only [Value.slice.injEq] at e
     exact ⟨lg, e.1⟩
   obtain ⟨lg, rfl⟩ := hvo
   have hpj : loose[j]? = some loose[j] := List.getElem?_eq_getElem hjl
   have hlen := (HOK.out.2 loose[j] (List.getElem_mem hjl)).1
   have HFO : Hid ((loose.take (j + 1)).foldl (keepOne keep) kept = keepOne keep ((loose.take j).foldl (keepOne keep) kept) loose[j]) := by
    show _ = _
    rw [List.take_succ_eq_append_getElem hjl, List.foldl_append]; rfl
   have hbit : wr.cell? ⟨lg, j * 65, none⟩ = some (.int .u64 loose[j].1) := owns_cell hown _ _ (by
    rw [show j * 65 = j * 65 + 0 by omega, wcells_at _ (fun p hp => (HOK.out.2 p hp).1) j _ hpj 0 (by omega)]; rfl)
   have hdat : ∀ x v, (loose[j].2.map byteC)[x]? = some v → wr.cell? ⟨lg, j * 65 + 1 + x, none⟩ = some v := fun x v hx => owns_cell hown _ _ (by
    have hx' : x < 64 := by have := (List.getElem?_eq_some_iff.1 hx).1; rw [List.length_map, hlen] at this; exact this
    rw [show j * 65 + 1 + x = j * 65 + (x + 1) by omega, wcells_at _ (fun p hp => (HOK.out.2 p hp).1) j _ hpj (x + 1) (by omega)]
    simpa [wcells] using hx)
   generalize loose[j] = p at *
   obtain ⟨bit, data⟩ := p
   simp only at hlen hbit hdat
   clear hpj hown
   by_cases hbk : bits .and .u64 bit keep = 0
   ·have hg : (bits .and .u64 bit keep != 0) = false := by rw [bne_eq_false_iff_eq]; exact hbk
    have HMN : Hid (DiskM wr base B { D with secs := D.secs.set i ⟨(loose.take (j + 1)).foldl (keepOne keep) kept, loose⟩ } (.slice (some ⟨g, 0, none⟩) m cap) ls) := by
     have e : keepOne keep ((loose.take j).foldl (keepOne keep) kept) (bit, data) = (loose.take j).foldl (keepOne keep) kept := if_pos hbk
     rw [HFO.out, e]
     exact HMR.out
    clear hbk hdat hkb hokr HMR HFO
    go_wp2
    go_roundw
    case rel => exact ⟨j + 1, by omega, by go_num, HMN, HKR⟩
    case measure => simp [intOf]; omega
   ·have hg : (bits .and .u64 bit keep != 0) = true := by rw [bne_iff_ne]; exact hbk
    have HN := hide (HMR.out.setKeptAt i _ HGET.out data hlen)
    have HLD := hide (run_loadA (P := Tryz.prog) wr 84 lg (j * 65 + 1) (data.map byteC) _ Tryz.underlying84 rfl (by rw [List.length_map, hlen]; kernel_rfl) hdat)
    have HST := hide (run_storeA (P := Tryz.prog) wr 84 g (i * 65) (data.map byteC) (by rw [List.length_map, hlen]; kernel_rfl) (fun v hv => by obtain ⟨b, -, rfl⟩ := List.mem_map.1 hv; rfl) (fun x hx => by rw [List.length_map, hlen] at hx; have hk := hokr.1; rw [hkb x (by omega)]; rfl) (fun x _ => hfz _))
    have HMN : Hid (DiskM (wr.setCells g (i * 65) (data.map byteC)) base B { D with secs := D.secs.set i ⟨(loose.take (j + 1)).foldl (keepOne keep) kept, loose⟩ } (.slice (some ⟨g, 0, none⟩) m cap) ls) := by
     have e : keepOne keep ((loose.take j).foldl (keepOne keep) kept) (bit, data) = data := if_neg hbk
     rw [HFO.out, e]
     have := HN.out.1
     simp only [List.set_set] at this
     exact this
    have HKN := hide (HKR.out.trans HN.out.2)
    clear hbk hdat hkb hokr HMR HFO HKR HN hlen
    go_wp2_with (first | refine wpList_loadA rfl 32 rfl (.tmp 31) 84 rfl ⟨lg, j * 65 + 1, none⟩ _ rfl HLD.out ?_ | refine wpList_storeA rfl (.tmp 34) (.tmp 32) 84 rfl rfl ⟨g, i * 65, none⟩ _ _ rfl rfl HST.out ?_)
    go_roundw
    case rel => exact ⟨j + 1, by omega, by go_num, HMN, HKN⟩
    case measure => simp [intOf]; omega
  ·obtain rfl : j = loose.length := by omega
   rw [List.take_length] at HMR
   rw [List.take_length] at HGET
   have HN := hide (HMR.out.setLooseAt i _ HGET.out (.slice none 0 0) [] (World.ownsRow_nil _ _ _ _) (fun _ h => by cases h) (fun _ h => by cases h) (fun _ _ _ _ _ h => by cases h))
   have HMN : Hid (DiskM (wr.setCell ⟨g, i * 65 + 64, none⟩ (.slice none 0 0)) base B { D with secs := D.secs.set i (Sec.settled keep ⟨kept, loose⟩) } (.slice (some ⟨g, 0, none⟩) m cap) (ls.set i (.slice none 0 0))) := by
    have := HN.out.1
    simp only [List.set_set] at this
    exact this
   have HKN := hide (HKR.out.trans HN.out.2)
   have hf := hfz (i * 65 + 64)
   clear hkb hokr HMR HKR HN hown hfz HGET
   go_wp2
   exact bodyPost_end (results_none rfl _ _ _) rfl ⟨rfl, HMN.out, HKN.out⟩

end Go.Proofs.YtnhbfehfipafoaaGreatDoor
