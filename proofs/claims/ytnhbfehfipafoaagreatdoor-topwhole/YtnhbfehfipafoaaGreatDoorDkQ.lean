/- A disk: a write is put to a sector: none of the same bit is there. -/
import Derived.Test.YtnhbfehfipafoaaGreatDoorDkF
import Derived.Deep.AppendLies
import Derived.Test.YtnhbfehfipafoaaGreatDoorUpP
import Derived.Lib.LazyBuf
import Derived.Deep.WholeRow
import Derived.Test.YtnhbfehfipafoaaGreatDoorDkB

namespace Go.Proofs.YtnhbfehfipafoaaGreatDoor
open Go.RowKit

set_option maxRecDepth 100000 in
set_option maxHeartbeats 1600000 in
theorem addC_any (w : World) (cs : List Value) (bit b2 : Int) (bb : Nat) (hc : w.cell? ⟨bb, 0, none⟩ = some (.int .u64 b2)) (hlt : bb < w.heap.size) :
  Calls Tryz.prog 138 #[.agg (.int .u64 bit :: cs).toArray, .pointer (some ⟨bb, 0, none⟩)] w fun e w' => e = .returned (.bool (bit == b2)) ∧ Below w.heap.size w w' := by
 have HB := hide ((Below.refl w.heap.size w).alloc (Nat.le_refl _) (.cells (.int .u64 bit :: cs).toArray 144))
 have c1 := (HB.out.cell (p := ⟨bb, 0, none⟩) hlt).trans hc
 have c2 : (w.alloc (.cells (.int .u64 bit :: cs).toArray 144)).cell? ⟨w.heap.size, 0, none⟩ = some (.int .u64 bit) := by rw [World.cell?_alloc_new]; rfl
 clear hc
 go_enter Tryz.func138, Tryz.ntmps138
 go_wp2
 go_ret
 exact ⟨rfl, HB.out⟩

theorem Tryz.sizeWrite : (Tryz.prog.info? 144).map (·.size) = some 65 := by kernel_rfl

theorem load_write (W : World) (base lg n cap : Nat) (loose : List (Int × List UInt8)) (hown : W.ownsRow base 144 65 (.slice (some ⟨lg, 0, none⟩) n cap) n (loose.flatMap wcells)) (hok : ∀ p ∈ loose, p.2.length = 64) (k : Nat) (p : Int × List UInt8) (hp : loose[k]? = some p) :
  (loadVar 144 ⟨lg, k * 65, none⟩).run Tryz.prog W = .ok (.agg (wcells p).toArray) W := by
 have hl : (wcells p).length = 65 := by simp [wcells, hok p (List.mem_of_getElem? hp)]
 refine run_loadA W 144 lg (k * 65) (wcells p) _ Tryz.underlying144 rfl (by rw [hl]; exact Tryz.sizeWrite) (fun j v hj => owns_cell hown _ _ ?_)
 have hj' := (List.getElem?_eq_some_iff.1 hj).1
 rw [wcells_at _ hok k p hp j (by omega)]
 exact hj

set_option linter.unusedSimpArgs false in
set_option maxRecDepth 100000 in
set_option maxHeartbeats 1600000 in
theorem indexNone (w : World) (base : Nat) (v : Value) (loose : List (Int × List UInt8)) (bit : Int) (bb : Nat) (hown : w.ownsRow base 144 65 v loose.length (loose.flatMap wcells)) (hok : ∀ p ∈ loose, p.2.length = 64) (hno : ∀ p ∈ loose, p.1 ≠ bit) (hc : w.cell? ⟨bb, 0, none⟩ = some (.int .u64 bit)) (hlt : bb < w.heap.size) :
  Calls Tryz.prog 155 #[v, .func (.func 138) #[] #[.pointer (some ⟨bb, 0, none⟩)]] w fun e w' => e = .returned (.int .i64 (-1)) ∧ Below w.heap.size w w' := by
 have HO := hide hown; have HOK := hide hok; have HNO := hide hno; have HC := hide hc
 have hvs : ∃ vo vcap, v = .slice vo loose.length vcap ∧ loose.length ≤ 9223372036854775807 := by
  rcases hown.2 with ⟨rfl, e⟩ | ⟨lg, lcap, cur, rfl, -, -, h1, h2, -⟩
  ·exact ⟨none, 0, by rw [e], by rw [e]; decide⟩
  ·exact ⟨_, _, rfl, by unfold maxLen at h2; exact Nat.le_trans h1 h2⟩
 obtain ⟨vo, vcap, rfl, hlm⟩ := hvs
 clear hown hok hno hc
 go_enter Tryz.func155, Tryz.ntmps155
 go_wp2
 go_loopw [8] (fun x wr => ∃ k : Nat, k ≤ loose.length ∧ x = .int .i64 k ∧ Hid (Below w.heap.size w wr)) (fun x _ => loose.length - (intOf x).toNat)
 case atStart => exact ⟨0, Nat.zero_le _, rfl, hide (Below.refl _ _)⟩
 case round =>
  obtain ⟨k, hk, rfl, HB⟩ := hrel
  by_cases hkl : k < loose.length
  ·obtain ⟨lg, rfl⟩ : ∃ lg, vo = some ⟨lg, 0, none⟩ := by
    rcases HO.out.2 with ⟨-, e0⟩ | ⟨lg, lcap, cur, e, -⟩
    ·omega
    ·simp only [Value.slice.injEq] at e
     exact ⟨lg, e.1⟩
   have HLD := hide (load_write wr base lg _ vcap loose (ownsLater HO.out HB.out) HOK.out k loose[k] (List.getElem?_eq_getElem hkl))
   have hne := HNO.out loose[k] (List.getElem_mem hkl)
   generalize loose[k] = p at *
   obtain ⟨b1, data⟩ := p
   have hbe : (b1 == bit) = false := beq_false_of_ne hne
   go_wp2_with (show wpList _ _ _ ({ dst := some 15, op := _, type := _, pos := _, after := _, guard := _ } :: _) _ _; refine wpList_loadA rfl 15 rfl (.tmp 14) 144 rfl ⟨lg, k * 65, none⟩ _ rfl HLD.out ?_)
   refine (addC_any wr (data.map byteC) b1 bit bb ((HB.out.cell (p := ⟨bb, 0, none⟩) hlt).trans HC.out) (Nat.lt_of_lt_of_le hlt HB.out.size)).mono ?_
   rintro e w2 ⟨rfl, hb2⟩
   rw [hbe]
   have HB2 := hide (HB.out.trans (hb2.mono HB.out.size))
   clear hb2 HLD hbe hne HB
   go_wp2
   go_roundw
   case rel => exact ⟨k + 1, by omega, by go_num, HB2⟩
   case measure => simp [intOf]; omega
  ·obtain rfl : k = loose.length := by omega
   go_wp2
   go_ret
   exact ⟨rfl, HB.out⟩

set_option maxRecDepth 100000 in
set_option maxHeartbeats 1600000 in
theorem deleteNone (w : World) (base : Nat) (v : Value) (loose : List (Int × List UInt8)) (bit : Int) (bb : Nat) (hown : w.ownsRow base 144 65 v loose.length (loose.flatMap wcells)) (hok : ∀ p ∈ loose, p.2.length = 64) (hno : ∀ p ∈ loose, p.1 ≠ bit) (hc : w.cell? ⟨bb, 0, none⟩ = some (.int .u64 bit)) (hlt : bb < w.heap.size) :
  Calls Tryz.prog 137 #[v, .func (.func 138) #[] #[.pointer (some ⟨bb, 0, none⟩)]] w fun e w' => e = .returned v ∧ Below w.heap.size w w' := by
 have HI := hide (indexNone w base v loose bit bb hown hok hno hc hlt)
 obtain ⟨vo, vl, vcap, rfl⟩ : ∃ vo vl vcap, v = .slice vo vl vcap := by
  rcases hown.2 with ⟨rfl, -⟩ | ⟨lg, lcap, cur, rfl, -⟩
  ·exact ⟨_, _, _, rfl⟩
  ·exact ⟨_, _, _, rfl⟩
 clear hown hok hno hc
 go_enter Tryz.func137, Tryz.ntmps137
 go_wp2_with fail
 refine HI.out.mono ?_
 rintro e w1 ⟨rfl, hb1⟩
 have HB := hide hb1
 clear hb1 HI
 go_wp2
 go_ret
 exact ⟨rfl, HB.out⟩

end Go.Proofs.YtnhbfehfipafoaaGreatDoor

/- A disk: a write is put to a sector, the walk. -/
namespace Go.Proofs.YtnhbfehfipafoaaGreatDoor
open Go.RowKit

def noughtB (n : Nat) : List UInt8 := List.replicate n 0

def padded (s : List UInt8) : List UInt8 := s ++ noughtB (64 - s.length)

def wZ : List Value := .int .u64 0 :: (noughtB 64).map byteC

theorem wZ_len : wZ.length = 65 := by simp [wZ, noughtB]

theorem run_zero_write (w : World) : (Instr.alloc 144 true (.tuple #[])).run Tryz.prog w = .ok (.pointer (some ⟨w.heap.size, 0, none⟩)) (w.alloc (.cells wZ.toArray 144)) := by
 have h : (zeroValue 144).run Tryz.prog w = .ok (.agg wZ.toArray) w := by kernel_rfl
 simp [Instr.alloc, h, newVar, newRow, Value.cells]

theorem run_build_write (w : World) (bit : Int) : (Instr.build 144 #[(0, .int .u64 bit)]).run Tryz.prog w = .ok (.agg (.int .u64 bit :: (noughtB 64).map byteC).toArray) w := by kernel_rfl

theorem heap_setCells_same {g : Nat} {t : TypeId} : ∀ (vs : List Value) (o : Nat) (W : World) (cs : List Value), W.heap[g]? = some (.cells cs.toArray t (0, 0)) → (W.setCells g o vs).heap[g]? = some (.cells (setL cs o vs).toArray t (0, 0))
 | [], _, _, _, h => h
 | c :: vs, o, W, cs, h => by
  rw [World.setCells, setL]
  refine heap_setCells_same vs (o + 1) _ _ ?_
  rw [heap_setCell_same W g o _ _ c h]
  simp

theorem padded_cells (bit : Int) (l : List UInt8) (h : l.length ≤ 64) : setL (.int .u64 bit :: (noughtB 64).map byteC) 1 (l.map byteC) = wcells (bit, padded l) := by
 have e : (noughtB 64).map byteC = (noughtB l.length).map byteC ++ (noughtB (64 - l.length)).map byteC := by
  rw [← List.map_append]
  unfold noughtB
  rw [List.replicate_append_replicate, show l.length + (64 - l.length) = 64 by omega]
 rw [e, show Value.int .u64 bit :: ((noughtB l.length).map byteC ++ (noughtB (64 - l.length)).map byteC) = [Value.int .u64 bit] ++ ((noughtB l.length).map byteC ++ (noughtB (64 - l.length)).map byteC) by rfl, show (1 : Nat) = [Value.int .u64 bit].length + 0 by rfl, setL_right, setL_all _ _ _ (by simp [noughtB])]
 simp [wcells, padded]

theorem DiskM.regrow {W w5 : World} {base : Own} {B : Nat} {D : Dsk} {g m cap : Nat} {ls : List Value} (h : DiskM W base B D (.slice (some ⟨g, 0, none⟩) m cap) ls) (i : Nat) (s : Sec) (hs : D.secs[i]? = some s) (v v' : Value) (hv : ls[i]? = some v) (l : List (Int × List UInt8))
  (hg : W.grownBy w5 v.ownBlock) (hv' : w5.ownsRow 0 144 65 v' l.length (l.flatMap wcells)) (hl : ∀ p ∈ l, p.2.length = 64 ∧ 0 ≤ p.1 ∧ p.1 < 18446744073709551616) (hwh : ∀ b, v'.ownBlock = some b → v.ownBlock = some b ∨ W.heap.size ≤ b) (hbase : base.h ≤ W.heap.size) :
  DiskM (w5.setCell ⟨g, i * 65 + 64, none⟩ v') base B { D with secs := D.secs.set i { s with loose := l } } (.slice (some ⟨g, 0, none⟩) m cap) (ls.set i v') ∧ Kept base W (w5.setCell ⟨g, i * 65 + 64, none⟩ v') := by
 obtain rfl := h.len_eq
 obtain ⟨hbg, cur, hh⟩ := h.block
 have hvt : ∀ b, v.ownBlock = some b → base.mine b ∧ ∃ cs, W.heap[b]? = some (.cells cs 144 (0, 0)) := fun b hb => by
  rcases (h.loose i s v hs hv).2 with ⟨rfl, -⟩ | ⟨lg, lcap, lcur, rfl, hlb, hlh, -⟩
  ·cases hb
  ·simp only [Value.ownBlock, Option.some.injEq] at hb
   subst hb
   exact ⟨h.mine.2 _ (List.mem_of_getElem? hv) _ rfl, _, hlh⟩
 have hBv : some B ≠ v.ownBlock := fun e => by
  obtain ⟨-, cs, hcs⟩ := hvt B e.symm
  rw [h.head] at hcs
  simp only [Option.some.injEq, Obj.cells.injEq] at hcs
  exact absurd hcs.2.1 (by decide)
 have hgv : some g ≠ v.ownBlock := fun e => by
  obtain ⟨-, cs, hcs⟩ := hvt g e.symm
  rw [hh] at hcs
  simp only [Option.some.injEq, Obj.cells.injEq] at hcs
  exact absurd hcs.2.1 (by decide)
 have hBg : B ≠ g := fun e => by
  subst e
  have := h.head
  rw [hh] at this
  simp only [Option.some.injEq, Obj.cells.injEq] at this
  exact absurd this.2.1 (by decide)
 have hh5 := (hg.block g (heap_lt hh) hgv).trans hh
 have hi := (List.getElem?_eq_some_iff.1 hs).1
 have hok := h.ok s (List.mem_of_getElem? hs)
 have hsl : (D.secs.set i { s with loose := l }).length = D.secs.length := List.length_set
 have hka : ∀ b, b ≠ g → (w5.setCell ⟨g, i * 65 + 64, none⟩ v').heap[b]? = w5.heap[b]? := fun b hne => heap_setCell_other _ _ _ _ (fun e => hne e)
 have own5 : w5.ownsRow 0 87 65 (.slice (some ⟨g, 0, none⟩) D.secs.length cap) D.secs.length (dcells D.secs ls) := by
  refine ⟨h.own.1, ?_⟩
  rcases h.own.2 with ⟨e, -⟩ | ⟨g', cap', cur', e, hb', hh', rest⟩
  ·simp at e
  ·simp only [Value.slice.injEq, Option.some.injEq, Addr.mk.injEq, and_true, true_and] at e
   obtain ⟨rfl, rfl⟩ := e
   exact .inr ⟨g, cap, cur', rfl, hb', (hg.block g (heap_lt hh') hgv).trans hh', rest⟩
 have oth : ∀ (j : Nat) (s' : Sec) (u : Value), j ≠ i → D.secs[j]? = some s' → ls[j]? = some u → w5.ownsRow 0 144 65 u s'.loose.length (s'.loose.flatMap wcells) := fun j s' u hj hs' hu => by
  have h0 := h.loose j s' u hs' hu
  refine ⟨h0.1, ?_⟩
  rcases h0.2 with hn | ⟨lg, lcap, lcur, e, hlb, hlh, rest⟩
  ·exact .inl hn
  ·have hap := h.apart j i u v lg hj hu hv (by rw [e]; rfl)
   exact .inr ⟨lg, lcap, lcur, e, hlb, (hg.block lg (heap_lt hlh) (fun e' => hap e'.symm)).trans hlh, rest⟩
 refine ⟨⟨h.low, (hka B hBg).trans ((hg.block B (heap_lt h.head) hBv).trans h.head), by rw [List.length_set, hsl]; exact h.len, ?_, fun j s' u hs' hu => ?_, fun j k v1 v2 b hjk h1 h2 hb => ?_, fun s' hs' => ?_, h.num, h.left, ⟨h.mine.1, fun u hu b hb => (List.mem_or_eq_of_mem_set hu).elim (fun hm => h.mine.2 u hm b hb) (fun e => (hwh b (by rw [← e]; exact hb)).elim (fun e => (hvt b e).1) (fun e => .inl (Nat.le_trans hbase e)))⟩⟩, ⟨hg.os, hg.tape, hg.output, by simpa using hg.size, fun b hb ho => ?_⟩⟩
 ·have := ownsSet own5 (i * 65 + 64) v'
  rw [dcells_loose _ _ h.ok h.len.symm i s l v' hs] at this
  simp only [hsl]
  exact this
 ·simp only [List.getElem?_set] at hs' hu
  split at hs'
  ·rename_i e
   subst e
   rw [if_pos rfl] at hu
   have e1 := Option.some.inj hs'
   split at hu
   ·have e2 := Option.some.inj hu
    subst e1 e2
    exact ownsAway hv' hh5 (by decide) hka
   ·cases hu
  ·rename_i e
   rw [if_neg e] at hu
   exact ownsAway (oth j s' u (fun e' => e e'.symm) hs' hu) hh5 (by decide) hka
 ·have key : ∀ (j : Nat) (u : Value) (b : Nat), j ≠ i → ls[j]? = some u → v'.ownBlock = some b → u.ownBlock ≠ some b := fun j u b hj hu hb hub => by
   have hsj : ∃ s', D.secs[j]? = some s' := ⟨_, List.getElem?_eq_getElem (by rw [← h.len]; exact (List.getElem?_eq_some_iff.1 hu).1)⟩
   obtain ⟨s', hs'⟩ := hsj
   rcases hwh b hb with e | e
   ·exact h.apart j i u v b hj hu hv hub e
   ·rcases (h.loose j s' u hs' hu).2 with ⟨rfl, -⟩ | ⟨lg, lcap, lcur, rfl, -, hlh, -⟩
    ·cases hub
    ·simp only [Value.ownBlock, Option.some.injEq] at hub
     have := heap_lt hlh
     omega
  simp only [List.getElem?_set] at h1 h2
  by_cases e1 : i = j
  ·rw [if_pos e1] at h1
   rw [if_neg (fun e2 => hjk (e1.symm.trans e2))] at h2
   split at h1
   ·have e := Option.some.inj h1
    subst e
    exact key k v2 b (fun e => hjk (e1.symm.trans e.symm)) h2 hb
   ·cases h1
  ·rw [if_neg e1] at h1
   by_cases e2 : i = k
   ·rw [if_pos e2] at h2
    split at h2
    ·have e := Option.some.inj h2
     subst e
     exact fun hb' => key j v1 b (fun e => e1 e.symm) h1 hb' hb
    ·cases h2
   ·rw [if_neg e2] at h2
    exact h.apart j k v1 v2 b hjk h1 h2 hb
 ·rcases List.mem_or_eq_of_mem_set hs' with hm | rfl
  ·exact h.ok s' hm
  ·exact ⟨hok.1, hl⟩
 ·have hbg' : b ≠ g := fun e => by
   subst e
   rcases ho with ho | ho
   ·exact ho hbg
   ·exact ho _ _ _ hh (.inr (.inl rfl))
  have hbv : some b ≠ v.ownBlock := fun e => by
   obtain ⟨h1, cs, h2⟩ := hvt b e.symm
   rcases ho with ho | ho
   ·exact ho h1
   ·exact ho _ _ _ h2 (.inr (.inr rfl))
  exact (hka b hbg').trans (hg.block b hb hbv)

theorem wpList_copyA {P : Program} {w : World} {ops : Array Oper} {rest : List Oper} {op : Oper} {a : Act} {Q : Exit → Act → World → Prop} (hgd : op.guard = none) (dd : Nat) (hdst : op.dst = some dd) (d s : Operand) (dT sT : TypeId)
  (ho : op.op = .call { callee := .builtin .copy, args := #[d, s], argTypes := #[dT, sT] }) (dv sv v : Value) (w' : World) (hd : a.eval d = dv) (hs : a.eval s = sv)
  (hrun : ∀ ty, (Builtin.copy_ #[dT, sT] ty #[dv, sv]).run P w = .ok v w') (h : wpList P ops Q rest (a.put (some dd) v) w') : wpList P ops Q (op :: rest) a w := by
 refine wpList_plain hgd fun K hK => ?_
 rw [← hdst] at h
 unfold Oper.wp
 simp [execOp, ho, resolve, invoke, builtin, hd, hs, hrun, Result.andThen]
 exact hK _ _ h

theorem step_val {P : Program} {ops : Array Oper} {o : Oper} {a : Act} {w : World} {K : Act → World → Prop} {Q : Exit → Act → World → Prop} {E : Prop} (hgd : o.guard = none) (d : Nat) (hd : o.dst = some d) (v : Value) (w' : World) (hrun : (execOp a.eval o).run P w = .ok (.value v) w')
  (h : K (a.put (some d) v) w') : if Region.wanted o (yielded ops a.tmps) = true then Oper.wp P o a w K Q else E := by
 have hw : Region.wanted o (yielded ops a.tmps) = true := by simp [Region.wanted, hgd]
 rw [if_pos hw]
 rw [← hd] at h
 unfold Oper.wp
 simp only [hrun]
 exact h

theorem Tryz.infoWrite : (Tryz.prog.info? 144).map (fun i => (i.zero, i.size, i.bytes)) = some (some (.agg wZ.toArray), 65, 72) := by kernel_rfl

theorem wcells_len {p : Int × List UInt8} (h : p.2.length = 64) : (wcells p).length = 65 := by simp [wcells, h]

theorem padded_len {l : List UInt8} (h : l.length ≤ 64) : (padded l).length = 64 := by simp [padded, noughtB]; omega

theorem copy_in (w2 : World) (bit : Int) (t : ByteArray) (ht : t.size ≤ 64) : ∀ ty, (Builtin.copy_ #[142, 9] ty #[.slice (some ⟨w2.heap.size, 1, none⟩) 64 64, .string t]).run Tryz.prog (w2.alloc (.cells (.int .u64 bit :: (noughtB 64).map byteC).toArray 144)) = .ok (goInt t.size) ((w2.alloc (.cells (.int .u64 bit :: (noughtB 64).map byteC).toArray 144)).setCells w2.heap.size 1 (t.data.toList.map byteC)) := fun ty => by
 refine run_copy_string _ _ _ ty 5 w2.heap.size 1 64 64 t Tryz.underlying142 (fun w => by kernel_rfl) ht (fun j hj => ?_) (fun j _ => by have hh := heap_alloc_new w2 (.cells (.int .u64 bit :: (noughtB 64).map byteC).toArray 144); unfold World.frozen?; simp only [hh]; simp)
 rw [World.cell?_alloc_new, Array.getElem?_eq_getElem (by simp [noughtB]; omega)]
 rfl

end Go.Proofs.YtnhbfehfipafoaaGreatDoor

/- Sectors of a log, and the deeds that they say: without memory. -/
namespace Go.Proofs.YtnhbfehfipafoaaGreatDoor
open Go.RowKit

def bt (l : List UInt8) (i : Nat) : Nat := (l.getD i 0).toNat

theorem bt_le (l : List UInt8) (i : Nat) : bt l i ≤ 255 := by
 unfold bt
 have := (l.getD i 0).toNat_lt
 omega

def numL (l : List UInt8) : Int := (bt l 1 : Int) + 256 * (bt l 2 : Int) + 65536 * (bt l 3 : Int) + 16777216 * (bt l 4 : Int)

def rdSec (n : Int) (l : List UInt8) : Nat × List UInt8 :=
 if (bt l 0 = 111 ∨ bt l 0 = 99) ∧ numL l = n % 4294967296 ∧ bt l 5 ≤ 58 then (bt l 0, (l.drop 6).take (bt l 5)) else (0, [])

def unopL (b : List UInt8) : Option OpV :=
 match unB ⟨b.toArray⟩ with
 | some o => if opF o = 0 ∧ opB o = b then some o else none
 | none => none

theorem unopL_iff {b : List UInt8} {o : OpV} : unopL b = some o ↔ opF o = 0 ∧ opB o = b := by
 unfold unopL
 constructor
 ·intro h
  cases hu : unB ⟨b.toArray⟩ with
  | none => rw [hu] at h; cases h
  | some p =>
   rw [hu] at h
   dsimp only at h
   split at h
   ·rename_i hp
    obtain rfl := Option.some.inj h
    exact hp
   ·cases h
 ·rintro ⟨h1, rfl⟩
  rw [unB_opB h1]
  dsimp only
  rw [if_pos ⟨h1, rfl⟩]

theorem unopL_none {b : List UInt8} (h : ∀ o, opF o = 0 → opB o ≠ b) : unopL b = none := by
 cases hu : unopL b with
 | none => rfl
 | some o => exact absurd (unopL_iff.1 hu).2 (h o (unopL_iff.1 hu).1)

structure St where
 i : Nat
 stop : Bool
 ops : List OpV
 ds : List (List OpV)
 e : Nat

def stepS (f : Int) (st : St) (s : List UInt8) : St :=
 if st.stop = true then { st with i := st.i + 1 }
 else if (rdSec (f + st.i) s).1 = 111 then
  match unopL (rdSec (f + st.i) s).2 with
  | none => { st with i := st.i + 1, stop := true }
  | some o => { st with i := st.i + 1, ops := st.ops ++ [o] }
 else if (rdSec (f + st.i) s).1 = 99 ∧ (rdSec (f + st.i) s).2 = fourB st.ops.length then ⟨st.i + 1, false, [], st.ds ++ [st.ops], st.i + 1⟩
 else { st with i := st.i + 1, stop := true }

def st0 : St := ⟨0, false, [], [], 0⟩

def scanS (f : Int) (l : List (List UInt8)) : St := l.foldl (stepS f) st0

theorem stepS_i (f : Int) (st : St) (s : List UInt8) : (stepS f st s).i = st.i + 1 := by
 unfold stepS
 split
 ·rfl
 ·split
  ·split <;> rfl
  ·split <;> rfl

theorem fold_i (f : Int) : ∀ (l : List (List UInt8)) (st : St), (l.foldl (stepS f) st).i = st.i + l.length
 | [], _ => rfl
 | s :: t, st => by rw [List.foldl_cons, fold_i f t, stepS_i, List.length_cons]; omega

theorem fold_stop (f : Int) : ∀ (l : List (List UInt8)) (st : St), st.stop = true → (l.foldl (stepS f) st).ds = st.ds ∧ (l.foldl (stepS f) st).e = st.e ∧ (l.foldl (stepS f) st).stop = true
 | [], _, h => ⟨rfl, rfl, h⟩
 | s :: t, st, h => by
  have e : stepS f st s = { st with i := st.i + 1 } := by unfold stepS; rw [if_pos h]
  rw [List.foldl_cons, e]
  exact fold_stop f t _ h

theorem stepS_or (f : Int) (st : St) (s : List UInt8) : ((stepS f st s).ds = st.ds ∧ (stepS f st s).e = st.e) ∨ (st.stop = false ∧ stepS f st s = ⟨st.i + 1, false, [], st.ds ++ [st.ops], st.i + 1⟩ ∧ (rdSec (f + st.i) s).1 = 99) := by
 unfold stepS
 split
 ·exact .inl ⟨rfl, rfl⟩
 ·rename_i hs
  split
  ·split <;> exact .inl ⟨rfl, rfl⟩
  ·split
   ·rename_i h2
    exact .inr ⟨by simpa using hs, rfl, h2.1⟩
   ·exact .inl ⟨rfl, rfl⟩

theorem fold_more (f : Int) : ∀ (l : List (List UInt8)) (st : St), st.ds.length ≤ (l.foldl (stepS f) st).ds.length
 | [], _ => Nat.le_refl _
 | s :: t, st => by
  rw [List.foldl_cons]
  refine Nat.le_trans ?_ (fold_more f t _)
  rcases stepS_or f st s with ⟨h, -⟩ | ⟨-, h, -⟩
  ·rw [h]; exact Nat.le_refl _
  ·rw [h]; simp

theorem scan_take (f : Int) (l : List (List UInt8)) : ∀ n, n ≤ l.length → (scanS f (l.take n)).e ≤ n ∧ scanS f (l.take (scanS f (l.take n)).e) = ⟨(scanS f (l.take n)).e, false, [], (scanS f (l.take n)).ds, (scanS f (l.take n)).e⟩
 | 0, _ => ⟨Nat.le_refl _, rfl⟩
 | n + 1, hn => by
  obtain ⟨h1, h2⟩ := scan_take f l n (by omega)
  have e : scanS f (l.take (n + 1)) = stepS f (scanS f (l.take n)) l[n] := by
   unfold scanS
   rw [List.take_succ_eq_append_getElem (by omega), List.foldl_append]
   rfl
  have hi : (scanS f (l.take n)).i = n := by
   unfold scanS
   rw [fold_i, List.length_take]
   show 0 + min n l.length = n
   omega
  rcases stepS_or f (scanS f (l.take n)) l[n] with ⟨h3, h4⟩ | ⟨-, h3, -⟩
  ·rw [e, h3, h4]
   exact ⟨by omega, h2⟩
  ·rw [e, h3, hi]
   refine ⟨Nat.le_refl _, ?_⟩
   show scanS f (l.take (n + 1)) = _
   rw [e, h3, hi]

theorem scan_full (f : Int) (l : List (List UInt8)) : (scanS f l).e ≤ l.length ∧ scanS f (l.take (scanS f l).e) = ⟨(scanS f l).e, false, [], (scanS f l).ds, (scanS f l).e⟩ := by
 have := scan_take f l l.length (Nat.le_refl _)
 rwa [List.take_length] at this

def NoCl (f : Int) : Nat → List (List UInt8) → Prop
 | _, [] => True
 | i, s :: t => (rdSec (f + i) s).1 ≠ 99 ∧ NoCl f (i + 1) t

theorem fold_nocl (f : Int) : ∀ (l : List (List UInt8)) (st : St), NoCl f st.i l → (l.foldl (stepS f) st).ds = st.ds ∧ (l.foldl (stepS f) st).e = st.e
 | [], _, _ => ⟨rfl, rfl⟩
 | s :: t, st, h => by
  rw [List.foldl_cons]
  have h1 : (stepS f st s).ds = st.ds ∧ (stepS f st s).e = st.e := by
   rcases stepS_or f st s with h1 | ⟨-, -, h1⟩
   ·exact h1
   ·exact absurd h1 h.1
  obtain ⟨h2, h3⟩ := fold_nocl f t (stepS f st s) (by rw [stepS_i]; exact h.2)
  exact ⟨h2.trans h1.1, h3.trans h1.2⟩

def WipedL (f : Int) : Nat → List (List UInt8) → List (List UInt8) → Prop
 | _, [], [] => True
 | i, s :: t, s' :: t' => (s' = s ∨ ((rdSec (f + i) s).1 = 99 ∧ (rdSec (f + i) s').1 = 0)) ∧ WipedL f (i + 1) t t'
 | _, _, _ => False

theorem fold_wiped (f : Int) : ∀ (l l' : List (List UInt8)) (st : St), WipedL f st.i l l' → (l.foldl (stepS f) st).ds = st.ds → (l'.foldl (stepS f) st).ds = st.ds ∧ (l'.foldl (stepS f) st).e = st.e
 | [], [], _, _, _ => ⟨rfl, rfl⟩
 | [], _ :: _, _, h, _ => h.elim
 | _ :: _, [], _, h, _ => h.elim
 | s :: t, s' :: t', st, h, hd => by
  rw [List.foldl_cons] at hd ⊢
  cases hst : st.stop with
  | true =>
   have e : ∀ x, stepS f st x = { st with i := st.i + 1 } := fun x => by unfold stepS; rw [if_pos hst]
   rw [e]
   have := fold_stop f t' { st with i := st.i + 1 } hst
   exact ⟨this.1, this.2.1⟩
  | false =>
   have h1 : (stepS f st s).ds = st.ds ∧ (stepS f st s).e = st.e := by
    rcases stepS_or f st s with h1 | ⟨-, h1, -⟩
    ·exact h1
    ·have := fold_more f t (stepS f st s)
     have h2 : (stepS f st s).ds.length = st.ds.length + 1 := by rw [h1]; simp
     rw [hd] at this
     exact absurd this (by omega)
   rcases h.1 with rfl | ⟨h99, h0⟩
   ·obtain ⟨h2, h3⟩ := fold_wiped f t t' (stepS f st s') (by rw [stepS_i]; exact h.2) (by rw [hd, h1.1])
    exact ⟨h2.trans h1.1, h3.trans h1.2⟩
   ·have e' : stepS f st s' = { st with i := st.i + 1, stop := true } := by
     unfold stepS
     rw [if_neg (by rw [hst]; decide), if_neg (by rw [h0]; decide), if_neg (fun h => by rw [h0] at h; exact absurd h.1 (by decide))]
    rw [e']
    have := fold_stop f t' { st with i := st.i + 1, stop := true } rfl
    exact ⟨this.1, this.2.1⟩

def secT (k : UInt8) (n : Int) (b : List UInt8) : List UInt8 := k :: fourB (n % 4294967296) ++ lowB b.length :: b

theorem secT_len (k : UInt8) (n : Int) (b : List UInt8) : (secT k n b).length = 6 + b.length := by
 unfold secT
 simp [fourB_len]
 omega

theorem low_nat (z : Int) : ((lowB z).toNat : Int) = z % 256 := lowB_nat z

theorem rdSec_secT (k : UInt8) (hk : k.toNat = 111 ∨ k.toNat = 99) (n : Int) (b : List UInt8) (hb : b.length ≤ 58) : rdSec n (padded (secT k n b)) = (k.toNat, b) := by
 have e : padded (secT k n b) = k :: lowB (n % 4294967296) :: lowB (n % 4294967296 / 256) :: lowB (n % 4294967296 / 65536) :: lowB (n % 4294967296 / 16777216) :: lowB b.length :: (b ++ noughtB (64 - (secT k n b).length)) := rfl
 have h0 : bt (padded (secT k n b)) 0 = k.toNat := rfl
 have h5 : bt (padded (secT k n b)) 5 = b.length := by
  have : (bt (padded (secT k n b)) 5 : Int) = (b.length : Int) % 256 := low_nat _
  omega
 have hn : numL (padded (secT k n b)) = n % 4294967296 := by
  have g1 : (bt (padded (secT k n b)) 1 : Int) = n % 4294967296 % 256 := low_nat _
  have g2 : (bt (padded (secT k n b)) 2 : Int) = n % 4294967296 / 256 % 256 := low_nat _
  have g3 : (bt (padded (secT k n b)) 3 : Int) = n % 4294967296 / 65536 % 256 := low_nat _
  have g4 : (bt (padded (secT k n b)) 4 : Int) = n % 4294967296 / 16777216 % 256 := low_nat _
  unfold numL
  rw [g1, g2, g3, g4]
  omega
 unfold rdSec
 rw [if_pos ⟨by rw [h0]; exact hk, hn, by rw [h5]; exact hb⟩, h0, h5]
 congr 1
 rw [e]
 show (b ++ _).take b.length = b
 rw [List.take_append_of_le_length (Nat.le_refl _), List.take_length]

theorem rdSec_zero (n : Int) : (rdSec n (padded [])).1 = 0 := by
 unfold rdSec
 rw [if_neg (fun h => by
  have : bt (padded []) 0 = 0 := by decide
  rw [this] at h
  omega)]

def opSecs (f : Int) : Nat → List OpV → List (List UInt8)
 | _, [] => []
 | i, o :: t => padded (secT 111 (f + i) (opB o)) :: opSecs f (i + 1) t

theorem opB_small {o : OpV} (h : opF o = 0) : (opB o).length ≤ 20 := by
 obtain ⟨-, -, h8, h4⟩ := shapeB_ok (opF_ok h).1
 have := opB_len o
 omega

theorem fold_ops (f : Int) : ∀ (os : List OpV) (st : St), st.stop = false → (∀ o ∈ os, opF o = 0) → (opSecs f st.i os).foldl (stepS f) st = { st with i := st.i + os.length, ops := st.ops ++ os }
 | [], st, _, _ => by simp [opSecs]
 | o :: t, st, hst, ho => by
  have h0 := ho o (by simp)
  have hr := rdSec_secT 111 (.inl rfl) (f + st.i) (opB o) (by have := opB_small h0; omega)
  have e : stepS f st (padded (secT 111 (f + st.i) (opB o))) = { st with i := st.i + 1, ops := st.ops ++ [o] } := by
   unfold stepS
   rw [if_neg (by rw [hst]; decide), hr]
   dsimp only
   rw [if_pos (by decide), unopL_iff.2 ⟨h0, rfl⟩]
  rw [opSecs, List.foldl_cons, e]
  have := fold_ops f t { st with i := st.i + 1, ops := st.ops ++ [o] } hst (fun x hx => ho x (List.mem_cons_of_mem _ hx))
  dsimp only at this
  rw [this]
  simp
  omega

theorem fold_deed (f : Int) (os : List OpV) (st : St) (hst : st.stop = false) (h0 : st.ops = []) (ho : ∀ o ∈ os, opF o = 0) :
  (opSecs f st.i os ++ [padded (secT 99 (f + (st.i + os.length : Nat)) (fourB os.length))]).foldl (stepS f) st = ⟨st.i + os.length + 1, false, [], st.ds ++ [os], st.i + os.length + 1⟩ := by
 rw [List.foldl_append, fold_ops f os st hst ho, List.foldl_cons, List.foldl_nil, h0, List.nil_append]
 have hr := rdSec_secT 99 (.inr rfl) (f + (st.i + os.length : Nat)) (fourB os.length) (by rw [fourB_len]; decide)
 unfold stepS
 dsimp only
 rw [if_neg (by rw [hst]; decide), hr]
 dsimp only
 rw [if_neg (by decide), if_pos ⟨by decide, rfl⟩]

end Go.Proofs.YtnhbfehfipafoaaGreatDoor

/- A disk: of a sector's writes the one with a bit is taken out. -/
namespace Go.Proofs.YtnhbfehfipafoaaGreatDoor
open Go.RowKit

theorem wcells_set : ∀ (l : List (Int × List UInt8)), (∀ p ∈ l, p.2.length = 64) → ∀ (q : Nat) (p : Int × List UInt8), q < l.length → p.2.length = 64 → setL (l.flatMap wcells) (q * 65) (wcells p) = (l.set q p).flatMap wcells
 | [], _, q, p, hq, _ => by simp at hq
 | p0 :: l, hok, 0, p, _, hp => by
  have h0 := wcells_len (hok p0 (by simp))
  rw [List.flatMap_cons, List.set_cons_zero, List.flatMap_cons, Nat.zero_mul, setL_all _ _ _ (by rw [h0, wcells_len hp])]
 | p0 :: l, hok, q + 1, p, hq, hp => by
  have h0 := wcells_len (hok p0 (by simp))
  rw [List.flatMap_cons, List.set_cons_succ, List.flatMap_cons, show (q + 1) * 65 = (wcells p0).length + q * 65 by omega, setL_right, wcells_set l (fun p hp => hok p (by simp [hp])) q p (by simpa using hq) hp]

def movedL (pre post : List (Int × List UInt8)) (p : Int × List UInt8) (k : Nat) : List (Int × List UInt8) := pre ++ (post.take k ++ (p :: post).drop k)

theorem movedL_len (pre post : List (Int × List UInt8)) (p : Int × List UInt8) (k : Nat) (hk : k ≤ post.length) : (movedL pre post p k).length = pre.length + post.length + 1 := by
 unfold movedL
 rw [List.length_append, List.length_append, List.length_take, List.length_drop, List.length_cons]; omega

theorem movedL_at (pre post : List (Int × List UInt8)) (p : Int × List UInt8) (k : Nat) (hk : k < post.length) : (movedL pre post p k)[pre.length + (k + 1)]? = some post[k] := by
 unfold movedL
 rw [List.getElem?_append_right (by omega), show pre.length + (k + 1) - pre.length = k + 1 by omega, List.getElem?_append_right (by rw [List.length_take]; omega), List.length_take, Nat.min_eq_left (by omega), List.getElem?_drop, show k + (k + 1 - k) = k + 1 by omega, List.getElem?_cons_succ, List.getElem?_eq_getElem hk]

theorem movedL_step (pre post : List (Int × List UInt8)) (p : Int × List UInt8) (k : Nat) (hk : k < post.length) : (movedL pre post p k).set (pre.length + k) post[k] = movedL pre post p (k + 1) := by
 unfold movedL
 have h1 : (post.take k).length = k := by rw [List.length_take]; omega
 have h2 : (p :: post).drop k = (p :: post)[k]'(by simp; omega) :: (p :: post).drop (k + 1) := List.drop_eq_getElem_cons _
 rw [List.set_append_right _ _ (by omega), show pre.length + k - pre.length = k by omega, List.set_append_right _ _ (by omega), h1, Nat.sub_self, h2, List.set_cons_zero, List.take_succ_eq_append_getElem hk, List.append_assoc]
 rfl

theorem movedL_mem {pre post : List (Int × List UInt8)} {p q : Int × List UInt8} {k : Nat} (h : q ∈ movedL pre post p k) : q ∈ pre ++ p :: post := by
 unfold movedL at h
 rcases List.mem_append.1 h with h | h
 ·exact List.mem_append.2 (.inl h)
 ·rcases List.mem_append.1 h with h | h
  ·exact List.mem_append.2 (.inr (List.mem_cons_of_mem _ (List.mem_of_mem_take h)))
  ·exact List.mem_append.2 (.inr (List.mem_of_mem_drop h))

theorem movedL_end (pre post : List (Int × List UInt8)) (p : Int × List UInt8) : (movedL pre post p post.length).take (pre.length + post.length) = pre ++ post := by
 unfold movedL
 rw [List.take_length, ← List.append_assoc, List.take_append_of_le_length (by simp)]
 exact List.take_of_length_le (by simp)

set_option linter.unusedSimpArgs false in
set_option maxRecDepth 100000 in
set_option maxHeartbeats 1600000 in
theorem indexSome (w : World) (base lg cap : Nat) (pre post : List (Int × List UInt8)) (bit : Int) (data : List UInt8) (bb : Nat) (hown : w.ownsRow base 144 65 (.slice (some ⟨lg, 0, none⟩) (pre ++ (bit, data) :: post).length cap) (pre ++ (bit, data) :: post).length ((pre ++ (bit, data) :: post).flatMap wcells)) (hok : ∀ p ∈ pre ++ (bit, data) :: post, p.2.length = 64) (hno : ∀ p ∈ pre, p.1 ≠ bit) (hc : w.cell? ⟨bb, 0, none⟩ = some (.int .u64 bit)) (hlt : bb < w.heap.size) :
  Calls Tryz.prog 155 #[.slice (some ⟨lg, 0, none⟩) (pre ++ (bit, data) :: post).length cap, .func (.func 138) #[] #[.pointer (some ⟨bb, 0, none⟩)]] w fun e w' => e = .returned (.int .i64 (pre.length : Int)) ∧ Below w.heap.size w w' := by
 have hn : pre.length < (pre ++ (bit, data) :: post).length := by simp
 have hlm : (pre ++ (bit, data) :: post).length ≤ 9223372036854775807 := by
  rcases hown.2 with ⟨e, -⟩ | ⟨g', cap', cur, e, -, -, h1, h2, -⟩
  ·simp at e
  ·unfold maxLen at h2; exact Nat.le_trans h1 h2
 have HP : Hid (∀ k (hk : k < pre.length), (pre ++ (bit, data) :: post)[k]? = some pre[k]) := fun k hk => by rw [List.getElem?_append_left hk, List.getElem?_eq_getElem hk]
 have HQ : Hid ((pre ++ (bit, data) :: post)[pre.length]? = some (bit, data)) := by show _ = _; simp
 have HO := hide hown; have HOK := hide hok; have HNO := hide hno; have HC := hide hc
 clear hown hok hno hc
 generalize pre ++ (bit, data) :: post = loose at *
 go_enter Tryz.func155, Tryz.ntmps155
 go_wp2
 go_loopw [8] (fun x wr => ∃ k : Nat, k ≤ pre.length ∧ x = .int .i64 k ∧ Hid (Below w.heap.size w wr)) (fun x _ => loose.length - (intOf x).toNat)
 case atStart => exact ⟨0, Nat.zero_le _, rfl, hide (Below.refl _ _)⟩
 case round =>
  obtain ⟨k, hk, rfl, HB⟩ := hrel
  have hkl : k < loose.length := by omega
  by_cases hkp : k < pre.length
  ·have HLD := hide (load_write wr base lg _ cap loose (ownsLater HO.out HB.out) HOK.out k pre[k] (HP.out k hkp))
   have hne := HNO.out pre[k] (List.getElem_mem hkp)
   generalize pre[k] = p at *
   obtain ⟨b1, dat⟩ := p
   have hbe : (b1 == bit) = false := beq_false_of_ne hne
   go_wp2_with (show wpList _ _ _ ({ dst := some 15, op := _, type := _, pos := _, after := _, guard := _ } :: _) _ _; refine wpList_loadA rfl 15 rfl (.tmp 14) 144 rfl ⟨lg, k * 65, none⟩ _ rfl HLD.out ?_)
   refine (addC_any wr (dat.map byteC) b1 bit bb ((HB.out.cell (p := ⟨bb, 0, none⟩) hlt).trans HC.out) (Nat.lt_of_lt_of_le hlt HB.out.size)).mono ?_
   rintro e w2 ⟨rfl, hb2⟩
   rw [hbe]
   have HB2 := hide (HB.out.trans (hb2.mono HB.out.size))
   clear hb2 HLD hbe hne HB
   go_wp2
   go_roundw
   case rel => exact ⟨k + 1, by omega, by go_num, HB2⟩
   case measure => simp [intOf]; omega
  ·obtain rfl : k = pre.length := by omega
   have HLD := hide (load_write wr base lg _ cap loose (ownsLater HO.out HB.out) HOK.out pre.length (bit, data) HQ.out)
   have hbe : (bit == bit) = true := by simp
   go_wp2_with (show wpList _ _ _ ({ dst := some 15, op := _, type := _, pos := _, after := _, guard := _ } :: _) _ _; refine wpList_loadA rfl 15 rfl (.tmp 14) 144 rfl ⟨lg, pre.length * 65, none⟩ _ rfl HLD.out ?_)
   refine (addC_any wr (data.map byteC) bit bit bb ((HB.out.cell (p := ⟨bb, 0, none⟩) hlt).trans HC.out) (Nat.lt_of_lt_of_le hlt HB.out.size)).mono ?_
   rintro e w2 ⟨rfl, hb2⟩
   rw [hbe]
   have HB2 := hide (HB.out.trans (hb2.mono HB.out.size))
   clear hb2 HLD hbe HB
   go_wp2
   go_ret
   exact ⟨rfl, HB2.out⟩

end Go.Proofs.YtnhbfehfipafoaaGreatDoor
