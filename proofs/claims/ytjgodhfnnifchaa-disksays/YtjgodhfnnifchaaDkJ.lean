/- A disk: a write is put to a sector, the walk. -/
import Derived.Test.YtjgodhfnnifchaaDkI
import Derived.Test.YtjgodhfnnifchaaSwap
import Derived.Lib.LazyBuf
import Derived.Deep.WholeRow
namespace Go.Proofs.Ytjgodhfnnifchaa
open Go.RowKit

def noughtB (n : Nat) : List UInt8 := List.replicate n 0

/-- A text as a sector's bytes. -/
def padded (s : List UInt8) : List UInt8 := s ++ noughtB (64 - s.length)

def wZ : List Value := .int .u64 0 :: (noughtB 64).map byteC

theorem wZ_len : wZ.length = 65 := by simp [wZ, noughtB]

theorem run_zero_write (w : World) : (Instr.alloc 88 true (.tuple #[])).run Try.prog w = .ok (.pointer (some ⟨w.heap.size, 0, none⟩)) (w.alloc (.cells wZ.toArray 88)) := by
  have h : (zeroValue 88).run Try.prog w = .ok (.agg wZ.toArray) w := by kernel_rfl
  simp [Instr.alloc, h, newVar, newRow, Value.cells]

theorem run_build_write (w : World) (bit : Int) : (Instr.build 88 #[(0, .int .u64 bit)]).run Try.prog w = .ok (.agg (.int .u64 bit :: (noughtB 64).map byteC).toArray) w := by kernel_rfl

theorem heap_setCells_same {g : Nat} {t : TypeId} : ∀ (vs : List Value) (o : Nat) (W : World) (cs : List Value), W.heap[g]? = some (.cells cs.toArray t (0, 0)) → (W.setCells g o vs).heap[g]? = some (.cells (setL cs o vs).toArray t (0, 0))
  | [], _, _, _, h => h
  | c :: vs, o, W, cs, h => by
    rw [World.setCells, setL]
    refine heap_setCells_same vs (o + 1) _ _ ?_
    rw [heap_setCell_same W g o _ _ c h]
    simp

theorem padded_cells (bit : Int) (l : List UInt8) (h : l.length ≤ 64) : setL (.int .u64 bit :: (noughtB 64).map byteC) 1 (l.map byteC) = wcells (bit, padded l) := by
  have e : (noughtB 64).map byteC = (noughtB l.length).map byteC ++ (noughtB (64 - l.length)).map byteC := by
    rw [← List.map_append]
    unfold noughtB
    rw [List.replicate_append_replicate, show l.length + (64 - l.length) = 64 by omega]
  rw [e, show Value.int .u64 bit :: ((noughtB l.length).map byteC ++ (noughtB (64 - l.length)).map byteC) = [Value.int .u64 bit] ++ ((noughtB l.length).map byteC ++ (noughtB (64 - l.length)).map byteC) by rfl, show (1 : Nat) = [Value.int .u64 bit].length + 0 by rfl, setL_right, setL_all _ _ _ (by simp [noughtB])]
  simp [wcells, padded]

/-- The list of what is loose grows, and is put in its place. -/
theorem DiskM.regrow {W w5 : World} {base B : Nat} {D : Dsk} {g m cap : Nat} {ls : List Value} (h : DiskM W base B D (.slice (some ⟨g, 0, none⟩) m cap) ls) (i : Nat) (s : Sec) (hs : D.secs[i]? = some s) (v v' : Value) (hv : ls[i]? = some v) (l : List (Int × List UInt8))
    (hg : W.grownBy w5 v.ownBlock) (hv' : w5.ownsRow base 88 65 v' l.length (l.flatMap wcells)) (hl : ∀ p ∈ l, p.2.length = 64 ∧ 0 ≤ p.1 ∧ p.1 < 18446744073709551616) (hwh : ∀ b, v'.ownBlock = some b → v.ownBlock = some b ∨ W.heap.size ≤ b) :
    DiskM (w5.setCell ⟨g, i * 65 + 64, none⟩ v') base B { D with secs := D.secs.set i { s with loose := l } } (.slice (some ⟨g, 0, none⟩) m cap) (ls.set i v') ∧ Kept base W (w5.setCell ⟨g, i * 65 + 64, none⟩ v') := by
  obtain rfl := h.len_eq
  obtain ⟨hbg, cur, hh⟩ := h.block
  have hvt : ∀ b, v.ownBlock = some b → base ≤ b ∧ ∃ cs, W.heap[b]? = some (.cells cs 88 (0, 0)) := fun b hb => by
    rcases (h.loose i s v hs hv).2 with ⟨rfl, -⟩ | ⟨lg, lcap, lcur, rfl, hlb, hlh, -⟩
    · cases hb
    · simp only [Value.ownBlock, Option.some.injEq] at hb
      subst hb
      exact ⟨hlb, _, hlh⟩
  have hBv : some B ≠ v.ownBlock := fun e => by
    obtain ⟨-, cs, hcs⟩ := hvt B e.symm
    rw [h.head] at hcs
    simp only [Option.some.injEq, Obj.cells.injEq] at hcs
    exact absurd hcs.2.1 (by decide)
  have hgv : some g ≠ v.ownBlock := fun e => by
    obtain ⟨-, cs, hcs⟩ := hvt g e.symm
    rw [hh] at hcs
    simp only [Option.some.injEq, Obj.cells.injEq] at hcs
    exact absurd hcs.2.1 (by decide)
  have hBg : B ≠ g := fun e => by
    subst e
    have := h.head
    rw [hh] at this
    simp only [Option.some.injEq, Obj.cells.injEq] at this
    exact absurd this.2.1 (by decide)
  have hh5 := (hg.block g (heap_lt hh) hgv).trans hh
  have hi := (List.getElem?_eq_some_iff.1 hs).1
  have hok := h.ok s (List.mem_of_getElem? hs)
  have hsl : (D.secs.set i { s with loose := l }).length = D.secs.length := List.length_set
  have hka : ∀ b, b ≠ g → (w5.setCell ⟨g, i * 65 + 64, none⟩ v').heap[b]? = w5.heap[b]? := fun b hne => heap_setCell_other _ _ _ _ (fun e => hne e)
  have own5 : w5.ownsRow base 78 65 (.slice (some ⟨g, 0, none⟩) D.secs.length cap) D.secs.length (dcells D.secs ls) := by
    refine ⟨h.own.1, ?_⟩
    rcases h.own.2 with ⟨e, -⟩ | ⟨g', cap', cur', e, hb', hh', rest⟩
    · simp at e
    · simp only [Value.slice.injEq, Option.some.injEq, Addr.mk.injEq, and_true, true_and] at e
      obtain ⟨rfl, rfl⟩ := e
      exact .inr ⟨g, cap, cur', rfl, hb', (hg.block g (heap_lt hh') hgv).trans hh', rest⟩
  have oth : ∀ (j : Nat) (s' : Sec) (u : Value), j ≠ i → D.secs[j]? = some s' → ls[j]? = some u → w5.ownsRow base 88 65 u s'.loose.length (s'.loose.flatMap wcells) := fun j s' u hj hs' hu => by
    have h0 := h.loose j s' u hs' hu
    refine ⟨h0.1, ?_⟩
    rcases h0.2 with hn | ⟨lg, lcap, lcur, e, hlb, hlh, rest⟩
    · exact .inl hn
    · have hap := h.apart j i u v lg hj hu hv (by rw [e]; rfl)
      exact .inr ⟨lg, lcap, lcur, e, hlb, (hg.block lg (heap_lt hlh) (fun e' => hap e'.symm)).trans hlh, rest⟩
  refine ⟨⟨h.low, (hka B hBg).trans ((hg.block B (heap_lt h.head) hBv).trans h.head), by rw [List.length_set, hsl]; exact h.len, ?_, fun j s' u hs' hu => ?_, fun j k v1 v2 b hjk h1 h2 hb => ?_, fun s' hs' => ?_, h.num, h.left⟩, ⟨hg.os, hg.tape, hg.output, by simpa using hg.size, fun b hb ho => ?_⟩⟩
  · have := ownsSet own5 (i * 65 + 64) v'
    rw [dcells_loose _ _ h.ok h.len.symm i s l v' hs] at this
    simp only [hsl]
    exact this
  · simp only [List.getElem?_set] at hs' hu
    split at hs'
    · rename_i e
      subst e
      rw [if_pos rfl] at hu
      have e1 := Option.some.inj hs'
      split at hu
      · have e2 := Option.some.inj hu
        subst e1 e2
        exact ownsAway hv' hh5 (by decide) hka
      · cases hu
    · rename_i e
      rw [if_neg e] at hu
      exact ownsAway (oth j s' u (fun e' => e e'.symm) hs' hu) hh5 (by decide) hka
  · have key : ∀ (j : Nat) (u : Value) (b : Nat), j ≠ i → ls[j]? = some u → v'.ownBlock = some b → u.ownBlock ≠ some b := fun j u b hj hu hb hub => by
      have hsj : ∃ s', D.secs[j]? = some s' := ⟨_, List.getElem?_eq_getElem (by rw [← h.len]; exact (List.getElem?_eq_some_iff.1 hu).1)⟩
      obtain ⟨s', hs'⟩ := hsj
      rcases hwh b hb with e | e
      · exact h.apart j i u v b hj hu hv hub e
      · rcases (h.loose j s' u hs' hu).2 with ⟨rfl, -⟩ | ⟨lg, lcap, lcur, rfl, -, hlh, -⟩
        · cases hub
        · simp only [Value.ownBlock, Option.some.injEq] at hub
          have := heap_lt hlh
          omega
    simp only [List.getElem?_set] at h1 h2
    by_cases e1 : i = j
    · rw [if_pos e1] at h1
      rw [if_neg (fun e2 => hjk (e1.symm.trans e2))] at h2
      split at h1
      · have e := Option.some.inj h1
        subst e
        exact key k v2 b (fun e => hjk (e1.symm.trans e.symm)) h2 hb
      · cases h1
    · rw [if_neg e1] at h1
      by_cases e2 : i = k
      · rw [if_pos e2] at h2
        split at h2
        · have e := Option.some.inj h2
          subst e
          exact fun hb' => key j v1 b (fun e => e1 e.symm) h1 hb' hb
        · cases h2
      · rw [if_neg e2] at h2
        exact h.apart j k v1 v2 b hjk h1 h2 hb
  · rcases List.mem_or_eq_of_mem_set hs' with hm | rfl
    · exact h.ok s' hm
    · exact ⟨hok.1, hl⟩
  · have hbg' : b ≠ g := fun e => by
      subst e
      rcases ho with ho | ho
      · omega
      · exact ho _ _ _ hh (.inr (.inl rfl))
    have hbv : some b ≠ v.ownBlock := fun e => by
      obtain ⟨h1, cs, h2⟩ := hvt b e.symm
      rcases ho with ho | ho
      · omega
      · exact ho _ _ _ h2 (.inr (.inr rfl))
    exact (hka b hbg').trans (hg.block b hb hbv)

theorem wpList_copyA {P : Program} {w : World} {ops : Array Oper} {rest : List Oper} {op : Oper} {a : Act} {Q : Exit → Act → World → Prop} (hgd : op.guard = none) (dd : Nat) (hdst : op.dst = some dd) (d s : Operand) (dT sT : TypeId)
    (ho : op.op = .call { callee := .builtin .copy, args := #[d, s], argTypes := #[dT, sT] }) (dv sv v : Value) (w' : World) (hd : a.eval d = dv) (hs : a.eval s = sv)
    (hrun : ∀ ty, (Builtin.copy_ #[dT, sT] ty #[dv, sv]).run P w = .ok v w') (h : wpList P ops Q rest (a.put (some dd) v) w') : wpList P ops Q (op :: rest) a w := by
  refine wpList_plain hgd fun K hK => ?_
  rw [← hdst] at h
  unfold Oper.wp
  simp [execOp, ho, resolve, invoke, builtin, hd, hs, hrun, Result.andThen]
  exact hK _ _ h

theorem step_val {P : Program} {ops : Array Oper} {o : Oper} {a : Act} {w : World} {K : Act → World → Prop} {Q : Exit → Act → World → Prop} {E : Prop} (hgd : o.guard = none) (d : Nat) (hd : o.dst = some d) (v : Value) (w' : World) (hrun : (execOp a.eval o).run P w = .ok (.value v) w')
    (h : K (a.put (some d) v) w') : if Region.wanted o (yielded ops a.tmps) = true then Oper.wp P o a w K Q else E := by
  have hw : Region.wanted o (yielded ops a.tmps) = true := by simp [Region.wanted, hgd]
  rw [if_pos hw]
  rw [← hd] at h
  unfold Oper.wp
  simp only [hrun]
  exact h

theorem Try.infoWrite : (Try.prog.info? 88).map (fun i => (i.zero, i.size, i.bytes)) = some (some (.agg wZ.toArray), 65, 72) := by kernel_rfl

theorem wcells_len {p : Int × List UInt8} (h : p.2.length = 64) : (wcells p).length = 65 := by simp [wcells, h]

theorem padded_len {l : List UInt8} (h : l.length ≤ 64) : (padded l).length = 64 := by simp [padded, noughtB]; omega

theorem copy_in (w2 : World) (bit : Int) (t : ByteArray) (ht : t.size ≤ 64) : ∀ ty, (Builtin.copy_ #[86, 9] ty #[.slice (some ⟨w2.heap.size, 1, none⟩) 64 64, .string t]).run Try.prog (w2.alloc (.cells (.int .u64 bit :: (noughtB 64).map byteC).toArray 88)) = .ok (goInt t.size) ((w2.alloc (.cells (.int .u64 bit :: (noughtB 64).map byteC).toArray 88)).setCells w2.heap.size 1 (t.data.toList.map byteC)) := fun ty => by
  refine run_copy_string _ _ _ ty 5 w2.heap.size 1 64 64 t Try.underlying86 (fun w => by kernel_rfl) ht (fun j hj => ?_) (fun j _ => by have hh := heap_alloc_new w2 (.cells (.int .u64 bit :: (noughtB 64).map byteC).toArray 88); unfold World.frozen?; simp only [hh]; simp)
  rw [World.cell?_alloc_new, Array.getElem?_eq_getElem (by simp [noughtB]; omega)]
  rfl

set_option linter.unusedSimpArgs false in
set_option maxRecDepth 100000 in
set_option maxHeartbeats 3200000 in
theorem add_ok (w : World) (base B : Nat) (D : Dsk) (g m cap : Nat) (ls : List Value) (i : Nat) (bit : Int) (t : ByteArray) (s : Sec) (h : DiskM w base B D (.slice (some ⟨g, 0, none⟩) m cap) ls) (hs : D.secs[i]? = some s) (ht : t.size ≤ 64) (hb0 : 0 ≤ bit) (hb1 : bit < 18446744073709551616) (hno : ∀ p ∈ s.loose, p.1 ≠ bit) (hsm : s.loose.length ≤ 1000000) (hbase : base ≤ w.heap.size) :
    Calls Try.prog 36 #[.pointer (some ⟨g, i * 65, none⟩), .int .u64 bit, .string t] w fun e w' => e = .returned (.tuple #[]) ∧ DiskO w' base B { D with secs := D.secs.set i { s with loose := s.loose ++ [(bit, padded t.data.toList)] } } ∧ Kept base w w' := by
  obtain ⟨i0, hi, hz0, hz1, hz2⟩ := info_parts Try.infoWrite
  have htl : t.data.toList.length ≤ 64 := by rw [← Lib.size_eq]; exact ht
  have HMB := hide (h.later ((Below.refl w.heap.size w).alloc (Nat.le_refl _) (.cells #[.int .u64 bit] 35)))
  have hlt0 : w.heap.size < (w.alloc (.cells #[.int .u64 bit] 35)).heap.size := by simp
  have hgl : g < w.heap.size := by obtain rfl := h.len_eq; obtain ⟨-, cur, hh⟩ := h.block; exact heap_lt hh
  obtain ⟨v, hv, cv, -, hown, hfz, hok⟩ := HMB.out.secAt i s hs
  have hf := hfz (i * 65 + 64)
  have HOK := hide hok; have HOW := hide hown; have HV := hide hv; have HS := hide hs; have HNO := hide hno
  obtain ⟨vo, vl, vcap, rfl⟩ : ∃ vo vl vcap, v = .slice vo vl vcap := by
    rcases hown.2 with ⟨rfl, -⟩ | ⟨lg, lcap, cur, rfl, -⟩
    · exact ⟨_, _, _, rfl⟩
    · exact ⟨_, _, _, rfl⟩
  have hmf : ∀ (fn : Fn) (first cap : Array Value) (w : World), (Instr.makeFunc fn first cap).run Try.prog w = .ok (.func fn first cap) w := fun _ _ _ _ => rfl
  have HBB : Hid ((w.alloc (.cells #[.int .u64 bit] 35)).cell? ⟨w.heap.size, 0, none⟩ = some (.int .u64 bit)) := by show _ = _; rw [World.cell?_alloc_new]; rfl
  clear h hs hown hok hv hfz hno
  go_enter Try.func36, Try.ntmps36
  go_wp2_with fail
  refine (deleteNone _ base _ s.loose bit w.heap.size HOW.out (fun p hp => (HOK.out.2 p hp).1) HNO.out HBB.out hlt0).mono ?_
  rintro e w1 ⟨rfl, hb1'⟩
  have HB1 := hide (show Below w.heap.size w w1 from ((Below.refl w.heap.size w).alloc (Nat.le_refl _) _).trans (hb1'.mono (by simp)))
  have HM1 := hide (HMB.out.later hb1')
  have HBB1 := hide ((hb1'.cell (p := ⟨w.heap.size, 0, none⟩) hlt0).trans HBB.out)
  have HOW1 := hide (ownsLater HOW.out hb1')
  have hlt1 : w.heap.size < w1.heap.size := Nat.lt_of_lt_of_le hlt0 hb1'.size
  clear hb1' cv hf HMB HBB HOW hmf
  have HST := hide (HM1.out.setLooseAt i s HS.out (.slice vo vl vcap) s.loose HOW1.out HOK.out.2 (fun j v' b hj hv' hvb e => HM1.out.apart i j _ v' b (fun e => hj e.symm) HV.out hv' hvb e))
  have HM2 : Hid (DiskM (w1.setCell ⟨g, i * 65 + 64, none⟩ (.slice vo vl vcap)) base B D (.slice (some ⟨g, 0, none⟩) m cap) ls) := by
    have h2 := HST.out.1
    have e1 : D.secs.set i { s with loose := s.loose } = D.secs := set_same HS.out
    rw [e1, set_same HV.out] at h2
    exact h2
  have HK2 := hide ((Kept.of_below (base := base) HB1.out).trans HST.out.2)
  obtain ⟨v1, hv1, cv, -, -, hfz, -⟩ := HM1.out.secAt i s HS.out
  obtain rfl : v1 = .slice vo vl vcap := Option.some.inj (hv1.symm.trans HV.out)
  have hf := hfz (i * 65 + 64)
  have cb : (w1.setCell ⟨g, i * 65 + 64, none⟩ (.slice vo vl vcap)).cell? ⟨w.heap.size, 0, none⟩ = some (.int .u64 bit) := (World.cell?_setCell_other (h := fun e => by simp at e <;> omega) ..).trans HBB1.out
  have hw2 : base ≤ (w1.setCell ⟨g, i * 65 + 64, none⟩ (.slice vo vl vcap)).heap.size := by simp; omega
  clear hfz hv1 HST HM1 HOW1 HBB1
  have HSV := hide (run_storeVar_new (P := Try.prog) (w1.setCell ⟨g, i * 65 + 64, none⟩ (.slice vo vl vcap)) 88 wZ.toArray (.int .u64 bit :: (noughtB 64).map byteC).toArray (by kernel_rfl) (by simp [wZ]) (by simp [byteC, noughtB, Value.oneCell']))
  have hsz : (w1.setCell ⟨g, i * 65 + 64, none⟩ (.slice vo vl vcap)).heap.size = w1.heap.size := by simp
  have HC1 := hide (copy_in (w1.setCell ⟨g, i * 65 + 64, none⟩ (.slice vo vl vcap)) bit t ht)
  rw [hsz] at HC1
  go_wp2_with (first
    | (show wpList _ _ _ ({ dst := some 17, op := _, type := _, pos := _, after := _, guard := _ } :: _) _ _; refine wpList_buildA rfl 17 rfl 88 #[(0, .tmp 16)] rfl #[(0, .int .u64 bit)] (by simp [Act.eval]) _ (run_build_write _ bit) ?_; refine wpList_allocA rfl 6 rfl 88 rfl _ _ (run_zero_write _) ?_; refine wpList_storeA rfl (.tmp 6) (.tmp 17) 88 rfl rfl ⟨(w1.setCell ⟨g, i * 65 + 64, none⟩ (.slice vo vl vcap)).heap.size, 0, none⟩ _ _ rfl rfl HSV.out ?_)
    | (show wpList _ _ _ ({ dst := some 21, op := _, type := _, pos := _, after := _, guard := _ } :: _) _ _; refine wpList_copyA rfl 21 rfl (.tmp 19) (.tmp 20) 86 9 rfl _ _ _ _ rfl rfl HC1.out ?_))
  have HB4 := hide (show Below w1.heap.size (w1.setCell ⟨g, i * 65 + 64, none⟩ (.slice vo vl vcap)) (((w1.setCell ⟨g, i * 65 + 64, none⟩ (.slice vo vl vcap)).alloc (.cells (.int .u64 bit :: (noughtB 64).map byteC).toArray 88)).setCells w1.heap.size 1 (t.data.toList.map byteC)) from below_setCells (Nat.le_refl _) _ _ _ ((Below.refl _ _).alloc (by rw [hsz]; exact Nat.le_refl _) _))
  have HW4 : Hid ((((w1.setCell ⟨g, i * 65 + 64, none⟩ (.slice vo vl vcap)).alloc (.cells (.int .u64 bit :: (noughtB 64).map byteC).toArray 88)).setCells w1.heap.size 1 (t.data.toList.map byteC)).heap[w1.heap.size]? = some (.cells (wcells (bit, padded t.data.toList)).toArray 88 (0, 0))) := by
    have hn := heap_alloc_new (w1.setCell ⟨g, i * 65 + 64, none⟩ (.slice vo vl vcap)) (.cells (.int .u64 bit :: (noughtB 64).map byteC).toArray 88)
    rw [hsz] at hn
    have := heap_setCells_same (t.data.toList.map byteC) 1 _ _ hn
    rw [padded_cells bit _ htl] at this
    exact this
  have HM4 := hide (HM2.out.later (by rw [hsz]; exact HB4.out))
  have HK4 := hide (HK2.out.trans (Kept.of_below (base := base) (W := (w1.setCell ⟨g, i * 65 + 64, none⟩ (.slice vo vl vcap))) (by rw [hsz]; exact HB4.out)))
  generalize ((w1.setCell ⟨g, i * 65 + 64, none⟩ (.slice vo vl vcap)).alloc (.cells (.int .u64 bit :: (noughtB 64).map byteC).toArray 88)).setCells w1.heap.size 1 (t.data.toList.map byteC) = W4 at *
  generalize hwb : w1.heap.size = wb at *
  have HPL : Hid ((wcells (bit, padded t.data.toList)).length = 65) := wcells_len (padded_len htl)
  obtain ⟨v4, hv4, d1, -, hown4, hfz4, -⟩ := HM4.out.secAt i s HS.out
  obtain rfl : v4 = .slice vo vl vcap := Option.some.inj (hv4.symm.trans HV.out)
  have d2 := HW4.out
  have HXB := hide (show Below W4.heap.size W4 (W4.drew.alloc (.cells (wcells (bit, padded t.data.toList)).toArray 88)) from (Below.refl _ _).drew.alloc (Nat.le_refl _) _)
  have HMX := hide (HM4.out.later HXB.out)
  have HBS := hide (run_buildSliceA (P := Try.prog) W4.drew 76 88 i0 (.agg wZ.toArray) (wcells (bit, padded t.data.toList)) (by kernel_rfl) hi hz0 (by rw [hz1, HPL.out]) (by rw [HPL.out]; simp [Value.cells, wZ_len]) (by rw [HPL.out]; decide) (by rw [HPL.out]; decide))
  have d3 := (HXB.out.cell (p := ⟨g, i * 65 + 64, none⟩) (Nat.lt_of_lt_of_le hgl (by have := HB4.out.size; rw [hsz] at this; omega))).trans d1
  have d4 : (W4.drew.alloc (.cells (wcells (bit, padded t.data.toList)).toArray 88)).heap[wb]? = some (.cells (wcells (bit, padded t.data.toList)).toArray 88 (0, 0)) := (HXB.out.block wb (heap_lt d2)).trans d2
  have HOW5 := hide (ownsLater hown4 HXB.out)
  have HNEW : Hid (∀ j u, (wcells (bit, padded t.data.toList))[j]? = some u → (W4.drew.alloc (.cells (wcells (bit, padded t.data.toList)).toArray 88)).cell? ((⟨W4.heap.size, 0, none⟩ : Addr).add j) = some u) := World.news_of_block (heap_alloc_new W4.drew _)
  have HONE : Hid (∀ u ∈ wcells (bit, padded t.data.toList), u.oneCell' = true) := fun u hu => by
    simp only [wcells, List.mem_cons, List.mem_map] at hu
    rcases hu with rfl | ⟨b, -, rfl⟩ <;> rfl
  have HBA : Hid (base ≤ (W4.drew.alloc (.cells (wcells (bit, padded t.data.toList)).toArray 88)).heap.size) := by
    have := HB4.out.size
    rw [hsz] at this
    show base ≤ _
    simp
    omega
  have HOV : Hid (∀ b, (Value.slice vo vl vcap).ownBlock = some b → b < wb ∧ ∃ cs, (w1.setCell ⟨g, i * 65 + 64, none⟩ (.slice vo vl vcap)).heap[b]? = some (.cells cs 88 (0, 0))) := fun b hb => by
    obtain ⟨v2, hv2, -, -, hown2, -⟩ := HM2.out.secAt i s HS.out
    obtain rfl : v2 = .slice vo vl vcap := Option.some.inj (hv2.symm.trans HV.out)
    rcases hown2.2 with ⟨e, -⟩ | ⟨lg, lcap, lcur, e, -, hlh, -⟩
    · rw [e] at hb; cases hb
    · rw [e] at hb
      simp only [Value.ownBlock, Option.some.injEq] at hb
      subst hb
      have := heap_lt hlh
      rw [hsz] at this
      exact ⟨this, _, hlh⟩
  have HGV : Hid (some g ≠ (Value.slice vo vl vcap).ownBlock) := fun e => by
    obtain ⟨-, cs, hcs⟩ := HOV.out g e.symm
    obtain rfl := HM2.out.len_eq
    obtain ⟨-, cur, hh⟩ := HM2.out.block
    rw [hh] at hcs
    simp only [Option.some.injEq, Obj.cells.injEq] at hcs
    exact absurd hcs.2.1 (by decide)
  have HWV : Hid (some wb ≠ (Value.slice vo vl vcap).ownBlock) := fun e => by
    have := (HOV.out wb e.symm).1
    omega
  have HFZ5 : Hid (∀ w5, (W4.drew.alloc (.cells (wcells (bit, padded t.data.toList)).toArray 88)).grownBy w5 (Value.slice vo vl vcap).ownBlock → w5.frozen? ⟨g, i * 65 + 64, none⟩ = false) := fun w5 hg5 => by
    obtain ⟨v5, -, -, -, -, hfx, -⟩ := HMX.out.secAt i s HS.out
    have hgx : g < (W4.drew.alloc (.cells (wcells (bit, padded t.data.toList)).toArray 88)).heap.size := by obtain rfl := HMX.out.len_eq; obtain ⟨-, cur, hh⟩ := HMX.out.block; exact heap_lt hh
    rw [World.frozen?_of_block (a := ⟨g, i * 65 + 64, none⟩) (hg5.block g hgx HGV.out)]
    exact hfx _
  clear hown4 hfz4 hv4
  refine upto_start (S := (fun w' => w'.cell? ⟨g, i * 65 + 64, none⟩ = some (.slice vo vl vcap) ∧ w'.heap[wb]? = some (.cells (wcells (bit, padded t.data.toList)).toArray 88 (0, 0)))) (k := 10) (by kernel_rfl) (by exact ⟨d1, d2⟩) (fun hHeld => ?_)
  refine upto_run (v := ?_) 0 22 [10] rfl rfl (by kernel_rfl) (by kernel_rfl) (by kernel_rfl) (by kernel_rfl) (by kernel_rfl) (fun _ _ _ h => h) (by rfl) ?_ (by assumption) ?_
  rotate_left
  · (intro w hSw; (try dsimp only at hSw); obtain ⟨hS1, hS2⟩ := hSw; go_simp; with_reducible rfl)
  simp only [Act.put, List.setIfInBounds_toArray, List.set_cons_zero, List.set_cons_succ]
  refine upto_run (v := ?_) 1 23 [10] rfl rfl (by kernel_rfl) (by kernel_rfl) (by kernel_rfl) (by kernel_rfl) (by kernel_rfl) (fun _ _ _ h => h) (by rfl) ?_ (by assumption) ?_
  rotate_left
  · (intro w hSw; (try dsimp only at hSw); obtain ⟨hS1, hS2⟩ := hSw; go_simp; with_reducible rfl)
  simp only [Act.put, List.setIfInBounds_toArray, List.set_cons_zero, List.set_cons_succ]
  refine upto_run (v := ?_) 2 24 [10] rfl rfl (by kernel_rfl) (by kernel_rfl) (by kernel_rfl) (by kernel_rfl) (by kernel_rfl) (fun _ _ _ h => h) (by rfl) ?_ (by assumption) ?_
  rotate_left
  · (intro w hSw; (try dsimp only at hSw); obtain ⟨hS1, hS2⟩ := hSw; go_simp; with_reducible rfl)
  simp only [Act.put, List.setIfInBounds_toArray, List.set_cons_zero, List.set_cons_succ]
  refine upto_run (v := ?_) 3 25 [10] rfl rfl (by kernel_rfl) (by kernel_rfl) (by kernel_rfl) (by kernel_rfl) (by kernel_rfl) (fun _ _ _ h => h) (by rfl) ?_ (by assumption) ?_
  rotate_left
  · (intro w hSw; (try dsimp only at hSw); obtain ⟨hS1, hS2⟩ := hSw; go_simp; with_reducible rfl)
  simp only [Act.put, List.setIfInBounds_toArray, List.set_cons_zero, List.set_cons_succ]
  refine upto_run (v := ?_) 4 26 [10] rfl rfl (by kernel_rfl) (by kernel_rfl) (by kernel_rfl) (by kernel_rfl) (by kernel_rfl) (fun _ _ _ h => h) (by rfl) ?_ (by assumption) ?_
  rotate_left
  · (intro w hSw; (try dsimp only at hSw); obtain ⟨hS1, hS2⟩ := hSw; go_simp; with_reducible rfl)
  simp only [Act.put, List.setIfInBounds_toArray, List.set_cons_zero, List.set_cons_succ]
  refine upto_run (v := .agg (wcells (bit, padded t.data.toList)).toArray) 5 27 [10] rfl rfl (by kernel_rfl) (by kernel_rfl) (by kernel_rfl) (by kernel_rfl) (by kernel_rfl) (fun _ _ _ h => h) (by rfl) ?_ (by assumption) ?_
  · intro w hSw
    have hr := run_loadVar_row (P := Try.prog) w wb 88 88 (wcells (bit, padded t.data.toList)).toArray (0, 0) _ hSw.2 Try.underlying88 rfl (by rw [List.size_toArray, HPL.out]; exact Try.sizeWrite)
    simp [execOp, Instr.loadAt, Instr.sureAddr, Act.eval, hr]
  simp only [Act.put, List.setIfInBounds_toArray, List.set_cons_zero, List.set_cons_succ]
  refine upto_one 6 (by kernel_rfl) rfl (fun K hK => ?_)
  refine step_val rfl 28 rfl (.slice (some ⟨W4.heap.size, 0, none⟩) 1 1) (W4.drew.alloc (.cells (wcells (bit, padded t.data.toList)).toArray 88)) (by have hq := HBS.out; simp [execOp, Act.eval, hq]) ?_
  refine hK.out _ _ (fun _ => ⟨d3, d4⟩) ?_
  clear hK K
  simp only [Act.put, List.setIfInBounds_toArray, List.set_cons_zero, List.set_cons_succ]
  refine upto_one 7 (by kernel_rfl) rfl (fun K hK => ?_)
  refine step_append_lies _ rfl (.tmp 26) (.tmp 28) 76 rfl base 88 i0 (.agg wZ.toArray) 65 72 (by kernel_rfl) hi hz0 hz1 hz2 (by simp [Value.cells, wZ_len]) (by decide) (.slice vo vl vcap) s.loose.length (s.loose.flatMap wcells) rfl HOW5.out ⟨W4.heap.size, 0, none⟩ 1 1 (wcells (bit, padded t.data.toList)) rfl (by rw [HPL.out]) HNEW.out HONE.out (by decide) (by unfold maxLen; omega) (by omega) HBA.out (W4.heap.size + 1) (by simp) ?_
  intro g5 cap5 w5 hown5 hgrow5 hat5 hlt5
  have HO5 := hide hown5; have HG5 := hide hgrow5; have HA5 := hide hat5
  clear hown5 hgrow5 hat5 hlt5
  have e1 : w5.cell? ⟨g, i * 65 + 64, none⟩ = some (.slice vo vl vcap) := HG5.out.cell d3 HGV.out
  have e2 : w5.heap[wb]? = some (.cells (wcells (bit, padded t.data.toList)).toArray 88 (0, 0)) := (HG5.out.block wb (heap_lt d4) HWV.out).trans d4
  refine hK.out _ _ (fun _ => ⟨e1, e2⟩) ?_
  clear hK K
  simp only [Act.put, List.setIfInBounds_toArray, List.set_cons_zero, List.set_cons_succ]
  have hHeld5 : (fun w' => w'.cell? ⟨g, i * 65 + 64, none⟩ = some (.slice vo vl vcap) ∧ w'.heap[wb]? = some (.cells (wcells (bit, padded t.data.toList)).toArray 88 (0, 0))) w5 := ⟨e1, e2⟩
  refine upto_run (v := ?_) 8 30 [9, 10] rfl rfl (by kernel_rfl) (by kernel_rfl) (by kernel_rfl) (by kernel_rfl) (by kernel_rfl) (fun _ _ _ h => h) (by rfl) ?_ (by assumption) ?_
  rotate_left
  · (intro w hSw; (try dsimp only at hSw); obtain ⟨hS1, hS2⟩ := hSw; go_simp; with_reducible rfl)
  simp only [Act.put, List.setIfInBounds_toArray, List.set_cons_zero, List.set_cons_succ]
  refine upto_run (v := ?_) 9 31 [10] rfl rfl (by kernel_rfl) (by kernel_rfl) (by kernel_rfl) (by kernel_rfl) (by kernel_rfl) (fun _ _ _ h => h) (by rfl) ?_ (by assumption) ?_
  rotate_left
  · (intro w hSw; (try dsimp only at hSw); obtain ⟨hS1, hS2⟩ := hSw; go_simp; with_reducible rfl)
  simp only [Act.put, List.setIfInBounds_toArray, List.set_cons_zero, List.set_cons_succ]
  have ef : w5.frozen? ⟨g, i * 65 + 64, none⟩ = false := HFZ5.out w5 HG5.out
  refine upto_one 10 (by kernel_rfl) rfl (fun K hK => ?_)
  go_simp
  refine hK.out _ _ (fun h => absurd h (by decide)) ?_
  clear hK K
  try simp only [Act.put, List.setIfInBounds_toArray, List.set_cons_zero, List.set_cons_succ]
  refine upto_done (by kernel_rfl) ?_
  have HFIN := hide (HMX.out.regrow i s HS.out _ (.slice (some ⟨g5, 0, none⟩) (s.loose.length + 1) cap5) HV.out (s.loose ++ [(bit, padded t.data.toList)]) HG5.out (by have := HO5.out; rw [List.length_append, List.length_singleton, List.flatMap_append]; simpa using this) (fun p hp => by
    rcases List.mem_append.1 hp with hp | hp
    · exact HOK.out.2 p hp
    · rw [List.mem_singleton] at hp; rw [hp]; exact ⟨padded_len htl, hb0, hb1⟩) (fun b hb => by
    simp only [Value.ownBlock, Option.some.injEq] at hb
    subst hb
    rcases HA5.out with h | h
    · exact .inl h
    · exact .inr (by rw [h]; simp)))
  have HKF := hide ((HK4.out.trans (Kept.of_below (base := base) HXB.out)).trans HFIN.out.2)
  clear HO5 HG5 HA5 HMX HBS HOW5 HNEW HONE HOV HGV HWV HFZ5 e1 e2 ef hHeld5 hHeld d1 d2 d3 d4
  go_wp2
  exact bodyPost_end (results_none rfl _ _ _) rfl ⟨rfl, ⟨_, _, HFIN.out.1⟩, HKF.out⟩

end Go.Proofs.Ytjgodhfnnifchaa
