/- A disk: of a sector's writes the one with a bit is taken out, the walk. -/
import Derived.Test.YtnhbfehfipafoaaGreatDoorDkQ

namespace Go.Proofs.YtnhbfehfipafoaaGreatDoor
open Go.RowKit

theorem wpList_clearA {P : Program} {w : World} {ops : Array Oper} {rest : List Oper} {op : Oper} {a : Act} {Q : Exit → Act → World → Prop} (hgd : op.guard = none) (hdst : op.dst = none) (d : Operand) (dT : TypeId)
  (ho : op.op = .call { callee := .builtin .clear, args := #[d], argTypes := #[dT] }) (dv v : Value) (w' : World) (hd : a.eval d = dv)
  (hrun : ∀ ty, (Builtin.clear_ #[dT] ty #[dv]).run P w = .ok v w') (h : wpList P ops Q rest a w') : wpList P ops Q (op :: rest) a w := by
 refine wpList_plain hgd fun K hK => ?_
 unfold Oper.wp
 simp [execOp, ho, resolve, invoke, builtin, hd, hrun, Result.andThen]
 exact hK _ _ (by rw [hdst]; exact h)

theorem zeroW : (Builtin.zeroCells wZ.toArray 1).toList = wZ := by kernel_rfl

theorem run_clear_one (w : World) (b o c : Nat) (hc : ∀ j, j < 65 → (w.cell? ⟨b, o + j, none⟩).isSome = true) (hf : ∀ j, w.frozen? ⟨b, o + j, none⟩ = false) (ty : TypeId) :
  (Builtin.clear_ #[85] ty #[.slice (some ⟨b, o, none⟩) 1 c]).run Tryz.prog w = .ok (.tuple #[]) (w.setCells b o wZ) := by
 have hz : (zeroValue 144).run Tryz.prog w = .ok (.agg wZ.toArray) w := by kernel_rfl
 have hst := run_storeCells_cells (P := Tryz.prog) b o wZ 0 w (by rw [wZ_len]; simpa using hc) (by rw [wZ_len]; intro j _; simpa using hf j) (fun v hv => by
  simp only [wZ, List.mem_cons, List.mem_map] at hv
  rcases hv with rfl | ⟨b, -, rfl⟩ <;> rfl)
 simp only [Nat.add_zero] at hst
 simp [Builtin.clear_, run_underlying Tryz.underlying85, hz, Value.cells, zeroW, hst]

theorem ownsTake {W : World} {base : Nat} {e : TypeId} {size : Nat} {g n cap : Nat} {xs : List Value} (h : W.ownsRow base e size (.slice (some ⟨g, 0, none⟩) n cap) n xs) (k : Nat) (hk : k ≤ n) : W.ownsRow base e size (.slice (some ⟨g, 0, none⟩) k cap) k (xs.take (k * size)) := by
 have hle : k * size ≤ n * size := Nat.mul_le_mul_right _ hk
 refine ⟨by rw [List.length_take, h.1]; omega, ?_⟩
 rcases h.2 with ⟨e', -⟩ | ⟨g', cap', cur, e', hb, hh, h1, h2, h3, h4⟩
 ·simp at e'
 ·simp only [Value.slice.injEq, Option.some.injEq, Addr.mk.injEq, and_true, true_and] at e'
  obtain ⟨rfl, rfl⟩ := e'
  refine .inr ⟨g, cap, cur, rfl, hb, hh, by omega, h2, h3, ?_⟩
  rw [← h4, List.take_take, Nat.min_eq_left hle]

theorem flat_take : ∀ (l : List (Int × List UInt8)), (∀ p ∈ l, p.2.length = 64) → ∀ k, k ≤ l.length → (l.flatMap wcells).take (k * 65) = (l.take k).flatMap wcells
 | [], _, k, hk => by simp
 | p :: l, hok, 0, _ => by simp
 | p :: l, hok, k + 1, hk => by
  have h0 := wcells_len (hok p (by simp))
  rw [List.flatMap_cons, List.take_succ_cons, List.flatMap_cons, List.take_append, List.take_of_length_le (by omega), show (k + 1) * 65 - (wcells p).length = k * 65 by omega, flat_take l (fun p hp => hok p (by simp [hp])) k (by simpa using hk)]

theorem take_setL {α : Type} : ∀ (cs xs : List α) (o : Nat), (setL xs o cs).take o = xs.take o
 | [], _, _ => rfl
 | c :: cs, xs, o => by
  rw [setL]
  have h := take_setL cs (xs.set o c) (o + 1)
  have h2 := congrArg (List.take o) h
  rw [List.take_take, List.take_take, Nat.min_eq_left (by omega), List.take_set_of_le (Nat.le_refl _)] at h2
  exact h2

theorem grown_sets {w W : World} {g : Nat} (h : w.grownBy W (some g)) (o : Nat) (cs : List Value) : w.grownBy (W.setCells g o cs) (some g) := by
 obtain ⟨r1, r2, r3⟩ := setCells_rest g cs o W
 exact ⟨r1.trans h.os, r2.trans h.tape, r3.trans h.output, by rw [heap_setCells_size]; exact h.size, fun b hb hne => (heap_setCells_other (fun e => hne (by rw [e])) _ _ _).trans (h.block b hb hne)⟩

theorem grown_later {w W W' : World} {row : Option Nat} (h : w.grownBy W row) (hb : Below W.heap.size W W') : w.grownBy W' row :=
 ⟨hb.os.trans h.os, hb.tape.trans h.tape, hb.output.trans h.output, Nat.le_trans h.size hb.size, fun b hlt hne => (hb.block b (Nat.lt_of_lt_of_le hlt h.size)).trans (h.block b hlt hne)⟩

theorem grown_refl (w : World) (row : Option Nat) : w.grownBy w row := ⟨rfl, rfl, rfl, Nat.le_refl _, fun _ _ _ => rfl⟩

theorem owns_is {W : World} {base : Nat} {g n cap : Nat} {l : List (Int × List UInt8)} (h : W.ownsRow base 144 65 (.slice (some ⟨g, 0, none⟩) n cap) n (l.flatMap wcells)) (hok : ∀ p ∈ l, p.2.length = 64) (q j : Nat) (hq : q < l.length) (hj : j < 65) : (W.cell? ⟨g, q * 65 + j, none⟩).isSome = true := by
 have hp := List.getElem?_eq_getElem hq
 have hl := wcells_len (hok l[q] (List.getElem_mem hq))
 rw [owns_cell h (q * 65 + j) ((wcells l[q])[j]'(by omega)) (by rw [wcells_at l hok q l[q] hp j hj, List.getElem?_eq_getElem])]
 rfl

theorem run_alloc_store (W : World) (cs : List Value) (hl : cs.length = 65) (h1 : ∀ v ∈ cs, v.oneCell' = true) : (storeVar 144 ⟨W.heap.size, 0, none⟩ (.agg cs.toArray)).run Tryz.prog (W.alloc (.cells wZ.toArray 144)) = .ok () (W.alloc (.cells cs.toArray 144)) :=
 run_storeVar_new W _ wZ.toArray cs.toArray (by rw [List.size_toArray, hl]; exact Tryz.sizeWrite) (by simp [wZ_len, hl]) (by simpa using h1)

theorem wcells_one (p : Int × List UInt8) : ∀ v ∈ wcells p, v.oneCell' = true := fun u hu => by
 simp only [wcells, List.mem_cons, List.mem_map] at hu
 rcases hu with rfl | ⟨b, -, rfl⟩ <;> rfl

set_option linter.unusedSimpArgs false in
set_option maxRecDepth 100000 in
set_option maxHeartbeats 800000 in
theorem deleteSome (w : World) (base lg cap n : Nat) (pre post : List (Int × List UInt8)) (bit : Int) (data : List UInt8) (bb : Nat) (hn : n = pre.length + post.length) (hown : w.ownsRow base 144 65 (.slice (some ⟨lg, 0, none⟩) (n + 1) cap) (n + 1) ((pre ++ (bit, data) :: post).flatMap wcells)) (hok : ∀ p ∈ pre ++ (bit, data) :: post, p.2.length = 64) (hno : ∀ p ∈ pre, p.1 ≠ bit) (hno2 : ∀ p ∈ post, p.1 ≠ bit) (hc : w.cell? ⟨bb, 0, none⟩ = some (.int .u64 bit)) (hlt : bb < w.heap.size) (hne : bb ≠ lg) :
  Calls Tryz.prog 137 #[.slice (some ⟨lg, 0, none⟩) (n + 1) cap, .func (.func 138) #[] #[.pointer (some ⟨bb, 0, none⟩)]] w fun e w' => e = .returned (.slice (some ⟨lg, 0, none⟩) n cap) ∧ w.grownBy w' (some lg) ∧ w'.ownsRow base 144 65 (.slice (some ⟨lg, 0, none⟩) n cap) n ((pre ++ post).flatMap wcells) := by
 have hN : (pre ++ (bit, data) :: post).length = n + 1 := by simp; omega
 have HI := hide (indexSome w base lg cap pre post bit data bb (by rw [hN]; exact hown) hok hno hc hlt)
 rw [hN] at HI
 have hcap : n + 1 ≤ cap ∧ cap ≤ 9223372036854775807 := by
  rcases hown.2 with ⟨e, -⟩ | ⟨g', cap', cur, e, -, -, h1, h2, -⟩
  ·simp at e
  ·simp only [Value.slice.injEq, Option.some.injEq, Addr.mk.injEq, and_true, true_and] at e
   obtain ⟨rfl, rfl⟩ := e
   unfold maxLen at h2
   exact ⟨h1, h2⟩
 have HO := hide hown; have HOK := hide hok; have HNO := hide hno2; have HC := hide hc; have HNN := hide hN
 have hpl : pre.length ≤ n := by omega
 clear hown hok hno hno2 hc hN
 have HN := hide hn
 clear hn
 obtain ⟨m0, hm0⟩ : ∃ m0, m0 = pre.length := ⟨_, rfl⟩
 rw [← hm0] at HI hpl
 have HM0 := hide hm0
 clear hm0
 go_enter Tryz.func137, Tryz.ntmps137
 go_wp2_with fail
 refine HI.out.mono ?_
 rintro e w1 ⟨rfl, hb1⟩
 have HG1 := hide (grown_later (grown_refl w (some lg)) hb1)
 have HO1 := hide (ownsLater HO.out hb1)
 clear hb1 HI HO
 have g1 : ((m0 : Int) == -1) = false := beq_false_of_ne (by omega)
 obtain ⟨hc1, hc2⟩ := hcap
 go_wp2
 have HC1 : Hid (∀ W : World, w.grownBy W (some lg) → W.cell? ⟨bb, 0, none⟩ = some (.int .u64 bit)) := fun W hg => hg.cell HC.out (fun e => hne (Option.some.inj e))
 clear g1 HC
 go_loopw [5, 6] (fun i j wr => ∃ k q m : Nat, k ≤ post.length ∧ Hid (q = m0 + k) ∧ Hid (m = q + 1) ∧ q ≤ n ∧ m ≤ n + 1 ∧ i = .int .i64 q ∧ j = .int .i64 m ∧ Hid (wr.ownsRow base 144 65 (.slice (some ⟨lg, 0, none⟩) (n + 1) cap) (n + 1) ((movedL pre post (bit, data) k).flatMap wcells)) ∧ Hid (w.grownBy wr (some lg))) (fun _ j _ => (n + 1) - (intOf j).toNat)
 case atStart => exact ⟨0, m0, m0 + 1, Nat.zero_le _, hide rfl, hide rfl, hpl, by omega, rfl, by go_num, HO1, HG1⟩
 case round =>
  clear HO1 HG1 w1
  obtain ⟨k, q, m, hk, HQ, HM, hqn, hmn, rfl, rfl, HOW, HG⟩ := hrel
  have HLEN := hide (movedL_len pre post (bit, data) k hk)
  have HOKM : Hid (∀ p ∈ movedL pre post (bit, data) k, p.2.length = 64) := fun p hp => HOK.out p (movedL_mem hp)
  by_cases hml : m < n + 1
  ·have hkl : k < post.length := by have := HQ.out; have := HM.out; have := HN.out; have := HM0.out; omega
   have hmi : pre.length + (k + 1) = m := by have := HQ.out; have := HM.out; have := HM0.out; omega
   have hat := movedL_at pre post (bit, data) k hkl
   rw [hmi] at hat
   have HST := hide (movedL_step pre post (bit, data) k hkl)
   have hqi : pre.length + k = q := by have := HQ.out; have := HM0.out; omega
   rw [hqi] at HST
   have hnb := HNO.out post[k] (List.getElem_mem hkl)
   have hp64 := HOK.out post[k] (List.mem_append.2 (.inr (List.mem_cons_of_mem _ (List.getElem_mem hkl))))
   have HLD := hide (load_write wr base lg _ cap _ HOW.out HOKM.out m post[k] hat)
   generalize post[k] = p at *
   have HPL := hide (wcells_len hp64)
   have HSV := hide (run_alloc_store wr (wcells p) HPL.out (wcells_one p))
   have HL2 := hide (run_loadVar_row (P := Tryz.prog) (wr.alloc (.cells (wcells p).toArray 144)) wr.heap.size 144 144 (wcells p).toArray (0, 0) _ (heap_alloc_new wr _) Tryz.underlying144 rfl (by rw [List.size_toArray, HPL.out]; exact Tryz.sizeWrite))
   have HXB := hide ((Below.refl wr.heap.size wr).alloc (Nat.le_refl _) (.cells (wcells p).toArray 144))
   have HXG := hide (grown_later HG.out HXB.out)
   clear hat hmi hqi
   obtain ⟨b1, dat⟩ := p
   have hbe : (b1 == bit) = false := beq_false_of_ne hnb
   go_wp2_with (first
    | (show wpList _ _ _ ({ dst := some 25, op := _, type := _, pos := _, after := _, guard := _ } :: _) _ _; refine wpList_loadA rfl 25 rfl (.tmp 24) 144 rfl ⟨lg, m * 65, none⟩ _ rfl HLD.out ?_; refine wpList_allocA rfl 7 rfl 144 rfl _ _ (run_zero_write wr) ?_; refine wpList_storeA rfl (.tmp 7) (.tmp 25) 144 rfl rfl ⟨wr.heap.size, 0, none⟩ _ _ rfl rfl HSV.out ?_)
    | (show wpList _ _ _ ({ dst := some 27, op := _, type := _, pos := _, after := _, guard := _ } :: _) _ _; refine wpList_loadA rfl 27 rfl (.tmp 7) 144 rfl ⟨wr.heap.size, 0, none⟩ _ rfl HL2.out ?_))
   refine (addC_any (wr.alloc (.cells (wcells (b1, dat)).toArray 144)) (dat.map byteC) b1 bit bb (HC1.out _ HXG.out) (Nat.lt_of_lt_of_le hlt HXG.out.size)).mono ?_
   rintro e w2 ⟨rfl, hb2⟩
   rw [hbe]
   have HG2 := hide (grown_later HXG.out hb2)
   have HO2 := hide (ownsLater (ownsLater HOW.out HXB.out) hb2)
   have HL3 := hide (run_loadVar_row (P := Tryz.prog) w2 wr.heap.size 144 144 (wcells (b1, dat)).toArray (0, 0) _ ((hb2.block wr.heap.size (by simp)).trans (heap_alloc_new wr _)) Tryz.underlying144 rfl (by rw [List.size_toArray, HPL.out]; exact Tryz.sizeWrite))
   have HS3 := hide (run_storeA (P := Tryz.prog) w2 144 lg (q * 65) (wcells (b1, dat)) (by rw [HPL.out]; exact Tryz.sizeWrite) (wcells_one _) (fun x hx => owns_is HO2.out HOKM.out q x (by rw [HLEN.out]; have := HN.out; omega) (by rw [HPL.out] at hx; exact hx)) (fun x _ => owns_thaw HO2.out _))
   have HON : Hid ((w2.setCells lg (q * 65) (wcells (b1, dat))).ownsRow base 144 65 (.slice (some ⟨lg, 0, none⟩) (n + 1) cap) (n + 1) ((movedL pre post (bit, data) (k + 1)).flatMap wcells)) := by
    have := ownsSets (wcells (b1, dat)) (q * 65) w2 _ HO2.out
    rw [wcells_set _ HOKM.out q (b1, dat) (by rw [HLEN.out]; have := HN.out; omega) hp64, HST.out] at this
    exact this
   have HGN := hide (grown_sets HG2.out (q * 65) (wcells (b1, dat)))
   clear hb2 HXB HXG HL2 HLD HSV HOW HG HG2 HO2 hbe hnb HST
   go_wp2_with (first
    | (show wpList _ _ _ ({ dst := some 32, op := _, type := _, pos := _, after := _, guard := _ } :: _) _ _; refine wpList_loadA rfl 32 rfl (.tmp 7) 144 rfl ⟨wr.heap.size, 0, none⟩ _ rfl HL3.out ?_)
    | (show wpList _ _ _ ({ dst := none, op := Op.store _ (.tmp 33) (.tmp 32), type := _, pos := _, after := _, guard := _ } :: _) _ _; refine wpList_storeA rfl (.tmp 33) (.tmp 32) 144 rfl rfl ⟨lg, q * 65, none⟩ _ _ rfl rfl HS3.out ?_))
   go_roundw
   case rel => exact ⟨k + 1, q + 1, m + 1, hkl, hide (by have := HQ.out; omega), hide (by have := HM.out; omega), by have := HM.out; omega, by omega, by go_num, by go_num, HON, HGN⟩
   case measure => simp [intOf]; omega
  ·obtain rfl : m = n + 1 := by omega
   obtain rfl : q = n := by have := HM.out; omega
   obtain rfl : k = post.length := by have := HQ.out; have := HN.out; have := HM0.out; omega
   have HCL := hide (run_clear_one wr lg (q * 65) (cap - q) (fun j hj => owns_is HOW.out HOKM.out q j (by rw [HLEN.out]; have := HN.out; omega) hj) (fun j => owns_thaw HOW.out _))
   have HON : Hid ((wr.setCells lg (q * 65) wZ).ownsRow base 144 65 (.slice (some ⟨lg, 0, none⟩) q cap) q ((pre ++ post).flatMap wcells)) := by
    have h1 := ownsSets wZ (q * 65) wr _ HOW.out
    have h2 := ownsTake h1 q (by omega)
    have e : (setL ((movedL pre post (bit, data) post.length).flatMap wcells) (q * 65) wZ).take (q * 65) = (pre ++ post).flatMap wcells := by
     rw [take_setL, flat_take _ HOKM.out q (by rw [HLEN.out]; have := HN.out; omega), HN.out, movedL_end]
    rw [e] at h2
    exact h2
   have HGN := hide (grown_sets HG.out (q * 65) wZ)
   clear HOW HG HLEN HOKM
   go_wp2_with (show wpList _ _ _ ({ dst := none, op := Op.call _, type := _, pos := _, after := _, guard := _ } :: _) _ _; refine wpList_clearA rfl rfl (.tmp 38) 85 rfl _ _ _ rfl HCL.out ?_)
   go_ret
   exact ⟨rfl, HGN.out, by have := HON.out; rw [List.flatMap_append] at this; exact this⟩

end Go.Proofs.YtnhbfehfipafoaaGreatDoor

/- A disk: a write is put to a sector, whatever is there. -/
namespace Go.Proofs.YtnhbfehfipafoaaGreatDoor
open Go.RowKit

def without (bit : Int) (l : List (Int × List UInt8)) : List (Int × List UInt8) := l.filter fun p => decide (p.1 ≠ bit)

def DelOut (w : World) (base : Nat) (v : Value) (l : List (Int × List UInt8)) (e : Ending) (w' : World) : Prop :=
 ∃ vo vl vc, e = .returned (.slice vo vl vc) ∧ w.grownBy w' v.ownBlock ∧ w'.ownsRow base 144 65 (.slice vo vl vc) l.length (l.flatMap wcells) ∧ (Value.slice vo vl vc).ownBlock = v.ownBlock

theorem delete_any (w : World) (base : Nat) (v : Value) (loose : List (Int × List UInt8)) (bit : Int) (bb : Nat) (hown : w.ownsRow base 144 65 v loose.length (loose.flatMap wcells)) (hok : ∀ p ∈ loose, p.2.length = 64) (hu : loose.Pairwise fun p q => p.1 ≠ q.1) (hc : w.cell? ⟨bb, 0, none⟩ = some (.int .u64 bit)) (hlt : bb < w.heap.size) (hne : v.ownBlock ≠ some bb) :
  Calls Tryz.prog 137 #[v, .func (.func 138) #[] #[.pointer (some ⟨bb, 0, none⟩)]] w fun e w' => DelOut w base v (without bit loose) e w' := by
 by_cases h : ∃ p ∈ loose, p.1 = bit
 ·obtain ⟨p, hp, rfl⟩ := h
  obtain ⟨pre, post, rfl⟩ := List.append_of_mem hp
  obtain ⟨b, d⟩ := p
  rw [List.pairwise_append] at hu
  obtain ⟨-, hu2, hu3⟩ := hu
  have h1 : ∀ q ∈ pre, q.1 ≠ b := fun q hq => hu3 q hq (b, d) (by simp)
  have h2 : ∀ q ∈ post, q.1 ≠ b := fun q hq => fun e => (List.pairwise_cons.1 hu2).1 q hq e.symm
  have hw : without b (pre ++ (b, d) :: post) = pre ++ post := by
   unfold without
   rw [List.filter_append, List.filter_cons_of_neg (by simp), List.filter_eq_self.2 (fun q hq => by simpa using h1 q hq), List.filter_eq_self.2 (fun q hq => by simpa using h2 q hq)]
  have hl : (pre ++ (b, d) :: post).length = pre.length + post.length + 1 := by simp; omega
  rw [hl] at hown
  rcases hown.2 with ⟨-, e⟩ | ⟨lg, cap, cur, rfl, -⟩
  ·omega
  refine (deleteSome w base lg cap (pre.length + post.length) pre post b d bb rfl hown hok h1 h2 hc hlt (fun e => hne (by rw [e]; rfl))).mono fun e w' ⟨he, hg, ho⟩ => ?_
  rw [hw]
  exact ⟨_, _, _, he, hg, by rw [List.length_append]; exact ho, rfl⟩
 ·have hno : ∀ p ∈ loose, p.1 ≠ bit := fun p hp e => h ⟨p, hp, e⟩
  have hw : without bit loose = loose := List.filter_eq_self.2 (fun q hq => by simpa using hno q hq)
  refine (deleteNone w base v loose bit bb hown hok hno hc hlt).mono fun e w' ⟨he, hb⟩ => ?_
  rw [hw]
  obtain ⟨vo, vl, vc, rfl⟩ : ∃ vo vl vc, v = .slice vo vl vc := by
   rcases hown.2 with ⟨rfl, -⟩ | ⟨lg, lcap, cur, rfl, -⟩
   ·exact ⟨_, _, _, rfl⟩
   ·exact ⟨_, _, _, rfl⟩
  exact ⟨_, _, _, he, grown_later (grown_refl w _) hb, ownsLater hown hb, rfl⟩

set_option linter.unusedSimpArgs false in
set_option maxRecDepth 100000 in
set_option maxHeartbeats 3200000 in
theorem add_any (w : World) (base : Own) (B : Nat) (D : Dsk) (g m cap : Nat) (ls : List Value) (i : Nat) (bit : Int) (t : ByteArray) (s : Sec) (h : DiskM w base B D (.slice (some ⟨g, 0, none⟩) m cap) ls) (hs : D.secs[i]? = some s) (ht : t.size ≤ 64) (hb0 : 0 ≤ bit) (hb1 : bit < 18446744073709551616) (hu : s.loose.Pairwise fun p q => p.1 ≠ q.1) (hsm0 : s.loose.length ≤ 1000000) (hbase : base.h ≤ w.heap.size) :
  Calls Tryz.prog 117 #[.pointer (some ⟨g, i * 65, none⟩), .int .u64 bit, .string t] w fun e w' => e = .returned (.tuple #[]) ∧ DiskO w' base B { D with secs := D.secs.set i { s with loose := without bit s.loose ++ [(bit, padded t.data.toList)] } } ∧ Kept base w w' := by
 obtain ⟨i0, hi, hz0, hz1, hz2⟩ := info_parts Tryz.infoWrite
 have htl : t.data.toList.length ≤ 64 := by rw [← Lib.size_eq]; exact ht
 have HMB := hide (h.later ((Below.refl w.heap.size w).alloc (Nat.le_refl _) (.cells #[.int .u64 bit] 40)))
 have HBA0 := hide ((Below.refl w.heap.size w).alloc (Nat.le_refl _) (.cells #[.int .u64 bit] 40))
 have hlt0 : w.heap.size < (w.alloc (.cells #[.int .u64 bit] 40)).heap.size := by simp
 have hgl : g < w.heap.size := by obtain rfl := h.len_eq; obtain ⟨-, cur, hh⟩ := h.block; exact heap_lt hh
 have hisec := (List.getElem?_eq_some_iff.1 hs).1
 obtain ⟨v, hv, cv, -, hown, hfz, hok⟩ := HMB.out.secAt i s hs
 have hf := hfz (i * 65 + 64)
 have HOK := hide hok; have HOW := hide hown; have HV := hide hv; have HS := hide hs; have HUU := hide hu
 have HOB : Hid (∀ b, v.ownBlock = some b → b < w.heap.size ∧ ∃ cs, (w.alloc (.cells #[.int .u64 bit] 40)).heap[b]? = some (.cells cs 144 (0, 0))) := fun b hb => by
  obtain ⟨v0, hv0, -, -, hown0, -⟩ := h.secAt i s hs
  obtain rfl : v0 = v := Option.some.inj (hv0.symm.trans hv)
  rcases hown0.2 with ⟨e, -⟩ | ⟨lg, lcap, lcur, e, -, hlh, -⟩
  ·rw [e] at hb; cases hb
  ·rw [e] at hb
   simp only [Value.ownBlock, Option.some.injEq] at hb
   subst hb
   exact ⟨heap_lt hlh, _, (HBA0.out.block _ (heap_lt hlh)).trans hlh⟩
 have HGV0 : Hid (some g ≠ v.ownBlock) := fun e => by
  obtain ⟨-, cs, hcs⟩ := HOB.out g e.symm
  obtain rfl := HMB.out.len_eq
  obtain ⟨-, cur, hh⟩ := HMB.out.block
  rw [hh] at hcs
  simp only [Option.some.injEq, Obj.cells.injEq] at hcs
  exact absurd hcs.2.1 (by decide)
 have HBV0 : Hid (some w.heap.size ≠ v.ownBlock) := fun e => by have := (HOB.out _ e.symm).1; omega
 have hmf : ∀ (fn : Fn) (first cap : Array Value) (w : World), (Instr.makeFunc fn first cap).run Tryz.prog w = .ok (.func fn first cap) w := fun _ _ _ _ => rfl
 have HBB : Hid ((w.alloc (.cells #[.int .u64 bit] 40)).cell? ⟨w.heap.size, 0, none⟩ = some (.int .u64 bit)) := by show _ = _; rw [World.cell?_alloc_new]; rfl
 clear h hs hown hok hv hfz hu
 go_enter Tryz.func117, Tryz.ntmps117
 go_wp2_with fail
 refine (delete_any _ 0 _ s.loose bit w.heap.size HOW.out (fun p hp => (HOK.out.2 p hp).1) HUU.out HBB.out hlt0 (fun e => HBV0.out e.symm)).mono ?_
 rintro e w1 ⟨vo, vl, vcap, rfl, hg1, ho1, hob⟩
 have HSUB : Hid (∀ p ∈ without bit s.loose, p ∈ s.loose) := fun p hp => (List.mem_filter.1 hp).1
 have HRG := hide (HMB.out.regrow i s HS.out v (.slice vo vl vcap) HV.out (without bit s.loose) hg1 ho1 (fun p hp => HOK.out.2 p (HSUB.out p hp)) (fun b hb => .inl (by rw [← hob]; exact hb)) (by simp; omega))
 have cv1 := hg1.cell cv HGV0.out
 have hf1 : w1.frozen? ⟨g, i * 65 + 64, none⟩ = false := by
  rw [World.frozen?_of_block (a := ⟨g, i * 65 + 64, none⟩) (hg1.block g (by simp; omega) HGV0.out)]
  exact hf
 have cb : (w1.setCell ⟨g, i * 65 + 64, none⟩ (.slice vo vl vcap)).cell? ⟨w.heap.size, 0, none⟩ = some (.int .u64 bit) := (World.cell?_setCell_other (h := fun e => by simp at e <;> omega) ..).trans (hg1.cell HBB.out HBV0.out)
 obtain ⟨s2, hs2⟩ : ∃ s2 : Sec, s2 = { s with loose := without bit s.loose } := ⟨_, rfl⟩
 have HS2E := hide hs2
 have HM2 : Hid (DiskM (w1.setCell ⟨g, i * 65 + 64, none⟩ (.slice vo vl vcap)) base B { D with secs := D.secs.set i s2 } (.slice (some ⟨g, 0, none⟩) m cap) (ls.set i (.slice vo vl vcap))) := by
  have := HRG.out.1
  rw [← hs2] at this
  exact this
 have HK2 := hide ((Kept.of_below (base := base) HBA0.out).trans HRG.out.2)
 have HS2 : Hid ((D.secs.set i s2)[i]? = some s2) := by show _ = _; rw [List.getElem?_set_self hisec]
 have HV2 : Hid ((ls.set i (.slice vo vl vcap))[i]? = some (.slice vo vl vcap)) := by show _ = _; rw [List.getElem?_set_self (List.getElem?_eq_some_iff.1 HV.out).1]
 have HOK2 : Hid s2.ok := by rw [hs2]; exact ⟨HOK.out.1, fun p hp => HOK.out.2 p (HSUB.out p hp)⟩
 have hsm : s2.loose.length ≤ 1000000 := by rw [hs2]; exact Nat.le_trans (List.length_filter_le _ _) hsm0
 have hlt1 : w.heap.size < w1.heap.size := Nat.lt_of_lt_of_le hlt0 hg1.size
 have hw2 : base.h ≤ (w1.setCell ⟨g, i * 65 + 64, none⟩ (.slice vo vl vcap)).heap.size := by simp; omega
 have hf := hf1
 clear hs2 HRG hg1 ho1 hob cv HMB HBB HOW hmf hf1 HOB HGV0 HBV0 HSUB HOK HUU HV HS hsm0
 have HSV := hide (run_storeVar_new (P := Tryz.prog) (w1.setCell ⟨g, i * 65 + 64, none⟩ (.slice vo vl vcap)) 144 wZ.toArray (.int .u64 bit :: (noughtB 64).map byteC).toArray (by kernel_rfl) (by simp [wZ]) (by simp [byteC, noughtB, Value.oneCell']))
 have hsz : (w1.setCell ⟨g, i * 65 + 64, none⟩ (.slice vo vl vcap)).heap.size = w1.heap.size := by simp
 have HC1 := hide (copy_in (w1.setCell ⟨g, i * 65 + 64, none⟩ (.slice vo vl vcap)) bit t ht)
 rw [hsz] at HC1
 go_wp2_with (first
  | (show wpList _ _ _ ({ dst := some 17, op := _, type := _, pos := _, after := _, guard := _ } :: _) _ _; refine wpList_buildA rfl 17 rfl 144 #[(0, .tmp 16)] rfl #[(0, .int .u64 bit)] (by simp [Act.eval]) _ (run_build_write _ bit) ?_; refine wpList_allocA rfl 6 rfl 144 rfl _ _ (run_zero_write _) ?_; refine wpList_storeA rfl (.tmp 6) (.tmp 17) 144 rfl rfl ⟨(w1.setCell ⟨g, i * 65 + 64, none⟩ (.slice vo vl vcap)).heap.size, 0, none⟩ _ _ rfl rfl HSV.out ?_)
  | (show wpList _ _ _ ({ dst := some 21, op := _, type := _, pos := _, after := _, guard := _ } :: _) _ _; refine wpList_copyA rfl 21 rfl (.tmp 19) (.tmp 20) 142 9 rfl _ _ _ _ rfl rfl HC1.out ?_))
 have HB4 := hide (show Below w1.heap.size (w1.setCell ⟨g, i * 65 + 64, none⟩ (.slice vo vl vcap)) (((w1.setCell ⟨g, i * 65 + 64, none⟩ (.slice vo vl vcap)).alloc (.cells (.int .u64 bit :: (noughtB 64).map byteC).toArray 144)).setCells w1.heap.size 1 (t.data.toList.map byteC)) from below_setCells (Nat.le_refl _) _ _ _ ((Below.refl _ _).alloc (by rw [hsz]; exact Nat.le_refl _) _))
 have HW4 : Hid ((((w1.setCell ⟨g, i * 65 + 64, none⟩ (.slice vo vl vcap)).alloc (.cells (.int .u64 bit :: (noughtB 64).map byteC).toArray 144)).setCells w1.heap.size 1 (t.data.toList.map byteC)).heap[w1.heap.size]? = some (.cells (wcells (bit, padded t.data.toList)).toArray 144 (0, 0))) := by
  have hn := heap_alloc_new (w1.setCell ⟨g, i * 65 + 64, none⟩ (.slice vo vl vcap)) (.cells (.int .u64 bit :: (noughtB 64).map byteC).toArray 144)
  rw [hsz] at hn
  have := heap_setCells_same (t.data.toList.map byteC) 1 _ _ hn
  rw [padded_cells bit _ htl] at this
  exact this
 have HM4 := hide (HM2.out.later (by rw [hsz]; exact HB4.out))
 have HK4 := hide (HK2.out.trans (Kept.of_below (base := base) (W := (w1.setCell ⟨g, i * 65 + 64, none⟩ (.slice vo vl vcap))) (by rw [hsz]; exact HB4.out)))
 generalize ((w1.setCell ⟨g, i * 65 + 64, none⟩ (.slice vo vl vcap)).alloc (.cells (.int .u64 bit :: (noughtB 64).map byteC).toArray 144)).setCells w1.heap.size 1 (t.data.toList.map byteC) = W4 at *
 generalize hwb : w1.heap.size = wb at *
 have HPL : Hid ((wcells (bit, padded t.data.toList)).length = 65) := wcells_len (padded_len htl)
 obtain ⟨v4, hv4, d1, -, hown4, hfz4, -⟩ := HM4.out.secAt i s2 HS2.out
 obtain rfl : v4 = .slice vo vl vcap := Option.some.inj (hv4.symm.trans HV2.out)
 have d2 := HW4.out
 have HXB := hide (show Below W4.heap.size W4 (W4.drew.alloc (.cells (wcells (bit, padded t.data.toList)).toArray 144)) from (Below.refl _ _).drew.alloc (Nat.le_refl _) _)
 have HMX := hide (HM4.out.later HXB.out)
 have HBS := hide (run_buildSliceA (P := Tryz.prog) W4.drew 85 144 i0 (.agg wZ.toArray) (wcells (bit, padded t.data.toList)) (by kernel_rfl) hi hz0 (by rw [hz1, HPL.out]) (by rw [HPL.out]; simp [Value.cells, wZ_len]) (by rw [HPL.out]; decide) (by rw [HPL.out]; decide))
 have d3 := (HXB.out.cell (p := ⟨g, i * 65 + 64, none⟩) (Nat.lt_of_lt_of_le hgl (by have := HB4.out.size; rw [hsz] at this; omega))).trans d1
 have d4 : (W4.drew.alloc (.cells (wcells (bit, padded t.data.toList)).toArray 144)).heap[wb]? = some (.cells (wcells (bit, padded t.data.toList)).toArray 144 (0, 0)) := (HXB.out.block wb (heap_lt d2)).trans d2
 have HOW5 := hide (ownsLater hown4 HXB.out)
 have HNEW : Hid (∀ j u, (wcells (bit, padded t.data.toList))[j]? = some u → (W4.drew.alloc (.cells (wcells (bit, padded t.data.toList)).toArray 144)).cell? ((⟨W4.heap.size, 0, none⟩ : Addr).add j) = some u) := World.news_of_block (heap_alloc_new W4.drew _)
 have HONE : Hid (∀ u ∈ wcells (bit, padded t.data.toList), u.oneCell' = true) := fun u hu => by
  simp only [wcells, List.mem_cons, List.mem_map] at hu
  rcases hu with rfl | ⟨b, -, rfl⟩ <;> rfl
 have HBA : Hid (base.h ≤ (W4.drew.alloc (.cells (wcells (bit, padded t.data.toList)).toArray 144)).heap.size) := by
  have := HB4.out.size
  rw [hsz] at this
  show base.h ≤ _
  simp
  omega
 have HOV : Hid (∀ b, (Value.slice vo vl vcap).ownBlock = some b → b < wb ∧ ∃ cs, (w1.setCell ⟨g, i * 65 + 64, none⟩ (.slice vo vl vcap)).heap[b]? = some (.cells cs 144 (0, 0))) := fun b hb => by
  obtain ⟨v2, hv2, -, -, hown2, -⟩ := HM2.out.secAt i s2 HS2.out
  obtain rfl : v2 = .slice vo vl vcap := Option.some.inj (hv2.symm.trans HV2.out)
  rcases hown2.2 with ⟨e, -⟩ | ⟨lg, lcap, lcur, e, -, hlh, -⟩
  ·rw [e] at hb; cases hb
  ·rw [e] at hb
   simp only [Value.ownBlock, Option.some.injEq] at hb
   subst hb
   have := heap_lt hlh
   rw [hsz] at this
   exact ⟨this, _, hlh⟩
 have HGV : Hid (some g ≠ (Value.slice vo vl vcap).ownBlock) := fun e => by
  obtain ⟨-, cs, hcs⟩ := HOV.out g e.symm
  obtain rfl := HM2.out.len_eq
  obtain ⟨-, cur, hh⟩ := HM2.out.block
  rw [hh] at hcs
  simp only [Option.some.injEq, Obj.cells.injEq] at hcs
  exact absurd hcs.2.1 (by decide)
 have HWV : Hid (some wb ≠ (Value.slice vo vl vcap).ownBlock) := fun e => by
  have := (HOV.out wb e.symm).1
  omega
 have HFZ5 : Hid (∀ w5, (W4.drew.alloc (.cells (wcells (bit, padded t.data.toList)).toArray 144)).grownBy w5 (Value.slice vo vl vcap).ownBlock → w5.frozen? ⟨g, i * 65 + 64, none⟩ = false) := fun w5 hg5 => by
  obtain ⟨v5, -, -, -, -, hfx, -⟩ := HMX.out.secAt i s2 HS2.out
  have hgx : g < (W4.drew.alloc (.cells (wcells (bit, padded t.data.toList)).toArray 144)).heap.size := by obtain rfl := HMX.out.len_eq; obtain ⟨-, cur, hh⟩ := HMX.out.block; exact heap_lt hh
  rw [World.frozen?_of_block (a := ⟨g, i * 65 + 64, none⟩) (hg5.block g hgx HGV.out)]
  exact hfx _
 clear hown4 hfz4 hv4
 refine upto_start (S := (fun w' => w'.cell? ⟨g, i * 65 + 64, none⟩ = some (.slice vo vl vcap) ∧ w'.heap[wb]? = some (.cells (wcells (bit, padded t.data.toList)).toArray 144 (0, 0)))) (k := 10) (by kernel_rfl) (by exact ⟨d1, d2⟩) (fun hHeld => ?_)
 refine upto_run (v := ?_) 0 22 [10] rfl rfl (by kernel_rfl) (by kernel_rfl) (by kernel_rfl) (by kernel_rfl) (by kernel_rfl) (fun _ _ _ h => h) (by rfl) ?_ (by assumption) ?_
 rotate_left
 ·(intro w hSw; (try dsimp only at hSw); obtain ⟨hS1, hS2⟩ := hSw; go_simp; with_reducible rfl)
 simp only [Act.put, List.setIfInBounds_toArray, List.set_cons_zero, List.set_cons_succ]
 refine upto_run (v := ?_) 1 23 [10] rfl rfl (by kernel_rfl) (by kernel_rfl) (by kernel_rfl) (by kernel_rfl) (by kernel_rfl) (fun _ _ _ h => h) (by rfl) ?_ (by assumption) ?_
 rotate_left
 ·(intro w hSw; (try dsimp only at hSw); obtain ⟨hS1, hS2⟩ := hSw; go_simp; with_reducible rfl)
 simp only [Act.put, List.setIfInBounds_toArray, List.set_cons_zero, List.set_cons_succ]
 refine upto_run (v := ?_) 2 24 [10] rfl rfl (by kernel_rfl) (by kernel_rfl) (by kernel_rfl) (by kernel_rfl) (by kernel_rfl) (fun _ _ _ h => h) (by rfl) ?_ (by assumption) ?_
 rotate_left
 ·(intro w hSw; (try dsimp only at hSw); obtain ⟨hS1, hS2⟩ := hSw; go_simp; with_reducible rfl)
 simp only [Act.put, List.setIfInBounds_toArray, List.set_cons_zero, List.set_cons_succ]
 refine upto_run (v := ?_) 3 25 [10] rfl rfl (by kernel_rfl) (by kernel_rfl) (by kernel_rfl) (by kernel_rfl) (by kernel_rfl) (fun _ _ _ h => h) (by rfl) ?_ (by assumption) ?_
 rotate_left
 ·(intro w hSw; (try dsimp only at hSw); obtain ⟨hS1, hS2⟩ := hSw; go_simp; with_reducible rfl)
 simp only [Act.put, List.setIfInBounds_toArray, List.set_cons_zero, List.set_cons_succ]
 refine upto_run (v := ?_) 4 26 [10] rfl rfl (by kernel_rfl) (by kernel_rfl) (by kernel_rfl) (by kernel_rfl) (by kernel_rfl) (fun _ _ _ h => h) (by rfl) ?_ (by assumption) ?_
 rotate_left
 ·(intro w hSw; (try dsimp only at hSw); obtain ⟨hS1, hS2⟩ := hSw; go_simp; with_reducible rfl)
 simp only [Act.put, List.setIfInBounds_toArray, List.set_cons_zero, List.set_cons_succ]
 refine upto_run (v := .agg (wcells (bit, padded t.data.toList)).toArray) 5 27 [10] rfl rfl (by kernel_rfl) (by kernel_rfl) (by kernel_rfl) (by kernel_rfl) (by kernel_rfl) (fun _ _ _ h => h) (by rfl) ?_ (by assumption) ?_
 ·intro w hSw
  have hr := run_loadVar_row (P := Tryz.prog) w wb 144 144 (wcells (bit, padded t.data.toList)).toArray (0, 0) _ hSw.2 Tryz.underlying144 rfl (by rw [List.size_toArray, HPL.out]; exact Tryz.sizeWrite)
  simp [execOp, Instr.loadAt, Instr.sureAddr, Act.eval, hr]
 simp only [Act.put, List.setIfInBounds_toArray, List.set_cons_zero, List.set_cons_succ]
 refine upto_one 6 (by kernel_rfl) rfl (fun K hK => ?_)
 refine step_val rfl 28 rfl (.slice (some ⟨W4.heap.size, 0, none⟩) 1 1) (W4.drew.alloc (.cells (wcells (bit, padded t.data.toList)).toArray 144)) (by have hq := HBS.out; simp [execOp, Act.eval, hq]) ?_
 refine hK.out _ _ (fun _ => ⟨d3, d4⟩) ?_
 clear hK K
 simp only [Act.put, List.setIfInBounds_toArray, List.set_cons_zero, List.set_cons_succ]
 refine upto_one 7 (by kernel_rfl) rfl (fun K hK => ?_)
 refine step_append_lies _ rfl (.tmp 26) (.tmp 28) 85 rfl 0 144 i0 (.agg wZ.toArray) 65 72 (by kernel_rfl) hi hz0 hz1 hz2 (by simp [Value.cells, wZ_len]) (by decide) (.slice vo vl vcap) s2.loose.length (s2.loose.flatMap wcells) rfl HOW5.out ⟨W4.heap.size, 0, none⟩ 1 1 (wcells (bit, padded t.data.toList)) rfl (by rw [HPL.out]) HNEW.out HONE.out (by decide) (by unfold maxLen; omega) (by omega) (Nat.zero_le _) (W4.heap.size + 1) (by simp) ?_
 intro g5 cap5 w5 hown5 hgrow5 hat5 hlt5
 have HO5 := hide hown5; have HG5 := hide hgrow5; have HA5 := hide hat5
 clear hown5 hgrow5 hat5 hlt5
 have e1 : w5.cell? ⟨g, i * 65 + 64, none⟩ = some (.slice vo vl vcap) := HG5.out.cell d3 HGV.out
 have e2 : w5.heap[wb]? = some (.cells (wcells (bit, padded t.data.toList)).toArray 144 (0, 0)) := (HG5.out.block wb (heap_lt d4) HWV.out).trans d4
 refine hK.out _ _ (fun _ => ⟨e1, e2⟩) ?_
 clear hK K
 simp only [Act.put, List.setIfInBounds_toArray, List.set_cons_zero, List.set_cons_succ]
 have hHeld5 : (fun w' => w'.cell? ⟨g, i * 65 + 64, none⟩ = some (.slice vo vl vcap) ∧ w'.heap[wb]? = some (.cells (wcells (bit, padded t.data.toList)).toArray 144 (0, 0))) w5 := ⟨e1, e2⟩
 refine upto_run (v := ?_) 8 30 [9, 10] rfl rfl (by kernel_rfl) (by kernel_rfl) (by kernel_rfl) (by kernel_rfl) (by kernel_rfl) (fun _ _ _ h => h) (by rfl) ?_ (by assumption) ?_
 rotate_left
 ·(intro w hSw; (try dsimp only at hSw); obtain ⟨hS1, hS2⟩ := hSw; go_simp; with_reducible rfl)
 simp only [Act.put, List.setIfInBounds_toArray, List.set_cons_zero, List.set_cons_succ]
 refine upto_run (v := ?_) 9 31 [10] rfl rfl (by kernel_rfl) (by kernel_rfl) (by kernel_rfl) (by kernel_rfl) (by kernel_rfl) (fun _ _ _ h => h) (by rfl) ?_ (by assumption) ?_
 rotate_left
 ·(intro w hSw; (try dsimp only at hSw); obtain ⟨hS1, hS2⟩ := hSw; go_simp; with_reducible rfl)
 simp only [Act.put, List.setIfInBounds_toArray, List.set_cons_zero, List.set_cons_succ]
 have ef : w5.frozen? ⟨g, i * 65 + 64, none⟩ = false := HFZ5.out w5 HG5.out
 refine upto_one 10 (by kernel_rfl) rfl (fun K hK => ?_)
 go_simp
 refine hK.out _ _ (fun h => absurd h (by decide)) ?_
 clear hK K
 try simp only [Act.put, List.setIfInBounds_toArray, List.set_cons_zero, List.set_cons_succ]
 refine upto_done (by kernel_rfl) ?_
 have HFIN := hide (HMX.out.regrow i s2 HS2.out _ (.slice (some ⟨g5, 0, none⟩) (s2.loose.length + 1) cap5) HV2.out (s2.loose ++ [(bit, padded t.data.toList)]) HG5.out (by have := HO5.out; rw [List.length_append, List.length_singleton, List.flatMap_append]; simpa using this) (fun p hp => by
  rcases List.mem_append.1 hp with hp | hp
  ·exact HOK2.out.2 p hp
  ·rw [List.mem_singleton] at hp; rw [hp]; exact ⟨padded_len htl, hb0, hb1⟩) (fun b hb => by
  simp only [Value.ownBlock, Option.some.injEq] at hb
  subst hb
  rcases HA5.out with h | h
  ·exact .inl h
  ·exact .inr (by rw [h]; simp)) HBA.out)
 have HKF := hide ((HK4.out.trans (Kept.of_below (base := base) HXB.out)).trans HFIN.out.2)
 have HSE : Hid (({ s2 with loose := s2.loose ++ [(bit, padded t.data.toList)] } : Sec) = { s with loose := without bit s.loose ++ [(bit, padded t.data.toList)] }) := by
  show _ = _
  rw [HS2E.out]
 have hl := HFIN.out.1
 rw [HSE.out] at hl
 simp only [List.set_set] at hl
 have HLAST := hide hl
 clear hl
 clear HO5 HG5 HA5 HMX HBS HOW5 HNEW HONE HOV HGV HWV HFZ5 e1 e2 ef hHeld5 hHeld d1 d2 d3 d4
 go_wp2
 exact bodyPost_end (results_none rfl _ _ _) rfl ⟨rfl, ⟨_, _, HLAST.out⟩, HKF.out⟩

end Go.Proofs.YtnhbfehfipafoaaGreatDoor
