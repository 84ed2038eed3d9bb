/- A disk: of a sector's writes the one with a bit is taken out, the walk. -/
import Derived.Test.YtjgodhfnnifchaaDkQ
namespace Go.Proofs.Ytjgodhfnnifchaa
open Go.RowKit

theorem wpList_clearA {P : Program} {w : World} {ops : Array Oper} {rest : List Oper} {op : Oper} {a : Act} {Q : Exit → Act → World → Prop} (hgd : op.guard = none) (hdst : op.dst = none) (d : Operand) (dT : TypeId)
    (ho : op.op = .call { callee := .builtin .clear, args := #[d], argTypes := #[dT] }) (dv v : Value) (w' : World) (hd : a.eval d = dv)
    (hrun : ∀ ty, (Builtin.clear_ #[dT] ty #[dv]).run P w = .ok v w') (h : wpList P ops Q rest a w') : wpList P ops Q (op :: rest) a w := by
  refine wpList_plain hgd fun K hK => ?_
  unfold Oper.wp
  simp [execOp, ho, resolve, invoke, builtin, hd, hrun, Result.andThen]
  exact hK _ _ (by rw [hdst]; exact h)

theorem zeroW : (Builtin.zeroCells wZ.toArray 1).toList = wZ := by kernel_rfl

theorem run_clear_one (w : World) (b o c : Nat) (hc : ∀ j, j < 65 → (w.cell? ⟨b, o + j, none⟩).isSome = true) (hf : ∀ j, w.frozen? ⟨b, o + j, none⟩ = false) (ty : TypeId) :
    (Builtin.clear_ #[76] ty #[.slice (some ⟨b, o, none⟩) 1 c]).run Try.prog w = .ok (.tuple #[]) (w.setCells b o wZ) := by
  have hz : (zeroValue 88).run Try.prog w = .ok (.agg wZ.toArray) w := by kernel_rfl
  have hst := run_storeCells_cells (P := Try.prog) b o wZ 0 w (by rw [wZ_len]; simpa using hc) (by rw [wZ_len]; intro j _; simpa using hf j) (fun v hv => by
    simp only [wZ, List.mem_cons, List.mem_map] at hv
    rcases hv with rfl | ⟨b, -, rfl⟩ <;> rfl)
  simp only [Nat.add_zero] at hst
  simp [Builtin.clear_, run_underlying Try.underlying76, hz, Value.cells, zeroW, hst]

theorem ownsTake {W : World} {base : Nat} {e : TypeId} {size : Nat} {g n cap : Nat} {xs : List Value} (h : W.ownsRow base e size (.slice (some ⟨g, 0, none⟩) n cap) n xs) (k : Nat) (hk : k ≤ n) : W.ownsRow base e size (.slice (some ⟨g, 0, none⟩) k cap) k (xs.take (k * size)) := by
  have hle : k * size ≤ n * size := Nat.mul_le_mul_right _ hk
  refine ⟨by rw [List.length_take, h.1]; omega, ?_⟩
  rcases h.2 with ⟨e', -⟩ | ⟨g', cap', cur, e', hb, hh, h1, h2, h3, h4⟩
  · simp at e'
  · simp only [Value.slice.injEq, Option.some.injEq, Addr.mk.injEq, and_true, true_and] at e'
    obtain ⟨rfl, rfl⟩ := e'
    refine .inr ⟨g, cap, cur, rfl, hb, hh, by omega, h2, h3, ?_⟩
    rw [← h4, List.take_take, Nat.min_eq_left hle]

theorem flat_take : ∀ (l : List (Int × List UInt8)), (∀ p ∈ l, p.2.length = 64) → ∀ k, k ≤ l.length → (l.flatMap wcells).take (k * 65) = (l.take k).flatMap wcells
  | [], _, k, hk => by simp
  | p :: l, hok, 0, _ => by simp
  | p :: l, hok, k + 1, hk => by
    have h0 := wcells_len (hok p (by simp))
    rw [List.flatMap_cons, List.take_succ_cons, List.flatMap_cons, List.take_append, List.take_of_length_le (by omega), show (k + 1) * 65 - (wcells p).length = k * 65 by omega, flat_take l (fun p hp => hok p (by simp [hp])) k (by simpa using hk)]

theorem take_setL {α : Type} : ∀ (cs xs : List α) (o : Nat), (setL xs o cs).take o = xs.take o
  | [], _, _ => rfl
  | c :: cs, xs, o => by
    rw [setL]
    have h := take_setL cs (xs.set o c) (o + 1)
    have h2 := congrArg (List.take o) h
    rw [List.take_take, List.take_take, Nat.min_eq_left (by omega), List.take_set_of_le (Nat.le_refl _)] at h2
    exact h2

theorem grown_sets {w W : World} {g : Nat} (h : w.grownBy W (some g)) (o : Nat) (cs : List Value) : w.grownBy (W.setCells g o cs) (some g) := by
  obtain ⟨r1, r2, r3⟩ := setCells_rest g cs o W
  exact ⟨r1.trans h.os, r2.trans h.tape, r3.trans h.output, by rw [heap_setCells_size]; exact h.size, fun b hb hne => (heap_setCells_other (fun e => hne (by rw [e])) _ _ _).trans (h.block b hb hne)⟩

theorem grown_later {w W W' : World} {row : Option Nat} (h : w.grownBy W row) (hb : Below W.heap.size W W') : w.grownBy W' row :=
  ⟨hb.os.trans h.os, hb.tape.trans h.tape, hb.output.trans h.output, Nat.le_trans h.size hb.size, fun b hlt hne => (hb.block b (Nat.lt_of_lt_of_le hlt h.size)).trans (h.block b hlt hne)⟩

theorem grown_refl (w : World) (row : Option Nat) : w.grownBy w row := ⟨rfl, rfl, rfl, Nat.le_refl _, fun _ _ _ => rfl⟩

theorem owns_is {W : World} {base : Nat} {g n cap : Nat} {l : List (Int × List UInt8)} (h : W.ownsRow base 88 65 (.slice (some ⟨g, 0, none⟩) n cap) n (l.flatMap wcells)) (hok : ∀ p ∈ l, p.2.length = 64) (q j : Nat) (hq : q < l.length) (hj : j < 65) : (W.cell? ⟨g, q * 65 + j, none⟩).isSome = true := by
  have hp := List.getElem?_eq_getElem hq
  have hl := wcells_len (hok l[q] (List.getElem_mem hq))
  rw [owns_cell h (q * 65 + j) ((wcells l[q])[j]'(by omega)) (by rw [wcells_at l hok q l[q] hp j hj, List.getElem?_eq_getElem])]
  rfl

theorem run_alloc_store (W : World) (cs : List Value) (hl : cs.length = 65) (h1 : ∀ v ∈ cs, v.oneCell' = true) : (storeVar 88 ⟨W.heap.size, 0, none⟩ (.agg cs.toArray)).run Try.prog (W.alloc (.cells wZ.toArray 88)) = .ok () (W.alloc (.cells cs.toArray 88)) :=
  run_storeVar_new W _ wZ.toArray cs.toArray (by rw [List.size_toArray, hl]; exact Try.sizeWrite) (by simp [wZ_len, hl]) (by simpa using h1)

theorem wcells_one (p : Int × List UInt8) : ∀ v ∈ wcells p, v.oneCell' = true := fun u hu => by
  simp only [wcells, List.mem_cons, List.mem_map] at hu
  rcases hu with rfl | ⟨b, -, rfl⟩ <;> rfl

set_option linter.unusedSimpArgs false in
set_option maxRecDepth 100000 in
set_option maxHeartbeats 800000 in
theorem deleteSome (w : World) (base lg cap n : Nat) (pre post : List (Int × List UInt8)) (bit : Int) (data : List UInt8) (bb : Nat) (hn : n = pre.length + post.length) (hown : w.ownsRow base 88 65 (.slice (some ⟨lg, 0, none⟩) (n + 1) cap) (n + 1) ((pre ++ (bit, data) :: post).flatMap wcells)) (hok : ∀ p ∈ pre ++ (bit, data) :: post, p.2.length = 64) (hno : ∀ p ∈ pre, p.1 ≠ bit) (hno2 : ∀ p ∈ post, p.1 ≠ bit) (hc : w.cell? ⟨bb, 0, none⟩ = some (.int .u64 bit)) (hlt : bb < w.heap.size) (hne : bb ≠ lg) :
    Calls Try.prog 49 #[.slice (some ⟨lg, 0, none⟩) (n + 1) cap, .func (.func 50) #[] #[.pointer (some ⟨bb, 0, none⟩)]] w fun e w' => e = .returned (.slice (some ⟨lg, 0, none⟩) n cap) ∧ w.grownBy w' (some lg) ∧ w'.ownsRow base 88 65 (.slice (some ⟨lg, 0, none⟩) n cap) n ((pre ++ post).flatMap wcells) := by
  have hN : (pre ++ (bit, data) :: post).length = n + 1 := by simp; omega
  have HI := hide (indexSome w base lg cap pre post bit data bb (by rw [hN]; exact hown) hok hno hc hlt)
  rw [hN] at HI
  have hcap : n + 1 ≤ cap ∧ cap ≤ 9223372036854775807 := by
    rcases hown.2 with ⟨e, -⟩ | ⟨g', cap', cur, e, -, -, h1, h2, -⟩
    · simp at e
    · simp only [Value.slice.injEq, Option.some.injEq, Addr.mk.injEq, and_true, true_and] at e
      obtain ⟨rfl, rfl⟩ := e
      unfold maxLen at h2
      exact ⟨h1, h2⟩
  have HO := hide hown; have HOK := hide hok; have HNO := hide hno2; have HC := hide hc; have HNN := hide hN
  have hpl : pre.length ≤ n := by omega
  clear hown hok hno hno2 hc hN
  have HN := hide hn
  clear hn
  obtain ⟨m0, hm0⟩ : ∃ m0, m0 = pre.length := ⟨_, rfl⟩
  rw [← hm0] at HI hpl
  have HM0 := hide hm0
  clear hm0
  go_enter Try.func49, Try.ntmps49
  go_wp2_with fail
  refine HI.out.mono ?_
  rintro e w1 ⟨rfl, hb1⟩
  have HG1 := hide (grown_later (grown_refl w (some lg)) hb1)
  have HO1 := hide (ownsLater HO.out hb1)
  clear hb1 HI HO
  have g1 : ((m0 : Int) == -1) = false := beq_false_of_ne (by omega)
  obtain ⟨hc1, hc2⟩ := hcap
  go_wp2
  have HC1 : Hid (∀ W : World, w.grownBy W (some lg) → W.cell? ⟨bb, 0, none⟩ = some (.int .u64 bit)) := fun W hg => hg.cell HC.out (fun e => hne (Option.some.inj e))
  clear g1 HC
  go_loopw [5, 6] (fun i j wr => ∃ k q m : Nat, k ≤ post.length ∧ Hid (q = m0 + k) ∧ Hid (m = q + 1) ∧ q ≤ n ∧ m ≤ n + 1 ∧ i = .int .i64 q ∧ j = .int .i64 m ∧ Hid (wr.ownsRow base 88 65 (.slice (some ⟨lg, 0, none⟩) (n + 1) cap) (n + 1) ((movedL pre post (bit, data) k).flatMap wcells)) ∧ Hid (w.grownBy wr (some lg))) (fun _ j _ => (n + 1) - (intOf j).toNat)
  case atStart => exact ⟨0, m0, m0 + 1, Nat.zero_le _, hide rfl, hide rfl, hpl, by omega, rfl, by go_num, HO1, HG1⟩
  case round =>
    clear HO1 HG1 w1
    obtain ⟨k, q, m, hk, HQ, HM, hqn, hmn, rfl, rfl, HOW, HG⟩ := hrel
    have HLEN := hide (movedL_len pre post (bit, data) k hk)
    have HOKM : Hid (∀ p ∈ movedL pre post (bit, data) k, p.2.length = 64) := fun p hp => HOK.out p (movedL_mem hp)
    by_cases hml : m < n + 1
    · have hkl : k < post.length := by have := HQ.out; have := HM.out; have := HN.out; have := HM0.out; omega
      have hmi : pre.length + (k + 1) = m := by have := HQ.out; have := HM.out; have := HM0.out; omega
      have hat := movedL_at pre post (bit, data) k hkl
      rw [hmi] at hat
      have HST := hide (movedL_step pre post (bit, data) k hkl)
      have hqi : pre.length + k = q := by have := HQ.out; have := HM0.out; omega
      rw [hqi] at HST
      have hnb := HNO.out post[k] (List.getElem_mem hkl)
      have hp64 := HOK.out post[k] (List.mem_append.2 (.inr (List.mem_cons_of_mem _ (List.getElem_mem hkl))))
      have HLD := hide (load_write wr base lg _ cap _ HOW.out HOKM.out m post[k] hat)
      generalize post[k] = p at *
      have HPL := hide (wcells_len hp64)
      have HSV := hide (run_alloc_store wr (wcells p) HPL.out (wcells_one p))
      have HL2 := hide (run_loadVar_row (P := Try.prog) (wr.alloc (.cells (wcells p).toArray 88)) wr.heap.size 88 88 (wcells p).toArray (0, 0) _ (heap_alloc_new wr _) Try.underlying88 rfl (by rw [List.size_toArray, HPL.out]; exact Try.sizeWrite))
      have HXB := hide ((Below.refl wr.heap.size wr).alloc (Nat.le_refl _) (.cells (wcells p).toArray 88))
      have HXG := hide (grown_later HG.out HXB.out)
      clear hat hmi hqi
      obtain ⟨b1, dat⟩ := p
      have hbe : (b1 == bit) = false := beq_false_of_ne hnb
      go_wp2_with (first
        | (show wpList _ _ _ ({ dst := some 25, op := _, type := _, pos := _, after := _, guard := _ } :: _) _ _; refine wpList_loadA rfl 25 rfl (.tmp 24) 88 rfl ⟨lg, m * 65, none⟩ _ rfl HLD.out ?_; refine wpList_allocA rfl 7 rfl 88 rfl _ _ (run_zero_write wr) ?_; refine wpList_storeA rfl (.tmp 7) (.tmp 25) 88 rfl rfl ⟨wr.heap.size, 0, none⟩ _ _ rfl rfl HSV.out ?_)
        | (show wpList _ _ _ ({ dst := some 27, op := _, type := _, pos := _, after := _, guard := _ } :: _) _ _; refine wpList_loadA rfl 27 rfl (.tmp 7) 88 rfl ⟨wr.heap.size, 0, none⟩ _ rfl HL2.out ?_))
      refine (addC_any (wr.alloc (.cells (wcells (b1, dat)).toArray 88)) (dat.map byteC) b1 bit bb (HC1.out _ HXG.out) (Nat.lt_of_lt_of_le hlt HXG.out.size)).mono ?_
      rintro e w2 ⟨rfl, hb2⟩
      rw [hbe]
      have HG2 := hide (grown_later HXG.out hb2)
      have HO2 := hide (ownsLater (ownsLater HOW.out HXB.out) hb2)
      have HL3 := hide (run_loadVar_row (P := Try.prog) w2 wr.heap.size 88 88 (wcells (b1, dat)).toArray (0, 0) _ ((hb2.block wr.heap.size (by simp)).trans (heap_alloc_new wr _)) Try.underlying88 rfl (by rw [List.size_toArray, HPL.out]; exact Try.sizeWrite))
      have HS3 := hide (run_storeA (P := Try.prog) w2 88 lg (q * 65) (wcells (b1, dat)) (by rw [HPL.out]; exact Try.sizeWrite) (wcells_one _) (fun x hx => owns_is HO2.out HOKM.out q x (by rw [HLEN.out]; have := HN.out; omega) (by rw [HPL.out] at hx; exact hx)) (fun x _ => owns_thaw HO2.out _))
      have HON : Hid ((w2.setCells lg (q * 65) (wcells (b1, dat))).ownsRow base 88 65 (.slice (some ⟨lg, 0, none⟩) (n + 1) cap) (n + 1) ((movedL pre post (bit, data) (k + 1)).flatMap wcells)) := by
        have := ownsSets (wcells (b1, dat)) (q * 65) w2 _ HO2.out
        rw [wcells_set _ HOKM.out q (b1, dat) (by rw [HLEN.out]; have := HN.out; omega) hp64, HST.out] at this
        exact this
      have HGN := hide (grown_sets HG2.out (q * 65) (wcells (b1, dat)))
      clear hb2 HXB HXG HL2 HLD HSV HOW HG HG2 HO2 hbe hnb HST
      go_wp2_with (first
        | (show wpList _ _ _ ({ dst := some 32, op := _, type := _, pos := _, after := _, guard := _ } :: _) _ _; refine wpList_loadA rfl 32 rfl (.tmp 7) 88 rfl ⟨wr.heap.size, 0, none⟩ _ rfl HL3.out ?_)
        | (show wpList _ _ _ ({ dst := none, op := Op.store _ (.tmp 33) (.tmp 32), type := _, pos := _, after := _, guard := _ } :: _) _ _; refine wpList_storeA rfl (.tmp 33) (.tmp 32) 88 rfl rfl ⟨lg, q * 65, none⟩ _ _ rfl rfl HS3.out ?_))
      go_roundw
      case rel => exact ⟨k + 1, q + 1, m + 1, hkl, hide (by have := HQ.out; omega), hide (by have := HM.out; omega), by have := HM.out; omega, by omega, by go_num, by go_num, HON, HGN⟩
      case measure => simp [intOf]; omega
    · obtain rfl : m = n + 1 := by omega
      obtain rfl : q = n := by have := HM.out; omega
      obtain rfl : k = post.length := by have := HQ.out; have := HN.out; have := HM0.out; omega
      have HCL := hide (run_clear_one wr lg (q * 65) (cap - q) (fun j hj => owns_is HOW.out HOKM.out q j (by rw [HLEN.out]; have := HN.out; omega) hj) (fun j => owns_thaw HOW.out _))
      have HON : Hid ((wr.setCells lg (q * 65) wZ).ownsRow base 88 65 (.slice (some ⟨lg, 0, none⟩) q cap) q ((pre ++ post).flatMap wcells)) := by
        have h1 := ownsSets wZ (q * 65) wr _ HOW.out
        have h2 := ownsTake h1 q (by omega)
        have e : (setL ((movedL pre post (bit, data) post.length).flatMap wcells) (q * 65) wZ).take (q * 65) = (pre ++ post).flatMap wcells := by
          rw [take_setL, flat_take _ HOKM.out q (by rw [HLEN.out]; have := HN.out; omega), HN.out, movedL_end]
        rw [e] at h2
        exact h2
      have HGN := hide (grown_sets HG.out (q * 65) wZ)
      clear HOW HG HLEN HOKM
      go_wp2_with (show wpList _ _ _ ({ dst := none, op := Op.call _, type := _, pos := _, after := _, guard := _ } :: _) _ _; refine wpList_clearA rfl rfl (.tmp 38) 76 rfl _ _ _ rfl HCL.out ?_)
      go_ret
      exact ⟨rfl, HGN.out, by have := HON.out; rw [List.flatMap_append] at this; exact this⟩

end Go.Proofs.Ytjgodhfnnifchaa
