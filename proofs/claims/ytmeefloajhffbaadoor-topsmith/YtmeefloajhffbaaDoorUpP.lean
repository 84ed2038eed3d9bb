/- slices.Clone of rows: rows of one's own. -/
import Derived.Test.YtmeefloajhffbaaDoorDetW
import Derived.Test.YtmeefloajhffbaaDoorSwap

namespace Go.Proofs.YtmeefloajhffbaaDoor
open Go.RowKit Limbs

/-- Rows that grew are rows of one's own. -/
theorem growV_rows {w W : World} {v : Value} {qs : List (Value × List Int)} {R : List (List Int)} {nv : Nat} (h : GrowV W w.heap.size v qs nv) (hb : Below w.heap.size w W) (e : qs.map (·.2) = R) (h0 : 0 < R.length) {lo up : Nat} (hsep : ∀ q ∈ qs, ∀ a l c, q.1 = .slice (some a) l c → a.block < lo ∨ up ≤ a.block) : ∃ rb cap, v = .slice (some ⟨rb, 0, none⟩) R.length cap ∧ R.length ≤ cap ∧ RowsD w W rb lo up R nv := by
  subst e
  rw [List.length_map] at h0 ⊢
  obtain ⟨hl, h1⟩ := h.own
  rcases h1 with ⟨-, h1⟩ | ⟨g, cap, cur, rfl, hg, hh, hc, -, hcs, ht⟩
  · exact absurd h1 (by omega)
  · refine ⟨g, cap, rfl, hc, hg, hb, ⟨cur, _, hh, ?_⟩, fun i zs hi => ?_⟩
    · obtain ⟨cur', t', fz', hh', hs⟩ := h.all g rfl
      rw [hh] at hh'
      simp only [Option.some.injEq, Obj.cells.injEq] at hh'
      obtain ⟨rfl, -, -⟩ := hh'
      exact hs
    · have hi' : i < qs.length := by
        have := (List.getElem?_eq_some_iff.1 hi).1
        rwa [List.length_map] at this
      have hz : qs[i].2 = zs := by
        rw [List.getElem?_map, List.getElem?_eq_getElem hi'] at hi
        exact Option.some.inj hi
      have hq := h.vec qs[i] (List.getElem_mem hi')
      have hcell : W.cell? ⟨g, i, none⟩ = some qs[i].1 := by
        rw [cell_of_row W g i cur _ _ hh]
        have h5 : (cur.toList.take (qs.length * 1))[i]? = some qs[i].1 := by
          rw [ht, List.getElem?_map, List.getElem?_eq_getElem hi']; rfl
        rw [List.getElem?_take_of_lt (by omega)] at h5
        rw [← Array.getElem?_toList]
        exact h5
      rw [hz] at hq
      have hq' := hq
      obtain ⟨o, c, ev, -, -⟩ := hq
      rw [ev] at hcell hq'
      exact ⟨o, zs.length, c, hcell, hq', fun a ha => hsep qs[i] (List.getElem_mem hi') a _ _ (by rw [ev, ha])⟩

theorem growV_empty (W : World) (base n : Nat) (hb : base ≤ W.heap.size) : GrowV (W.alloc (.cells #[] 32)) base (.slice (some ⟨W.heap.size, 0, none⟩) 0 0) [] n := by
  refine ⟨⟨rfl, .inr ⟨W.heap.size, 0, #[], rfl, hb, heap_alloc_new W _, Nat.le_refl _, by unfold maxLen; omega, rfl, rfl⟩⟩, fun g hg => ?_, fun q h => by cases h⟩
  simp only [Value.ownBlock, Option.some.injEq] at hg
  subst hg
  exact ⟨_, _, _, heap_alloc_new W _, fun u hu => by simp at hu⟩

/-- Rows, whose heads are known, are appended to rows that grow. -/
theorem wpList_append_heads {P : Program} {w : World} {ops : Array Oper} {rest : List Oper} {op : Oper} {a : Act} {Q : Exit → Act → World → Prop} (hgd : op.guard = none) (s x : Operand) (t : TypeId)
    (ho : op.op = .call { callee := .builtin .append, args := #[s, x], argTypes := #[t, t] })
    (base : Nat) (i : TypeInfo) (ht : P.underlying t = some (.slice 32)) (hi : P.info? 32 = some i) (hz : i.zero = some (.slice none 0 0))
    (hsize : i.size = 1) (hby : i.bytes = 24) (v : Value) (qs : List (Value × List Int)) (nv : Nat) (hg : GrowV w base v qs nv) (hs : a.eval s = v)
    (b off yc : Nat) (qs' : List (Value × List Int)) (hx : a.eval x = .slice (some ⟨b, off, none⟩) qs'.length yc) (h0 : 0 < qs'.length) (e2 : ∀ u, u ∈ qs'.map (·.1) → ∃ o l c, u = .slice o l c) (e3 : ∀ j u, (qs'.map (·.1))[j]? = some u → w.cell? ((⟨b, off, none⟩ : Addr).add j) = some u) (e4 : ∀ q ∈ qs', VecN w q.1 q.2 nv) (h1000 : qs.length + qs'.length ≤ 1000000) (hbase : base ≤ w.heap.size)
    (h : ∀ v' w', GrowV w' base v' (qs ++ qs') nv → Below base w w' → wpList P ops Q rest (a.put op.dst v') w') : wpList P ops Q (op :: rest) a w := by
  refine wpList_plain hgd fun K hK => ?_
  have hlen : (qs'.map (·.1)).length = qs'.length := List.length_map ..
  obtain ⟨g, cap, w', hr, k2, k3, k4, k5⟩ := run_append_lies (P := P) w t op.type base 32 i (.slice none 0 0) 1 24 ht hi hz hsize hby rfl (by decide) v qs.length (qs.map (·.1)) hg.own ⟨b, off, none⟩ qs'.length yc (qs'.map (·.1)) (by rw [hlen, Nat.mul_one]) e3 (fun u hu => by obtain ⟨o, l, c, rfl⟩ := e2 u hu; rfl) (by omega) (by unfold maxLen; omega) (by omega) hbase _ rfl
  have hA := run_append_slm w t op.type base 32 i ht hi hz hsize v qs.length (qs.map (·.1)) hg.own hg.all ⟨b, off, none⟩ qs'.length yc (qs'.map (·.1)) hlen (by omega) e2 e3 (by unfold maxLen; omega) (by rw [hby]; omega) g cap w' hr
  have hg' : GrowV w' base (.slice (some ⟨g, 0, none⟩) (qs.length + qs'.length) cap) (qs ++ qs') nv := by
    refine ⟨?_, hA, fun p hp => ?_⟩
    · rw [List.length_append, List.map_append]
      exact k2
    · rcases List.mem_append.1 hp with h' | h'
      · exact (hg.vec p h').grownS k3 hg.all
      · exact (e4 p h').grownS k3 hg.all
  unfold Oper.wp execOp
  simp only [ho, resolve, invoke, builtin, Sem.run_bind, Sem.run_pure, Result.andThen_ok, List.map_toArray, List.map_cons, List.map_nil, hs, hx, hr]
  exact hK _ _ (h _ w' hg' ((Below.refl _ _).grown k3 hbase (fun k hk => (hg.own.lt k hk).1)))

theorem run_mat_eq (w : World) (a : Addr) (l c : Nat) : Sem.run Tryd.prog (binOp .eql 23 (.slice (some a) l c) (.slice none 0 0)) w = .ok (.bool false) w := by kernel_rfl

set_option linter.unusedSimpArgs false in
set_option maxRecDepth 100000 in
set_option maxHeartbeats 3200000 in
theorem clone_any (w : World) (va : Value) (ms : List (List Int)) (nv : Nat) (hv : MatN w va ms nv) (h0 : 0 < ms.length) (hl : ms.length ≤ 1000) (hp : ∀ u ∈ ms, 0 < u.length) :
    Calls Tryd.prog 23 #[va] w fun e w' => ∃ rb cap, e = .returned (.slice (some ⟨rb, 0, none⟩) ms.length cap) ∧ ms.length ≤ cap ∧ ∀ up, RowsD w w' rb w.heap.size up ms nv := by
  obtain ⟨j0, hj, hy0, hy1, hy2⟩ := info_parts Tryd.infoVec
  have HJ := hide hj; have HY0 := hide hy0; have HY1 := hide hy1; have HY2 := hide hy2
  clear hj hy0 hy1 hy2
  have HV := hide hv
  obtain ⟨ao, cap, rfl, -, h2⟩ := hv
  obtain ⟨b, off, rfl, hbl, -⟩ := h2 h0
  clear h2
  obtain ⟨qs', e1, e2, e3, e4⟩ := HV.out.heads h0
  have hql : qs'.length = ms.length := by rw [← e1, List.length_map]
  have hbo := run_mat_eq w ⟨b, off, none⟩ ms.length cap
  have HG := hide (growV_empty w w.heap.size nv (Nat.le_refl _))
  have HB := hide ((Below.refl w.heap.size w).alloc (Nat.le_refl _) (.cells #[] 32))
  have HE2 := hide e2
  have HE3 : Hid (∀ j u, (qs'.map (·.1))[j]? = some u → (w.alloc (.cells #[] 32)).cell? ((⟨b, off, none⟩ : Addr).add j) = some u) := fun j u hju => by
    have ea : (⟨b, off, none⟩ : Addr).add j = ⟨b, off + j, none⟩ := by unfold Addr.add; split <;> simp_all
    have := e3 j u hju
    rw [ea] at this ⊢
    exact (HB.out.cell (p := ⟨b, off + j, none⟩) hbl).trans this
  have HE4 : Hid (∀ q ∈ qs', VecN (w.alloc (.cells #[] 32)) q.1 q.2 nv) := fun q hq => (e4 q hq).below HB.out (Nat.le_refl _)
  have HSP : Hid (∀ up, ∀ q ∈ qs', ∀ a l c, q.1 = .slice (some a) l c → a.block < w.heap.size ∨ up ≤ a.block) := fun up q hq a l c e => .inl (by
    have hp := hp q.2 (by rw [← e1]; exact List.mem_map_of_mem hq)
    obtain ⟨b', off', cap', e'⟩ := (e4 q hq).form hp
    have := (e4 q hq)
    rw [e'] at this e
    simp only [Value.slice.injEq, Option.some.injEq] at e
    obtain ⟨rfl, -, -⟩ := e
    exact (this.at 0 hp).1)
  clear e2 e3 e4
  have HE1 := hide e1; have HQL := hide hql
  rw [← hql] at hbo ⊢
  clear hql e1
  have h0' : 0 < qs'.length := by rw [HQL.out]; exact h0
  have hl' : qs'.length ≤ 1000 := by rw [HQL.out]; exact hl
  go_enter Tryd.func23, Tryd.ntmps23
  go_wp2_with (at_builtin; refine wpList_append_heads rfl _ _ 23 rfl w.heap.size j0 (by kernel_rfl) HJ.out HY0.out HY1.out HY2.out _ [] nv HG.out rfl b off cap qs' rfl h0' HE2.out HE3.out HE4.out (by simp; omega) (by simp) ?_)
  rintro v' w' hg' hb'
  have HP := hide (fun up => growV_rows (R := ms) hg' (HB.out.trans hb') HE1.out h0 (HSP.out up))
  clear hg' hb'
  obtain ⟨rb, cap', hv', hc, -⟩ := HP.out 0
  have HRR : Hid (∀ up, RowsD w w' rb w.heap.size up ms nv) := fun up => by
    obtain ⟨rb2, cap2, e, -, hr⟩ := HP.out up
    rw [hv'] at e
    simp only [Value.slice.injEq, Option.some.injEq, Addr.mk.injEq, and_true, true_and] at e
    rw [e.1]
    exact hr
  subst hv'
  have HC := hide hc
  clear hc HP
  rw [← HQL.out]
  go_wp2
  go_ret
  exact ⟨rb, cap', rfl, by rw [HQL.out]; exact HC.out, HRR.out⟩

end Go.Proofs.YtmeefloajhffbaaDoor

/- What holds while mat.Det clears rows. -/
namespace Go.Proofs.YtmeefloajhffbaaDoor
open Go.RowKit Limbs

/-- While rows are cleared: T and T + 1 hold the sign and the last pivot. -/
structure DetI (w W : World) (lo rb T n nv k : Nat) (ms : List (List Int)) : Prop where
  base : w.heap.size < lo
  low : lo ≤ T
  rlo : lo ≤ rb
  ne : rb < T
  res : BoxL W w.heap.size (.bool false) (.slice none 0 0)
  ex : ∃ (R : List (List Int)) (t last : Int) (P : Nat → Nat → Int), R.length = n ∧ (∀ u ∈ R, u.length = n) ∧ BarI n k (ent ms) (bp nv) t last (ent R) P ∧ RowsD w W rb lo (T + 2) R (n * nv + 2) ∧ (∃ tn tO tL tC, BoxL W T (.bool tn) (.slice tO tL tC) ∧ NumL W (.agg #[.bool tn, .slice tO tL tC]) t 2) ∧ ∃ ln lO lL lC, BoxL W (T + 1) (.bool ln) (.slice lO lL lC) ∧ NumL W (.agg #[.bool ln, .slice lO lL lC]) last (n * nv + 2)

/-- And a pivot is there. -/
structure DetK (w W : World) (lo rb T n nv k : Nat) (ms : List (List Int)) : Prop where
  base : w.heap.size < lo
  low : lo ≤ T
  rlo : lo ≤ rb
  ne : rb < T
  res : BoxL W w.heap.size (.bool false) (.slice none 0 0)
  ex : ∃ (R : List (List Int)) (t last : Int) (P : Nat → Nat → Int), R.length = n ∧ (∀ u ∈ R, u.length = n) ∧ BarI n k (ent ms) (bp nv) t last (ent R) P ∧ ent R k k ≠ 0 ∧ RowsD w W rb lo (T + 2) R (n * nv + 2) ∧ (∃ tn tO tL tC, BoxL W T (.bool tn) (.slice tO tL tC) ∧ NumL W (.agg #[.bool tn, .slice tO tL tC]) t 2) ∧ ∃ ln lO lL lC, BoxL W (T + 1) (.bool ln) (.slice lO lL lC) ∧ NumL W (.agg #[.bool ln, .slice lO lL lC]) last (n * nv + 2)

theorem ent_swap {R : List (List Int)} {k f : Nat} (hk : k < R.length) (hf : f < R.length) (hkf : k < f) (i j : Nat) : ent ((R.set k R[f]).set f R[k]) i j = swapRows (ent R) k f i j := by
  have key : ((R.set k R[f]).set f R[k]).getD i [] = if i = k then R.getD f [] else if i = f then R.getD k [] else R.getD i [] := by
    rw [List.getD_eq_getElem?_getD (l := (R.set k R[f]).set f R[k])]
    by_cases e1 : i = k
    · subst e1
      rw [if_pos rfl, List.getElem?_set_ne (by omega), List.getElem?_set_self hk, Option.getD_some, getD_row hf]
    · rw [if_neg e1]
      by_cases e2 : i = f
      · subst e2
        rw [if_pos rfl, List.getElem?_set_self (by rw [List.length_set]; exact hf), Option.getD_some, getD_row hk]
      · rw [if_neg e2, List.getElem?_set_ne (Ne.symm e2), List.getElem?_set_ne (Ne.symm e1), ← List.getD_eq_getElem?_getD]
  unfold swapRows ent
  rw [key]
  split
  · rfl
  · split <;> rfl

theorem RowsD.mono {w W : World} {rb lo up N M : Nat} {R : List (List Int)} (h : RowsD w W rb lo up R N) (hm : N ≤ M) : RowsD w W rb lo up R M :=
  ⟨h.low, h.below, h.blk, fun i zs hi => by
    obtain ⟨o, l, c, h1, h2, h3⟩ := h.row i zs hi
    exact ⟨o, l, c, h1, h2.mono hm, h3⟩⟩

theorem RowsD.from {w w0 W : World} {rb lo up N : Nat} {R : List (List Int)} (h : RowsD w0 W rb lo up R N) (hb : Below w.heap.size w w0) : RowsD w W rb lo up R N :=
  ⟨Nat.le_trans hb.size h.low, hb.trans (h.below.mono hb.size), h.blk, fun i zs hi => by
    obtain ⟨o, l, c, h1, h2, h3⟩ := h.row i zs hi
    exact ⟨o, l, c, h1, h2, h3⟩⟩

end Go.Proofs.YtmeefloajhffbaaDoor

/- Moves of a region that draws its order: what is held is asked behind some operations alone; operations that read no memory are taken first wherever they stand. -/
namespace Go.Proofs.YtmeefloajhffbaaDoor
open Go

section
variable {P : Program} {ops : Array Oper} {Q : Exit → Act → World → Prop} {md : Region.Mode} {S : World → Prop} {A : Nat → Bool}

/-- Whatever order is picked from here on; behind each operation of A the world meets S. -/
def wpUp (P : Program) (md : Region.Mode) (ops : Array Oper) (Q : Exit → Act → World → Prop) (S : World → Prop) (A : Nat → Bool) : Nat → Array Bool → Act → World → Prop
  | 0 => fun listed a w => Region.ready md ops listed = [] ∧ Q .normal a w
  | fuel + 1 => fun listed a w => (Region.ready md ops listed = [] → Q .normal a w) ∧
      ∀ j, j ∈ Region.ready md ops listed → wpOp P ops Q j (fun a' w' => (A j = true → S w') ∧ wpUp P md ops Q S A fuel (listed.setIfInBounds j true) a' w') a w

theorem any_of_up (fuel : Nat) : ∀ (listed : Array Bool) (a : Act) (w : World), wpUp P md ops Q S A fuel listed a w → wpAny P md ops Q fuel listed a w := by
  induction fuel with
  | zero => exact fun _ _ _ h => h
  | succ fuel ih => exact fun _ _ _ h => ⟨h.1, fun j hj => wpOp_mono (fun a' w' h' => ih _ a' w' h'.2) (h.2 j hj)⟩

/-- What isn't of A has come up, or is among these; these wait for number i, one by one or by each other. -/
def waitsA (md : Region.Mode) (ops : Array Oper) (A : Nat → Bool) (listed : Array Bool) (i : Nat) (ds : List Nat) : Bool :=
  ((List.range ops.size).all fun j => A j || ds.contains j || listed.getD j false) &&
    ds.all fun j => !listed.getD j false && match ops[j]? with
      | some o => o.after.any fun e => Region.binds md e && (e.on == i || ds.contains e.on)
      | none => true

theorem up_first {i : Nat} {oi : Oper} {v : Value} (hi : ops[i]? = some oi) (hsel : ∀ (j : Nat) (o : Oper) cs b, ops[j]? = some o → o.op ≠ .select cs b)
    (hQ : ∀ c a w, Q (.panic c) (a.put oi.dst v) w → Q (.panic c) a w) (ds : List Nat) (hds : ∀ j, j ∈ ds → ∀ o, ops[j]? = some o → ∃ e ∈ o.after, Region.binds md e = true ∧ (e.on = i ∨ e.on ∈ ds)) (fuel : Nat) :
    ∀ (listed : Array Bool) (a : Act) (w : World), (∀ j o, ops[j]? = some o → listed.getD j true = false → j ∉ ds → A j = true) →
      (∀ j oj, ops[j]? = some oj → j ≠ i → listed.getD j true = false → (∀ e ∈ oj.after, Region.binds md e = true → e.on ≠ i) → oi.apart ops oj = true) →
      i ∈ Region.ready md ops listed → (∀ j ∈ ds, listed.getD j false = false) → YieldsIf P ops S oi v a → S w →
      wpUp P md ops Q S A fuel (listed.setIfInBounds i true) (a.put oi.dst v) w → wpUp P md ops Q S A (fuel + 1) listed a w := by
  induction fuel with
  | zero =>
    intro listed a w _ _ hr _ hy hS H
    refine ⟨fun h0 => absurd hr (by rw [h0]; exact List.not_mem_nil), fun j hj => ?_⟩
    by_cases e : j = i
    · subst e; exact hy.wpOp hi hS ⟨fun _ => hS, H⟩
    · have := ready_mono hj e
      rw [H.1] at this
      cases this
  | succ fuel ih =>
    intro listed a w hlow hfree hr hun hy hS H
    refine ⟨fun h0 => absurd hr (by rw [h0]; exact List.not_mem_nil), fun j hj => ?_⟩
    by_cases e : j = i
    · subst e; exact hy.wpOp hi hS ⟨fun _ => hS, H⟩
    · obtain ⟨hj0, oj, hoj, hall⟩ := mem_ready.1 hj
      have hi0 := (mem_ready.1 hr).1
      have hi1 : listed.getD i false = true → False := fun h => by
        by_cases hl : i < listed.size
        · simp [hl] at hi0 h; rw [hi0] at h; cases h
        · simp [Array.getElem?_eq_none (Nat.le_of_not_lt hl)] at h
      have hnd : j ∉ ds := fun hd => by
        obtain ⟨ed, hed, hbd, hon⟩ := hds j hd oj hoj
        have h1 := hall ed hed hbd
        rcases hon with hon | hon
        · rw [hon] at h1; exact hi1 h1
        · rw [hun _ hon] at h1; cases h1
      have hnot : ∀ ed ∈ oj.after, Region.binds md ed = true → ed.on ≠ i := fun ed hed hbd heq => hi1 (by have := hall ed hed hbd; rwa [heq] at this)
      have h2 := wpOp_putIf hoj (hfree j oj hoj e hj0 hnot) (fun cs b => hsel i oi cs b hi) (fun cs b => hsel j oj cs b hoj) hQ hy (H.2 j (ready_mono hj e))
      refine wpOp_mono (fun a' w' h3 => ?_) h2
      have hS' := h3.2.1 (hlow j oj hoj hj0 hnd)
      have hback : ∀ m, (listed.setIfInBounds j true).getD m true = false → listed.getD m true = false := fun m hmu => by
        by_cases ejm : j = m
        · subst ejm; exact hj0
        · rwa [getD_set_ne true ejm] at hmu
      refine ⟨h3.2.1, ih (listed.setIfInBounds j true) a' w' (fun m om hm hmu => hlow m om hm (hback m hmu)) (fun m om hm hmi hmu hmn => hfree m om hm hmi (hback m hmu) hmn) (ready_mono hr (Ne.symm e)) (fun d hd => ?_) h3.1 hS' ?_⟩
      · rw [getD_set_ne (i := j) (j := d) false (fun e' => hnd (by rw [e']; exact hd))]
        exact hun d hd
      · rw [Array.setIfInBounds_comm _ _ e]
        exact h3.2.2

/-- One that reads no memory. -/
theorem up_free {i : Nat} {oi : Oper} {v : Value} (hi : ops[i]? = some oi) (hsel : ∀ (j : Nat) (o : Oper) cs b, ops[j]? = some o → o.op ≠ .select cs b)
    (hQ : ∀ c a w, Q (.panic c) (a.put oi.dst v) w → Q (.panic c) a w) (hA : A i = false) (fuel : Nat) :
    ∀ (listed : Array Bool) (a : Act) (w : World),
      (∀ j oj, ops[j]? = some oj → j ≠ i → listed.getD j true = false → (∀ e ∈ oj.after, Region.binds md e = true → e.on ≠ i) → oi.apart ops oj = true) →
      i ∈ Region.ready md ops listed → YieldsIf P ops (fun _ => True) oi v a →
      wpUp P md ops Q S A fuel (listed.setIfInBounds i true) (a.put oi.dst v) w → wpUp P md ops Q S A (fuel + 1) listed a w := by
  have hno : A i = true → S = S → ∀ w, S w := fun h => by rw [hA] at h; cases h
  induction fuel with
  | zero =>
    intro listed a w _ hr hy H
    refine ⟨fun h0 => absurd hr (by rw [h0]; exact List.not_mem_nil), fun j hj => ?_⟩
    by_cases e : j = i
    · subst e; exact hy.wpOp hi trivial ⟨fun h => hno h rfl w, H⟩
    · have := ready_mono hj e
      rw [H.1] at this
      cases this
  | succ fuel ih =>
    intro listed a w hfree hr hy H
    refine ⟨fun h0 => absurd hr (by rw [h0]; exact List.not_mem_nil), fun j hj => ?_⟩
    by_cases e : j = i
    · subst e; exact hy.wpOp hi trivial ⟨fun h => hno h rfl w, H⟩
    · obtain ⟨hj0, oj, hoj, hall⟩ := mem_ready.1 hj
      have hi0 := (mem_ready.1 hr).1
      have hi1 : listed.getD i false = true → False := fun h => by
        by_cases hl : i < listed.size
        · simp [hl] at hi0 h; rw [hi0] at h; cases h
        · simp [Array.getElem?_eq_none (Nat.le_of_not_lt hl)] at h
      have hnot : ∀ ed ∈ oj.after, Region.binds md ed = true → ed.on ≠ i := fun ed hed hbd heq => hi1 (by have := hall ed hed hbd; rwa [heq] at this)
      have h2 := wpOp_putIf hoj (hfree j oj hoj e hj0 hnot) (fun cs b => hsel i oi cs b hi) (fun cs b => hsel j oj cs b hoj) hQ hy (H.2 j (ready_mono hj e))
      refine wpOp_mono (fun a' w' h3 => ?_) h2
      refine ⟨h3.2.1, ih (listed.setIfInBounds j true) a' w' (fun m om hm hmi hmu hmn => hfree m om hm hmi ?_ hmn) (ready_mono hr (Ne.symm e)) h3.1 ?_⟩
      · by_cases ejm : j = m
        · subst ejm; exact hj0
        · rwa [getD_set_ne true ejm] at hmu
      · rw [Array.setIfInBounds_comm _ _ e]
        exact h3.2.2

theorem waitsA_spec {listed : Array Bool} {i : Nat} {ds : List Nat} (h : waitsA md ops A listed i ds = true) :
    (∀ j o, ops[j]? = some o → listed.getD j true = false → j ∉ ds → A j = true) ∧ (∀ j ∈ ds, listed.getD j false = false) ∧ ∀ j, j ∈ ds → ∀ o, ops[j]? = some o → ∃ e ∈ o.after, Region.binds md e = true ∧ (e.on = i ∨ e.on ∈ ds) := by
  simp only [waitsA, Bool.and_eq_true, List.all_eq_true] at h
  refine ⟨fun j o hj hl hn => ?_, fun j hj => ?_, fun j hj o ho => ?_⟩
  · have h1 := h.1 j (List.mem_range.2 (Array.getElem?_eq_some_iff.1 hj).1)
    simp only [Bool.or_eq_true, List.contains_iff_mem] at h1
    rcases h1 with (h1 | h1) | h1
    · exact h1
    · exact absurd h1 hn
    · by_cases hs : j < listed.size
      · simp [hs] at hl h1; rw [hl] at h1; cases h1
      · simp [Array.getElem?_eq_none (Nat.le_of_not_lt hs)] at h1
  · have := (h.2 j hj).1
    simpa using this
  · have h2 := (h.2 j hj).2
    rw [ho] at h2
    obtain ⟨e, he, hb⟩ := Array.any_eq_true'.1 h2
    simp only [Bool.and_eq_true, Bool.or_eq_true, beq_iff_eq, List.contains_iff_mem] at hb
    exact ⟨e, he, hb.1, hb.2⟩

/-- A read, taken first. -/
theorem up_run (i d : Nat) (ds : List Nat) {oi : Oper} {v : Value} {fuel : Nat} {listed : Array Bool} {a : Act} {w : World} (hi : ops[i]? = some oi) (hd : oi.dst = some d)
    (hs : Region.noSelect ops = true) (hf : Region.free md ops listed i = true) (hr : (Region.ready md ops listed).contains i = true) (hw : waitsA md ops A listed i ds = true)
    (hQ : ∀ c a w, Q (.panic c) (a.put (some d) v) w → Q (.panic c) a w) (hwt : Region.wanted oi (yielded ops a.tmps) = true) (hy : ∀ w, S w → (execOp a.eval oi).run P w = .ok (.value v) w) (hS : S w)
    (h : wpUp P md ops Q S A fuel (listed.setIfInBounds i true) (a.put (some d) v) w) : wpUp P md ops Q S A (fuel + 1) listed a w :=
  have hw' := waitsA_spec hw
  up_first hi (Region.noSelect_spec hs) (by rw [hd]; exact hQ) ds hw'.2.2 fuel listed a w hw'.1 (Region.free_spec hi hf) (by simpa using hr)
    hw'.2.1 (.inl ⟨hwt, hy⟩) hS (by rw [hd]; exact h)

/-- One that reads no memory, taken first. -/
theorem up_pure (i d : Nat) {oi : Oper} {v : Value} {fuel : Nat} {listed : Array Bool} {a : Act} {w : World} (hi : ops[i]? = some oi) (hd : oi.dst = some d)
    (hs : Region.noSelect ops = true) (hf : Region.free md ops listed i = true) (hr : (Region.ready md ops listed).contains i = true) (hA : A i = false)
    (hQ : ∀ c a w, Q (.panic c) (a.put (some d) v) w → Q (.panic c) a w) (hwt : Region.wanted oi (yielded ops a.tmps) = true) (hy : ∀ w, (execOp a.eval oi).run P w = .ok (.value v) w)
    (h : wpUp P md ops Q S A fuel (listed.setIfInBounds i true) (a.put (some d) v) w) : wpUp P md ops Q S A (fuel + 1) listed a w :=
  up_free hi (Region.noSelect_spec hs) (by rw [hd]; exact hQ) hA fuel listed a w (Region.free_spec hi hf) (by simpa using hr) (.inl ⟨hwt, fun w _ => hy w⟩) (by rw [hd]; exact h)

/-- The one that comes up now. -/
theorem up_one (i : Nat) {o : Oper} {fuel : Nat} {listed : Array Bool} {a : Act} {w : World} (hr : Region.ready md ops listed = [i]) (ho : ops[i]? = some o)
    (h : ∀ K' : Act → World → Prop, Shut (∀ a w, (A i = true → S w) → wpUp P md ops Q S A fuel (listed.setIfInBounds i true) a w → K' a w) → if Region.wanted o (yielded ops a.tmps) = true then Oper.wp P o a w K' Q else K' (a.put o.dst undef) w) :
    wpUp P md ops Q S A (fuel + 1) listed a w := by
  refine ⟨fun h0 => absurd (hr.symm.trans h0) (by simp), fun j hj => ?_⟩
  rw [hr] at hj
  obtain rfl : j = i := by simpa using hj
  exact wpOp_step ho (fun K' hK => h K' (fun a w hS hW => hK a w ⟨hS, hW⟩))

theorem up_done {fuel : Nat} {listed : Array Bool} {a : Act} {w : World} (hr : Region.ready md ops listed = []) (h : Q .normal a w) : wpUp P md ops Q S A fuel listed a w := by
  cases fuel with
  | zero => exact ⟨hr, h⟩
  | succ fuel => exact ⟨fun _ => h, fun j hj => by rw [hr] at hj; cases hj⟩

theorem up_start {id : Nat} {a : Act} {w : World} (hm : P.follows .mixedOrders = true) (hS : S w.drew)
    (h : S w.drew → wpUp P .any ops Q S A ops.size (Array.replicate ops.size false) a w.drew) : (Code.region id ops true).wp P Q a w :=
  wp_region_any hm (any_of_up _ _ _ _ (h hS))

end

end Go.Proofs.YtmeefloajhffbaaDoor
