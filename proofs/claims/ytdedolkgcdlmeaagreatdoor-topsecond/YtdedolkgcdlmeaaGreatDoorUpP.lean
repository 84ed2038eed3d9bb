/- Moves of a region that draws its order: what is held is asked behind some operations alone; operations that read no memory are taken first wherever they stand. -/
import Derived.Test.YtdedolkgcdlmeaaGreatDoorSwap
namespace Go.Proofs.YtdedolkgcdlmeaaGreatDoor
open Go

section
variable {P : Program} {ops : Array Oper} {Q : Exit → Act → World → Prop} {md : Region.Mode} {S : World → Prop} {A : Nat → Bool}

/-- Whatever order is picked from here on; behind each operation of A the world meets S. -/
def wpUp (P : Program) (md : Region.Mode) (ops : Array Oper) (Q : Exit → Act → World → Prop) (S : World → Prop) (A : Nat → Bool) : Nat → Array Bool → Act → World → Prop
  | 0 => fun listed a w => Region.ready md ops listed = [] ∧ Q .normal a w
  | fuel + 1 => fun listed a w => (Region.ready md ops listed = [] → Q .normal a w) ∧
      ∀ j, j ∈ Region.ready md ops listed → wpOp P ops Q j (fun a' w' => (A j = true → S w') ∧ wpUp P md ops Q S A fuel (listed.setIfInBounds j true) a' w') a w

theorem any_of_up (fuel : Nat) : ∀ (listed : Array Bool) (a : Act) (w : World), wpUp P md ops Q S A fuel listed a w → wpAny P md ops Q fuel listed a w := by
  induction fuel with
  | zero => exact fun _ _ _ h => h
  | succ fuel ih => exact fun _ _ _ h => ⟨h.1, fun j hj => wpOp_mono (fun a' w' h' => ih _ a' w' h'.2) (h.2 j hj)⟩

/-- What isn't of A has come up, or is among these; these wait for number i, one by one or by each other. -/
def waitsA (md : Region.Mode) (ops : Array Oper) (A : Nat → Bool) (listed : Array Bool) (i : Nat) (ds : List Nat) : Bool :=
  ((List.range ops.size).all fun j => A j || ds.contains j || listed.getD j false) &&
    ds.all fun j => !listed.getD j false && match ops[j]? with
      | some o => o.after.any fun e => Region.binds md e && (e.on == i || ds.contains e.on)
      | none => true

theorem up_first {i : Nat} {oi : Oper} {v : Value} (hi : ops[i]? = some oi) (hsel : ∀ (j : Nat) (o : Oper) cs b, ops[j]? = some o → o.op ≠ .select cs b)
    (hQ : ∀ c a w, Q (.panic c) (a.put oi.dst v) w → Q (.panic c) a w) (ds : List Nat) (hds : ∀ j, j ∈ ds → ∀ o, ops[j]? = some o → ∃ e ∈ o.after, Region.binds md e = true ∧ (e.on = i ∨ e.on ∈ ds)) (fuel : Nat) :
    ∀ (listed : Array Bool) (a : Act) (w : World), (∀ j o, ops[j]? = some o → listed.getD j true = false → j ∉ ds → A j = true) →
      (∀ j oj, ops[j]? = some oj → j ≠ i → listed.getD j true = false → (∀ e ∈ oj.after, Region.binds md e = true → e.on ≠ i) → oi.apart ops oj = true) →
      i ∈ Region.ready md ops listed → (∀ j ∈ ds, listed.getD j false = false) → YieldsIf P ops S oi v a → S w →
      wpUp P md ops Q S A fuel (listed.setIfInBounds i true) (a.put oi.dst v) w → wpUp P md ops Q S A (fuel + 1) listed a w := by
  induction fuel with
  | zero =>
    intro listed a w _ _ hr _ hy hS H
    refine ⟨fun h0 => absurd hr (by rw [h0]; exact List.not_mem_nil), fun j hj => ?_⟩
    by_cases e : j = i
    · subst e; exact hy.wpOp hi hS ⟨fun _ => hS, H⟩
    · have := ready_mono hj e
      rw [H.1] at this
      cases this
  | succ fuel ih =>
    intro listed a w hlow hfree hr hun hy hS H
    refine ⟨fun h0 => absurd hr (by rw [h0]; exact List.not_mem_nil), fun j hj => ?_⟩
    by_cases e : j = i
    · subst e; exact hy.wpOp hi hS ⟨fun _ => hS, H⟩
    · obtain ⟨hj0, oj, hoj, hall⟩ := mem_ready.1 hj
      have hi0 := (mem_ready.1 hr).1
      have hi1 : listed.getD i false = true → False := fun h => by
        by_cases hl : i < listed.size
        · simp [hl] at hi0 h; rw [hi0] at h; cases h
        · simp [Array.getElem?_eq_none (Nat.le_of_not_lt hl)] at h
      have hnd : j ∉ ds := fun hd => by
        obtain ⟨ed, hed, hbd, hon⟩ := hds j hd oj hoj
        have h1 := hall ed hed hbd
        rcases hon with hon | hon
        · rw [hon] at h1; exact hi1 h1
        · rw [hun _ hon] at h1; cases h1
      have hnot : ∀ ed ∈ oj.after, Region.binds md ed = true → ed.on ≠ i := fun ed hed hbd heq => hi1 (by have := hall ed hed hbd; rwa [heq] at this)
      have h2 := wpOp_putIf hoj (hfree j oj hoj e hj0 hnot) (fun cs b => hsel i oi cs b hi) (fun cs b => hsel j oj cs b hoj) hQ hy (H.2 j (ready_mono hj e))
      refine wpOp_mono (fun a' w' h3 => ?_) h2
      have hS' := h3.2.1 (hlow j oj hoj hj0 hnd)
      have hback : ∀ m, (listed.setIfInBounds j true).getD m true = false → listed.getD m true = false := fun m hmu => by
        by_cases ejm : j = m
        · subst ejm; exact hj0
        · rwa [getD_set_ne true ejm] at hmu
      refine ⟨h3.2.1, ih (listed.setIfInBounds j true) a' w' (fun m om hm hmu => hlow m om hm (hback m hmu)) (fun m om hm hmi hmu hmn => hfree m om hm hmi (hback m hmu) hmn) (ready_mono hr (Ne.symm e)) (fun d hd => ?_) h3.1 hS' ?_⟩
      · rw [getD_set_ne (i := j) (j := d) false (fun e' => hnd (by rw [e']; exact hd))]
        exact hun d hd
      · rw [Array.setIfInBounds_comm _ _ e]
        exact h3.2.2

/-- One that reads no memory. -/
theorem up_free {i : Nat} {oi : Oper} {v : Value} (hi : ops[i]? = some oi) (hsel : ∀ (j : Nat) (o : Oper) cs b, ops[j]? = some o → o.op ≠ .select cs b)
    (hQ : ∀ c a w, Q (.panic c) (a.put oi.dst v) w → Q (.panic c) a w) (hA : A i = false) (fuel : Nat) :
    ∀ (listed : Array Bool) (a : Act) (w : World),
      (∀ j oj, ops[j]? = some oj → j ≠ i → listed.getD j true = false → (∀ e ∈ oj.after, Region.binds md e = true → e.on ≠ i) → oi.apart ops oj = true) →
      i ∈ Region.ready md ops listed → YieldsIf P ops (fun _ => True) oi v a →
      wpUp P md ops Q S A fuel (listed.setIfInBounds i true) (a.put oi.dst v) w → wpUp P md ops Q S A (fuel + 1) listed a w := by
  have hno : A i = true → S = S → ∀ w, S w := fun h => by rw [hA] at h; cases h
  induction fuel with
  | zero =>
    intro listed a w _ hr hy H
    refine ⟨fun h0 => absurd hr (by rw [h0]; exact List.not_mem_nil), fun j hj => ?_⟩
    by_cases e : j = i
    · subst e; exact hy.wpOp hi trivial ⟨fun h => hno h rfl w, H⟩
    · have := ready_mono hj e
      rw [H.1] at this
      cases this
  | succ fuel ih =>
    intro listed a w hfree hr hy H
    refine ⟨fun h0 => absurd hr (by rw [h0]; exact List.not_mem_nil), fun j hj => ?_⟩
    by_cases e : j = i
    · subst e; exact hy.wpOp hi trivial ⟨fun h => hno h rfl w, H⟩
    · obtain ⟨hj0, oj, hoj, hall⟩ := mem_ready.1 hj
      have hi0 := (mem_ready.1 hr).1
      have hi1 : listed.getD i false = true → False := fun h => by
        by_cases hl : i < listed.size
        · simp [hl] at hi0 h; rw [hi0] at h; cases h
        · simp [Array.getElem?_eq_none (Nat.le_of_not_lt hl)] at h
      have hnot : ∀ ed ∈ oj.after, Region.binds md ed = true → ed.on ≠ i := fun ed hed hbd heq => hi1 (by have := hall ed hed hbd; rwa [heq] at this)
      have h2 := wpOp_putIf hoj (hfree j oj hoj e hj0 hnot) (fun cs b => hsel i oi cs b hi) (fun cs b => hsel j oj cs b hoj) hQ hy (H.2 j (ready_mono hj e))
      refine wpOp_mono (fun a' w' h3 => ?_) h2
      refine ⟨h3.2.1, ih (listed.setIfInBounds j true) a' w' (fun m om hm hmi hmu hmn => hfree m om hm hmi ?_ hmn) (ready_mono hr (Ne.symm e)) h3.1 ?_⟩
      · by_cases ejm : j = m
        · subst ejm; exact hj0
        · rwa [getD_set_ne true ejm] at hmu
      · rw [Array.setIfInBounds_comm _ _ e]
        exact h3.2.2

theorem waitsA_spec {listed : Array Bool} {i : Nat} {ds : List Nat} (h : waitsA md ops A listed i ds = true) :
    (∀ j o, ops[j]? = some o → listed.getD j true = false → j ∉ ds → A j = true) ∧ (∀ j ∈ ds, listed.getD j false = false) ∧ ∀ j, j ∈ ds → ∀ o, ops[j]? = some o → ∃ e ∈ o.after, Region.binds md e = true ∧ (e.on = i ∨ e.on ∈ ds) := by
  simp only [waitsA, Bool.and_eq_true, List.all_eq_true] at h
  refine ⟨fun j o hj hl hn => ?_, fun j hj => ?_, fun j hj o ho => ?_⟩
  · have h1 := h.1 j (List.mem_range.2 (Array.getElem?_eq_some_iff.1 hj).1)
    simp only [Bool.or_eq_true, List.contains_iff_mem] at h1
    rcases h1 with (h1 | h1) | h1
    · exact h1
    · exact absurd h1 hn
    · by_cases hs : j < listed.size
      · simp [hs] at hl h1; rw [hl] at h1; cases h1
      · simp [Array.getElem?_eq_none (Nat.le_of_not_lt hs)] at h1
  · have := (h.2 j hj).1
    simpa using this
  · have h2 := (h.2 j hj).2
    rw [ho] at h2
    obtain ⟨e, he, hb⟩ := Array.any_eq_true'.1 h2
    simp only [Bool.and_eq_true, Bool.or_eq_true, beq_iff_eq, List.contains_iff_mem] at hb
    exact ⟨e, he, hb.1, hb.2⟩

/-- A read, taken first. -/
theorem up_run (i d : Nat) (ds : List Nat) {oi : Oper} {v : Value} {fuel : Nat} {listed : Array Bool} {a : Act} {w : World} (hi : ops[i]? = some oi) (hd : oi.dst = some d)
    (hs : Region.noSelect ops = true) (hf : Region.free md ops listed i = true) (hr : (Region.ready md ops listed).contains i = true) (hw : waitsA md ops A listed i ds = true)
    (hQ : ∀ c a w, Q (.panic c) (a.put (some d) v) w → Q (.panic c) a w) (hwt : Region.wanted oi (yielded ops a.tmps) = true) (hy : ∀ w, S w → (execOp a.eval oi).run P w = .ok (.value v) w) (hS : S w)
    (h : wpUp P md ops Q S A fuel (listed.setIfInBounds i true) (a.put (some d) v) w) : wpUp P md ops Q S A (fuel + 1) listed a w :=
  have hw' := waitsA_spec hw
  up_first hi (Region.noSelect_spec hs) (by rw [hd]; exact hQ) ds hw'.2.2 fuel listed a w hw'.1 (Region.free_spec hi hf) (by simpa using hr)
    hw'.2.1 (.inl ⟨hwt, hy⟩) hS (by rw [hd]; exact h)

/-- One that reads no memory, taken first. -/
theorem up_pure (i d : Nat) {oi : Oper} {v : Value} {fuel : Nat} {listed : Array Bool} {a : Act} {w : World} (hi : ops[i]? = some oi) (hd : oi.dst = some d)
    (hs : Region.noSelect ops = true) (hf : Region.free md ops listed i = true) (hr : (Region.ready md ops listed).contains i = true) (hA : A i = false)
    (hQ : ∀ c a w, Q (.panic c) (a.put (some d) v) w → Q (.panic c) a w) (hwt : Region.wanted oi (yielded ops a.tmps) = true) (hy : ∀ w, (execOp a.eval oi).run P w = .ok (.value v) w)
    (h : wpUp P md ops Q S A fuel (listed.setIfInBounds i true) (a.put (some d) v) w) : wpUp P md ops Q S A (fuel + 1) listed a w :=
  up_free hi (Region.noSelect_spec hs) (by rw [hd]; exact hQ) hA fuel listed a w (Region.free_spec hi hf) (by simpa using hr) (.inl ⟨hwt, fun w _ => hy w⟩) (by rw [hd]; exact h)

/-- The one that comes up now. -/
theorem up_one (i : Nat) {o : Oper} {fuel : Nat} {listed : Array Bool} {a : Act} {w : World} (hr : Region.ready md ops listed = [i]) (ho : ops[i]? = some o)
    (h : ∀ K' : Act → World → Prop, Shut (∀ a w, (A i = true → S w) → wpUp P md ops Q S A fuel (listed.setIfInBounds i true) a w → K' a w) → if Region.wanted o (yielded ops a.tmps) = true then Oper.wp P o a w K' Q else K' (a.put o.dst undef) w) :
    wpUp P md ops Q S A (fuel + 1) listed a w := by
  refine ⟨fun h0 => absurd (hr.symm.trans h0) (by simp), fun j hj => ?_⟩
  rw [hr] at hj
  obtain rfl : j = i := by simpa using hj
  exact wpOp_step ho (fun K' hK => h K' (fun a w hS hW => hK a w ⟨hS, hW⟩))

theorem up_done {fuel : Nat} {listed : Array Bool} {a : Act} {w : World} (hr : Region.ready md ops listed = []) (h : Q .normal a w) : wpUp P md ops Q S A fuel listed a w := by
  cases fuel with
  | zero => exact ⟨hr, h⟩
  | succ fuel => exact ⟨fun _ => h, fun j hj => by rw [hr] at hj; cases hj⟩

theorem up_start {id : Nat} {a : Act} {w : World} (hm : P.follows .mixedOrders = true) (hS : S w.drew)
    (h : S w.drew → wpUp P .any ops Q S A ops.size (Array.replicate ops.size false) a w.drew) : (Code.region id ops true).wp P Q a w :=
  wp_region_any hm (any_of_up _ _ _ _ (h hS))

end

end Go.Proofs.YtdedolkgcdlmeaaGreatDoor
