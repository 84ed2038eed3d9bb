/- Moves of a region that draws its order and writes, at its end, cells that it read before: what is held is asked only of the operations ahead of the writes. -/
import Derived.Test.YtlkenhfhnpohhaaRegions

namespace Go.Proofs.Ytlkenhfhnpohhaa
open Go

section
variable {P : Program} {ops : Array Oper} {Q : Exit → Act → World → Prop} {md : Region.Mode} {S : World → Prop} {k : Nat}

def wpUpto (P : Program) (md : Region.Mode) (ops : Array Oper) (Q : Exit → Act → World → Prop) (S : World → Prop) (k : Nat) : Nat → Array Bool → Act → World → Prop
 | 0 => fun listed a w => Region.ready md ops listed = [] ∧ Q .normal a w
 | fuel + 1 => fun listed a w => (Region.ready md ops listed = [] → Q .normal a w) ∧
   ∀ j, j ∈ Region.ready md ops listed → wpOp P ops Q j (fun a' w' => (j < k → S w') ∧ wpUpto P md ops Q S k fuel (listed.setIfInBounds j true) a' w') a w

theorem any_of_upto (fuel : Nat) : ∀ (listed : Array Bool) (a : Act) (w : World), wpUpto P md ops Q S k fuel listed a w → wpAny P md ops Q fuel listed a w := by
 induction fuel with
 | zero => exact fun _ _ _ h => h
 | succ fuel ih => exact fun _ _ _ h => ⟨h.1, fun j hj => wpOp_mono (fun a' w' h' => ih _ a' w' h'.2) (h.2 j hj)⟩

def waits (md : Region.Mode) (ops : Array Oper) (k i : Nat) (ds : List Nat) : Bool :=
 ((List.range ops.size).all fun j => decide (j < k) || ds.contains j) &&
  ds.all fun j => match ops[j]? with
   | some o => o.after.any fun e => Region.binds md e && (e.on == i || ds.contains e.on)
   | none => true

theorem waits_spec {i : Nat} {ds : List Nat} (h : waits md ops k i ds = true) :
  (∀ j o, ops[j]? = some o → j ∉ ds → j < k) ∧ ∀ j, j ∈ ds → ∀ o, ops[j]? = some o → ∃ e ∈ o.after, Region.binds md e = true ∧ (e.on = i ∨ e.on ∈ ds) := by
 simp only [waits, Bool.and_eq_true, List.all_eq_true] at h
 refine ⟨fun j o hj hn => ?_, fun j hj o ho => ?_⟩
 ·have h1 := h.1 j (List.mem_range.2 (Array.getElem?_eq_some_iff.1 hj).1)
  simp only [Bool.or_eq_true, decide_eq_true_eq, List.contains_iff_mem] at h1
  exact h1.resolve_right hn
 ·have h2 := h.2 j hj
  rw [ho] at h2
  obtain ⟨e, he, hb⟩ := Array.any_eq_true'.1 h2
  simp only [Bool.and_eq_true, Bool.or_eq_true, beq_iff_eq, List.contains_iff_mem] at hb
  exact ⟨e, he, hb.1, hb.2⟩

theorem upto_first {i : Nat} {oi : Oper} {v : Value} (hi : ops[i]? = some oi) (hsel : ∀ (j : Nat) (o : Oper) cs b, ops[j]? = some o → o.op ≠ .select cs b)
  (hQ : ∀ c a w, Q (.panic c) (a.put oi.dst v) w → Q (.panic c) a w) (ds : List Nat) (hw : waits md ops k i ds = true) (fuel : Nat) :
  ∀ (listed : Array Bool) (a : Act) (w : World),
   (∀ j oj, ops[j]? = some oj → j ≠ i → listed.getD j true = false → (∀ e ∈ oj.after, Region.binds md e = true → e.on ≠ i) → oi.apart ops oj = true) →
   i ∈ Region.ready md ops listed → (∀ j ∈ ds, listed.getD j false = false) → YieldsIf P ops S oi v a → S w →
   wpUpto P md ops Q S k fuel (listed.setIfInBounds i true) (a.put oi.dst v) w → wpUpto P md ops Q S k (fuel + 1) listed a w := by
 obtain ⟨hlow, hds⟩ := waits_spec hw
 induction fuel with
 | zero =>
  intro listed a w _ hr _ hy hS H
  refine ⟨fun h0 => absurd hr (by rw [h0]; exact List.not_mem_nil), fun j hj => ?_⟩
  by_cases e : j = i
  ·subst e; exact hy.wpOp hi hS ⟨fun _ => hS, H⟩
  ·have := ready_mono hj e
   rw [H.1] at this
   cases this
 | succ fuel ih =>
  intro listed a w hfree hr hun hy hS H
  refine ⟨fun h0 => absurd hr (by rw [h0]; exact List.not_mem_nil), fun j hj => ?_⟩
  by_cases e : j = i
  ·subst e; exact hy.wpOp hi hS ⟨fun _ => hS, H⟩
  ·obtain ⟨hj0, oj, hoj, hall⟩ := mem_ready.1 hj
   have hi0 := (mem_ready.1 hr).1
   have hi1 : listed.getD i false = true → False := fun h => by
    by_cases hl : i < listed.size
    ·simp [hl] at hi0 h; rw [hi0] at h; cases h
    ·simp [Array.getElem?_eq_none (Nat.le_of_not_lt hl)] at h
   have hnd : j ∉ ds := fun hd => by
    obtain ⟨ed, hed, hbd, hon⟩ := hds j hd oj hoj
    have h1 := hall ed hed hbd
    rcases hon with hon | hon
    ·rw [hon] at h1; exact hi1 h1
    ·rw [hun _ hon] at h1; cases h1
   have hnot : ∀ ed ∈ oj.after, Region.binds md ed = true → ed.on ≠ i := fun ed hed hbd heq => hi1 (by have := hall ed hed hbd; rwa [heq] at this)
   have h2 := wpOp_putIf hoj (hfree j oj hoj e hj0 hnot) (fun cs b => hsel i oi cs b hi) (fun cs b => hsel j oj cs b hoj) hQ hy (H.2 j (ready_mono hj e))
   refine wpOp_mono (fun a' w' h3 => ?_) h2
   have hS' := h3.2.1 (hlow j oj hoj hnd)
   refine ⟨h3.2.1, ih (listed.setIfInBounds j true) a' w' (fun m om hm hmi hmu hmn => ?_) (ready_mono hr (Ne.symm e)) (fun d hd => ?_) h3.1 hS' ?_⟩
   ·refine hfree m om hm hmi ?_ hmn
    by_cases ejm : j = m
    ·subst ejm; exact hj0
    ·rwa [getD_set_ne true ejm] at hmu
   ·rw [getD_set_ne (i := j) (j := d) false (fun e' => hnd (by rw [e']; exact hd))]
    exact hun d hd
   ·rw [Array.setIfInBounds_comm _ _ e]
    exact h3.2.2

theorem upto_run (i d : Nat) (ds : List Nat) {oi : Oper} {v : Value} {fuel : Nat} {listed : Array Bool} {a : Act} {w : World} (hi : ops[i]? = some oi) (hd : oi.dst = some d)
  (hs : Region.noSelect ops = true) (hf : Region.free md ops listed i = true) (hr : (Region.ready md ops listed).contains i = true) (hw : waits md ops k i ds = true) (hu : (ds.all fun j => !listed.getD j false) = true)
  (hQ : ∀ c a w, Q (.panic c) (a.put (some d) v) w → Q (.panic c) a w) (hwt : Region.wanted oi (yielded ops a.tmps) = true) (hy : ∀ w, S w → (execOp a.eval oi).run P w = .ok (.value v) w) (hS : S w)
  (h : wpUpto P md ops Q S k fuel (listed.setIfInBounds i true) (a.put (some d) v) w) : wpUpto P md ops Q S k (fuel + 1) listed a w :=
 upto_first hi (Region.noSelect_spec hs) (by rw [hd]; exact hQ) ds hw fuel listed a w (Region.free_spec hi hf) (by simpa using hr)
  (fun j hj => by simpa using List.all_eq_true.1 hu j hj) (.inl ⟨hwt, hy⟩) hS (by rw [hd]; exact h)

theorem upto_one (i : Nat) {o : Oper} {fuel : Nat} {listed : Array Bool} {a : Act} {w : World} (hr : Region.ready md ops listed = [i]) (ho : ops[i]? = some o)
  (h : ∀ K' : Act → World → Prop, Shut (∀ a w, (i < k → S w) → wpUpto P md ops Q S k fuel (listed.setIfInBounds i true) a w → K' a w) → if Region.wanted o (yielded ops a.tmps) = true then Oper.wp P o a w K' Q else K' (a.put o.dst undef) w) :
  wpUpto P md ops Q S k (fuel + 1) listed a w := by
 refine ⟨fun h0 => absurd (hr.symm.trans h0) (by simp), fun j hj => ?_⟩
 rw [hr] at hj
 obtain rfl : j = i := by simpa using hj
 exact wpOp_step ho (fun K' hK => h K' (fun a w hS hW => hK a w ⟨hS, hW⟩))

theorem upto_done {fuel : Nat} {listed : Array Bool} {a : Act} {w : World} (hr : Region.ready md ops listed = []) (h : Q .normal a w) : wpUpto P md ops Q S k fuel listed a w := by
 cases fuel with
 | zero => exact ⟨hr, h⟩
 | succ fuel => exact ⟨fun _ => h, fun j hj => by rw [hr] at hj; cases hj⟩

theorem upto_start {id : Nat} {a : Act} {w : World} (hm : P.follows .mixedOrders = true) (hS : S w.drew)
  (h : S w.drew → wpUpto P .any ops Q S k ops.size (Array.replicate ops.size false) a w.drew) : (Code.region id ops true).wp P Q a w :=
 wp_region_any hm (any_of_upto _ _ _ _ (h hS))

theorem filter_less (l : List Nat) (p q : Nat → Bool) (hpq : ∀ x, q x = true → p x = true) {i : Nat} (hi : i ∈ l) (hp : p i = true) (hq : q i = false) : (l.filter q).length < (l.filter p).length := by
 induction l with
 | nil => cases hi
 | cons x xs ih =>
  have hle : (xs.filter q).length ≤ (xs.filter p).length := by
   clear ih hi
   induction xs with
   | nil => exact Nat.le_refl _
   | cons y ys ih =>
    simp only [List.filter_cons]
    cases hq' : q y
    ·cases p y <;> simp <;> omega
    ·simp [hpq y hq']; omega
  simp only [List.filter_cons]
  rcases List.mem_cons.1 hi with rfl | hi
  ·rw [hp, hq]; simp; omega
  ·have := ih hi
   cases hq' : q x
   ·cases p x <;> simp <;> omega
   ·simp [hpq x hq']; omega

def ordered (md : Region.Mode) (ops : Array Oper) : Bool :=
 (List.range ops.size).all fun j => match ops[j]? with
  | some o => o.after.all fun e => !Region.binds md e || decide (e.on < j)
  | none => true

theorem ordered_spec (h : ordered md ops = true) {j : Nat} {o : Oper} (hj : ops[j]? = some o) {e : Edge} (he : e ∈ o.after) (hb : Region.binds md e = true) : e.on < j := by
 have h1 := List.all_eq_true.1 h j (List.mem_range.2 (Array.getElem?_eq_some_iff.1 hj).1)
 simp only [hj] at h1
 have h2 := (Array.all_eq_true_iff_forall_mem.1 h1) e he
 simpa [hb] using h2

theorem all_listed (ho : ordered md ops = true) {listed : Array Bool} (hs : listed.size = ops.size) (h0 : Region.ready md ops listed = []) : ∀ i, i < ops.size → listed.getD i false = true := by
 intro i
 induction i using Nat.strongRecOn with
 | _ i ih =>
  intro hi
  cases hc : listed.getD i false with
  | true => rfl
  | false =>
   have hl : i < listed.size := by omega
   have hm : i ∈ Region.ready md ops listed := by
    refine mem_ready.2 ⟨?_, ops[i], by simp [hi], fun e he hb => ?_⟩
    ·simp [hl] at hc ⊢; exact hc
    ·have hlt := ordered_spec (j := i) ho (by simp [hi]) he hb
     exact ih _ hlt (by omega)
   rw [h0] at hm
   cases hm

theorem any_inv (ho : ordered md ops = true) (I : Array Bool → Act → World → Prop)
  (step : ∀ (L : Array Bool) (a : Act) (w : World) (i : Nat) (o : Oper), I L a w → ops[i]? = some o → L.getD i true = false → (∀ e ∈ o.after, Region.binds md e = true → L.getD e.on false = true) →
   ∀ K' : Act → World → Prop, Shut (∀ a' w', I (L.setIfInBounds i true) a' w' → K' a' w') → if Region.wanted o (yielded ops a.tmps) = true then Oper.wp P o a w K' Q else K' (a.put o.dst undef) w)
  (fin : ∀ (L : Array Bool) (a : Act) (w : World), I L a w → (∀ i, i < ops.size → L.getD i false = true) → Q .normal a w) (fuel : Nat) :
  ∀ (L : Array Bool) (a : Act) (w : World), L.size = ops.size → ((List.range ops.size).filter fun i => !L.getD i true).length ≤ fuel → I L a w → wpAny P md ops Q fuel L a w := by
 induction fuel with
 | zero =>
  intro L a w hs hf hI
  have h0 : Region.ready md ops L = [] := by
   cases hr : Region.ready md ops L with
   | nil => rfl
   | cons x xs =>
    have hx : x ∈ Region.ready md ops L := by rw [hr]; simp
    obtain ⟨h1, o, h2, -⟩ := mem_ready.1 hx
    have hm : x ∈ (List.range ops.size).filter fun i => !L.getD i true := List.mem_filter.2 ⟨List.mem_range.2 (Array.getElem?_eq_some_iff.1 h2).1, by simp only [h1]; rfl⟩
    have := List.length_pos_of_mem hm
    omega
  exact ⟨h0, fin L a w hI (all_listed ho hs h0)⟩
 | succ fuel ih =>
  intro L a w hs hf hI
  refine ⟨fun h0 => fin L a w hI (all_listed ho hs h0), fun i hi => ?_⟩
  obtain ⟨h1, o, h2, h3⟩ := mem_ready.1 hi
  refine wpOp_step h2 fun K' hK => step L a w i o hI h2 h1 h3 K' (fun a' w' hI' => hK a' w' (ih _ a' w' (by simpa using hs) ?_ hI'))
  have hil : i < L.size := by rw [hs]; exact (Array.getElem?_eq_some_iff.1 h2).1
  have hlt := filter_less (List.range ops.size) (fun j => !L.getD j true) (fun j => !(L.setIfInBounds i true).getD j true) (fun x hx => by
   by_cases e : i = x
   ·subst e; simp [hil] at hx
   ·rwa [getD_set_ne true e] at hx) (List.mem_range.2 (Array.getElem?_eq_some_iff.1 h2).1) (by simp only [h1]; rfl) (by simp [hil])
  omega

theorem region_inv {id : Nat} {a : Act} {w : World} (hm : P.follows .mixedOrders = true) (ho : ordered .any ops = true) (I : Array Bool → Act → World → Prop)
  (start : I (Array.replicate ops.size false) a w.drew)
  (step : ∀ (L : Array Bool) (a : Act) (w : World) (i : Nat) (o : Oper), I L a w → ops[i]? = some o → L.getD i true = false → (∀ e ∈ o.after, Region.binds .any e = true → L.getD e.on false = true) →
   ∀ K' : Act → World → Prop, Shut (∀ a' w', I (L.setIfInBounds i true) a' w' → K' a' w') → if Region.wanted o (yielded ops a.tmps) = true then Oper.wp P o a w K' Q else K' (a.put o.dst undef) w)
  (fin : ∀ (L : Array Bool) (a : Act) (w : World), I L a w → (∀ i, i < ops.size → L.getD i false = true) → Q .normal a w) : (Code.region id ops true).wp P Q a w :=
 wp_region_any hm (any_inv ho I step fin _ _ _ _ (by simp) (Nat.le_trans (List.length_filter_le _ _) (by simp)) start)

end
end Go.Proofs.Ytlkenhfhnpohhaa

/- Moves of a region that draws its order: what is held is asked behind some operations alone; operations that read no memory are taken first wherever they stand. -/
namespace Go.Proofs.Ytlkenhfhnpohhaa
open Go

section
variable {P : Program} {ops : Array Oper} {Q : Exit → Act → World → Prop} {md : Region.Mode} {S : World → Prop} {A : Nat → Bool}

def wpUp (P : Program) (md : Region.Mode) (ops : Array Oper) (Q : Exit → Act → World → Prop) (S : World → Prop) (A : Nat → Bool) : Nat → Array Bool → Act → World → Prop
 | 0 => fun listed a w => Region.ready md ops listed = [] ∧ Q .normal a w
 | fuel + 1 => fun listed a w => (Region.ready md ops listed = [] → Q .normal a w) ∧
   ∀ j, j ∈ Region.ready md ops listed → wpOp P ops Q j (fun a' w' => (A j = true → S w') ∧ wpUp P md ops Q S A fuel (listed.setIfInBounds j true) a' w') a w

theorem any_of_up (fuel : Nat) : ∀ (listed : Array Bool) (a : Act) (w : World), wpUp P md ops Q S A fuel listed a w → wpAny P md ops Q fuel listed a w := by
 induction fuel with
 | zero => exact fun _ _ _ h => h
 | succ fuel ih => exact fun _ _ _ h => ⟨h.1, fun j hj => wpOp_mono (fun a' w' h' => ih _ a' w' h'.2) (h.2 j hj)⟩

def waitsA (md : Region.Mode) (ops : Array Oper) (A : Nat → Bool) (listed : Array Bool) (i : Nat) (ds : List Nat) : Bool :=
 ((List.range ops.size).all fun j => A j || ds.contains j || listed.getD j false) &&
  ds.all fun j => !listed.getD j false && match ops[j]? with
   | some o => o.after.any fun e => Region.binds md e && (e.on == i || ds.contains e.on)
   | none => true

theorem up_first {i : Nat} {oi : Oper} {v : Value} (hi : ops[i]? = some oi) (hsel : ∀ (j : Nat) (o : Oper) cs b, ops[j]? = some o → o.op ≠ .select cs b)
  (hQ : ∀ c a w, Q (.panic c) (a.put oi.dst v) w → Q (.panic c) a w) (ds : List Nat) (hds : ∀ j, j ∈ ds → ∀ o, ops[j]? = some o → ∃ e ∈ o.after, Region.binds md e = true ∧ (e.on = i ∨ e.on ∈ ds)) (fuel : Nat) :
  ∀ (listed : Array Bool) (a : Act) (w : World), (∀ j o, ops[j]? = some o → listed.getD j true = false → j ∉ ds → A j = true) →
   (∀ j oj, ops[j]? = some oj → j ≠ i → listed.getD j true = false → (∀ e ∈ oj.after, Region.binds md e = true → e.on ≠ i) → oi.apart ops oj = true) →
   i ∈ Region.ready md ops listed → (∀ j ∈ ds, listed.getD j false = false) → YieldsIf P ops S oi v a → S w →
   wpUp P md ops Q S A fuel (listed.setIfInBounds i true) (a.put oi.dst v) w → wpUp P md ops Q S A (fuel + 1) listed a w := by
 induction fuel with
 | zero =>
  intro listed a w _ _ hr _ hy hS H
  refine ⟨fun h0 => absurd hr (by rw [h0]; exact List.not_mem_nil), fun j hj => ?_⟩
  by_cases e : j = i
  ·subst e; exact hy.wpOp hi hS ⟨fun _ => hS, H⟩
  ·have := ready_mono hj e
   rw [H.1] at this
   cases this
 | succ fuel ih =>
  intro listed a w hlow hfree hr hun hy hS H
  refine ⟨fun h0 => absurd hr (by rw [h0]; exact List.not_mem_nil), fun j hj => ?_⟩
  by_cases e : j = i
  ·subst e; exact hy.wpOp hi hS ⟨fun _ => hS, H⟩
  ·obtain ⟨hj0, oj, hoj, hall⟩ := mem_ready.1 hj
   have hi0 := (mem_ready.1 hr).1
   have hi1 : listed.getD i false = true → False := fun h => by
    by_cases hl : i < listed.size
    ·simp [hl] at hi0 h; rw [hi0] at h; cases h
    ·simp [Array.getElem?_eq_none (Nat.le_of_not_lt hl)] at h
   have hnd : j ∉ ds := fun hd => by
    obtain ⟨ed, hed, hbd, hon⟩ := hds j hd oj hoj
    have h1 := hall ed hed hbd
    rcases hon with hon | hon
    ·rw [hon] at h1; exact hi1 h1
    ·rw [hun _ hon] at h1; cases h1
   have hnot : ∀ ed ∈ oj.after, Region.binds md ed = true → ed.on ≠ i := fun ed hed hbd heq => hi1 (by have := hall ed hed hbd; rwa [heq] at this)
   have h2 := wpOp_putIf hoj (hfree j oj hoj e hj0 hnot) (fun cs b => hsel i oi cs b hi) (fun cs b => hsel j oj cs b hoj) hQ hy (H.2 j (ready_mono hj e))
   refine wpOp_mono (fun a' w' h3 => ?_) h2
   have hS' := h3.2.1 (hlow j oj hoj hj0 hnd)
   have hback : ∀ m, (listed.setIfInBounds j true).getD m true = false → listed.getD m true = false := fun m hmu => by
    by_cases ejm : j = m
    ·subst ejm; exact hj0
    ·rwa [getD_set_ne true ejm] at hmu
   refine ⟨h3.2.1, ih (listed.setIfInBounds j true) a' w' (fun m om hm hmu => hlow m om hm (hback m hmu)) (fun m om hm hmi hmu hmn => hfree m om hm hmi (hback m hmu) hmn) (ready_mono hr (Ne.symm e)) (fun d hd => ?_) h3.1 hS' ?_⟩
   ·rw [getD_set_ne (i := j) (j := d) false (fun e' => hnd (by rw [e']; exact hd))]
    exact hun d hd
   ·rw [Array.setIfInBounds_comm _ _ e]
    exact h3.2.2

theorem up_free {i : Nat} {oi : Oper} {v : Value} (hi : ops[i]? = some oi) (hsel : ∀ (j : Nat) (o : Oper) cs b, ops[j]? = some o → o.op ≠ .select cs b)
  (hQ : ∀ c a w, Q (.panic c) (a.put oi.dst v) w → Q (.panic c) a w) (hA : A i = false) (fuel : Nat) :
  ∀ (listed : Array Bool) (a : Act) (w : World),
   (∀ j oj, ops[j]? = some oj → j ≠ i → listed.getD j true = false → (∀ e ∈ oj.after, Region.binds md e = true → e.on ≠ i) → oi.apart ops oj = true) →
   i ∈ Region.ready md ops listed → YieldsIf P ops (fun _ => True) oi v a →
   wpUp P md ops Q S A fuel (listed.setIfInBounds i true) (a.put oi.dst v) w → wpUp P md ops Q S A (fuel + 1) listed a w := by
 have hno : A i = true → S = S → ∀ w, S w := fun h => by rw [hA] at h; cases h
 induction fuel with
 | zero =>
  intro listed a w _ hr hy H
  refine ⟨fun h0 => absurd hr (by rw [h0]; exact List.not_mem_nil), fun j hj => ?_⟩
  by_cases e : j = i
  ·subst e; exact hy.wpOp hi trivial ⟨fun h => hno h rfl w, H⟩
  ·have := ready_mono hj e
   rw [H.1] at this
   cases this
 | succ fuel ih =>
  intro listed a w hfree hr hy H
  refine ⟨fun h0 => absurd hr (by rw [h0]; exact List.not_mem_nil), fun j hj => ?_⟩
  by_cases e : j = i
  ·subst e; exact hy.wpOp hi trivial ⟨fun h => hno h rfl w, H⟩
  ·obtain ⟨hj0, oj, hoj, hall⟩ := mem_ready.1 hj
   have hi0 := (mem_ready.1 hr).1
   have hi1 : listed.getD i false = true → False := fun h => by
    by_cases hl : i < listed.size
    ·simp [hl] at hi0 h; rw [hi0] at h; cases h
    ·simp [Array.getElem?_eq_none (Nat.le_of_not_lt hl)] at h
   have hnot : ∀ ed ∈ oj.after, Region.binds md ed = true → ed.on ≠ i := fun ed hed hbd heq => hi1 (by have := hall ed hed hbd; rwa [heq] at this)
   have h2 := wpOp_putIf hoj (hfree j oj hoj e hj0 hnot) (fun cs b => hsel i oi cs b hi) (fun cs b => hsel j oj cs b hoj) hQ hy (H.2 j (ready_mono hj e))
   refine wpOp_mono (fun a' w' h3 => ?_) h2
   refine ⟨h3.2.1, ih (listed.setIfInBounds j true) a' w' (fun m om hm hmi hmu hmn => hfree m om hm hmi ?_ hmn) (ready_mono hr (Ne.symm e)) h3.1 ?_⟩
   ·by_cases ejm : j = m
    ·subst ejm; exact hj0
    ·rwa [getD_set_ne true ejm] at hmu
   ·rw [Array.setIfInBounds_comm _ _ e]
    exact h3.2.2

theorem waitsA_spec {listed : Array Bool} {i : Nat} {ds : List Nat} (h : waitsA md ops A listed i ds = true) :
  (∀ j o, ops[j]? = some o → listed.getD j true = false → j ∉ ds → A j = true) ∧ (∀ j ∈ ds, listed.getD j false = false) ∧ ∀ j, j ∈ ds → ∀ o, ops[j]? = some o → ∃ e ∈ o.after, Region.binds md e = true ∧ (e.on = i ∨ e.on ∈ ds) := by
 simp only [waitsA, Bool.and_eq_true, List.all_eq_true] at h
 refine ⟨fun j o hj hl hn => ?_, fun j hj => ?_, fun j hj o ho => ?_⟩
 ·have h1 := h.1 j (List.mem_range.2 (Array.getElem?_eq_some_iff.1 hj).1)
  simp only [Bool.or_eq_true, List.contains_iff_mem] at h1
  rcases h1 with (h1 | h1) | h1
  ·exact h1
  ·exact absurd h1 hn
  ·by_cases hs : j < listed.size
   ·simp [hs] at hl h1; rw [hl] at h1; cases h1
   ·simp [Array.getElem?_eq_none (Nat.le_of_not_lt hs)] at h1
 ·have := (h.2 j hj).1
  simpa using this
 ·have h2 := (h.2 j hj).2
  rw [ho] at h2
  obtain ⟨e, he, hb⟩ := Array.any_eq_true'.1 h2
  simp only [Bool.and_eq_true, Bool.or_eq_true, beq_iff_eq, List.contains_iff_mem] at hb
  exact ⟨e, he, hb.1, hb.2⟩

theorem up_run (i d : Nat) (ds : List Nat) {oi : Oper} {v : Value} {fuel : Nat} {listed : Array Bool} {a : Act} {w : World} (hi : ops[i]? = some oi) (hd : oi.dst = some d)
  (hs : Region.noSelect ops = true) (hf : Region.free md ops listed i = true) (hr : (Region.ready md ops listed).contains i = true) (hw : waitsA md ops A listed i ds = true)
  (hQ : ∀ c a w, Q (.panic c) (a.put (some d) v) w → Q (.panic c) a w) (hwt : Region.wanted oi (yielded ops a.tmps) = true) (hy : ∀ w, S w → (execOp a.eval oi).run P w = .ok (.value v) w) (hS : S w)
  (h : wpUp P md ops Q S A fuel (listed.setIfInBounds i true) (a.put (some d) v) w) : wpUp P md ops Q S A (fuel + 1) listed a w :=
 have hw' := waitsA_spec hw
 up_first hi (Region.noSelect_spec hs) (by rw [hd]; exact hQ) ds hw'.2.2 fuel listed a w hw'.1 (Region.free_spec hi hf) (by simpa using hr)
  hw'.2.1 (.inl ⟨hwt, hy⟩) hS (by rw [hd]; exact h)

theorem up_pure (i d : Nat) {oi : Oper} {v : Value} {fuel : Nat} {listed : Array Bool} {a : Act} {w : World} (hi : ops[i]? = some oi) (hd : oi.dst = some d)
  (hs : Region.noSelect ops = true) (hf : Region.free md ops listed i = true) (hr : (Region.ready md ops listed).contains i = true) (hA : A i = false)
  (hQ : ∀ c a w, Q (.panic c) (a.put (some d) v) w → Q (.panic c) a w) (hwt : Region.wanted oi (yielded ops a.tmps) = true) (hy : ∀ w, (execOp a.eval oi).run P w = .ok (.value v) w)
  (h : wpUp P md ops Q S A fuel (listed.setIfInBounds i true) (a.put (some d) v) w) : wpUp P md ops Q S A (fuel + 1) listed a w :=
 up_free hi (Region.noSelect_spec hs) (by rw [hd]; exact hQ) hA fuel listed a w (Region.free_spec hi hf) (by simpa using hr) (.inl ⟨hwt, fun w _ => hy w⟩) (by rw [hd]; exact h)

theorem up_one (i : Nat) {o : Oper} {fuel : Nat} {listed : Array Bool} {a : Act} {w : World} (hr : Region.ready md ops listed = [i]) (ho : ops[i]? = some o)
  (h : ∀ K' : Act → World → Prop, Shut (∀ a w, (A i = true → S w) → wpUp P md ops Q S A fuel (listed.setIfInBounds i true) a w → K' a w) → if Region.wanted o (yielded ops a.tmps) = true then Oper.wp P o a w K' Q else K' (a.put o.dst undef) w) :
  wpUp P md ops Q S A (fuel + 1) listed a w := by
 refine ⟨fun h0 => absurd (hr.symm.trans h0) (by simp), fun j hj => ?_⟩
 rw [hr] at hj
 obtain rfl : j = i := by simpa using hj
 exact wpOp_step ho (fun K' hK => h K' (fun a w hS hW => hK a w ⟨hS, hW⟩))

theorem up_done {fuel : Nat} {listed : Array Bool} {a : Act} {w : World} (hr : Region.ready md ops listed = []) (h : Q .normal a w) : wpUp P md ops Q S A fuel listed a w := by
 cases fuel with
 | zero => exact ⟨hr, h⟩
 | succ fuel => exact ⟨fun _ => h, fun j hj => by rw [hr] at hj; cases hj⟩

theorem up_start {id : Nat} {a : Act} {w : World} (hm : P.follows .mixedOrders = true) (hS : S w.drew)
  (h : S w.drew → wpUp P .any ops Q S A ops.size (Array.replicate ops.size false) a w.drew) : (Code.region id ops true).wp P Q a w :=
 wp_region_any hm (any_of_up _ _ _ _ (h hS))

end

end Go.Proofs.Ytlkenhfhnpohhaa
