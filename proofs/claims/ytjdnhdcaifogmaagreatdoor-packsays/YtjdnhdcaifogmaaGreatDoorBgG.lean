/- Moves of a region that draws its order and writes, at its end, cells that it read before: what is held is asked only of the operations ahead of the writes. -/
import Derived.Test.YtjdnhdcaifogmaaGreatDoorBgD
import Derived.Test.YtjdnhdcaifogmaaGreatDoorBgF

namespace Go.Proofs.YtjdnhdcaifogmaaGreatDoor
open Go

section
variable {P : Program} {ops : Array Oper} {Q : Exit → Act → World → Prop} {md : Region.Mode} {S : World → Prop} {k : Nat}

def wpUpto (P : Program) (md : Region.Mode) (ops : Array Oper) (Q : Exit → Act → World → Prop) (S : World → Prop) (k : Nat) : Nat → Array Bool → Act → World → Prop
 | 0 => fun listed a w => Region.ready md ops listed = [] ∧ Q .normal a w
 | fuel + 1 => fun listed a w => (Region.ready md ops listed = [] → Q .normal a w) ∧
   ∀ j, j ∈ Region.ready md ops listed → wpOp P ops Q j (fun a' w' => (j < k → S w') ∧ wpUpto P md ops Q S k fuel (listed.setIfInBounds j true) a' w') a w

theorem any_of_upto (fuel : Nat) : ∀ (listed : Array Bool) (a : Act) (w : World), wpUpto P md ops Q S k fuel listed a w → wpAny P md ops Q fuel listed a w := by
 induction fuel with
 | zero => exact fun _ _ _ h => h
 | succ fuel ih => exact fun _ _ _ h => ⟨h.1, fun j hj => wpOp_mono (fun a' w' h' => ih _ a' w' h'.2) (h.2 j hj)⟩

def waits (md : Region.Mode) (ops : Array Oper) (k i : Nat) (ds : List Nat) : Bool :=
 ((List.range ops.size).all fun j => decide (j < k) || ds.contains j) &&
  ds.all fun j => match ops[j]? with
   | some o => o.after.any fun e => Region.binds md e && (e.on == i || ds.contains e.on)
   | none => true

theorem waits_spec {i : Nat} {ds : List Nat} (h : waits md ops k i ds = true) :
  (∀ j o, ops[j]? = some o → j ∉ ds → j < k) ∧ ∀ j, j ∈ ds → ∀ o, ops[j]? = some o → ∃ e ∈ o.after, Region.binds md e = true ∧ (e.on = i ∨ e.on ∈ ds) := by
 simp only [waits, Bool.and_eq_true, List.all_eq_true] at h
 refine ⟨fun j o hj hn => ?_, fun j hj o ho => ?_⟩
 ·have h1 := h.1 j (List.mem_range.2 (Array.getElem?_eq_some_iff.1 hj).1)
  simp only [Bool.or_eq_true, decide_eq_true_eq, List.contains_iff_mem] at h1
  exact h1.resolve_right hn
 ·have h2 := h.2 j hj
  rw [ho] at h2
  obtain ⟨e, he, hb⟩ := Array.any_eq_true'.1 h2
  simp only [Bool.and_eq_true, Bool.or_eq_true, beq_iff_eq, List.contains_iff_mem] at hb
  exact ⟨e, he, hb.1, hb.2⟩

theorem upto_first {i : Nat} {oi : Oper} {v : Value} (hi : ops[i]? = some oi) (hsel : ∀ (j : Nat) (o : Oper) cs b, ops[j]? = some o → o.op ≠ .select cs b)
  (hQ : ∀ c a w, Q (.panic c) (a.put oi.dst v) w → Q (.panic c) a w) (ds : List Nat) (hw : waits md ops k i ds = true) (fuel : Nat) :
  ∀ (listed : Array Bool) (a : Act) (w : World),
   (∀ j oj, ops[j]? = some oj → j ≠ i → listed.getD j true = false → (∀ e ∈ oj.after, Region.binds md e = true → e.on ≠ i) → oi.apart ops oj = true) →
   i ∈ Region.ready md ops listed → (∀ j ∈ ds, listed.getD j false = false) → YieldsIf P ops S oi v a → S w →
   wpUpto P md ops Q S k fuel (listed.setIfInBounds i true) (a.put oi.dst v) w → wpUpto P md ops Q S k (fuel + 1) listed a w := by
 obtain ⟨hlow, hds⟩ := waits_spec hw
 induction fuel with
 | zero =>
  intro listed a w _ hr _ hy hS H
  refine ⟨fun h0 => absurd hr (by rw [h0]; exact List.not_mem_nil), fun j hj => ?_⟩
  by_cases e : j = i
  ·subst e; exact hy.wpOp hi hS ⟨fun _ => hS, H⟩
  ·have := ready_mono hj e
   rw [H.1] at this
   cases this
 | succ fuel ih =>
  intro listed a w hfree hr hun hy hS H
  refine ⟨fun h0 => absurd hr (by rw [h0]; exact List.not_mem_nil), fun j hj => ?_⟩
  by_cases e : j = i
  ·subst e; exact hy.wpOp hi hS ⟨fun _ => hS, H⟩
  ·obtain ⟨hj0, oj, hoj, hall⟩ := mem_ready.1 hj
   have hi0 := (mem_ready.1 hr).1
   have hi1 : listed.getD i false = true → False := fun h => by
    by_cases hl : i < listed.size
    ·simp [hl] at hi0 h; rw [hi0] at h; cases h
    ·simp [Array.getElem?_eq_none (Nat.le_of_not_lt hl)] at h
   have hnd : j ∉ ds := fun hd => by
    obtain ⟨ed, hed, hbd, hon⟩ := hds j hd oj hoj
    have h1 := hall ed hed hbd
    rcases hon with hon | hon
    ·rw [hon] at h1; exact hi1 h1
    ·rw [hun _ hon] at h1; cases h1
   have hnot : ∀ ed ∈ oj.after, Region.binds md ed = true → ed.on ≠ i := fun ed hed hbd heq => hi1 (by have := hall ed hed hbd; rwa [heq] at this)
   have h2 := wpOp_putIf hoj (hfree j oj hoj e hj0 hnot) (fun cs b => hsel i oi cs b hi) (fun cs b => hsel j oj cs b hoj) hQ hy (H.2 j (ready_mono hj e))
   refine wpOp_mono (fun a' w' h3 => ?_) h2
   have hS' := h3.2.1 (hlow j oj hoj hnd)
   refine ⟨h3.2.1, ih (listed.setIfInBounds j true) a' w' (fun m om hm hmi hmu hmn => ?_) (ready_mono hr (Ne.symm e)) (fun d hd => ?_) h3.1 hS' ?_⟩
   ·refine hfree m om hm hmi ?_ hmn
    by_cases ejm : j = m
    ·subst ejm; exact hj0
    ·rwa [getD_set_ne true ejm] at hmu
   ·rw [getD_set_ne (i := j) (j := d) false (fun e' => hnd (by rw [e']; exact hd))]
    exact hun d hd
   ·rw [Array.setIfInBounds_comm _ _ e]
    exact h3.2.2

theorem upto_run (i d : Nat) (ds : List Nat) {oi : Oper} {v : Value} {fuel : Nat} {listed : Array Bool} {a : Act} {w : World} (hi : ops[i]? = some oi) (hd : oi.dst = some d)
  (hs : Region.noSelect ops = true) (hf : Region.free md ops listed i = true) (hr : (Region.ready md ops listed).contains i = true) (hw : waits md ops k i ds = true) (hu : (ds.all fun j => !listed.getD j false) = true)
  (hQ : ∀ c a w, Q (.panic c) (a.put (some d) v) w → Q (.panic c) a w) (hwt : Region.wanted oi (yielded ops a.tmps) = true) (hy : ∀ w, S w → (execOp a.eval oi).run P w = .ok (.value v) w) (hS : S w)
  (h : wpUpto P md ops Q S k fuel (listed.setIfInBounds i true) (a.put (some d) v) w) : wpUpto P md ops Q S k (fuel + 1) listed a w :=
 upto_first hi (Region.noSelect_spec hs) (by rw [hd]; exact hQ) ds hw fuel listed a w (Region.free_spec hi hf) (by simpa using hr)
  (fun j hj => by simpa using List.all_eq_true.1 hu j hj) (.inl ⟨hwt, hy⟩) hS (by rw [hd]; exact h)

theorem upto_one (i : Nat) {o : Oper} {fuel : Nat} {listed : Array Bool} {a : Act} {w : World} (hr : Region.ready md ops listed = [i]) (ho : ops[i]? = some o)
  (h : ∀ K' : Act → World → Prop, Shut (∀ a w, (i < k → S w) → wpUpto P md ops Q S k fuel (listed.setIfInBounds i true) a w → K' a w) → if Region.wanted o (yielded ops a.tmps) = true then Oper.wp P o a w K' Q else K' (a.put o.dst undef) w) :
  wpUpto P md ops Q S k (fuel + 1) listed a w := by
 refine ⟨fun h0 => absurd (hr.symm.trans h0) (by simp), fun j hj => ?_⟩
 rw [hr] at hj
 obtain rfl : j = i := by simpa using hj
 exact wpOp_step ho (fun K' hK => h K' (fun a w hS hW => hK a w ⟨hS, hW⟩))

theorem upto_done {fuel : Nat} {listed : Array Bool} {a : Act} {w : World} (hr : Region.ready md ops listed = []) (h : Q .normal a w) : wpUpto P md ops Q S k fuel listed a w := by
 cases fuel with
 | zero => exact ⟨hr, h⟩
 | succ fuel => exact ⟨fun _ => h, fun j hj => by rw [hr] at hj; cases hj⟩

theorem upto_start {id : Nat} {a : Act} {w : World} (hm : P.follows .mixedOrders = true) (hS : S w.drew)
  (h : S w.drew → wpUpto P .any ops Q S k ops.size (Array.replicate ops.size false) a w.drew) : (Code.region id ops true).wp P Q a w :=
 wp_region_any hm (any_of_upto _ _ _ _ (h hS))

theorem filter_less (l : List Nat) (p q : Nat → Bool) (hpq : ∀ x, q x = true → p x = true) {i : Nat} (hi : i ∈ l) (hp : p i = true) (hq : q i = false) : (l.filter q).length < (l.filter p).length := by
 induction l with
 | nil => cases hi
 | cons x xs ih =>
  have hle : (xs.filter q).length ≤ (xs.filter p).length := by
   clear ih hi
   induction xs with
   | nil => exact Nat.le_refl _
   | cons y ys ih =>
    simp only [List.filter_cons]
    cases hq' : q y
    ·cases p y <;> simp <;> omega
    ·simp [hpq y hq']; omega
  simp only [List.filter_cons]
  rcases List.mem_cons.1 hi with rfl | hi
  ·rw [hp, hq]; simp; omega
  ·have := ih hi
   cases hq' : q x
   ·cases p x <;> simp <;> omega
   ·simp [hpq x hq']; omega

def ordered (md : Region.Mode) (ops : Array Oper) : Bool :=
 (List.range ops.size).all fun j => match ops[j]? with
  | some o => o.after.all fun e => !Region.binds md e || decide (e.on < j)
  | none => true

theorem ordered_spec (h : ordered md ops = true) {j : Nat} {o : Oper} (hj : ops[j]? = some o) {e : Edge} (he : e ∈ o.after) (hb : Region.binds md e = true) : e.on < j := by
 have h1 := List.all_eq_true.1 h j (List.mem_range.2 (Array.getElem?_eq_some_iff.1 hj).1)
 simp only [hj] at h1
 have h2 := (Array.all_eq_true_iff_forall_mem.1 h1) e he
 simpa [hb] using h2

theorem all_listed (ho : ordered md ops = true) {listed : Array Bool} (hs : listed.size = ops.size) (h0 : Region.ready md ops listed = []) : ∀ i, i < ops.size → listed.getD i false = true := by
 intro i
 induction i using Nat.strongRecOn with
 | _ i ih =>
  intro hi
  cases hc : listed.getD i false with
  | true => rfl
  | false =>
   have hl : i < listed.size := by omega
   have hm : i ∈ Region.ready md ops listed := by
    refine mem_ready.2 ⟨?_, ops[i], by simp [hi], fun e he hb => ?_⟩
    ·simp [hl] at hc ⊢; exact hc
    ·have hlt := ordered_spec (j := i) ho (by simp [hi]) he hb
     exact ih _ hlt (by omega)
   rw [h0] at hm
   cases hm

theorem any_inv (ho : ordered md ops = true) (I : Array Bool → Act → World → Prop)
  (step : ∀ (L : Array Bool) (a : Act) (w : World) (i : Nat) (o : Oper), I L a w → ops[i]? = some o → L.getD i true = false → (∀ e ∈ o.after, Region.binds md e = true → L.getD e.on false = true) →
   ∀ K' : Act → World → Prop, Shut (∀ a' w', I (L.setIfInBounds i true) a' w' → K' a' w') → if Region.wanted o (yielded ops a.tmps) = true then Oper.wp P o a w K' Q else K' (a.put o.dst undef) w)
  (fin : ∀ (L : Array Bool) (a : Act) (w : World), I L a w → (∀ i, i < ops.size → L.getD i false = true) → Q .normal a w) (fuel : Nat) :
  ∀ (L : Array Bool) (a : Act) (w : World), L.size = ops.size → ((List.range ops.size).filter fun i => !L.getD i true).length ≤ fuel → I L a w → wpAny P md ops Q fuel L a w := by
 induction fuel with
 | zero =>
  intro L a w hs hf hI
  have h0 : Region.ready md ops L = [] := by
   cases hr : Region.ready md ops L with
   | nil => rfl
   | cons x xs =>
    have hx : x ∈ Region.ready md ops L := by rw [hr]; simp
    obtain ⟨h1, o, h2, -⟩ := mem_ready.1 hx
    have hm : x ∈ (List.range ops.size).filter fun i => !L.getD i true := List.mem_filter.2 ⟨List.mem_range.2 (Array.getElem?_eq_some_iff.1 h2).1, by simp only [h1]; rfl⟩
    have := List.length_pos_of_mem hm
    omega
  exact ⟨h0, fin L a w hI (all_listed ho hs h0)⟩
 | succ fuel ih =>
  intro L a w hs hf hI
  refine ⟨fun h0 => fin L a w hI (all_listed ho hs h0), fun i hi => ?_⟩
  obtain ⟨h1, o, h2, h3⟩ := mem_ready.1 hi
  refine wpOp_step h2 fun K' hK => step L a w i o hI h2 h1 h3 K' (fun a' w' hI' => hK a' w' (ih _ a' w' (by simpa using hs) ?_ hI'))
  have hil : i < L.size := by rw [hs]; exact (Array.getElem?_eq_some_iff.1 h2).1
  have hlt := filter_less (List.range ops.size) (fun j => !L.getD j true) (fun j => !(L.setIfInBounds i true).getD j true) (fun x hx => by
   by_cases e : i = x
   ·subst e; simp [hil] at hx
   ·rwa [getD_set_ne true e] at hx) (List.mem_range.2 (Array.getElem?_eq_some_iff.1 h2).1) (by simp only [h1]; rfl) (by simp [hil])
  omega

theorem region_inv {id : Nat} {a : Act} {w : World} (hm : P.follows .mixedOrders = true) (ho : ordered .any ops = true) (I : Array Bool → Act → World → Prop)
  (start : I (Array.replicate ops.size false) a w.drew)
  (step : ∀ (L : Array Bool) (a : Act) (w : World) (i : Nat) (o : Oper), I L a w → ops[i]? = some o → L.getD i true = false → (∀ e ∈ o.after, Region.binds .any e = true → L.getD e.on false = true) →
   ∀ K' : Act → World → Prop, Shut (∀ a' w', I (L.setIfInBounds i true) a' w' → K' a' w') → if Region.wanted o (yielded ops a.tmps) = true then Oper.wp P o a w K' Q else K' (a.put o.dst undef) w)
  (fin : ∀ (L : Array Bool) (a : Act) (w : World), I L a w → (∀ i, i < ops.size → L.getD i false = true) → Q .normal a w) : (Code.region id ops true).wp P Q a w :=
 wp_region_any hm (any_inv ho I step fin _ _ _ _ (by simp) (Nat.le_trans (List.length_filter_le _ _) (by simp)) start)

end
end Go.Proofs.YtjdnhdcaifogmaaGreatDoor

/- Moves of a region that draws its order: what is held is asked behind some operations alone; operations that read no memory are taken first wherever they stand. -/
namespace Go.Proofs.YtjdnhdcaifogmaaGreatDoor
open Go

section
variable {P : Program} {ops : Array Oper} {Q : Exit → Act → World → Prop} {md : Region.Mode} {S : World → Prop} {A : Nat → Bool}

def wpUp (P : Program) (md : Region.Mode) (ops : Array Oper) (Q : Exit → Act → World → Prop) (S : World → Prop) (A : Nat → Bool) : Nat → Array Bool → Act → World → Prop
 | 0 => fun listed a w => Region.ready md ops listed = [] ∧ Q .normal a w
 | fuel + 1 => fun listed a w => (Region.ready md ops listed = [] → Q .normal a w) ∧
   ∀ j, j ∈ Region.ready md ops listed → wpOp P ops Q j (fun a' w' => (A j = true → S w') ∧ wpUp P md ops Q S A fuel (listed.setIfInBounds j true) a' w') a w

theorem any_of_up (fuel : Nat) : ∀ (listed : Array Bool) (a : Act) (w : World), wpUp P md ops Q S A fuel listed a w → wpAny P md ops Q fuel listed a w := by
 induction fuel with
 | zero => exact fun _ _ _ h => h
 | succ fuel ih => exact fun _ _ _ h => ⟨h.1, fun j hj => wpOp_mono (fun a' w' h' => ih _ a' w' h'.2) (h.2 j hj)⟩

def waitsA (md : Region.Mode) (ops : Array Oper) (A : Nat → Bool) (listed : Array Bool) (i : Nat) (ds : List Nat) : Bool :=
 ((List.range ops.size).all fun j => A j || ds.contains j || listed.getD j false) &&
  ds.all fun j => !listed.getD j false && match ops[j]? with
   | some o => o.after.any fun e => Region.binds md e && (e.on == i || ds.contains e.on)
   | none => true

theorem up_first {i : Nat} {oi : Oper} {v : Value} (hi : ops[i]? = some oi) (hsel : ∀ (j : Nat) (o : Oper) cs b, ops[j]? = some o → o.op ≠ .select cs b)
  (hQ : ∀ c a w, Q (.panic c) (a.put oi.dst v) w → Q (.panic c) a w) (ds : List Nat) (hds : ∀ j, j ∈ ds → ∀ o, ops[j]? = some o → ∃ e ∈ o.after, Region.binds md e = true ∧ (e.on = i ∨ e.on ∈ ds)) (fuel : Nat) :
  ∀ (listed : Array Bool) (a : Act) (w : World), (∀ j o, ops[j]? = some o → listed.getD j true = false → j ∉ ds → A j = true) →
   (∀ j oj, ops[j]? = some oj → j ≠ i → listed.getD j true = false → (∀ e ∈ oj.after, Region.binds md e = true → e.on ≠ i) → oi.apart ops oj = true) →
   i ∈ Region.ready md ops listed → (∀ j ∈ ds, listed.getD j false = false) → YieldsIf P ops S oi v a → S w →
   wpUp P md ops Q S A fuel (listed.setIfInBounds i true) (a.put oi.dst v) w → wpUp P md ops Q S A (fuel + 1) listed a w := by
 induction fuel with
 | zero =>
  intro listed a w _ _ hr _ hy hS H
  refine ⟨fun h0 => absurd hr (by rw [h0]; exact List.not_mem_nil), fun j hj => ?_⟩
  by_cases e : j = i
  ·subst e; exact hy.wpOp hi hS ⟨fun _ => hS, H⟩
  ·have := ready_mono hj e
   rw [H.1] at this
   cases this
 | succ fuel ih =>
  intro listed a w hlow hfree hr hun hy hS H
  refine ⟨fun h0 => absurd hr (by rw [h0]; exact List.not_mem_nil), fun j hj => ?_⟩
  by_cases e : j = i
  ·subst e; exact hy.wpOp hi hS ⟨fun _ => hS, H⟩
  ·obtain ⟨hj0, oj, hoj, hall⟩ := mem_ready.1 hj
   have hi0 := (mem_ready.1 hr).1
   have hi1 : listed.getD i false = true → False := fun h => by
    by_cases hl : i < listed.size
    ·simp [hl] at hi0 h; rw [hi0] at h; cases h
    ·simp [Array.getElem?_eq_none (Nat.le_of_not_lt hl)] at h
   have hnd : j ∉ ds := fun hd => by
    obtain ⟨ed, hed, hbd, hon⟩ := hds j hd oj hoj
    have h1 := hall ed hed hbd
    rcases hon with hon | hon
    ·rw [hon] at h1; exact hi1 h1
    ·rw [hun _ hon] at h1; cases h1
   have hnot : ∀ ed ∈ oj.after, Region.binds md ed = true → ed.on ≠ i := fun ed hed hbd heq => hi1 (by have := hall ed hed hbd; rwa [heq] at this)
   have h2 := wpOp_putIf hoj (hfree j oj hoj e hj0 hnot) (fun cs b => hsel i oi cs b hi) (fun cs b => hsel j oj cs b hoj) hQ hy (H.2 j (ready_mono hj e))
   refine wpOp_mono (fun a' w' h3 => ?_) h2
   have hS' := h3.2.1 (hlow j oj hoj hj0 hnd)
   have hback : ∀ m, (listed.setIfInBounds j true).getD m true = false → listed.getD m true = false := fun m hmu => by
    by_cases ejm : j = m
    ·subst ejm; exact hj0
    ·rwa [getD_set_ne true ejm] at hmu
   refine ⟨h3.2.1, ih (listed.setIfInBounds j true) a' w' (fun m om hm hmu => hlow m om hm (hback m hmu)) (fun m om hm hmi hmu hmn => hfree m om hm hmi (hback m hmu) hmn) (ready_mono hr (Ne.symm e)) (fun d hd => ?_) h3.1 hS' ?_⟩
   ·rw [getD_set_ne (i := j) (j := d) false (fun e' => hnd (by rw [e']; exact hd))]
    exact hun d hd
   ·rw [Array.setIfInBounds_comm _ _ e]
    exact h3.2.2

theorem up_free {i : Nat} {oi : Oper} {v : Value} (hi : ops[i]? = some oi) (hsel : ∀ (j : Nat) (o : Oper) cs b, ops[j]? = some o → o.op ≠ .select cs b)
  (hQ : ∀ c a w, Q (.panic c) (a.put oi.dst v) w → Q (.panic c) a w) (hA : A i = false) (fuel : Nat) :
  ∀ (listed : Array Bool) (a : Act) (w : World),
   (∀ j oj, ops[j]? = some oj → j ≠ i → listed.getD j true = false → (∀ e ∈ oj.after, Region.binds md e = true → e.on ≠ i) → oi.apart ops oj = true) →
   i ∈ Region.ready md ops listed → YieldsIf P ops (fun _ => True) oi v a →
   wpUp P md ops Q S A fuel (listed.setIfInBounds i true) (a.put oi.dst v) w → wpUp P md ops Q S A (fuel + 1) listed a w := by
 have hno : A i = true → S = S → ∀ w, S w := fun h => by rw [hA] at h; cases h
 induction fuel with
 | zero =>
  intro listed a w _ hr hy H
  refine ⟨fun h0 => absurd hr (by rw [h0]; exact List.not_mem_nil), fun j hj => ?_⟩
  by_cases e : j = i
  ·subst e; exact hy.wpOp hi trivial ⟨fun h => hno h rfl w, H⟩
  ·have := ready_mono hj e
   rw [H.1] at this
   cases this
 | succ fuel ih =>
  intro listed a w hfree hr hy H
  refine ⟨fun h0 => absurd hr (by rw [h0]; exact List.not_mem_nil), fun j hj => ?_⟩
  by_cases e : j = i
  ·subst e; exact hy.wpOp hi trivial ⟨fun h => hno h rfl w, H⟩
  ·obtain ⟨hj0, oj, hoj, hall⟩ := mem_ready.1 hj
   have hi0 := (mem_ready.1 hr).1
   have hi1 : listed.getD i false = true → False := fun h => by
    by_cases hl : i < listed.size
    ·simp [hl] at hi0 h; rw [hi0] at h; cases h
    ·simp [Array.getElem?_eq_none (Nat.le_of_not_lt hl)] at h
   have hnot : ∀ ed ∈ oj.after, Region.binds md ed = true → ed.on ≠ i := fun ed hed hbd heq => hi1 (by have := hall ed hed hbd; rwa [heq] at this)
   have h2 := wpOp_putIf hoj (hfree j oj hoj e hj0 hnot) (fun cs b => hsel i oi cs b hi) (fun cs b => hsel j oj cs b hoj) hQ hy (H.2 j (ready_mono hj e))
   refine wpOp_mono (fun a' w' h3 => ?_) h2
   refine ⟨h3.2.1, ih (listed.setIfInBounds j true) a' w' (fun m om hm hmi hmu hmn => hfree m om hm hmi ?_ hmn) (ready_mono hr (Ne.symm e)) h3.1 ?_⟩
   ·by_cases ejm : j = m
    ·subst ejm; exact hj0
    ·rwa [getD_set_ne true ejm] at hmu
   ·rw [Array.setIfInBounds_comm _ _ e]
    exact h3.2.2

theorem waitsA_spec {listed : Array Bool} {i : Nat} {ds : List Nat} (h : waitsA md ops A listed i ds = true) :
  (∀ j o, ops[j]? = some o → listed.getD j true = false → j ∉ ds → A j = true) ∧ (∀ j ∈ ds, listed.getD j false = false) ∧ ∀ j, j ∈ ds → ∀ o, ops[j]? = some o → ∃ e ∈ o.after, Region.binds md e = true ∧ (e.on = i ∨ e.on ∈ ds) := by
 simp only [waitsA, Bool.and_eq_true, List.all_eq_true] at h
 refine ⟨fun j o hj hl hn => ?_, fun j hj => ?_, fun j hj o ho => ?_⟩
 ·have h1 := h.1 j (List.mem_range.2 (Array.getElem?_eq_some_iff.1 hj).1)
  simp only [Bool.or_eq_true, List.contains_iff_mem] at h1
  rcases h1 with (h1 | h1) | h1
  ·exact h1
  ·exact absurd h1 hn
  ·by_cases hs : j < listed.size
   ·simp [hs] at hl h1; rw [hl] at h1; cases h1
   ·simp [Array.getElem?_eq_none (Nat.le_of_not_lt hs)] at h1
 ·have := (h.2 j hj).1
  simpa using this
 ·have h2 := (h.2 j hj).2
  rw [ho] at h2
  obtain ⟨e, he, hb⟩ := Array.any_eq_true'.1 h2
  simp only [Bool.and_eq_true, Bool.or_eq_true, beq_iff_eq, List.contains_iff_mem] at hb
  exact ⟨e, he, hb.1, hb.2⟩

theorem up_run (i d : Nat) (ds : List Nat) {oi : Oper} {v : Value} {fuel : Nat} {listed : Array Bool} {a : Act} {w : World} (hi : ops[i]? = some oi) (hd : oi.dst = some d)
  (hs : Region.noSelect ops = true) (hf : Region.free md ops listed i = true) (hr : (Region.ready md ops listed).contains i = true) (hw : waitsA md ops A listed i ds = true)
  (hQ : ∀ c a w, Q (.panic c) (a.put (some d) v) w → Q (.panic c) a w) (hwt : Region.wanted oi (yielded ops a.tmps) = true) (hy : ∀ w, S w → (execOp a.eval oi).run P w = .ok (.value v) w) (hS : S w)
  (h : wpUp P md ops Q S A fuel (listed.setIfInBounds i true) (a.put (some d) v) w) : wpUp P md ops Q S A (fuel + 1) listed a w :=
 have hw' := waitsA_spec hw
 up_first hi (Region.noSelect_spec hs) (by rw [hd]; exact hQ) ds hw'.2.2 fuel listed a w hw'.1 (Region.free_spec hi hf) (by simpa using hr)
  hw'.2.1 (.inl ⟨hwt, hy⟩) hS (by rw [hd]; exact h)

theorem up_pure (i d : Nat) {oi : Oper} {v : Value} {fuel : Nat} {listed : Array Bool} {a : Act} {w : World} (hi : ops[i]? = some oi) (hd : oi.dst = some d)
  (hs : Region.noSelect ops = true) (hf : Region.free md ops listed i = true) (hr : (Region.ready md ops listed).contains i = true) (hA : A i = false)
  (hQ : ∀ c a w, Q (.panic c) (a.put (some d) v) w → Q (.panic c) a w) (hwt : Region.wanted oi (yielded ops a.tmps) = true) (hy : ∀ w, (execOp a.eval oi).run P w = .ok (.value v) w)
  (h : wpUp P md ops Q S A fuel (listed.setIfInBounds i true) (a.put (some d) v) w) : wpUp P md ops Q S A (fuel + 1) listed a w :=
 up_free hi (Region.noSelect_spec hs) (by rw [hd]; exact hQ) hA fuel listed a w (Region.free_spec hi hf) (by simpa using hr) (.inl ⟨hwt, fun w _ => hy w⟩) (by rw [hd]; exact h)

theorem up_one (i : Nat) {o : Oper} {fuel : Nat} {listed : Array Bool} {a : Act} {w : World} (hr : Region.ready md ops listed = [i]) (ho : ops[i]? = some o)
  (h : ∀ K' : Act → World → Prop, Shut (∀ a w, (A i = true → S w) → wpUp P md ops Q S A fuel (listed.setIfInBounds i true) a w → K' a w) → if Region.wanted o (yielded ops a.tmps) = true then Oper.wp P o a w K' Q else K' (a.put o.dst undef) w) :
  wpUp P md ops Q S A (fuel + 1) listed a w := by
 refine ⟨fun h0 => absurd (hr.symm.trans h0) (by simp), fun j hj => ?_⟩
 rw [hr] at hj
 obtain rfl : j = i := by simpa using hj
 exact wpOp_step ho (fun K' hK => h K' (fun a w hS hW => hK a w ⟨hS, hW⟩))

theorem up_done {fuel : Nat} {listed : Array Bool} {a : Act} {w : World} (hr : Region.ready md ops listed = []) (h : Q .normal a w) : wpUp P md ops Q S A fuel listed a w := by
 cases fuel with
 | zero => exact ⟨hr, h⟩
 | succ fuel => exact ⟨fun _ => h, fun j hj => by rw [hr] at hj; cases hj⟩

theorem up_start {id : Nat} {a : Act} {w : World} (hm : P.follows .mixedOrders = true) (hS : S w.drew)
  (h : S w.drew → wpUp P .any ops Q S A ops.size (Array.replicate ops.size false) a w.drew) : (Code.region id ops true).wp P Q a w :=
 wp_region_any hm (any_of_up _ _ _ _ (h hS))

end

end Go.Proofs.YtjdnhdcaifogmaaGreatDoor

/- bag: a lattice is dropped; generators of one are others. -/
namespace Go.Proofs.YtjdnhdcaifogmaaGreatDoor
open Go.RowKit

def One (W : World) (B : Nat) (u : Value) : Prop := W.cell? ⟨B, 0, none⟩ = some u ∧ W.frozen? ⟨B, 0, none⟩ = false ∧ B < W.heap.size

theorem One.later {W W' : World} {B : Nat} {u : Value} (h : One W B u) (hb : Below W.heap.size W W') : One W' B u :=
 ⟨(hb.cell (p := ⟨B, 0, none⟩) h.2.2).trans h.1, (hb.frozen (p := ⟨B, 0, none⟩) h.2.2).trans h.2.1, Nat.lt_of_lt_of_le h.2.2 hb.size⟩

theorem One.new (W : World) (u : Value) (t : TypeId) : One (W.alloc (.cells #[u] t)) W.heap.size u := ⟨one_new W u t, by simp, by simp⟩

theorem two_new (w : World) (u v : Value) (s t : TypeId) : One ((w.alloc (.cells #[u] s)).alloc (.cells #[v] t)) w.heap.size u ∧ One ((w.alloc (.cells #[u] s)).alloc (.cells #[v] t)) (w.heap.size + 1) v ∧ Below w.heap.size w ((w.alloc (.cells #[u] s)).alloc (.cells #[v] t)) ∧ ((w.alloc (.cells #[u] s)).alloc (.cells #[v] t)).heap.size = w.heap.size + 2 := by
 have hb1 := alloc_below w (.cells #[u] s)
 have hb2 := alloc_below (w.alloc (.cells #[u] s)) (.cells #[v] t)
 have e : (w.alloc (.cells #[u] s)).heap.size = w.heap.size + 1 := by simp
 refine ⟨(One.new w u s).later hb2, ?_, hb1.trans (hb2.mono hb1.size), by simp⟩
 have := One.new (w.alloc (.cells #[u] s)) v t
 rwa [e] at this

theorem nccells_take (qs : List Nc) (k : Nat) : (qs.take k).flatMap Nc.cells = (qs.flatMap Nc.cells).take (k * 3) := by
 induction qs generalizing k with
 | nil => simp
 | cons q qs ih =>
  cases k with
  | zero => simp
  | succ k =>
   rw [List.take_succ_cons, List.flatMap_cons, List.flatMap_cons, ih, show (k + 1) * 3 = q.cells.length + k * 3 by simp [Nc.cells]; omega, List.take_length_add_append]

theorem nccells_drop (qs : List Nc) (k : Nat) : (qs.drop k).flatMap Nc.cells = (qs.flatMap Nc.cells).drop (k * 3) := by
 induction qs generalizing k with
 | nil => simp
 | cons q qs ih =>
  cases k with
  | zero => simp
  | succ k =>
   rw [List.drop_succ_cons, List.flatMap_cons, ih, show (k + 1) * 3 = q.cells.length + k * 3 by simp [Nc.cells]; omega, List.drop_length_add_append]

theorem two_lens {a b : List Value} {n m sz : Nat} (h1 : a.length = n * sz) (h2 : b.length = m * sz) : ∀ k (_ : k < [a, b].length) (_ : k < [n, m].length), [a, b][k].length = [n, m][k] * sz
 | 0, _, _ => h1
 | 1, _, _ => h2

theorem lists_two (W : World) (t : TypeId) (a b : Value) (n m : Nat) (ca cb : List Value) (ha : SeqV W a n ca) (hb : SeqV W b m cb) : Lists ((W.alloc (.cells #[a, b] t)).drew) W.heap.size [a, b] [n, m] [ca, cb] ∧ Below W.heap.size W ((W.alloc (.cells #[a, b] t)).drew) := by
 have hbl : Below W.heap.size W ((W.alloc (.cells #[a, b] t)).drew) := (alloc_below W _).drew
 refine ⟨⟨by simp, rfl, rfl, fun k hk => ?_⟩, hbl⟩
 match k, hk with
 | 0, _ => exact ⟨World.cell?_alloc_new _ _ _ _, ha.below hbl (Nat.le_refl _)⟩
 | 1, _ => exact ⟨World.cell?_alloc_new _ _ _ _, hb.below hbl (Nat.le_refl _)⟩

set_option linter.unusedSimpArgs false in
set_option maxRecDepth 100000 in
set_option maxHeartbeats 1600000 in
theorem drop_any (w : World) (v : Value) (qs : List Nc) (k : Nat) (h : CatV w v qs) (hk : k < qs.length) (hq : qs.length ≤ 100) :
  Calls Tryz.prog 40 #[v, .int .i64 (k : Int)] w fun e w' => ∃ u, e = .returned u ∧ CatV w' u (qs.take k ++ qs.drop (k + 1)) ∧ Below w.heap.size w w' := by
 obtain ⟨u, rfl, hu⟩ := h
 obtain ⟨ao, cap, rfl, hcap, -⟩ := id hu
 obtain ⟨x2, x4, hbn, hsz⟩ := two_new w (.slice ao qs.length cap) (.slice none 0 0) 27 27
 have HSEQ := hide (catN_seq (hu.below hbn)); have HIN := hide hu.ins; have HB0 := hide hbn; have X2 := hide x2; have X4 := hide x4
 obtain ⟨p2, -, -⟩ := x2
 obtain ⟨p4, -, -⟩ := x4
 have hkc : k ≤ cap := by omega
 have hk1 : k + 1 ≤ cap := by omega
 have hk2 : k + 1 ≤ qs.length := by omega
 have hw1 : IntKind.i64.wrap ((k : Int) + 1) = ((k + 1 : Nat) : Int) := by rw [IntKind.wrap_i64]; omega
 have hk3 : 0 ≤ (k : Int) + 1 ∧ (k : Int) + 1 ≤ (qs.length : Int) := by omega
 obtain ⟨so, hso⟩ : ∃ so, (if cap = k + 1 then ao else Option.map (fun x => x.add ((k + 1) * 3)) ao) = so := ⟨_, rfl⟩
 clear hu hbn
 go_enter Tryz.func40, Tryz.ntmps40
 go_wp2_with fail
 generalize (w.alloc (.cells #[.slice ao qs.length cap] 27)).alloc (.cells #[.slice none 0 0] 27) = W0 at *
 refine up_start (A := fun j => decide (j < 12)) (S := (fun w' => w'.cell? ⟨w.heap.size, 0, none⟩ = some (.slice ao qs.length cap) ∧ w'.cell? ⟨w.heap.size + 1, 0, none⟩ = some (.slice none 0 0))) (by kernel_rfl) (by exact ⟨p2, p4⟩) (fun hHeld => ?_)
 refine up_run (v := ?_) 0 5 [12] rfl rfl (by kernel_rfl) (by kernel_rfl) (by kernel_rfl) (by kernel_rfl) (fun _ _ _ h => h) (by rfl) ?_ (by assumption) ?_
 rotate_left
 ·(intro w hSw; (try dsimp only at hSw); go_simp; with_reducible rfl)
 simp only [Act.put, List.setIfInBounds_toArray, List.set_cons_zero, List.set_cons_succ]
 refine up_run (v := ?_) 1 6 [12] rfl rfl (by kernel_rfl) (by kernel_rfl) (by kernel_rfl) (by kernel_rfl) (fun _ _ _ h => h) (by rfl) ?_ (by assumption) ?_
 rotate_left
 ·(intro w hSw; (try dsimp only at hSw); go_simp; with_reducible rfl)
 simp only [Act.put, List.setIfInBounds_toArray, List.set_cons_zero, List.set_cons_succ]
 refine up_run (v := ?_) 2 7 [12] rfl rfl (by kernel_rfl) (by kernel_rfl) (by kernel_rfl) (by kernel_rfl) (fun _ _ _ h => h) (by rfl) ?_ (by assumption) ?_
 rotate_left
 ·(intro w hSw; (try dsimp only at hSw); go_simp; with_reducible rfl)
 simp only [Act.put, List.setIfInBounds_toArray, List.set_cons_zero, List.set_cons_succ]
 refine up_run (v := ?_) 3 8 [12] rfl rfl (by kernel_rfl) (by kernel_rfl) (by kernel_rfl) (by kernel_rfl) (fun _ _ _ h => h) (by rfl) ?_ (by assumption) ?_
 rotate_left
 ·(intro w hSw; (try dsimp only at hSw); go_simp; with_reducible rfl)
 simp only [Act.put, List.setIfInBounds_toArray, List.set_cons_zero, List.set_cons_succ]
 refine up_run (v := ?_) 4 9 [12] rfl rfl (by kernel_rfl) (by kernel_rfl) (by kernel_rfl) (by kernel_rfl) (fun _ _ _ h => h) (by rfl) ?_ (by assumption) ?_
 rotate_left
 ·(intro w hSw; (try dsimp only at hSw); go_simp; with_reducible rfl)
 simp only [Act.put, List.setIfInBounds_toArray, List.set_cons_zero, List.set_cons_succ]
 refine up_run (v := ?_) 5 10 [12] rfl rfl (by kernel_rfl) (by kernel_rfl) (by kernel_rfl) (by kernel_rfl) (fun _ _ _ h => h) (by rfl) ?_ (by assumption) ?_
 rotate_left
 ·(intro w hSw; (try dsimp only at hSw); go_simp; with_reducible rfl)
 simp only [Act.put, List.setIfInBounds_toArray, List.set_cons_zero, List.set_cons_succ]
 refine up_run (v := ?_) 6 11 [12] rfl rfl (by kernel_rfl) (by kernel_rfl) (by kernel_rfl) (by kernel_rfl) (fun _ _ _ h => h) (by rfl) ?_ (by assumption) ?_
 rotate_left
 ·(intro w hSw; (try dsimp only at hSw); go_simp; with_reducible rfl)
 simp only [Act.put, List.setIfInBounds_toArray, List.set_cons_zero, List.set_cons_succ]
 refine up_run (v := ?_) 7 12 [12] rfl rfl (by kernel_rfl) (by kernel_rfl) (by kernel_rfl) (by kernel_rfl) (fun _ _ _ h => h) (by rfl) ?_ (by assumption) ?_
 rotate_left
 ·(intro w hSw; (try dsimp only at hSw); go_simp; with_reducible rfl)
 simp only [Act.put, List.setIfInBounds_toArray, List.set_cons_zero, List.set_cons_succ]
 refine up_run (v := ?_) 8 13 [12] rfl rfl (by kernel_rfl) (by kernel_rfl) (by kernel_rfl) (by kernel_rfl) (fun _ _ _ h => h) (by rfl) ?_ (by assumption) ?_
 rotate_left
 ·(intro w hSw; (try dsimp only at hSw); go_simp; with_reducible rfl)
 simp only [Act.put, List.setIfInBounds_toArray, List.set_cons_zero, List.set_cons_succ]
 obtain ⟨hL1, hbW1⟩ := lists_two W0 25 (.slice ao k cap) (.slice so (qs.length - (k + 1)) (cap - (k + 1))) k (qs.length - (k + 1)) _ _ (HSEQ.out.take (sz := 3) k (by omega)) (HSEQ.out.drop (sz := 3) (k + 1) hk2 so (fun h b off e => by rw [← hso, if_neg (by omega), e, Option.map_some, add_none]))
 rw [hsz] at hL1
 have Y2 := hide (X2.out.later hbW1); have Y4 := hide (X4.out.later hbW1)
 obtain ⟨q2, -, -⟩ := Y2.out
 obtain ⟨q4, -, -⟩ := Y4.out
 have HL1 := hide hL1; have HB1 := hide (HB0.out.trans (hbW1.mono (by omega)))
 clear hL1 hbW1
 refine up_one 9 (by kernel_rfl) rfl (fun K hK => ?_)
 go_simp
 clear p2 p4
 generalize (W0.alloc (.cells #[.slice ao k cap, .slice so (qs.length - (k + 1)) (cap - (k + 1))] 25)).drew = W1 at *
 refine hK.out _ _ (fun _ => ⟨q2, q4⟩) ?_
 clear hK K hHeld
 try simp only [Act.put, List.setIfInBounds_toArray, List.set_cons_zero, List.set_cons_succ]
 have hHeld : (fun w' => w'.cell? ⟨w.heap.size, 0, none⟩ = some (.slice ao qs.length cap) ∧ w'.cell? ⟨w.heap.size + 1, 0, none⟩ = some (.slice none 0 0)) W1 := ⟨q2, q4⟩
 refine up_one 10 (by kernel_rfl) rfl (fun K hK => ?_)
 go_simp
 refine (concatN W1 _ 2 _ _ _ HL1.out (by simp) (by simp) (by simp; omega) (fun cs hcs y hy => nccells_one qs y (by
  simp only [List.mem_cons, List.not_mem_nil, or_false] at hcs
  rcases hcs with rfl | rfl
  ·exact List.mem_of_mem_take hy
  ·exact List.mem_of_mem_drop hy)) (two_lens (by rw [List.length_take, nccells_len, Nat.min_eq_left (by omega)]) (by rw [List.length_drop, nccells_len]; omega))).mono ?_
 rintro e w2 ⟨u2, rfl, hown, hb2⟩
 have Z4 := hide (Y4.out.later hb2)
 obtain ⟨r2, -, -⟩ := Y2.out.later hb2
 obtain ⟨r4, r5, -⟩ := Z4.out
 have HOW := hide hown; have HBS : Hid (w.heap.size + 2 < W1.heap.size) := HL1.out.lt; have HB2 := hide (HB1.out.trans (hb2.mono HB1.out.size))
 obtain ⟨o2, c2, rfl, -⟩ := owns_form hown
 clear hown hb2 HL1 HB1 q2 q4
 go_wp2_with fail
 refine hK.out _ _ (fun _ => ⟨r2, r4⟩) ?_
 clear hK K hHeld
 try simp only [Act.put, List.setIfInBounds_toArray, List.set_cons_zero, List.set_cons_succ]
 have hHeld : (fun w' => w'.cell? ⟨w.heap.size, 0, none⟩ = some (.slice ao qs.length cap) ∧ w'.cell? ⟨w.heap.size + 1, 0, none⟩ = some (.slice none 0 0)) w2 := ⟨r2, r4⟩
 refine up_run (v := ?_) 11 16 [12] rfl rfl (by kernel_rfl) (by kernel_rfl) (by kernel_rfl) (by kernel_rfl) (fun _ _ _ h => h) (by rfl) ?_ (by assumption) ?_
 rotate_left
 ·(intro w hSw; (try dsimp only at hSw); go_simp; with_reducible rfl)
 simp only [Act.put, List.setIfInBounds_toArray, List.set_cons_zero, List.set_cons_succ]
 refine up_one 12 (by kernel_rfl) rfl (fun K hK => ?_)
 go_simp
 refine hK.out _ _ (fun h => absurd h (by decide)) ?_
 clear hK K hHeld
 try simp only [Act.put, List.setIfInBounds_toArray, List.set_cons_zero, List.set_cons_succ]
 refine up_done (by kernel_rfl) ?_
 have hfl : [(qs.flatMap Nc.cells).take (k * 3), (qs.flatMap Nc.cells).drop ((k + 1) * 3)].flatten = (qs.take k ++ qs.drop (k + 1)).flatMap Nc.cells := by
  rw [List.flatMap_append, nccells_take, nccells_drop]; simp
 have hln : [k, qs.length - (k + 1)].sum = (qs.take k ++ qs.drop (k + 1)).length := by
  rw [List.length_append, List.length_take, List.length_drop]; simp; omega
 have HW := HOW.out
 rw [hfl, hln] at HW
 have e2 : k + (qs.length - (k + 1)) = (qs.take k ++ qs.drop (k + 1)).length := by rw [← hln]; simp
 rw [e2]
 have HB3 := hide (HB2.out.setCell (p := ⟨w.heap.size + 1, 0, none⟩) (by show w.heap.size ≤ w.heap.size + 1; omega) (.slice o2 (qs.take k ++ qs.drop (k + 1)).length c2))
 have HCB : Hid (CatN (w2.setCell ⟨w.heap.size + 1, 0, none⟩ (.slice o2 (qs.take k ++ qs.drop (k + 1)).length c2)) (.slice o2 (qs.take k ++ qs.drop (k + 1)).length c2) (qs.take k ++ qs.drop (k + 1))) := by
  refine catN_of_owns (ownsRow_setCell_below (a := ⟨w.heap.size + 1, 0, none⟩) HW (by show w.heap.size + 1 < W1.heap.size; have := HBS.out; omega) _) (fun q hq => ?_)
  have h := HIN.out q (by
   rcases List.mem_append.1 hq with h | h
   ·exact List.mem_of_mem_take h
   ·exact List.mem_of_mem_drop h)
  exact h.below HB3.out
 obtain ⟨rs, hrs⟩ : ∃ rs, rs = qs.take k ++ qs.drop (k + 1) := ⟨_, rfl⟩
 rw [← hrs] at HCB HB3
 rw [← hrs]
 have HRS := hide hrs
 clear HW HOW hfl hln e2 HB0 X2 X4 HSEQ hrs
 go_wp2
 exact bodyPost_ret (v := .agg #[.slice o2 rs.length c2]) (by simp [results, Tryz.results40, go_sem, r4]) rfl ⟨_, rfl, ⟨_, rfl, by rw [← HRS.out]; exact HCB.out⟩, HB3.out⟩

end Go.Proofs.YtjdnhdcaifogmaaGreatDoor
