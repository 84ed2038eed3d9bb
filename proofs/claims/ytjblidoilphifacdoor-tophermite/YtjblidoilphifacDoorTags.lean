/- Moves of a region that draws its order, for operations whose guard says no. -/
import Derived.Deep.RegionHeld3
import Derived.Test.YtjblidoilphifacDoorBez

namespace Go.Proofs.YtjblidoilphifacDoor
open Go

variable {P : Program} {ops : Array Oper} {Q : Exit → Act → World → Prop} {md : Region.Mode} {S : World → Prop}

/-- An operation that yields in every world that meets S. -/
theorem held_run (i d : Nat) {oi : Oper} {v : Value} {fuel : Nat} {listed : Array Bool} {a : Act} {w : World} (hi : ops[i]? = some oi) (hd : oi.dst = some d)
    (hs : Region.noSelect ops = true) (hf : Region.free md ops listed i = true) (hr : (Region.ready md ops listed).contains i = true)
    (hQ : ∀ c a w, Q (.panic c) (a.put (some d) v) w → Q (.panic c) a w) (hw : Region.wanted oi (yielded ops a.tmps) = true) (hy : ∀ w, S w → (execOp a.eval oi).run P w = .ok (.value v) w) (hS : S w)
    (h : wpAnyH P md ops Q S fuel (listed.setIfInBounds i true) (a.put (some d) v) w) : wpAnyH P md ops Q S (fuel + 1) listed a w :=
  wpAnyH_take hi hs hf hr (by rw [hd]; exact hQ) (.inl ⟨hw, hy⟩) hS (by rw [hd]; exact h)

/-- One whose guard says no. -/
theorem held_skip (i d : Nat) {oi : Oper} {fuel : Nat} {listed : Array Bool} {a : Act} {w : World} (hi : ops[i]? = some oi) (hd : oi.dst = some d)
    (hs : Region.noSelect ops = true) (hf : Region.free md ops listed i = true) (hr : (Region.ready md ops listed).contains i = true)
    (hQ : ∀ c a w, Q (.panic c) (a.put (some d) undef) w → Q (.panic c) a w) (hw : Region.wanted oi (yielded ops a.tmps) = false) (hS : S w)
    (h : wpAnyH P md ops Q S fuel (listed.setIfInBounds i true) (a.put (some d) undef) w) : wpAnyH P md ops Q S (fuel + 1) listed a w :=
  wpAnyH_take hi hs hf hr (by rw [hd]; exact hQ) (.inr ⟨hw, rfl⟩) hS (by rw [hd]; exact h)

end Go.Proofs.YtjblidoilphifacDoor

/- Moves of a region that draws its order and writes, at its end, cells that it read before: what is held is asked only of the operations ahead of the writes. -/
namespace Go.Proofs.YtjblidoilphifacDoor
open Go

section
variable {P : Program} {ops : Array Oper} {Q : Exit → Act → World → Prop} {md : Region.Mode} {S : World → Prop} {k : Nat}

/-- Whatever order is picked from here on; behind each operation numbered below k the world meets S. -/
def wpUpto (P : Program) (md : Region.Mode) (ops : Array Oper) (Q : Exit → Act → World → Prop) (S : World → Prop) (k : Nat) : Nat → Array Bool → Act → World → Prop
  | 0 => fun listed a w => Region.ready md ops listed = [] ∧ Q .normal a w
  | fuel + 1 => fun listed a w => (Region.ready md ops listed = [] → Q .normal a w) ∧
      ∀ j, j ∈ Region.ready md ops listed → wpOp P ops Q j (fun a' w' => (j < k → S w') ∧ wpUpto P md ops Q S k fuel (listed.setIfInBounds j true) a' w') a w

theorem any_of_upto (fuel : Nat) : ∀ (listed : Array Bool) (a : Act) (w : World), wpUpto P md ops Q S k fuel listed a w → wpAny P md ops Q fuel listed a w := by
  induction fuel with
  | zero => exact fun _ _ _ h => h
  | succ fuel ih => exact fun _ _ _ h => ⟨h.1, fun j hj => wpOp_mono (fun a' w' h' => ih _ a' w' h'.2) (h.2 j hj)⟩

/-- These wait for number i, one by one or by each other; whatever has a number from k on is among them. -/
def waits (md : Region.Mode) (ops : Array Oper) (k i : Nat) (ds : List Nat) : Bool :=
  ((List.range ops.size).all fun j => decide (j < k) || ds.contains j) &&
    ds.all fun j => match ops[j]? with
      | some o => o.after.any fun e => Region.binds md e && (e.on == i || ds.contains e.on)
      | none => true

theorem waits_spec {i : Nat} {ds : List Nat} (h : waits md ops k i ds = true) :
    (∀ j o, ops[j]? = some o → j ∉ ds → j < k) ∧ ∀ j, j ∈ ds → ∀ o, ops[j]? = some o → ∃ e ∈ o.after, Region.binds md e = true ∧ (e.on = i ∨ e.on ∈ ds) := by
  simp only [waits, Bool.and_eq_true, List.all_eq_true] at h
  refine ⟨fun j o hj hn => ?_, fun j hj o ho => ?_⟩
  · have h1 := h.1 j (List.mem_range.2 (Array.getElem?_eq_some_iff.1 hj).1)
    simp only [Bool.or_eq_true, decide_eq_true_eq, List.contains_iff_mem] at h1
    exact h1.resolve_right hn
  · have h2 := h.2 j hj
    rw [ho] at h2
    obtain ⟨e, he, hb⟩ := Array.any_eq_true'.1 h2
    simp only [Bool.and_eq_true, Bool.or_eq_true, beq_iff_eq, List.contains_iff_mem] at hb
    exact ⟨e, he, hb.1, hb.2⟩

theorem upto_first {i : Nat} {oi : Oper} {v : Value} (hi : ops[i]? = some oi) (hsel : ∀ (j : Nat) (o : Oper) cs b, ops[j]? = some o → o.op ≠ .select cs b)
    (hQ : ∀ c a w, Q (.panic c) (a.put oi.dst v) w → Q (.panic c) a w) (ds : List Nat) (hw : waits md ops k i ds = true) (fuel : Nat) :
    ∀ (listed : Array Bool) (a : Act) (w : World),
      (∀ j oj, ops[j]? = some oj → j ≠ i → listed.getD j true = false → (∀ e ∈ oj.after, Region.binds md e = true → e.on ≠ i) → oi.apart ops oj = true) →
      i ∈ Region.ready md ops listed → (∀ j ∈ ds, listed.getD j false = false) → YieldsIf P ops S oi v a → S w →
      wpUpto P md ops Q S k fuel (listed.setIfInBounds i true) (a.put oi.dst v) w → wpUpto P md ops Q S k (fuel + 1) listed a w := by
  obtain ⟨hlow, hds⟩ := waits_spec hw
  induction fuel with
  | zero =>
    intro listed a w _ hr _ hy hS H
    refine ⟨fun h0 => absurd hr (by rw [h0]; exact List.not_mem_nil), fun j hj => ?_⟩
    by_cases e : j = i
    · subst e; exact hy.wpOp hi hS ⟨fun _ => hS, H⟩
    · have := ready_mono hj e
      rw [H.1] at this
      cases this
  | succ fuel ih =>
    intro listed a w hfree hr hun hy hS H
    refine ⟨fun h0 => absurd hr (by rw [h0]; exact List.not_mem_nil), fun j hj => ?_⟩
    by_cases e : j = i
    · subst e; exact hy.wpOp hi hS ⟨fun _ => hS, H⟩
    · obtain ⟨hj0, oj, hoj, hall⟩ := mem_ready.1 hj
      have hi0 := (mem_ready.1 hr).1
      have hi1 : listed.getD i false = true → False := fun h => by
        by_cases hl : i < listed.size
        · simp [hl] at hi0 h; rw [hi0] at h; cases h
        · simp [Array.getElem?_eq_none (Nat.le_of_not_lt hl)] at h
      have hnd : j ∉ ds := fun hd => by
        obtain ⟨ed, hed, hbd, hon⟩ := hds j hd oj hoj
        have h1 := hall ed hed hbd
        rcases hon with hon | hon
        · rw [hon] at h1; exact hi1 h1
        · rw [hun _ hon] at h1; cases h1
      have hnot : ∀ ed ∈ oj.after, Region.binds md ed = true → ed.on ≠ i := fun ed hed hbd heq => hi1 (by have := hall ed hed hbd; rwa [heq] at this)
      have h2 := wpOp_putIf hoj (hfree j oj hoj e hj0 hnot) (fun cs b => hsel i oi cs b hi) (fun cs b => hsel j oj cs b hoj) hQ hy (H.2 j (ready_mono hj e))
      refine wpOp_mono (fun a' w' h3 => ?_) h2
      have hS' := h3.2.1 (hlow j oj hoj hnd)
      refine ⟨h3.2.1, ih (listed.setIfInBounds j true) a' w' (fun m om hm hmi hmu hmn => ?_) (ready_mono hr (Ne.symm e)) (fun d hd => ?_) h3.1 hS' ?_⟩
      · refine hfree m om hm hmi ?_ hmn
        by_cases ejm : j = m
        · subst ejm; exact hj0
        · rwa [getD_set_ne true ejm] at hmu
      · rw [getD_set_ne (i := j) (j := d) false (fun e' => hnd (by rw [e']; exact hd))]
        exact hun d hd
      · rw [Array.setIfInBounds_comm _ _ e]
        exact h3.2.2

/-- A read, taken first. -/
theorem upto_run (i d : Nat) (ds : List Nat) {oi : Oper} {v : Value} {fuel : Nat} {listed : Array Bool} {a : Act} {w : World} (hi : ops[i]? = some oi) (hd : oi.dst = some d)
    (hs : Region.noSelect ops = true) (hf : Region.free md ops listed i = true) (hr : (Region.ready md ops listed).contains i = true) (hw : waits md ops k i ds = true) (hu : (ds.all fun j => !listed.getD j false) = true)
    (hQ : ∀ c a w, Q (.panic c) (a.put (some d) v) w → Q (.panic c) a w) (hwt : Region.wanted oi (yielded ops a.tmps) = true) (hy : ∀ w, S w → (execOp a.eval oi).run P w = .ok (.value v) w) (hS : S w)
    (h : wpUpto P md ops Q S k fuel (listed.setIfInBounds i true) (a.put (some d) v) w) : wpUpto P md ops Q S k (fuel + 1) listed a w :=
  upto_first hi (Region.noSelect_spec hs) (by rw [hd]; exact hQ) ds hw fuel listed a w (Region.free_spec hi hf) (by simpa using hr)
    (fun j hj => by simpa using List.all_eq_true.1 hu j hj) (.inl ⟨hwt, hy⟩) hS (by rw [hd]; exact h)

/-- The one that comes up now. -/
theorem upto_one (i : Nat) {o : Oper} {fuel : Nat} {listed : Array Bool} {a : Act} {w : World} (hr : Region.ready md ops listed = [i]) (ho : ops[i]? = some o)
    (h : ∀ K' : Act → World → Prop, Shut (∀ a w, (i < k → S w) → wpUpto P md ops Q S k fuel (listed.setIfInBounds i true) a w → K' a w) → if Region.wanted o (yielded ops a.tmps) = true then Oper.wp P o a w K' Q else K' (a.put o.dst undef) w) :
    wpUpto P md ops Q S k (fuel + 1) listed a w := by
  refine ⟨fun h0 => absurd (hr.symm.trans h0) (by simp), fun j hj => ?_⟩
  rw [hr] at hj
  obtain rfl : j = i := by simpa using hj
  exact wpOp_step ho (fun K' hK => h K' (fun a w hS hW => hK a w ⟨hS, hW⟩))

theorem upto_done {fuel : Nat} {listed : Array Bool} {a : Act} {w : World} (hr : Region.ready md ops listed = []) (h : Q .normal a w) : wpUpto P md ops Q S k fuel listed a w := by
  cases fuel with
  | zero => exact ⟨hr, h⟩
  | succ fuel => exact ⟨fun _ => h, fun j hj => by rw [hr] at hj; cases hj⟩

theorem upto_start {id : Nat} {a : Act} {w : World} (hm : P.follows .mixedOrders = true) (hS : S w.drew)
    (h : S w.drew → wpUpto P .any ops Q S k ops.size (Array.replicate ops.size false) a w.drew) : (Code.region id ops true).wp P Q a w :=
  wp_region_any hm (any_of_upto _ _ _ _ (h hS))

theorem filter_less (l : List Nat) (p q : Nat → Bool) (hpq : ∀ x, q x = true → p x = true) {i : Nat} (hi : i ∈ l) (hp : p i = true) (hq : q i = false) : (l.filter q).length < (l.filter p).length := by
  induction l with
  | nil => cases hi
  | cons x xs ih =>
    have hle : (xs.filter q).length ≤ (xs.filter p).length := by
      clear ih hi
      induction xs with
      | nil => exact Nat.le_refl _
      | cons y ys ih =>
        simp only [List.filter_cons]
        cases hq' : q y
        · cases p y <;> simp <;> omega
        · simp [hpq y hq']; omega
    simp only [List.filter_cons]
    rcases List.mem_cons.1 hi with rfl | hi
    · rw [hp, hq]; simp; omega
    · have := ih hi
      cases hq' : q x
      · cases p x <;> simp <;> omega
      · simp [hpq x hq']; omega

/-- Each operation waits only for ones with a lesser number. -/
def ordered (md : Region.Mode) (ops : Array Oper) : Bool :=
  (List.range ops.size).all fun j => match ops[j]? with
    | some o => o.after.all fun e => !Region.binds md e || decide (e.on < j)
    | none => true

theorem ordered_spec (h : ordered md ops = true) {j : Nat} {o : Oper} (hj : ops[j]? = some o) {e : Edge} (he : e ∈ o.after) (hb : Region.binds md e = true) : e.on < j := by
  have h1 := List.all_eq_true.1 h j (List.mem_range.2 (Array.getElem?_eq_some_iff.1 hj).1)
  simp only [hj] at h1
  have h2 := (Array.all_eq_true_iff_forall_mem.1 h1) e he
  simpa [hb] using h2

theorem all_listed (ho : ordered md ops = true) {listed : Array Bool} (hs : listed.size = ops.size) (h0 : Region.ready md ops listed = []) : ∀ i, i < ops.size → listed.getD i false = true := by
  intro i
  induction i using Nat.strongRecOn with
  | _ i ih =>
    intro hi
    cases hc : listed.getD i false with
    | true => rfl
    | false =>
      have hl : i < listed.size := by omega
      have hm : i ∈ Region.ready md ops listed := by
        refine mem_ready.2 ⟨?_, ops[i], by simp [hi], fun e he hb => ?_⟩
        · simp [hl] at hc ⊢; exact hc
        · have hlt := ordered_spec (j := i) ho (by simp [hi]) he hb
          exact ih _ hlt (by omega)
      rw [h0] at hm
      cases hm

/-- A region by what holds of the operations that have come up: one case for each operation, whatever the order. -/
theorem any_inv (ho : ordered md ops = true) (I : Array Bool → Act → World → Prop)
    (step : ∀ (L : Array Bool) (a : Act) (w : World) (i : Nat) (o : Oper), I L a w → ops[i]? = some o → L.getD i true = false → (∀ e ∈ o.after, Region.binds md e = true → L.getD e.on false = true) →
      ∀ K' : Act → World → Prop, Shut (∀ a' w', I (L.setIfInBounds i true) a' w' → K' a' w') → if Region.wanted o (yielded ops a.tmps) = true then Oper.wp P o a w K' Q else K' (a.put o.dst undef) w)
    (fin : ∀ (L : Array Bool) (a : Act) (w : World), I L a w → (∀ i, i < ops.size → L.getD i false = true) → Q .normal a w) (fuel : Nat) :
    ∀ (L : Array Bool) (a : Act) (w : World), L.size = ops.size → ((List.range ops.size).filter fun i => !L.getD i true).length ≤ fuel → I L a w → wpAny P md ops Q fuel L a w := by
  induction fuel with
  | zero =>
    intro L a w hs hf hI
    have h0 : Region.ready md ops L = [] := by
      cases hr : Region.ready md ops L with
      | nil => rfl
      | cons x xs =>
        have hx : x ∈ Region.ready md ops L := by rw [hr]; simp
        obtain ⟨h1, o, h2, -⟩ := mem_ready.1 hx
        have hm : x ∈ (List.range ops.size).filter fun i => !L.getD i true := List.mem_filter.2 ⟨List.mem_range.2 (Array.getElem?_eq_some_iff.1 h2).1, by simp only [h1]; rfl⟩
        have := List.length_pos_of_mem hm
        omega
    exact ⟨h0, fin L a w hI (all_listed ho hs h0)⟩
  | succ fuel ih =>
    intro L a w hs hf hI
    refine ⟨fun h0 => fin L a w hI (all_listed ho hs h0), fun i hi => ?_⟩
    obtain ⟨h1, o, h2, h3⟩ := mem_ready.1 hi
    refine wpOp_step h2 fun K' hK => step L a w i o hI h2 h1 h3 K' (fun a' w' hI' => hK a' w' (ih _ a' w' (by simpa using hs) ?_ hI'))
    have hil : i < L.size := by rw [hs]; exact (Array.getElem?_eq_some_iff.1 h2).1
    have hlt := filter_less (List.range ops.size) (fun j => !L.getD j true) (fun j => !(L.setIfInBounds i true).getD j true) (fun x hx => by
      by_cases e : i = x
      · subst e; simp [hil] at hx
      · rwa [getD_set_ne true e] at hx) (List.mem_range.2 (Array.getElem?_eq_some_iff.1 h2).1) (by simp only [h1]; rfl) (by simp [hil])
    omega

theorem region_inv {id : Nat} {a : Act} {w : World} (hm : P.follows .mixedOrders = true) (ho : ordered .any ops = true) (I : Array Bool → Act → World → Prop)
    (start : I (Array.replicate ops.size false) a w.drew)
    (step : ∀ (L : Array Bool) (a : Act) (w : World) (i : Nat) (o : Oper), I L a w → ops[i]? = some o → L.getD i true = false → (∀ e ∈ o.after, Region.binds .any e = true → L.getD e.on false = true) →
      ∀ K' : Act → World → Prop, Shut (∀ a' w', I (L.setIfInBounds i true) a' w' → K' a' w') → if Region.wanted o (yielded ops a.tmps) = true then Oper.wp P o a w K' Q else K' (a.put o.dst undef) w)
    (fin : ∀ (L : Array Bool) (a : Act) (w : World), I L a w → (∀ i, i < ops.size → L.getD i false = true) → Q .normal a w) : (Code.region id ops true).wp P Q a w :=
  wp_region_any hm (any_inv ho I step fin _ _ _ _ (by simp) (Nat.le_trans (List.length_filter_le _ _) (by simp)) start)

end
end Go.Proofs.YtjblidoilphifacDoor

/- The greatest that goes into both: what lies where while it is reckoned. -/
namespace Go.Proofs.YtjblidoilphifacDoor
open Go.RowKit Limbs

/-- How a number lies in two cells. -/
structure Nm where
  neg : Bool
  o : Option Addr
  l : Nat
  c : Nat

theorem NumL.nm {w : World} {v : Value} {z : Int} {n : Nat} (h : NumL w v z n) : ∃ r : Nm, v = .agg #[.bool r.neg, .slice r.o r.l r.c] := by
  obtain ⟨neg, s, zs, rfl, hl, -⟩ := h
  obtain ⟨ao, cap, rfl, -⟩ := hl
  exact ⟨⟨neg, ao, zs.length, cap⟩, rfl⟩

/-- A variable with a number in it. -/
structure Var (W : World) (B : Nat) (r : Nm) (z : Int) : Prop where
  box : Box W B (.bool r.neg) (.slice r.o r.l r.c)
  num : NumL W (.agg #[.bool r.neg, .slice r.o r.l r.c]) z 12
  lt : B < W.heap.size

theorem Var.later {W W' : World} {B : Nat} {r : Nm} {z : Int} (h : Var W B r z) (hb : Below W.heap.size W W') : Var W' B r z := ⟨h.box.later hb h.lt, h.num.below hb (Nat.le_refl _), Nat.lt_of_lt_of_le h.lt hb.size⟩

theorem Var.drew {W : World} {B : Nat} {r : Nm} {z : Int} (h : Var W B r z) : Var W.drew B r z := ⟨h.box, h.num, h.lt⟩

/-- Two cells of a variable are written: numbers are as they were. -/
theorem NumL.wrote {W : World} {B : Nat} {u0 u1 v0 v1 v : Value} {z : Int} {n : Nat} (h : NumL W v z n) (hb : Box W B u0 u1) (h0 : ∀ z, u0 ≠ .int .u32 z) (h1 : ∀ z, u1 ≠ .int .u32 z) : NumL ((W.setCell ⟨B, 0, none⟩ v0).setCell ⟨B, 1, none⟩ v1) v z n :=
  (h.setCell hb.1 h0).setCell (p := ⟨B, 1, none⟩) (u := u1) ((World.cell?_setCell_other (h := fun e => by simp at e) ..).trans hb.2.1) h1

theorem Var.other {W : World} {B C : Nat} {r s : Nm} {z y : Int} (h : Var W B r z) (hc : Var W C s y) (hne : B ≠ C) (v0 v1 : Value) : Var ((W.setCell ⟨C, 0, none⟩ v0).setCell ⟨C, 1, none⟩ v1) B r z :=
  ⟨(h.box.other hne _ _).other hne _ _, h.num.wrote hc.box (by simp) (by simp), by simpa using h.lt⟩

theorem Var.write {W : World} {C : Nat} {s r : Nm} {y z : Int} (hc : Var W C s y) (hn : NumL W (.agg #[.bool r.neg, .slice r.o r.l r.c]) z 12) : Var ((W.setCell ⟨C, 0, none⟩ (.bool r.neg)).setCell ⟨C, 1, none⟩ (.slice r.o r.l r.c)) C r z :=
  ⟨hc.box.write _ _, hn.wrote hc.box (by simp) (by simp), by simpa using hc.lt⟩

theorem NumL.drewed {W : World} {v : Value} {z : Int} {n : Nat} (h : NumL W v z n) : NumL W.drew v z n := h

theorem below_drewed {B : Nat} {w W : World} (h : Below B w W) : Below B w W.drew := h.drew

/-- One with a limb more. -/
structure VarQ (W : World) (B : Nat) (r : Nm) (z : Int) : Prop where
  box : Box W B (.bool r.neg) (.slice r.o r.l r.c)
  num : NumL W (.agg #[.bool r.neg, .slice r.o r.l r.c]) z 13
  lt : B < W.heap.size

theorem VarQ.later {W W' : World} {B : Nat} {r : Nm} {z : Int} (h : VarQ W B r z) (hb : Below W.heap.size W W') : VarQ W' B r z := ⟨h.box.later hb h.lt, h.num.below hb (Nat.le_refl _), Nat.lt_of_lt_of_le h.lt hb.size⟩

theorem VarQ.drew {W : World} {B : Nat} {r : Nm} {z : Int} (h : VarQ W B r z) : VarQ W.drew B r z := ⟨h.box, h.num, h.lt⟩

theorem VarQ.other {W : World} {B C : Nat} {r s : Nm} {z y : Int} (h : VarQ W B r z) (hc : Var W C s y) (hne : B ≠ C) (v0 v1 : Value) : VarQ ((W.setCell ⟨C, 0, none⟩ v0).setCell ⟨C, 1, none⟩ v1) B r z :=
  ⟨(h.box.other hne _ _).other hne _ _, h.num.wrote hc.box (by simp) (by simp), by simpa using h.lt⟩

/-- All six. -/
structure GSt (w W : World) (G X Y H U V : Nat) (rg rx ry rh ru rv : Nm) (g h x u y v : Int) : Prop where
  g : Var W G rg g
  x : Var W X rx x
  y : Var W Y ry y
  h : Var W H rh h
  u : Var W U ru u
  v : Var W V rv v
  below : Below w.heap.size w W

theorem GSt.later {w W W' : World} {G X Y H U V : Nat} {rg rx ry rh ru rv : Nm} {g h x u y v : Int} (s : GSt w W G X Y H U V rg rx ry rh ru rv g h x u y v) (hb : Below W.heap.size W W') : GSt w W' G X Y H U V rg rx ry rh ru rv g h x u y v :=
  ⟨s.g.later hb, s.x.later hb, s.y.later hb, s.h.later hb, s.u.later hb, s.v.later hb, s.below.trans (hb.mono s.below.size)⟩

theorem GSt.drew {w W : World} {G X Y H U V : Nat} {rg rx ry rh ru rv : Nm} {g h x u y v : Int} (s : GSt w W G X Y H U V rg rx ry rh ru rv g h x u y v) : GSt w W.drew G X Y H U V rg rx ry rh ru rv g h x u y v :=
  ⟨s.g.drew, s.x.drew, s.y.drew, s.h.drew, s.u.drew, s.v.drew, s.below.drew⟩

/-- The blocks. -/
structure Blocks (w : World) (G X Y H U V : Nat) : Prop where
  g : w.heap.size ≤ G
  gx : G < X
  xy : X < Y
  yh : Y < H
  yu : Y < U
  yv : Y < V
  hu : H ≠ U
  hv : H ≠ V
  uv : U ≠ V

/-- Two variables of another two, written: first the one, then the other. -/
theorem GSt.gh {w W : World} {G X Y H U V : Nat} {rg rx ry rh ru rv r r' : Nm} {g h x u y v z z' : Int} (s : GSt w W G X Y H U V rg rx ry rh ru rv g h x u y v) (b : Blocks w G X Y H U V)
    (hn : NumL W (.agg #[.bool r.neg, .slice r.o r.l r.c]) z 12) (hn' : NumL W (.agg #[.bool r'.neg, .slice r'.o r'.l r'.c]) z' 12) :
    GSt w ((((W.setCell ⟨G, 0, none⟩ (.bool r.neg)).setCell ⟨G, 1, none⟩ (.slice r.o r.l r.c)).setCell ⟨H, 0, none⟩ (.bool r'.neg)).setCell ⟨H, 1, none⟩ (.slice r'.o r'.l r'.c)) G X Y H U V r rx ry r' ru rv z z' x u y v := by
  obtain ⟨b1, b2, b3, b4, b5, b6, b7, b8, b9⟩ := b
  have hh := s.h.other s.g (by omega) (.bool r.neg) (.slice r.o r.l r.c)
  have hg := s.g.write hn
  exact ⟨hg.other hh (by omega) _ _, (s.x.other s.g (by omega) _ _).other hh (by omega) _ _, (s.y.other s.g (by omega) _ _).other hh (by omega) _ _, hh.write (hn'.wrote s.g.box (by simp) (by simp)), (s.u.other s.g (by omega) _ _).other hh (by omega) _ _, (s.v.other s.g (by omega) _ _).other hh (by omega) _ _,
    (((s.below.setCell (by simp; omega) _).setCell (by simp; omega) _).setCell (by simp; omega) _).setCell (by simp; omega) _⟩

theorem GSt.xu {w W : World} {G X Y H U V : Nat} {rg rx ry rh ru rv r r' : Nm} {g h x u y v z z' : Int} (s : GSt w W G X Y H U V rg rx ry rh ru rv g h x u y v) (b : Blocks w G X Y H U V)
    (hn : NumL W (.agg #[.bool r.neg, .slice r.o r.l r.c]) z 12) (hn' : NumL W (.agg #[.bool r'.neg, .slice r'.o r'.l r'.c]) z' 12) :
    GSt w ((((W.setCell ⟨X, 0, none⟩ (.bool r.neg)).setCell ⟨X, 1, none⟩ (.slice r.o r.l r.c)).setCell ⟨U, 0, none⟩ (.bool r'.neg)).setCell ⟨U, 1, none⟩ (.slice r'.o r'.l r'.c)) G X Y H U V rg r ry rh r' rv g h z z' y v := by
  obtain ⟨b1, b2, b3, b4, b5, b6, b7, b8, b9⟩ := b
  have hu := s.u.other s.x (by omega) (.bool r.neg) (.slice r.o r.l r.c)
  have hx := s.x.write hn
  exact ⟨(s.g.other s.x (by omega) _ _).other hu (by omega) _ _, hx.other hu (by omega) _ _, (s.y.other s.x (by omega) _ _).other hu (by omega) _ _, (s.h.other s.x (by omega) _ _).other hu (by omega) _ _, hu.write (hn'.wrote s.x.box (by simp) (by simp)), (s.v.other s.x (by omega) _ _).other hu (by omega) _ _,
    (((s.below.setCell (by simp; omega) _).setCell (by simp; omega) _).setCell (by simp; omega) _).setCell (by simp; omega) _⟩

theorem GSt.yv {w W : World} {G X Y H U V : Nat} {rg rx ry rh ru rv r r' : Nm} {g h x u y v z z' : Int} (s : GSt w W G X Y H U V rg rx ry rh ru rv g h x u y v) (b : Blocks w G X Y H U V)
    (hn : NumL W (.agg #[.bool r.neg, .slice r.o r.l r.c]) z 12) (hn' : NumL W (.agg #[.bool r'.neg, .slice r'.o r'.l r'.c]) z' 12) :
    GSt w ((((W.setCell ⟨Y, 0, none⟩ (.bool r.neg)).setCell ⟨Y, 1, none⟩ (.slice r.o r.l r.c)).setCell ⟨V, 0, none⟩ (.bool r'.neg)).setCell ⟨V, 1, none⟩ (.slice r'.o r'.l r'.c)) G X Y H U V rg rx r rh ru r' g h x u z z' := by
  obtain ⟨b1, b2, b3, b4, b5, b6, b7, b8, b9⟩ := b
  have hv := s.v.other s.y (by omega) (.bool r.neg) (.slice r.o r.l r.c)
  have hy := s.y.write hn
  exact ⟨(s.g.other s.y (by omega) _ _).other hv (by omega) _ _, (s.x.other s.y (by omega) _ _).other hv (by omega) _ _, hy.other hv (by omega) _ _, (s.h.other s.y (by omega) _ _).other hv (by omega) _ _, (s.u.other s.y (by omega) _ _).other hv (by omega) _ _, hv.write (hn'.wrote s.y.box (by simp) (by simp)),
    (((s.below.setCell (by simp; omega) _).setCell (by simp; omega) _).setCell (by simp; omega) _).setCell (by simp; omega) _⟩

/-- What comes back: three numbers. -/
def GcdPost (w : World) (a b : Int) (e : Ending) (w' : World) : Prop :=
  ∃ vg vx vy g x y, e = .returned (.tuple #[vg, vx, vy]) ∧ NumL w' vg g 12 ∧ NumL w' vx x 12 ∧ NumL w' vy y 12 ∧ g = x * a + y * b ∧ 0 ≤ g ∧ (∃ p, a = p * g) ∧ (∃ p, b = p * g) ∧ Below w.heap.size w w'

end Go.Proofs.YtjblidoilphifacDoor

/- The greatest that goes into both: ahead of the loop; three variables made in whatever order. -/
namespace Go.Proofs.YtjblidoilphifacDoor
open Go.RowKit Limbs

/-- Ahead of the loop: what came in, and three variables. -/
structure Pre (w W : World) (a0 a1 b0 b1 : Value) (rg rx ry : Nm) (g x y : Int) : Prop where
  a : Box W w.heap.size a0 a1
  b : Box W (w.heap.size + 1) b0 b1
  g : Var W (w.heap.size + 1 + 1) rg g
  x : Var W (w.heap.size + 1 + 1 + 1) rx x
  y : Var W (w.heap.size + 1 + 1 + 1 + 1) ry y
  below : Below w.heap.size w W

theorem num_zero (W : World) : NumL W (.agg #[.bool false, .slice none 0 0]) 0 12 := ⟨false, _, [], rfl, Lim.nil W, Nrm.nil, fun _ => rfl, by simp [lv], by simp⟩

theorem pre_new (w : World) (a0 a1 b0 b1 : Value) (t : TypeId) : Pre w (((((w.alloc (.cells #[a0, a1] t)).alloc (.cells #[b0, b1] t)).alloc (.cells #[.bool false, .slice none 0 0] t)).alloc (.cells #[.bool false, .slice none 0 0] t)).alloc (.cells #[.bool false, .slice none 0 0] t)) a0 a1 b0 b1 ⟨false, none, 0, 0⟩ ⟨false, none, 0, 0⟩ ⟨false, none, 0, 0⟩ 0 0 0 where
  a := (four w a0 a1 b0 b1 _ _ _ _ t t t t).fst.later ((Below.refl _ _).alloc (by simp) _ : Below (w.heap.size + 4) _ _) (by omega)
  b := (four w a0 a1 b0 b1 _ _ _ _ t t t t).snd.later ((Below.refl _ _).alloc (by simp) _ : Below (w.heap.size + 4) _ _) (by omega)
  g := ⟨(four w a0 a1 b0 b1 _ _ _ _ t t t t).res.later ((Below.refl _ _).alloc (by simp) _ : Below (w.heap.size + 4) _ _) (by omega), num_zero _, by simp⟩
  x := ⟨(four w a0 a1 b0 b1 _ _ _ _ t t t t).sec.later ((Below.refl _ _).alloc (by simp) _ : Below (w.heap.size + 4) _ _) (by omega), num_zero _, by simp⟩
  y := ⟨box_new _ _ _ _ _ (by simp), num_zero _, by simp⟩
  below := (four w a0 a1 b0 b1 _ _ _ _ t t t t).below.alloc (by simp; omega) _

theorem Pre.later {w W W' : World} {a0 a1 b0 b1 : Value} {rg rx ry : Nm} {g x y : Int} (h : Pre w W a0 a1 b0 b1 rg rx ry g x y) (hb : Below W.heap.size W W') : Pre w W' a0 a1 b0 b1 rg rx ry g x y :=
  ⟨h.a.later hb (by have := h.g.lt; omega), h.b.later hb (by have := h.g.lt; omega), h.g.later hb, h.x.later hb, h.y.later hb, h.below.trans (hb.mono h.below.size)⟩

theorem Pre.drew {w W : World} {a0 a1 b0 b1 : Value} {rg rx ry : Nm} {g x y : Int} (h : Pre w W a0 a1 b0 b1 rg rx ry g x y) : Pre w W.drew a0 a1 b0 b1 rg rx ry g x y := ⟨h.a, h.b, h.g.drew, h.x.drew, h.y.drew, h.below.drew⟩

theorem Pre.write {w W : World} {a0 a1 b0 b1 : Value} {rg rx ry r r' r'' : Nm} {g x y z z' z'' : Int} (h : Pre w W a0 a1 b0 b1 rg rx ry g x y) (hn : NumL W (.agg #[.bool r.neg, .slice r.o r.l r.c]) z 12) (hn' : NumL W (.agg #[.bool r'.neg, .slice r'.o r'.l r'.c]) z' 12) (hn'' : NumL W (.agg #[.bool r''.neg, .slice r''.o r''.l r''.c]) z'' 12) :
    Pre w ((((((W.setCell ⟨w.heap.size + 1 + 1, 0, none⟩ (.bool r.neg)).setCell ⟨w.heap.size + 1 + 1, 1, none⟩ (.slice r.o r.l r.c)).setCell ⟨w.heap.size + 1 + 1 + 1, 0, none⟩ (.bool r'.neg)).setCell ⟨w.heap.size + 1 + 1 + 1, 1, none⟩ (.slice r'.o r'.l r'.c)).setCell ⟨w.heap.size + 1 + 1 + 1 + 1, 0, none⟩ (.bool r''.neg)).setCell ⟨w.heap.size + 1 + 1 + 1 + 1, 1, none⟩ (.slice r''.o r''.l r''.c)) a0 a1 b0 b1 r r' r'' z z' z'' := by
  have hx := h.x.other h.g (by omega) (.bool r.neg) (.slice r.o r.l r.c)
  have hy := (h.y.other h.g (by omega) (.bool r.neg) (.slice r.o r.l r.c)).other hx (by omega) (.bool r'.neg) (.slice r'.o r'.l r'.c)
  refine ⟨?_, ?_, ((h.g.write hn).other hx (by omega) _ _).other hy (by omega) _ _, (hx.write (hn'.wrote h.g.box (by simp) (by simp))).other hy (by omega) _ _, hy.write ((hn''.wrote h.g.box (by simp) (by simp)).wrote hx.box (by simp) (by simp)), ?_⟩
  · exact (((((h.a.other (by omega) _ _).other (by omega) _ _).other (by omega) _ _).other (by omega) _ _).other (by omega) _ _).other (by omega) _ _
  · exact (((((h.b.other (by omega) _ _).other (by omega) _ _).other (by omega) _ _).other (by omega) _ _).other (by omega) _ _).other (by omega) _ _
  · exact (((((h.below.setCell (by simp; omega) _).setCell (by simp; omega) _).setCell (by simp; omega) _).setCell (by simp; omega) _).setCell (by simp; omega) _).setCell (by simp; omega) _

theorem cell_alloc1 {W : World} {p : Addr} {u : Value} (h : W.cell? p = some u) (o : Obj) : (W.alloc o).cell? p = some u := (World.cell?_alloc_some W p o (by rw [h]; rfl)).trans h
theorem cell_alloc3 {W : World} {p : Addr} {u : Value} (h : W.cell? p = some u) (o1 o2 o3 : Obj) : (((W.alloc o1).alloc o2).alloc o3).cell? p = some u := cell_alloc1 (cell_alloc1 (cell_alloc1 h o1) o2) o3

theorem sgn_bd (z : Int) : -9223372036854775808 ≤ sgn z ∧ sgn z ≤ 9223372036854775807 := by
  unfold sgn
  repeat' split
  all_goals decide


@[reducible] def Nm.v (r : Nm) : Value := .agg #[.bool r.neg, .slice r.o r.l r.c]
@[reducible] def ptr (B : Nat) : Value := .pointer (some ⟨B, 0, none⟩)

/-- What holds while the three are made and written, by the operations that have come up. -/
structure R2 (w W : World) (L : Array Bool) (a0 a1 b0 b1 : Value) (rg rx ry : Nm) (g x y : Int) (vb : Value) (b : Int) (c7 c8 c9 c19 c20 c21 c22 c23 c24 : Value) : Prop where
  pre : Pre w W a0 a1 b0 b1 rg rx ry g x y
  f19 : L.getD 0 false = true → c19 = vb
  f20 : L.getD 1 false = true → ∃ r : Nm, c20 = r.v ∧ NumL W r.v (ab b) 12
  f21 : L.getD 2 false = true → ∃ r : Nm, c21 = r.v ∧ NumL W r.v 0 12
  f22 : L.getD 3 false = true → c22 = vb
  f23 : L.getD 4 false = true → c23 = .int .i64 (sgn b)
  f24 : L.getD 5 false = true → ∃ r : Nm, c24 = r.v ∧ NumL W r.v (sgn b) 12
  f7 : L.getD 6 false = true → ∃ B r z, c7 = ptr B ∧ w.heap.size + 1 + 1 + 1 + 1 < B ∧ Var W B r z ∧ (L.getD 9 false = true → z = ab b)
  f8 : L.getD 7 false = true → ∃ B r z, c8 = ptr B ∧ w.heap.size + 1 + 1 + 1 + 1 < B ∧ Var W B r z ∧ (L.getD 10 false = true → z = 0)
  f9 : L.getD 8 false = true → ∃ B r z, c9 = ptr B ∧ w.heap.size + 1 + 1 + 1 + 1 < B ∧ Var W B r z ∧ (L.getD 11 false = true → z = sgn b)
  d78 : L.getD 6 false = true → L.getD 7 false = true → c7 ≠ c8
  d79 : L.getD 6 false = true → L.getD 8 false = true → c7 ≠ c9
  d89 : L.getD 7 false = true → L.getD 8 false = true → c8 ≠ c9
  o9 : L.getD 9 false = true → L.getD 6 false = true
  o10 : L.getD 10 false = true → L.getD 7 false = true
  o11 : L.getD 11 false = true → L.getD 8 false = true

theorem listed_not {L : Array Bool} {i : Nat} (h : L.getD i true = false) : ¬ L.getD i false = true := fun h' => by
  by_cases hl : i < L.size
  · simp [hl] at h h'; rw [h] at h'; cases h'
  · simp [Array.getElem?_eq_none (Nat.le_of_not_lt hl)] at h'

theorem listed_old {L : Array Bool} {i j : Nat} (hne : i ≠ j) (h : (L.setIfInBounds i true).getD j false = true) : L.getD j false = true := by rwa [getD_set_ne false hne] at h

theorem listed_new {L : Array Bool} {i : Nat} (h : L.getD i true = false) : (L.setIfInBounds i true).getD i false = true := by
  have hl : i < L.size := by
    by_cases hl : i < L.size
    · exact hl
    · simp [Array.getElem?_eq_none (Nat.le_of_not_lt hl)] at h
  simp [hl]

theorem R2.later {w W : World} {L : Array Bool} {a0 a1 b0 b1 : Value} {rg rx ry : Nm} {g x y : Int} {vb : Value} {b : Int} {c7 c8 c9 c19 c20 c21 c22 c23 c24 : Value} {W' : World} (R : R2 w W L a0 a1 b0 b1 rg rx ry g x y vb b c7 c8 c9 c19 c20 c21 c22 c23 c24) (hb : Below W.heap.size W W') : R2 w W' L a0 a1 b0 b1 rg rx ry g x y vb b c7 c8 c9 c19 c20 c21 c22 c23 c24 where
  pre := R.pre.later hb
  f19 := R.f19
  f20 := fun h => by obtain ⟨r, e, hn⟩ := R.f20 h; exact ⟨r, e, hn.below hb (Nat.le_refl _)⟩
  f21 := fun h => by obtain ⟨r, e, hn⟩ := R.f21 h; exact ⟨r, e, hn.below hb (Nat.le_refl _)⟩
  f22 := R.f22
  f23 := R.f23
  f24 := fun h => by obtain ⟨r, e, hn⟩ := R.f24 h; exact ⟨r, e, hn.below hb (Nat.le_refl _)⟩
  f7 := fun h => by obtain ⟨B, r, z, e, hB, hv, hz⟩ := R.f7 h; exact ⟨B, r, z, e, hB, hv.later hb, hz⟩
  f8 := fun h => by obtain ⟨B, r, z, e, hB, hv, hz⟩ := R.f8 h; exact ⟨B, r, z, e, hB, hv.later hb, hz⟩
  f9 := fun h => by obtain ⟨B, r, z, e, hB, hv, hz⟩ := R.f9 h; exact ⟨B, r, z, e, hB, hv.later hb, hz⟩
  d78 := R.d78
  d79 := R.d79
  d89 := R.d89
  o9 := R.o9
  o10 := R.o10
  o11 := R.o11

theorem R2.at0 {w W : World} {L : Array Bool} {a0 a1 b0 b1 : Value} {rg rx ry : Nm} {g x y : Int} {vb : Value} {b : Int} {c7 c8 c9 c19 c20 c21 c22 c23 c24 : Value} (R : R2 w W L a0 a1 b0 b1 rg rx ry g x y vb b c7 c8 c9 c19 c20 c21 c22 c23 c24) {v : Value} (hv : v = vb) : R2 w W (L.setIfInBounds 0 true) a0 a1 b0 b1 rg rx ry g x y vb b c7 c8 c9 v c20 c21 c22 c23 c24 where
  pre := R.pre
  f19 := fun _ => hv
  f20 := fun h => R.f20 (listed_old (by decide) h)
  f21 := fun h => R.f21 (listed_old (by decide) h)
  f22 := fun h => R.f22 (listed_old (by decide) h)
  f23 := fun h => R.f23 (listed_old (by decide) h)
  f24 := fun h => R.f24 (listed_old (by decide) h)
  f7 := fun h => by obtain ⟨B, r, z, e, hB, hv, hz⟩ := R.f7 (listed_old (by decide) h); exact ⟨B, r, z, e, hB, hv, fun h' => hz (listed_old (by decide) h')⟩
  f8 := fun h => by obtain ⟨B, r, z, e, hB, hv, hz⟩ := R.f8 (listed_old (by decide) h); exact ⟨B, r, z, e, hB, hv, fun h' => hz (listed_old (by decide) h')⟩
  f9 := fun h => by obtain ⟨B, r, z, e, hB, hv, hz⟩ := R.f9 (listed_old (by decide) h); exact ⟨B, r, z, e, hB, hv, fun h' => hz (listed_old (by decide) h')⟩
  d78 := fun h h' => R.d78 (listed_old (by decide) h) (listed_old (by decide) h')
  d79 := fun h h' => R.d79 (listed_old (by decide) h) (listed_old (by decide) h')
  d89 := fun h h' => R.d89 (listed_old (by decide) h) (listed_old (by decide) h')
  o9 := fun h => by rw [getD_set_ne false (by decide)]; exact R.o9 (listed_old (by decide) h)
  o10 := fun h => by rw [getD_set_ne false (by decide)]; exact R.o10 (listed_old (by decide) h)
  o11 := fun h => by rw [getD_set_ne false (by decide)]; exact R.o11 (listed_old (by decide) h)

theorem R2.at3 {w W : World} {L : Array Bool} {a0 a1 b0 b1 : Value} {rg rx ry : Nm} {g x y : Int} {vb : Value} {b : Int} {c7 c8 c9 c19 c20 c21 c22 c23 c24 : Value} (R : R2 w W L a0 a1 b0 b1 rg rx ry g x y vb b c7 c8 c9 c19 c20 c21 c22 c23 c24) {v : Value} (hv : v = vb) : R2 w W (L.setIfInBounds 3 true) a0 a1 b0 b1 rg rx ry g x y vb b c7 c8 c9 c19 c20 c21 v c23 c24 where
  pre := R.pre
  f19 := fun h => R.f19 (listed_old (by decide) h)
  f20 := fun h => R.f20 (listed_old (by decide) h)
  f21 := fun h => R.f21 (listed_old (by decide) h)
  f22 := fun _ => hv
  f23 := fun h => R.f23 (listed_old (by decide) h)
  f24 := fun h => R.f24 (listed_old (by decide) h)
  f7 := fun h => by obtain ⟨B, r, z, e, hB, hv, hz⟩ := R.f7 (listed_old (by decide) h); exact ⟨B, r, z, e, hB, hv, fun h' => hz (listed_old (by decide) h')⟩
  f8 := fun h => by obtain ⟨B, r, z, e, hB, hv, hz⟩ := R.f8 (listed_old (by decide) h); exact ⟨B, r, z, e, hB, hv, fun h' => hz (listed_old (by decide) h')⟩
  f9 := fun h => by obtain ⟨B, r, z, e, hB, hv, hz⟩ := R.f9 (listed_old (by decide) h); exact ⟨B, r, z, e, hB, hv, fun h' => hz (listed_old (by decide) h')⟩
  d78 := fun h h' => R.d78 (listed_old (by decide) h) (listed_old (by decide) h')
  d79 := fun h h' => R.d79 (listed_old (by decide) h) (listed_old (by decide) h')
  d89 := fun h h' => R.d89 (listed_old (by decide) h) (listed_old (by decide) h')
  o9 := fun h => by rw [getD_set_ne false (by decide)]; exact R.o9 (listed_old (by decide) h)
  o10 := fun h => by rw [getD_set_ne false (by decide)]; exact R.o10 (listed_old (by decide) h)
  o11 := fun h => by rw [getD_set_ne false (by decide)]; exact R.o11 (listed_old (by decide) h)

theorem R2.at1 {w W : World} {L : Array Bool} {a0 a1 b0 b1 : Value} {rg rx ry : Nm} {g x y : Int} {vb : Value} {b : Int} {c7 c8 c9 c19 c20 c21 c22 c23 c24 : Value} (R : R2 w W L a0 a1 b0 b1 rg rx ry g x y vb b c7 c8 c9 c19 c20 c21 c22 c23 c24) {v : Value} (hv : ∃ r : Nm, v = r.v ∧ NumL W r.v (ab b) 12) : R2 w W (L.setIfInBounds 1 true) a0 a1 b0 b1 rg rx ry g x y vb b c7 c8 c9 c19 v c21 c22 c23 c24 where
  pre := R.pre
  f19 := fun h => R.f19 (listed_old (by decide) h)
  f20 := fun _ => hv
  f21 := fun h => R.f21 (listed_old (by decide) h)
  f22 := fun h => R.f22 (listed_old (by decide) h)
  f23 := fun h => R.f23 (listed_old (by decide) h)
  f24 := fun h => R.f24 (listed_old (by decide) h)
  f7 := fun h => by obtain ⟨B, r, z, e, hB, hv, hz⟩ := R.f7 (listed_old (by decide) h); exact ⟨B, r, z, e, hB, hv, fun h' => hz (listed_old (by decide) h')⟩
  f8 := fun h => by obtain ⟨B, r, z, e, hB, hv, hz⟩ := R.f8 (listed_old (by decide) h); exact ⟨B, r, z, e, hB, hv, fun h' => hz (listed_old (by decide) h')⟩
  f9 := fun h => by obtain ⟨B, r, z, e, hB, hv, hz⟩ := R.f9 (listed_old (by decide) h); exact ⟨B, r, z, e, hB, hv, fun h' => hz (listed_old (by decide) h')⟩
  d78 := fun h h' => R.d78 (listed_old (by decide) h) (listed_old (by decide) h')
  d79 := fun h h' => R.d79 (listed_old (by decide) h) (listed_old (by decide) h')
  d89 := fun h h' => R.d89 (listed_old (by decide) h) (listed_old (by decide) h')
  o9 := fun h => by rw [getD_set_ne false (by decide)]; exact R.o9 (listed_old (by decide) h)
  o10 := fun h => by rw [getD_set_ne false (by decide)]; exact R.o10 (listed_old (by decide) h)
  o11 := fun h => by rw [getD_set_ne false (by decide)]; exact R.o11 (listed_old (by decide) h)

theorem R2.at2 {w W : World} {L : Array Bool} {a0 a1 b0 b1 : Value} {rg rx ry : Nm} {g x y : Int} {vb : Value} {b : Int} {c7 c8 c9 c19 c20 c21 c22 c23 c24 : Value} (R : R2 w W L a0 a1 b0 b1 rg rx ry g x y vb b c7 c8 c9 c19 c20 c21 c22 c23 c24) {v : Value} (hv : ∃ r : Nm, v = r.v ∧ NumL W r.v 0 12) : R2 w W (L.setIfInBounds 2 true) a0 a1 b0 b1 rg rx ry g x y vb b c7 c8 c9 c19 c20 v c22 c23 c24 where
  pre := R.pre
  f19 := fun h => R.f19 (listed_old (by decide) h)
  f20 := fun h => R.f20 (listed_old (by decide) h)
  f21 := fun _ => hv
  f22 := fun h => R.f22 (listed_old (by decide) h)
  f23 := fun h => R.f23 (listed_old (by decide) h)
  f24 := fun h => R.f24 (listed_old (by decide) h)
  f7 := fun h => by obtain ⟨B, r, z, e, hB, hv, hz⟩ := R.f7 (listed_old (by decide) h); exact ⟨B, r, z, e, hB, hv, fun h' => hz (listed_old (by decide) h')⟩
  f8 := fun h => by obtain ⟨B, r, z, e, hB, hv, hz⟩ := R.f8 (listed_old (by decide) h); exact ⟨B, r, z, e, hB, hv, fun h' => hz (listed_old (by decide) h')⟩
  f9 := fun h => by obtain ⟨B, r, z, e, hB, hv, hz⟩ := R.f9 (listed_old (by decide) h); exact ⟨B, r, z, e, hB, hv, fun h' => hz (listed_old (by decide) h')⟩
  d78 := fun h h' => R.d78 (listed_old (by decide) h) (listed_old (by decide) h')
  d79 := fun h h' => R.d79 (listed_old (by decide) h) (listed_old (by decide) h')
  d89 := fun h h' => R.d89 (listed_old (by decide) h) (listed_old (by decide) h')
  o9 := fun h => by rw [getD_set_ne false (by decide)]; exact R.o9 (listed_old (by decide) h)
  o10 := fun h => by rw [getD_set_ne false (by decide)]; exact R.o10 (listed_old (by decide) h)
  o11 := fun h => by rw [getD_set_ne false (by decide)]; exact R.o11 (listed_old (by decide) h)

theorem R2.at4 {w W : World} {L : Array Bool} {a0 a1 b0 b1 : Value} {rg rx ry : Nm} {g x y : Int} {vb : Value} {b : Int} {c7 c8 c9 c19 c20 c21 c22 c23 c24 : Value} (R : R2 w W L a0 a1 b0 b1 rg rx ry g x y vb b c7 c8 c9 c19 c20 c21 c22 c23 c24) {v : Value} (hv : v = .int .i64 (sgn b)) : R2 w W (L.setIfInBounds 4 true) a0 a1 b0 b1 rg rx ry g x y vb b c7 c8 c9 c19 c20 c21 c22 v c24 where
  pre := R.pre
  f19 := fun h => R.f19 (listed_old (by decide) h)
  f20 := fun h => R.f20 (listed_old (by decide) h)
  f21 := fun h => R.f21 (listed_old (by decide) h)
  f22 := fun h => R.f22 (listed_old (by decide) h)
  f23 := fun _ => hv
  f24 := fun h => R.f24 (listed_old (by decide) h)
  f7 := fun h => by obtain ⟨B, r, z, e, hB, hv, hz⟩ := R.f7 (listed_old (by decide) h); exact ⟨B, r, z, e, hB, hv, fun h' => hz (listed_old (by decide) h')⟩
  f8 := fun h => by obtain ⟨B, r, z, e, hB, hv, hz⟩ := R.f8 (listed_old (by decide) h); exact ⟨B, r, z, e, hB, hv, fun h' => hz (listed_old (by decide) h')⟩
  f9 := fun h => by obtain ⟨B, r, z, e, hB, hv, hz⟩ := R.f9 (listed_old (by decide) h); exact ⟨B, r, z, e, hB, hv, fun h' => hz (listed_old (by decide) h')⟩
  d78 := fun h h' => R.d78 (listed_old (by decide) h) (listed_old (by decide) h')
  d79 := fun h h' => R.d79 (listed_old (by decide) h) (listed_old (by decide) h')
  d89 := fun h h' => R.d89 (listed_old (by decide) h) (listed_old (by decide) h')
  o9 := fun h => by rw [getD_set_ne false (by decide)]; exact R.o9 (listed_old (by decide) h)
  o10 := fun h => by rw [getD_set_ne false (by decide)]; exact R.o10 (listed_old (by decide) h)
  o11 := fun h => by rw [getD_set_ne false (by decide)]; exact R.o11 (listed_old (by decide) h)

theorem R2.at5 {w W : World} {L : Array Bool} {a0 a1 b0 b1 : Value} {rg rx ry : Nm} {g x y : Int} {vb : Value} {b : Int} {c7 c8 c9 c19 c20 c21 c22 c23 c24 : Value} (R : R2 w W L a0 a1 b0 b1 rg rx ry g x y vb b c7 c8 c9 c19 c20 c21 c22 c23 c24) {v : Value} (hv : ∃ r : Nm, v = r.v ∧ NumL W r.v (sgn b) 12) : R2 w W (L.setIfInBounds 5 true) a0 a1 b0 b1 rg rx ry g x y vb b c7 c8 c9 c19 c20 c21 c22 c23 v where
  pre := R.pre
  f19 := fun h => R.f19 (listed_old (by decide) h)
  f20 := fun h => R.f20 (listed_old (by decide) h)
  f21 := fun h => R.f21 (listed_old (by decide) h)
  f22 := fun h => R.f22 (listed_old (by decide) h)
  f23 := fun h => R.f23 (listed_old (by decide) h)
  f24 := fun _ => hv
  f7 := fun h => by obtain ⟨B, r, z, e, hB, hv, hz⟩ := R.f7 (listed_old (by decide) h); exact ⟨B, r, z, e, hB, hv, fun h' => hz (listed_old (by decide) h')⟩
  f8 := fun h => by obtain ⟨B, r, z, e, hB, hv, hz⟩ := R.f8 (listed_old (by decide) h); exact ⟨B, r, z, e, hB, hv, fun h' => hz (listed_old (by decide) h')⟩
  f9 := fun h => by obtain ⟨B, r, z, e, hB, hv, hz⟩ := R.f9 (listed_old (by decide) h); exact ⟨B, r, z, e, hB, hv, fun h' => hz (listed_old (by decide) h')⟩
  d78 := fun h h' => R.d78 (listed_old (by decide) h) (listed_old (by decide) h')
  d79 := fun h h' => R.d79 (listed_old (by decide) h) (listed_old (by decide) h')
  d89 := fun h h' => R.d89 (listed_old (by decide) h) (listed_old (by decide) h')
  o9 := fun h => by rw [getD_set_ne false (by decide)]; exact R.o9 (listed_old (by decide) h)
  o10 := fun h => by rw [getD_set_ne false (by decide)]; exact R.o10 (listed_old (by decide) h)
  o11 := fun h => by rw [getD_set_ne false (by decide)]; exact R.o11 (listed_old (by decide) h)

theorem R2.at6 {w W : World} {L : Array Bool} {a0 a1 b0 b1 : Value} {rg rx ry : Nm} {g x y : Int} {vb : Value} {b : Int} {c7 c8 c9 c19 c20 c21 c22 c23 c24 : Value} (R0 : R2 w W L a0 a1 b0 b1 rg rx ry g x y vb b c7 c8 c9 c19 c20 c21 c22 c23 c24) (t : TypeId) (hn : L.getD 6 true = false) : R2 w (W.alloc (.cells #[.bool false, .slice none 0 0] t)) (L.setIfInBounds 6 true) a0 a1 b0 b1 rg rx ry g x y vb b (ptr W.heap.size) c8 c9 c19 c20 c21 c22 c23 c24 :=
  have R := R0.later ((Below.refl W.heap.size W).alloc (Nat.le_refl _) (.cells #[.bool false, .slice none 0 0] t))
  { pre := R.pre
    f19 := fun h => R.f19 (listed_old (by decide) h)
    f20 := fun h => R.f20 (listed_old (by decide) h)
    f21 := fun h => R.f21 (listed_old (by decide) h)
    f22 := fun h => R.f22 (listed_old (by decide) h)
    f23 := fun h => R.f23 (listed_old (by decide) h)
    f24 := fun h => R.f24 (listed_old (by decide) h)
    f7 := fun _ => ⟨W.heap.size, ⟨false, none, 0, 0⟩, 0, rfl, by have := R0.pre.y.lt; omega, ⟨box_new W _ _ t _ rfl, num_zero _, by simp⟩, fun h => absurd (R0.o9 (listed_old (by decide) h)) (listed_not hn)⟩
    f8 := fun h => by obtain ⟨B, r, z, e, hB, hv, hz⟩ := R.f8 (listed_old (by decide) h); exact ⟨B, r, z, e, hB, hv, fun h' => hz (listed_old (by decide) h')⟩
    f9 := fun h => by obtain ⟨B, r, z, e, hB, hv, hz⟩ := R.f9 (listed_old (by decide) h); exact ⟨B, r, z, e, hB, hv, fun h' => hz (listed_old (by decide) h')⟩
    d78 := fun h h' e => by obtain ⟨B, r, z, e', -, hv, -⟩ := R0.f8 (listed_old (by decide) h'); rw [e'] at e; simp at e; have := hv.lt; omega
    d79 := fun h h' e => by obtain ⟨B, r, z, e', -, hv, -⟩ := R0.f9 (listed_old (by decide) h'); rw [e'] at e; simp at e; have := hv.lt; omega
    d89 := fun h h' => R.d89 (listed_old (by decide) h) (listed_old (by decide) h')
    o9 := fun h => absurd (R0.o9 (listed_old (by decide) h)) (listed_not hn)
    o10 := fun h => by rw [getD_set_ne false (by decide)]; exact R.o10 (listed_old (by decide) h)
    o11 := fun h => by rw [getD_set_ne false (by decide)]; exact R.o11 (listed_old (by decide) h) }

theorem R2.at7 {w W : World} {L : Array Bool} {a0 a1 b0 b1 : Value} {rg rx ry : Nm} {g x y : Int} {vb : Value} {b : Int} {c7 c8 c9 c19 c20 c21 c22 c23 c24 : Value} (R0 : R2 w W L a0 a1 b0 b1 rg rx ry g x y vb b c7 c8 c9 c19 c20 c21 c22 c23 c24) (t : TypeId) (hn : L.getD 7 true = false) : R2 w (W.alloc (.cells #[.bool false, .slice none 0 0] t)) (L.setIfInBounds 7 true) a0 a1 b0 b1 rg rx ry g x y vb b c7 (ptr W.heap.size) c9 c19 c20 c21 c22 c23 c24 :=
  have R := R0.later ((Below.refl W.heap.size W).alloc (Nat.le_refl _) (.cells #[.bool false, .slice none 0 0] t))
  { pre := R.pre
    f19 := fun h => R.f19 (listed_old (by decide) h)
    f20 := fun h => R.f20 (listed_old (by decide) h)
    f21 := fun h => R.f21 (listed_old (by decide) h)
    f22 := fun h => R.f22 (listed_old (by decide) h)
    f23 := fun h => R.f23 (listed_old (by decide) h)
    f24 := fun h => R.f24 (listed_old (by decide) h)
    f7 := fun h => by obtain ⟨B, r, z, e, hB, hv, hz⟩ := R.f7 (listed_old (by decide) h); exact ⟨B, r, z, e, hB, hv, fun h' => hz (listed_old (by decide) h')⟩
    f8 := fun _ => ⟨W.heap.size, ⟨false, none, 0, 0⟩, 0, rfl, by have := R0.pre.y.lt; omega, ⟨box_new W _ _ t _ rfl, num_zero _, by simp⟩, fun h => absurd (R0.o10 (listed_old (by decide) h)) (listed_not hn)⟩
    f9 := fun h => by obtain ⟨B, r, z, e, hB, hv, hz⟩ := R.f9 (listed_old (by decide) h); exact ⟨B, r, z, e, hB, hv, fun h' => hz (listed_old (by decide) h')⟩
    d78 := fun h h' e => by obtain ⟨B, r, z, e', -, hv, -⟩ := R0.f7 (listed_old (by decide) h); rw [e'] at e; simp at e; have := hv.lt; omega
    d79 := fun h h' => R.d79 (listed_old (by decide) h) (listed_old (by decide) h')
    d89 := fun h h' e => by obtain ⟨B, r, z, e', -, hv, -⟩ := R0.f9 (listed_old (by decide) h'); rw [e'] at e; simp at e; have := hv.lt; omega
    o9 := fun h => by rw [getD_set_ne false (by decide)]; exact R.o9 (listed_old (by decide) h)
    o10 := fun h => absurd (R0.o10 (listed_old (by decide) h)) (listed_not hn)
    o11 := fun h => by rw [getD_set_ne false (by decide)]; exact R.o11 (listed_old (by decide) h) }

theorem R2.at8 {w W : World} {L : Array Bool} {a0 a1 b0 b1 : Value} {rg rx ry : Nm} {g x y : Int} {vb : Value} {b : Int} {c7 c8 c9 c19 c20 c21 c22 c23 c24 : Value} (R0 : R2 w W L a0 a1 b0 b1 rg rx ry g x y vb b c7 c8 c9 c19 c20 c21 c22 c23 c24) (t : TypeId) (hn : L.getD 8 true = false) : R2 w (W.alloc (.cells #[.bool false, .slice none 0 0] t)) (L.setIfInBounds 8 true) a0 a1 b0 b1 rg rx ry g x y vb b c7 c8 (ptr W.heap.size) c19 c20 c21 c22 c23 c24 :=
  have R := R0.later ((Below.refl W.heap.size W).alloc (Nat.le_refl _) (.cells #[.bool false, .slice none 0 0] t))
  { pre := R.pre
    f19 := fun h => R.f19 (listed_old (by decide) h)
    f20 := fun h => R.f20 (listed_old (by decide) h)
    f21 := fun h => R.f21 (listed_old (by decide) h)
    f22 := fun h => R.f22 (listed_old (by decide) h)
    f23 := fun h => R.f23 (listed_old (by decide) h)
    f24 := fun h => R.f24 (listed_old (by decide) h)
    f7 := fun h => by obtain ⟨B, r, z, e, hB, hv, hz⟩ := R.f7 (listed_old (by decide) h); exact ⟨B, r, z, e, hB, hv, fun h' => hz (listed_old (by decide) h')⟩
    f8 := fun h => by obtain ⟨B, r, z, e, hB, hv, hz⟩ := R.f8 (listed_old (by decide) h); exact ⟨B, r, z, e, hB, hv, fun h' => hz (listed_old (by decide) h')⟩
    f9 := fun _ => ⟨W.heap.size, ⟨false, none, 0, 0⟩, 0, rfl, by have := R0.pre.y.lt; omega, ⟨box_new W _ _ t _ rfl, num_zero _, by simp⟩, fun h => absurd (R0.o11 (listed_old (by decide) h)) (listed_not hn)⟩
    d78 := fun h h' => R.d78 (listed_old (by decide) h) (listed_old (by decide) h')
    d79 := fun h h' e => by obtain ⟨B, r, z, e', -, hv, -⟩ := R0.f7 (listed_old (by decide) h); rw [e'] at e; simp at e; have := hv.lt; omega
    d89 := fun h h' e => by obtain ⟨B, r, z, e', -, hv, -⟩ := R0.f8 (listed_old (by decide) h); rw [e'] at e; simp at e; have := hv.lt; omega
    o9 := fun h => by rw [getD_set_ne false (by decide)]; exact R.o9 (listed_old (by decide) h)
    o10 := fun h => by rw [getD_set_ne false (by decide)]; exact R.o10 (listed_old (by decide) h)
    o11 := fun h => absurd (R0.o11 (listed_old (by decide) h)) (listed_not hn) }

theorem Pre.other {w W : World} {a0 a1 b0 b1 : Value} {rg rx ry : Nm} {g x y : Int} (h : Pre w W a0 a1 b0 b1 rg rx ry g x y) {B : Nat} {s : Nm} {z : Int} (hv : Var W B s z) (hB : w.heap.size + 1 + 1 + 1 + 1 < B) (v0 v1 : Value) :
    Pre w ((W.setCell ⟨B, 0, none⟩ v0).setCell ⟨B, 1, none⟩ v1) a0 a1 b0 b1 rg rx ry g x y :=
  ⟨(h.a.other (by omega) _ _).other (by omega) _ _, (h.b.other (by omega) _ _).other (by omega) _ _, h.g.other hv (by omega) _ _, h.x.other hv (by omega) _ _, h.y.other hv (by omega) _ _, (h.below.setCell (by simp; omega) _).setCell (by simp; omega) _⟩

theorem ptr_ne {A B : Nat} (h : ptr A ≠ ptr B) : A ≠ B := fun e => h (by rw [e])

theorem R2.at9 {w W : World} {L : Array Bool} {a0 a1 b0 b1 : Value} {rg rx ry : Nm} {g x y : Int} {vb : Value} {b : Int} {c7 c8 c9 c19 c20 c21 c22 c23 c24 : Value} (R : R2 w W L a0 a1 b0 b1 rg rx ry g x y vb b c7 c8 c9 c19 c20 c21 c22 c23 c24) (h6 : L.getD 6 false = true) {B : Nat} {r s : Nm} {z : Int} (e : c7 = ptr B) (hB : w.heap.size + 1 + 1 + 1 + 1 < B) (hv : Var W B s z) (hnum : NumL W r.v (ab b) 12) : R2 w ((W.setCell ⟨B, 0, none⟩ (.bool r.neg)).setCell ⟨B, 1, none⟩ (.slice r.o r.l r.c)) (L.setIfInBounds 9 true) a0 a1 b0 b1 rg rx ry g x y vb b c7 c8 c9 c19 c20 c21 c22 c23 c24 where
  pre := R.pre.other hv hB _ _
  f19 := fun h => R.f19 (listed_old (by decide) h)
  f20 := fun h => by obtain ⟨q, e1, hq⟩ := R.f20 (listed_old (by decide) h); exact ⟨q, e1, hq.wrote hv.box (by simp) (by simp)⟩
  f21 := fun h => by obtain ⟨q, e1, hq⟩ := R.f21 (listed_old (by decide) h); exact ⟨q, e1, hq.wrote hv.box (by simp) (by simp)⟩
  f22 := fun h => R.f22 (listed_old (by decide) h)
  f23 := fun h => R.f23 (listed_old (by decide) h)
  f24 := fun h => by obtain ⟨q, e1, hq⟩ := R.f24 (listed_old (by decide) h); exact ⟨q, e1, hq.wrote hv.box (by simp) (by simp)⟩
  f7 := fun _ => ⟨B, r, ab b, e, hB, hv.write hnum, fun _ => rfl⟩
  f8 := fun h => by obtain ⟨B', r', z', e', hB', hv', hz'⟩ := R.f8 (listed_old (by decide) h); have hne := R.d78 h6 (listed_old (by decide) h); rw [e, e'] at hne; exact ⟨B', r', z', e', hB', hv'.other hv (ptr_ne hne).symm _ _, fun h' => hz' (listed_old (by decide) h')⟩
  f9 := fun h => by obtain ⟨B', r', z', e', hB', hv', hz'⟩ := R.f9 (listed_old (by decide) h); have hne := R.d79 h6 (listed_old (by decide) h); rw [e, e'] at hne; exact ⟨B', r', z', e', hB', hv'.other hv (ptr_ne hne).symm _ _, fun h' => hz' (listed_old (by decide) h')⟩
  d78 := fun h h' => R.d78 (listed_old (by decide) h) (listed_old (by decide) h')
  d79 := fun h h' => R.d79 (listed_old (by decide) h) (listed_old (by decide) h')
  d89 := fun h h' => R.d89 (listed_old (by decide) h) (listed_old (by decide) h')
  o9 := fun _ => by rw [getD_set_ne false (by decide)]; exact h6
  o10 := fun h => by rw [getD_set_ne false (by decide)]; exact R.o10 (listed_old (by decide) h)
  o11 := fun h => by rw [getD_set_ne false (by decide)]; exact R.o11 (listed_old (by decide) h)

theorem R2.at10 {w W : World} {L : Array Bool} {a0 a1 b0 b1 : Value} {rg rx ry : Nm} {g x y : Int} {vb : Value} {b : Int} {c7 c8 c9 c19 c20 c21 c22 c23 c24 : Value} (R : R2 w W L a0 a1 b0 b1 rg rx ry g x y vb b c7 c8 c9 c19 c20 c21 c22 c23 c24) (h6 : L.getD 7 false = true) {B : Nat} {r s : Nm} {z : Int} (e : c8 = ptr B) (hB : w.heap.size + 1 + 1 + 1 + 1 < B) (hv : Var W B s z) (hnum : NumL W r.v (0) 12) : R2 w ((W.setCell ⟨B, 0, none⟩ (.bool r.neg)).setCell ⟨B, 1, none⟩ (.slice r.o r.l r.c)) (L.setIfInBounds 10 true) a0 a1 b0 b1 rg rx ry g x y vb b c7 c8 c9 c19 c20 c21 c22 c23 c24 where
  pre := R.pre.other hv hB _ _
  f19 := fun h => R.f19 (listed_old (by decide) h)
  f20 := fun h => by obtain ⟨q, e1, hq⟩ := R.f20 (listed_old (by decide) h); exact ⟨q, e1, hq.wrote hv.box (by simp) (by simp)⟩
  f21 := fun h => by obtain ⟨q, e1, hq⟩ := R.f21 (listed_old (by decide) h); exact ⟨q, e1, hq.wrote hv.box (by simp) (by simp)⟩
  f22 := fun h => R.f22 (listed_old (by decide) h)
  f23 := fun h => R.f23 (listed_old (by decide) h)
  f24 := fun h => by obtain ⟨q, e1, hq⟩ := R.f24 (listed_old (by decide) h); exact ⟨q, e1, hq.wrote hv.box (by simp) (by simp)⟩
  f7 := fun h => by obtain ⟨B', r', z', e', hB', hv', hz'⟩ := R.f7 (listed_old (by decide) h); have hne := (R.d78 (listed_old (by decide) h) h6).symm; rw [e, e'] at hne; exact ⟨B', r', z', e', hB', hv'.other hv (ptr_ne hne).symm _ _, fun h' => hz' (listed_old (by decide) h')⟩
  f8 := fun _ => ⟨B, r, 0, e, hB, hv.write hnum, fun _ => rfl⟩
  f9 := fun h => by obtain ⟨B', r', z', e', hB', hv', hz'⟩ := R.f9 (listed_old (by decide) h); have hne := R.d89 h6 (listed_old (by decide) h); rw [e, e'] at hne; exact ⟨B', r', z', e', hB', hv'.other hv (ptr_ne hne).symm _ _, fun h' => hz' (listed_old (by decide) h')⟩
  d78 := fun h h' => R.d78 (listed_old (by decide) h) (listed_old (by decide) h')
  d79 := fun h h' => R.d79 (listed_old (by decide) h) (listed_old (by decide) h')
  d89 := fun h h' => R.d89 (listed_old (by decide) h) (listed_old (by decide) h')
  o9 := fun h => by rw [getD_set_ne false (by decide)]; exact R.o9 (listed_old (by decide) h)
  o10 := fun _ => by rw [getD_set_ne false (by decide)]; exact h6
  o11 := fun h => by rw [getD_set_ne false (by decide)]; exact R.o11 (listed_old (by decide) h)

theorem R2.at11 {w W : World} {L : Array Bool} {a0 a1 b0 b1 : Value} {rg rx ry : Nm} {g x y : Int} {vb : Value} {b : Int} {c7 c8 c9 c19 c20 c21 c22 c23 c24 : Value} (R : R2 w W L a0 a1 b0 b1 rg rx ry g x y vb b c7 c8 c9 c19 c20 c21 c22 c23 c24) (h6 : L.getD 8 false = true) {B : Nat} {r s : Nm} {z : Int} (e : c9 = ptr B) (hB : w.heap.size + 1 + 1 + 1 + 1 < B) (hv : Var W B s z) (hnum : NumL W r.v (sgn b) 12) : R2 w ((W.setCell ⟨B, 0, none⟩ (.bool r.neg)).setCell ⟨B, 1, none⟩ (.slice r.o r.l r.c)) (L.setIfInBounds 11 true) a0 a1 b0 b1 rg rx ry g x y vb b c7 c8 c9 c19 c20 c21 c22 c23 c24 where
  pre := R.pre.other hv hB _ _
  f19 := fun h => R.f19 (listed_old (by decide) h)
  f20 := fun h => by obtain ⟨q, e1, hq⟩ := R.f20 (listed_old (by decide) h); exact ⟨q, e1, hq.wrote hv.box (by simp) (by simp)⟩
  f21 := fun h => by obtain ⟨q, e1, hq⟩ := R.f21 (listed_old (by decide) h); exact ⟨q, e1, hq.wrote hv.box (by simp) (by simp)⟩
  f22 := fun h => R.f22 (listed_old (by decide) h)
  f23 := fun h => R.f23 (listed_old (by decide) h)
  f24 := fun h => by obtain ⟨q, e1, hq⟩ := R.f24 (listed_old (by decide) h); exact ⟨q, e1, hq.wrote hv.box (by simp) (by simp)⟩
  f7 := fun h => by obtain ⟨B', r', z', e', hB', hv', hz'⟩ := R.f7 (listed_old (by decide) h); have hne := (R.d79 (listed_old (by decide) h) h6).symm; rw [e, e'] at hne; exact ⟨B', r', z', e', hB', hv'.other hv (ptr_ne hne).symm _ _, fun h' => hz' (listed_old (by decide) h')⟩
  f8 := fun h => by obtain ⟨B', r', z', e', hB', hv', hz'⟩ := R.f8 (listed_old (by decide) h); have hne := (R.d89 (listed_old (by decide) h) h6).symm; rw [e, e'] at hne; exact ⟨B', r', z', e', hB', hv'.other hv (ptr_ne hne).symm _ _, fun h' => hz' (listed_old (by decide) h')⟩
  f9 := fun _ => ⟨B, r, sgn b, e, hB, hv.write hnum, fun _ => rfl⟩
  d78 := fun h h' => R.d78 (listed_old (by decide) h) (listed_old (by decide) h')
  d79 := fun h h' => R.d79 (listed_old (by decide) h) (listed_old (by decide) h')
  d89 := fun h h' => R.d89 (listed_old (by decide) h) (listed_old (by decide) h')
  o9 := fun h => by rw [getD_set_ne false (by decide)]; exact R.o9 (listed_old (by decide) h)
  o10 := fun h => by rw [getD_set_ne false (by decide)]; exact R.o10 (listed_old (by decide) h)
  o11 := fun _ => by rw [getD_set_ne false (by decide)]; exact h6

end Go.Proofs.YtjblidoilphifacDoor

/- Variables made and written in drawn order: a block that is made bears the number of the operation that writes into it. -/
namespace Go.Proofs.YtjblidoilphifacDoor
open Go.RowKit Limbs

def upd (c : Nat → Value) (i : Nat) (v : Value) : Nat → Value := fun j => if j = i then v else c j

theorem upd_self (c : Nat → Value) (i : Nat) (v : Value) : upd c i v i = v := if_pos rfl

theorem upd_ne (c : Nat → Value) {i j : Nat} (v : Value) (h : j ≠ i) : upd c i v j = c j := if_neg h

/-- One operation: it makes, or it writes into the variable that bears its number. -/
inductive Moved (t : Nat) (W : World) (G : Nat → Nat) : World → (Nat → Nat) → Prop
  | made {W' : World} {G' : Nat → Nat} (hb : Below W.heap.size W W') (hg : ∀ B, B < W.heap.size → G' B = G B) : Moved t W G W' G'
  | wrote {B : Nat} {r : Nm} (s : Nm) (ht : G B = t) (hB : Box W B (.bool r.neg) (.slice r.o r.l r.c)) : Moved t W G ((W.setCell ⟨B, 0, none⟩ (.bool s.neg)).setCell ⟨B, 1, none⟩ (.slice s.o s.l s.c)) G

theorem Moved.size {t : Nat} {W W' : World} {G G' : Nat → Nat} (h : Moved t W G W' G') : W.heap.size ≤ W'.heap.size := by
  cases h with
  | made hb _ => exact hb.size
  | wrote => simp

theorem Moved.tag {t : Nat} {W W' : World} {G G' : Nat → Nat} (h : Moved t W G W' G') {B : Nat} (hB : B < W.heap.size) : G' B = G B := by
  cases h with
  | made _ hg => exact hg B hB
  | wrote => rfl

theorem Moved.num {t : Nat} {W W' : World} {G G' : Nat → Nat} (h : Moved t W G W' G') {v : Value} {z : Int} {n : Nat} (hn : NumL W v z n) : NumL W' v z n := by
  cases h with
  | made hb _ => exact hn.below hb (Nat.le_refl _)
  | wrote s ht hB => exact hn.wrote hB (by simp) (by simp)

theorem Moved.box {t : Nat} {W W' : World} {G G' : Nat → Nat} (h : Moved t W G W' G') {B : Nat} {u0 u1 : Value} (hb : Box W B u0 u1) (hB : B < W.heap.size) (hne : G B ≠ t) : Box W' B u0 u1 := by
  cases h with
  | made hb' _ => exact hb.later hb' hB
  | wrote s ht hB' => exact (hb.other (fun e => hne (by rw [e]; exact ht)) _ _).other (fun e => hne (by rw [e]; exact ht)) _ _

/-- The pointer to a variable that bears this number, made behind C. -/
def Made (W : World) (G : Nat → Nat) (C t : Nat) (v : Value) : Prop :=
  ∃ B, v = ptr B ∧ C ≤ B ∧ B < W.heap.size ∧ G B = t ∧ ∃ r : Nm, Box W B (.bool r.neg) (.slice r.o r.l r.c)

/-- And what is in it. -/
def Stored (W : World) (G : Nat → Nat) (C t : Nat) (v : Value) (r : Nm) : Prop :=
  ∃ B, v = ptr B ∧ C ≤ B ∧ B < W.heap.size ∧ G B = t ∧ Box W B (.bool r.neg) (.slice r.o r.l r.c)

theorem Made.moved {i : Nat} {W W' : World} {G G' : Nat → Nat} (h : Moved i W G W' G') {C t : Nat} {v : Value} (hm : Made W G C t v) : Made W' G' C t v := by
  obtain ⟨B, e, hC, hB, hG, r, hb⟩ := hm
  refine ⟨B, e, hC, Nat.lt_of_lt_of_le hB h.size, (h.tag hB).trans hG, ?_⟩
  cases h with
  | made hb' _ => exact ⟨r, hb.later hb' hB⟩
  | @wrote B' r' s ht hB' =>
    by_cases hE : B = B'
    · subst hE
      exact ⟨s, hB'.write _ _⟩
    · exact ⟨r, (hb.other hE _ _).other hE _ _⟩

theorem Stored.moved {i : Nat} {W W' : World} {G G' : Nat → Nat} (h : Moved i W G W' G') {C t : Nat} {v : Value} {r : Nm} (hm : Stored W G C t v r) (hne : t ≠ i) : Stored W' G' C t v r := by
  obtain ⟨B, e, hC, hB, hG, hb⟩ := hm
  exact ⟨B, e, hC, Nat.lt_of_lt_of_le hB h.size, (h.tag hB).trans hG, h.box hb hB (by rw [hG]; exact hne)⟩

/-- What holds while operations come up. -/
structure Tags (deps : Nat → List Nat) (Fc : Nat → (Nat → Value) → World → (Nat → Nat) → Prop) (w : World) (L : Array Bool) (c : Nat → Value) (W : World) (G : Nat → Nat) : Prop where
  below : Below w.heap.size w W
  high : ∀ B, G B ≠ 0 → w.heap.size ≤ B
  facts : ∀ i, L.getD i false = true → Fc i c W G
  closed : ∀ i, L.getD i false = true → ∀ j ∈ deps i, L.getD j false = true

variable {deps : Nat → List Nat} {Fc : Nat → (Nat → Value) → World → (Nat → Nat) → Prop} {w W W' : World} {L : Array Bool} {c : Nat → Value} {G G' : Nat → Nat}

theorem Tags.step (h : Tags deps Fc w L c W G) {i : Nat} (hn : L.getD i true = false) (hd : ∀ j ∈ deps i, L.getD j false = true)
    (hb : Below w.heap.size w W') (hg : ∀ B, G' B ≠ 0 → w.heap.size ≤ B) {v : Value} (hnew : Fc i (upd c i v) W' G')
    (keep : ∀ j, j ≠ i → i ∉ deps j → Fc j c W G → Fc j (upd c i v) W' G') : Tags deps Fc w (L.setIfInBounds i true) (upd c i v) W' G' where
  below := hb
  high := hg
  facts := fun j hj => by
    by_cases e : j = i
    · subst e; exact hnew
    · have hj' := listed_old (fun e' => e e'.symm) hj
      exact keep j e (fun hm => listed_not hn (h.closed j hj' i hm)) (h.facts j hj')
  closed := fun j hj k hk => by
    by_cases ek : i = k
    · subst ek; exact listed_new hn
    · rw [getD_set_ne false ek]
      by_cases e : j = i
      · subst e; exact hd k hk
      · exact h.closed j (listed_old (fun e' => e e'.symm) hj) k hk

/-- A value alone. -/
theorem Tags.plain (h : Tags deps Fc w L c W G) {i : Nat} (hn : L.getD i true = false) (hd : ∀ j ∈ deps i, L.getD j false = true)
    (keep : ∀ (i j : Nat) (c : Nat → Value) (v : Value) (W W' : World) (G G' : Nat → Nat), j ≠ i → i ∉ deps j → Moved i W G W' G' → Fc j c W G → Fc j (upd c i v) W' G')
    {v : Value} (hnew : Fc i (upd c i v) W G) : Tags deps Fc w (L.setIfInBounds i true) (upd c i v) W G :=
  h.step hn hd h.below h.high hnew fun j e hm => keep i j c v W W G G e hm (.made (Below.refl _ _) fun _ _ => rfl)

/-- A call. -/
theorem Tags.call (h : Tags deps Fc w L c W G) {i : Nat} (hn : L.getD i true = false) (hd : ∀ j ∈ deps i, L.getD j false = true)
    (keep : ∀ (i j : Nat) (c : Nat → Value) (v : Value) (W W' : World) (G G' : Nat → Nat), j ≠ i → i ∉ deps j → Moved i W G W' G' → Fc j c W G → Fc j (upd c i v) W' G')
    (hb : Below W.heap.size W W') {v : Value} (hnew : Fc i (upd c i v) W' G) : Tags deps Fc w (L.setIfInBounds i true) (upd c i v) W' G :=
  h.step hn hd (h.below.trans (hb.mono h.below.size)) h.high hnew fun j e hm => keep i j c v W W' G G e hm (.made hb fun _ _ => rfl)

/-- A variable is made; t will write into it. -/
theorem Tags.alloc (h : Tags deps Fc w L c W G) {i : Nat} (hn : L.getD i true = false) (hd : ∀ j ∈ deps i, L.getD j false = true)
    (keep : ∀ (i j : Nat) (c : Nat → Value) (v : Value) (W W' : World) (G G' : Nat → Nat), j ≠ i → i ∉ deps j → Moved i W G W' G' → Fc j c W G → Fc j (upd c i v) W' G')
    (t : Nat) (ty : TypeId) (hnew : ∀ W' G', Made W' G' w.heap.size t (ptr W.heap.size) → Fc i (upd c i (ptr W.heap.size)) W' G') :
    ∃ G', Tags deps Fc w (L.setIfInBounds i true) (upd c i (ptr W.heap.size)) (W.alloc (.cells #[.bool false, .slice none 0 0] ty)) G' := by
  have hb : Below W.heap.size W (W.alloc (.cells #[.bool false, .slice none 0 0] ty)) := (Below.refl _ _).alloc (Nat.le_refl _) _
  refine ⟨fun B => if B = W.heap.size then t else G B, h.step hn hd (h.below.trans (hb.mono h.below.size)) ?_ (hnew _ _ ⟨W.heap.size, rfl, h.below.size, by simp, by simp, ⟨false, none, 0, 0⟩, box_new W _ _ ty _ rfl⟩) fun j e hm => keep i j c _ W _ G _ e hm (.made hb fun B hB => if_neg (by omega))⟩
  intro B hB
  by_cases e : B = W.heap.size
  · rw [e]; exact h.below.size
  · rw [if_neg e] at hB; exact h.high B hB

/-- It is written. -/
theorem Tags.store (h : Tags deps Fc w L c W G) {i : Nat} (hn : L.getD i true = false) (hd : ∀ j ∈ deps i, L.getD j false = true)
    (keep : ∀ (i j : Nat) (c : Nat → Value) (v : Value) (W W' : World) (G G' : Nat → Nat), j ≠ i → i ∉ deps j → Moved i W G W' G' → Fc j c W G → Fc j (upd c i v) W' G')
    {B : Nat} {r : Nm} (s : Nm) (hC : w.heap.size ≤ B) (hB : B < W.heap.size) (hG : G B = i) (hb : Box W B (.bool r.neg) (.slice r.o r.l r.c))
    (hnew : ∀ W' G', Stored W' G' w.heap.size i (ptr B) s → Fc i (upd c i undef) W' G') :
    Tags deps Fc w (L.setIfInBounds i true) (upd c i undef) ((W.setCell ⟨B, 0, none⟩ (.bool s.neg)).setCell ⟨B, 1, none⟩ (.slice s.o s.l s.c)) G :=
  h.step hn hd ((h.below.setCell hC _).setCell hC _) h.high (hnew _ _ ⟨B, rfl, hC, by simpa using hB, hG, hb.write _ _⟩) fun j e hm => keep i j c undef W _ G G e hm (.wrote s hG hb)

theorem Tags.start (w : World) (n : Nat) (c : Nat → Value) : Tags deps Fc w (Array.replicate n false) c w.drew (fun _ => 0) where
  below := (Below.refl _ _).drew
  high := fun _ h => absurd rfl h
  facts := fun i h => by simp [Array.getD] at h
  closed := fun i h => by simp [Array.getD] at h

/-! ### A call that gives three values, and variables for them -/

/-- What is known of the k-th operation behind the n first ones, three variables. -/
def F3 (n : Nat) (CALL : World → Value → Prop) (C k : Nat) (c : Nat → Value) (W : World) (G : Nat → Nat) : Prop :=
  match k with
  | 0 => CALL W (c n)
  | 1 => c (n + 1) = c n
  | 2 => ∃ u1 u2 u3 : Value, c (n + 1) = .tuple #[u1, u2, u3] ∧ c (n + 2) = u1
  | 3 => ∃ u1 u2 u3 : Value, c (n + 1) = .tuple #[u1, u2, u3] ∧ c (n + 3) = u2
  | 4 => ∃ u1 u2 u3 : Value, c (n + 1) = .tuple #[u1, u2, u3] ∧ c (n + 4) = u3
  | 5 => Made W G C (n + 8) (c (n + 5))
  | 6 => Made W G C (n + 9) (c (n + 6))
  | 7 => Made W G C (n + 10) (c (n + 7))
  | 8 => ∃ r : Nm, c (n + 2) = r.v ∧ Stored W G C (n + 8) (c (n + 5)) r
  | 9 => ∃ r : Nm, c (n + 3) = r.v ∧ Stored W G C (n + 9) (c (n + 6)) r
  | 10 => ∃ r : Nm, c (n + 4) = r.v ∧ Stored W G C (n + 10) (c (n + 7)) r
  | _ => True

def FA3 (n : Nat) (ks : List Value) (CALL : World → Value → Prop) (C i : Nat) (c : Nat → Value) (W : World) (G : Nat → Nat) : Prop :=
  if i < n then c i = ks.getD i undef else F3 n CALL C (i - n) c W G

def D3 (n i : Nat) : List Nat :=
  if i < n then [] else match i - n with
  | 1 => [n]
  | 2 => [n + 1]
  | 3 => [n + 1]
  | 4 => [n + 1]
  | 8 => [n + 2, n + 5]
  | 9 => [n + 3, n + 6]
  | 10 => [n + 4, n + 7]
  | _ => []

theorem FA3.keep {n : Nat} {ks : List Value} {CALL : World → Value → Prop} {C : Nat} (hst : ∀ (t : Nat) (W W' : World) (G G' : Nat → Nat) (v : Value), Moved t W G W' G' → CALL W v → CALL W' v)
    (i j : Nat) (c : Nat → Value) (v : Value) (W W' : World) (G G' : Nat → Nat) (hne : j ≠ i) (hm : i ∉ D3 n j) (hv : Moved i W G W' G') (hf : FA3 n ks CALL C j c W G) : FA3 n ks CALL C j (upd c i v) W' G' := by
  unfold FA3 at *
  by_cases hj : j < n
  · rw [if_pos hj] at hf ⊢
    rw [upd_ne _ _ hne]; exact hf
  · rw [if_neg hj] at hf ⊢
    obtain ⟨k, rfl⟩ : ∃ k, j = n + k := ⟨j - n, by omega⟩
    rw [Nat.add_sub_cancel_left] at hf ⊢
    unfold D3 at hm
    rw [if_neg hj, Nat.add_sub_cancel_left] at hm
    match k, hne, hm, hf with
    | 0, hne, hm, hf => simp only [F3] at hf ⊢; rw [upd_ne _ _ (by omega)]; exact hst _ _ _ _ _ _ hv hf
    | 1, hne, hm, hf => simp only [F3] at hf ⊢; simp at hm; rw [upd_ne _ _ (by omega), upd_ne _ _ (by omega)]; exact hf
    | 2, hne, hm, hf => simp only [F3] at hf ⊢; simp at hm; rw [upd_ne _ _ (by omega), upd_ne _ _ (by omega)]; exact hf
    | 3, hne, hm, hf => simp only [F3] at hf ⊢; simp at hm; rw [upd_ne _ _ (by omega), upd_ne _ _ (by omega)]; exact hf
    | 4, hne, hm, hf => simp only [F3] at hf ⊢; simp at hm; rw [upd_ne _ _ (by omega), upd_ne _ _ (by omega)]; exact hf
    | 5, hne, hm, hf => simp only [F3] at hf ⊢; rw [upd_ne _ _ (by omega)]; exact hf.moved hv
    | 6, hne, hm, hf => simp only [F3] at hf ⊢; rw [upd_ne _ _ (by omega)]; exact hf.moved hv
    | 7, hne, hm, hf => simp only [F3] at hf ⊢; rw [upd_ne _ _ (by omega)]; exact hf.moved hv
    | 8, hne, hm, hf => simp only [F3] at hf ⊢; simp at hm; rw [upd_ne _ _ (by omega), upd_ne _ _ (by omega)]; obtain ⟨r, e, h⟩ := hf; exact ⟨r, e, h.moved hv hne⟩
    | 9, hne, hm, hf => simp only [F3] at hf ⊢; simp at hm; rw [upd_ne _ _ (by omega), upd_ne _ _ (by omega)]; obtain ⟨r, e, h⟩ := hf; exact ⟨r, e, h.moved hv hne⟩
    | 10, hne, hm, hf => simp only [F3] at hf ⊢; simp at hm; rw [upd_ne _ _ (by omega), upd_ne _ _ (by omega)]; obtain ⟨r, e, h⟩ := hf; exact ⟨r, e, h.moved hv hne⟩
    | k + 11, hne, hm, hf => trivial

/-- At the end: three variables, with the three values in them. -/
theorem Tags.fin3 {n : Nat} {ks : List Value} {CALL : World → Value → Prop} (h : Tags (D3 n) (FA3 n ks CALL w.heap.size) w L c W G) (hall : ∀ i, i < n + 11 → L.getD i false = true) :
    ∃ (r1 r2 r3 : Nm) (B1 B2 B3 : Nat), CALL W (.tuple #[r1.v, r2.v, r3.v]) ∧ c (n + 5) = ptr B1 ∧ c (n + 6) = ptr B2 ∧ c (n + 7) = ptr B3 ∧
      w.heap.size ≤ B1 ∧ w.heap.size ≤ B2 ∧ w.heap.size ≤ B3 ∧ B1 < W.heap.size ∧ B2 < W.heap.size ∧ B3 < W.heap.size ∧ B1 ≠ B2 ∧ B1 ≠ B3 ∧ B2 ≠ B3 ∧
      Box W B1 (.bool r1.neg) (.slice r1.o r1.l r1.c) ∧ Box W B2 (.bool r2.neg) (.slice r2.o r2.l r2.c) ∧ Box W B3 (.bool r3.neg) (.slice r3.o r3.l r3.c) ∧ Below w.heap.size w W := by
  have f : ∀ k, k < 11 → F3 n CALL w.heap.size k c W G := fun k hk => by
    have := h.facts (n + k) (hall _ (by omega))
    unfold FA3 at this
    rwa [if_neg (by omega), Nat.add_sub_cancel_left] at this
  have f0 : CALL W (c n) := f 0 (by decide)
  have f1 : c (n + 1) = c n := f 1 (by decide)
  obtain ⟨u1, u2, u3, e1, e2⟩ : ∃ u1 u2 u3 : Value, c (n + 1) = .tuple #[u1, u2, u3] ∧ c (n + 2) = u1 := f 2 (by decide)
  obtain ⟨u1', u2', u3', e1', e3⟩ : ∃ u1 u2 u3 : Value, c (n + 1) = .tuple #[u1, u2, u3] ∧ c (n + 3) = u2 := f 3 (by decide)
  obtain ⟨u1'', u2'', u3'', e1'', e4⟩ : ∃ u1 u2 u3 : Value, c (n + 1) = .tuple #[u1, u2, u3] ∧ c (n + 4) = u3 := f 4 (by decide)
  obtain ⟨r1, g1, B1, b1, c1, d1, t1, x1⟩ : ∃ r : Nm, c (n + 2) = r.v ∧ Stored W G w.heap.size (n + 8) (c (n + 5)) r := f 8 (by decide)
  obtain ⟨r2, g2, B2, b2, c2, d2, t2, x2⟩ : ∃ r : Nm, c (n + 3) = r.v ∧ Stored W G w.heap.size (n + 9) (c (n + 6)) r := f 9 (by decide)
  obtain ⟨r3, g3, B3, b3, c3, d3, t3, x3⟩ : ∃ r : Nm, c (n + 4) = r.v ∧ Stored W G w.heap.size (n + 10) (c (n + 7)) r := f 10 (by decide)
  rw [e1] at e1' e1'' f1
  simp only [Value.tuple.injEq, Array.mk.injEq, List.cons.injEq, and_true] at e1' e1''
  obtain ⟨rfl, rfl, rfl⟩ := e1'
  obtain ⟨rfl, rfl, rfl⟩ := e1''
  rw [← f1, ← e2, ← e3, ← e4, g1, g2, g3] at f0
  exact ⟨r1, r2, r3, B1, B2, B3, f0, b1, b2, b3, c1, c2, c3, d1, d2, d3, fun e => by rw [e] at t1; omega, fun e => by rw [e] at t1; omega, fun e => by rw [e] at t2; omega, x1, x2, x3, h.below⟩

/-! ### Two variables, and a plain one for the third value -/

def F2 (n : Nat) (CALL : World → Value → Prop) (C k : Nat) (c : Nat → Value) (W : World) (G : Nat → Nat) : Prop :=
  match k with
  | 0 => CALL W (c n)
  | 1 => c (n + 1) = c n
  | 2 => ∃ u1 u2 u3 : Value, c (n + 1) = .tuple #[u1, u2, u3] ∧ c (n + 2) = u1
  | 3 => ∃ u1 u2 u3 : Value, c (n + 1) = .tuple #[u1, u2, u3] ∧ c (n + 3) = u2
  | 4 => ∃ u1 u2 u3 : Value, c (n + 1) = .tuple #[u1, u2, u3] ∧ c (n + 4) = u3
  | 5 => Made W G C (n + 7) (c (n + 5))
  | 6 => Made W G C (n + 8) (c (n + 6))
  | 7 => ∃ r : Nm, c (n + 2) = r.v ∧ Stored W G C (n + 7) (c (n + 5)) r
  | 8 => ∃ r : Nm, c (n + 3) = r.v ∧ Stored W G C (n + 8) (c (n + 6)) r
  | 9 => c (n + 9) = c (n + 4)
  | _ => True

def FA2 (n : Nat) (ks : List Value) (CALL : World → Value → Prop) (C i : Nat) (c : Nat → Value) (W : World) (G : Nat → Nat) : Prop :=
  if i < n then c i = ks.getD i undef else F2 n CALL C (i - n) c W G

def D2 (n i : Nat) : List Nat :=
  if i < n then [] else match i - n with
  | 1 => [n]
  | 2 => [n + 1]
  | 3 => [n + 1]
  | 4 => [n + 1]
  | 7 => [n + 2, n + 5]
  | 8 => [n + 3, n + 6]
  | 9 => [n + 4]
  | _ => []

theorem FA2.keep {n : Nat} {ks : List Value} {CALL : World → Value → Prop} {C : Nat} (hst : ∀ (t : Nat) (W W' : World) (G G' : Nat → Nat) (v : Value), Moved t W G W' G' → CALL W v → CALL W' v)
    (i j : Nat) (c : Nat → Value) (v : Value) (W W' : World) (G G' : Nat → Nat) (hne : j ≠ i) (hm : i ∉ D2 n j) (hv : Moved i W G W' G') (hf : FA2 n ks CALL C j c W G) : FA2 n ks CALL C j (upd c i v) W' G' := by
  unfold FA2 at *
  by_cases hj : j < n
  · rw [if_pos hj] at hf ⊢
    rw [upd_ne _ _ hne]; exact hf
  · rw [if_neg hj] at hf ⊢
    obtain ⟨k, rfl⟩ : ∃ k, j = n + k := ⟨j - n, by omega⟩
    rw [Nat.add_sub_cancel_left] at hf ⊢
    unfold D2 at hm
    rw [if_neg hj, Nat.add_sub_cancel_left] at hm
    match k, hne, hm, hf with
    | 0, hne, hm, hf => simp only [F2] at hf ⊢; rw [upd_ne _ _ (by omega)]; exact hst _ _ _ _ _ _ hv hf
    | 1, hne, hm, hf => simp only [F2] at hf ⊢; simp at hm; rw [upd_ne _ _ (by omega), upd_ne _ _ (by omega)]; exact hf
    | 2, hne, hm, hf => simp only [F2] at hf ⊢; simp at hm; rw [upd_ne _ _ (by omega), upd_ne _ _ (by omega)]; exact hf
    | 3, hne, hm, hf => simp only [F2] at hf ⊢; simp at hm; rw [upd_ne _ _ (by omega), upd_ne _ _ (by omega)]; exact hf
    | 4, hne, hm, hf => simp only [F2] at hf ⊢; simp at hm; rw [upd_ne _ _ (by omega), upd_ne _ _ (by omega)]; exact hf
    | 5, hne, hm, hf => simp only [F2] at hf ⊢; rw [upd_ne _ _ (by omega)]; exact hf.moved hv
    | 6, hne, hm, hf => simp only [F2] at hf ⊢; rw [upd_ne _ _ (by omega)]; exact hf.moved hv
    | 7, hne, hm, hf => simp only [F2] at hf ⊢; simp at hm; rw [upd_ne _ _ (by omega), upd_ne _ _ (by omega)]; obtain ⟨r, e, h⟩ := hf; exact ⟨r, e, h.moved hv hne⟩
    | 8, hne, hm, hf => simp only [F2] at hf ⊢; simp at hm; rw [upd_ne _ _ (by omega), upd_ne _ _ (by omega)]; obtain ⟨r, e, h⟩ := hf; exact ⟨r, e, h.moved hv hne⟩
    | 9, hne, hm, hf => simp only [F2] at hf ⊢; simp at hm; rw [upd_ne _ _ (by omega), upd_ne _ _ (by omega)]; exact hf
    | k + 10, hne, hm, hf => trivial

theorem Tags.fin2 {n : Nat} {ks : List Value} {CALL : World → Value → Prop} (h : Tags (D2 n) (FA2 n ks CALL w.heap.size) w L c W G) (hall : ∀ i, i < n + 10 → L.getD i false = true) :
    ∃ (r1 r2 : Nm) (u3 : Value) (B1 B2 : Nat), CALL W (.tuple #[r1.v, r2.v, u3]) ∧ c (n + 5) = ptr B1 ∧ c (n + 6) = ptr B2 ∧ c (n + 9) = u3 ∧
      w.heap.size ≤ B1 ∧ w.heap.size ≤ B2 ∧ B1 < W.heap.size ∧ B2 < W.heap.size ∧ B1 ≠ B2 ∧
      Box W B1 (.bool r1.neg) (.slice r1.o r1.l r1.c) ∧ Box W B2 (.bool r2.neg) (.slice r2.o r2.l r2.c) ∧ Below w.heap.size w W := by
  have f : ∀ k, k < 10 → F2 n CALL w.heap.size k c W G := fun k hk => by
    have := h.facts (n + k) (hall _ (by omega))
    unfold FA2 at this
    rwa [if_neg (by omega), Nat.add_sub_cancel_left] at this
  have f0 : CALL W (c n) := f 0 (by decide)
  have f1 : c (n + 1) = c n := f 1 (by decide)
  have f9 : c (n + 9) = c (n + 4) := f 9 (by decide)
  obtain ⟨u1, u2, u3, e1, e2⟩ : ∃ u1 u2 u3 : Value, c (n + 1) = .tuple #[u1, u2, u3] ∧ c (n + 2) = u1 := f 2 (by decide)
  obtain ⟨u1', u2', u3', e1', e3⟩ : ∃ u1 u2 u3 : Value, c (n + 1) = .tuple #[u1, u2, u3] ∧ c (n + 3) = u2 := f 3 (by decide)
  obtain ⟨u1'', u2'', u3'', e1'', e4⟩ : ∃ u1 u2 u3 : Value, c (n + 1) = .tuple #[u1, u2, u3] ∧ c (n + 4) = u3 := f 4 (by decide)
  obtain ⟨r1, g1, B1, b1, c1, d1, t1, x1⟩ : ∃ r : Nm, c (n + 2) = r.v ∧ Stored W G w.heap.size (n + 7) (c (n + 5)) r := f 7 (by decide)
  obtain ⟨r2, g2, B2, b2, c2, d2, t2, x2⟩ : ∃ r : Nm, c (n + 3) = r.v ∧ Stored W G w.heap.size (n + 8) (c (n + 6)) r := f 8 (by decide)
  rw [e1] at e1' e1'' f1
  simp only [Value.tuple.injEq, Array.mk.injEq, List.cons.injEq, and_true] at e1' e1''
  obtain ⟨rfl, rfl, rfl⟩ := e1'
  obtain ⟨rfl, rfl, rfl⟩ := e1''
  rw [← f1, ← e2, ← e3, g1, g2] at f0
  exact ⟨r1, r2, u3, B1, B2, f0, b1, b2, f9.trans e4, c1, c2, d1, d2, fun e => by rw [e] at t1; omega, x1, x2, h.below⟩

end Go.Proofs.YtjblidoilphifacDoor
